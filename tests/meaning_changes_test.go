package tests

import (
	"slices"
	"strings"
	"testing"

	"loop.example/g00001/impl"
)

// literalRow reads a row as toldRows tells it: numbers, NULL, true and false, texts; a number with a point is a Dec.
func literalRow(t *testing.T, text string) []impl.Value {
	t.Helper()
	var row []impl.Value
	for _, word := range strings.Split(text, ",") {
		tree := parsed(t, "select "+word)
		e, code, _ := impl.BindPlain(tree, firstItem(t, tree), nil)
		v, failed := impl.EvalExpr(e, nil)
		if code != impl.OK || failed != impl.OK {
			t.Fatalf("%s: %d, %d", word, code, failed)
		}
		row = append(row, v)
	}
	return row
}

// literalRows are rows with semicolons between.
func literalRows(t *testing.T, text string) [][]impl.Value {
	t.Helper()
	var rows [][]impl.Value
	for _, row := range strings.Split(text, ";") {
		if row != "" {
			rows = append(rows, literalRow(t, row))
		}
	}
	return rows
}

// changeCase is a change of a table of the shop: the rows, what stands in the table behind it, or the code.
type changeCase struct {
	kind, table int
	rows, want  string
	code        int
}

// shop has a table with a key of two columns and a condition (1), one without keys (2), one with a unique index and NOT NULL (3).
func shop(t *testing.T) (impl.Schema, impl.State) {
	t.Helper()
	s := defined(t, "create table a (x int, y text, z int unique, primary key (y, x), check (z < 100), check (10 / z <> 5))",
		"create table b (v int, w boolean)", "create table c (n decimal not null, m text)", "create unique index ci on c (m, n)")
	st := emptyState(s)
	st.Tables[0].Rows = literalRows(t, "1,'p',10;2,'p',20;1,'q',null;2,'q',null")
	st.Tables[1].Rows = literalRows(t, "1,true;2,null;1,true;null,null;1,true")
	st.Tables[2].Rows = literalRows(t, "1.5,'k';1.5,null;1.5,null;2.5,'k'")
	if !impl.StateOK(s, st) {
		t.Fatalf("the shop is not valid")
	}
	return s, st
}

func wantApplied(t *testing.T, cases []changeCase) {
	t.Helper()
	s, st := shop(t)
	for i, c := range cases {
		rows := literalRows(t, c.rows)
		got, code := impl.ApplyRows(s, st, c.kind, c.table, rows)
		if code != c.code || code != impl.OK && len(got.Tables) > 0 {
			t.Errorf("%d: %d of %d with %s: %v, %d; want %d", i, c.kind, c.table, c.rows, got, code, c.code)
			continue
		}
		if code == impl.OK && toldRows(got.Tables[c.table-1].Rows) != c.want {
			t.Errorf("%d: %d of %d with %s: %s; want %s", i, c.kind, c.table, c.rows, toldRows(got.Tables[c.table-1].Rows), c.want)
		}
		wantApply(t, s, st, c.kind, c.table, rows)
	}
}

func TestApplyInsert(t *testing.T) {
	wantApplied(t, []changeCase{
		{impl.ChInsert, 1, "", "1,p,10;2,p,20;1,q,NULL;2,q,NULL;", impl.OK},
		{impl.ChInsert, 1, "0,'p',null;3,'a',null;9,'q',5", "3,a,NULL;0,p,NULL;1,p,10;2,p,20;1,q,NULL;2,q,NULL;9,q,5;", impl.OK},
		{impl.ChInsert, 2, "2,null;1,true;2,null", "1,true;2,NULL;1,true;NULL,NULL;1,true;2,NULL;1,true;2,NULL;", impl.OK},
		{impl.ChInsert, 3, "0.5,'k';1.5,null", "1.5,k;1.5,NULL;1.5,NULL;2.5,k;0.5,k;1.5,NULL;", impl.OK},
		{impl.ChInsert, 1, "2,'p',null", "", impl.ErrUnique},
		{impl.ChInsert, 1, "7,'z',null;7,'z',1", "", impl.ErrUnique},
		{impl.ChInsert, 1, "7,'z',20", "", impl.ErrUnique},
		{impl.ChInsert, 1, "7,'z',8;8,'z',8", "", impl.ErrUnique},
		{impl.ChInsert, 3, "2.5,'k'", "", impl.ErrUnique},
		{impl.ChInsert, 3, "2.5,'l';2.5,'l'", "", impl.ErrUnique},
		{impl.ChInsert, 1, "null,'z',1", "", impl.ErrNull},
		{impl.ChInsert, 1, "1,null,200", "", impl.ErrNull},
		{impl.ChInsert, 3, "null,'z'", "", impl.ErrNull},
		{impl.ChInsert, 1, "1,'z',100", "", impl.ErrCheck},
		{impl.ChInsert, 1, "1,'z',2", "", impl.ErrCheck},
		{impl.ChInsert, 1, "1,'z',0", "", impl.ErrZero},
		// The first new row's code is told, and it is ahead of ErrUnique.
		{impl.ChInsert, 1, "2,'p',null;1,'z',0;1,'z',100", "", impl.ErrZero},
		{impl.ChInsert, 1, "2,'p',null;1,'z',100;1,'z',0", "", impl.ErrCheck},
		{impl.ChInsert, 1, "2,'p',20;1,null,0;1,'z',100", "", impl.ErrNull},
	})
}

func TestApplyUpdate(t *testing.T) {
	wantApplied(t, []changeCase{
		{impl.ChUpdate, 1, "", "1,p,10;2,p,20;1,q,NULL;2,q,NULL;", impl.OK},
		{impl.ChUpdate, 1, "2,'p',20,0,'z',30", "1,p,10;1,q,NULL;2,q,NULL;0,z,30;", impl.OK},
		{impl.ChUpdate, 1, "1,'p',10,1,'p',10;2,'q',null,5,'a',1", "5,a,1;1,p,10;2,p,20;1,q,NULL;", impl.OK},
		// What is unique is asked only when all rows are changed.
		{impl.ChUpdate, 1, "1,'p',10,2,'p',20;2,'p',20,1,'p',10", "1,p,10;2,p,20;1,q,NULL;2,q,NULL;", impl.OK},
		{impl.ChUpdate, 1, "1,'p',10,2,'p',10", "", impl.ErrUnique},
		{impl.ChUpdate, 1, "1,'p',10,1,'p',20", "", impl.ErrUnique},
		{impl.ChUpdate, 1, "1,'q',null,null,'q',null", "", impl.ErrNull},
		{impl.ChUpdate, 1, "1,'p',10,1,'p',100;2,'p',20,2,'p',0", "", impl.ErrCheck},
		{impl.ChUpdate, 1, "1,'p',10,1,'p',0;2,'p',20,2,'p',100", "", impl.ErrZero},
		{impl.ChUpdate, 2, "1,true,7,null;1,true,8,false", "7,NULL;2,NULL;8,false;NULL,NULL;1,true;", impl.OK},
		{impl.ChUpdate, 2, "2,null,3,null;1,true,8,false;1,true,9,false", "1,true;3,NULL;8,false;NULL,NULL;9,false;", impl.OK},
		{impl.ChUpdate, 2, "null,null,0,null;1,true,1,null", "1,true;2,NULL;1,true;0,NULL;1,NULL;", impl.OK},
		{impl.ChUpdate, 3, "1.5,'k',1.5,null;2.5,'k',1.5,'k'", "1.5,NULL;1.5,NULL;1.5,NULL;1.5,k;", impl.OK},
		// Rows that are there, but not behind one another; rows that are not there; one too often.
		{impl.ChUpdate, 1, "2,'p',20,2,'p',20;1,'p',10,1,'p',10", "", impl.ErrBad},
		{impl.ChUpdate, 1, "2,'p',21,2,'p',20", "", impl.ErrBad},
		{impl.ChUpdate, 1, "2,'p',null,2,'p',20", "", impl.ErrBad},
		{impl.ChUpdate, 2, "1,true,1,true;1,true,1,true;1,true,1,true;1,true,1,true", "", impl.ErrBad},
		{impl.ChUpdate, 2, "null,null,0,null;2,null,1,null", "", impl.ErrBad},
		{impl.ChUpdate, 1, "2,'p',21,0,'z',0", "", impl.ErrBad},
	})
}

func TestApplyDelete(t *testing.T) {
	wantApplied(t, []changeCase{
		{impl.ChDelete, 1, "", "1,p,10;2,p,20;1,q,NULL;2,q,NULL;", impl.OK},
		{impl.ChDelete, 1, "2,'p',20", "1,p,10;1,q,NULL;2,q,NULL;", impl.OK},
		{impl.ChDelete, 1, "1,'p',10;2,'p',20;1,'q',null;2,'q',null", "", impl.OK},
		{impl.ChDelete, 1, "1,'p',10;2,'q',null", "2,p,20;1,q,NULL;", impl.OK},
		{impl.ChDelete, 2, "1,true", "2,NULL;1,true;NULL,NULL;1,true;", impl.OK},
		{impl.ChDelete, 2, "2,null;1,true", "1,true;NULL,NULL;1,true;", impl.OK},
		{impl.ChDelete, 2, "1,true;1,true;1,true", "2,NULL;NULL,NULL;", impl.OK},
		{impl.ChDelete, 2, "1,true;1,true;null,null;1,true", "2,NULL;", impl.OK},
		{impl.ChDelete, 2, "1,true;1,true;1,true;1,true", "", impl.ErrBad},
		{impl.ChDelete, 2, "null,null;2,null", "", impl.ErrBad},
		{impl.ChDelete, 1, "2,'p',20;1,'p',10", "", impl.ErrBad},
		{impl.ChDelete, 1, "2,'p',20;2,'p',20", "", impl.ErrBad},
		{impl.ChDelete, 1, "3,'p',20", "", impl.ErrBad},
		{impl.ChDelete, 1, "2,'p',null", "", impl.ErrBad},
	})
}

// TestApplyWrongRows has rows that the table can't have, other kinds of change, other tables.
func TestApplyWrongRows(t *testing.T) {
	s, st := shop(t)
	fresh := []impl.Value{intv(9), textv("z"), null}
	old := st.Tables[0].Rows[0]
	for _, c := range []struct {
		what        string
		kind, table int
		row         []impl.Value
		code        int
	}{
		{"an insert", impl.ChInsert, 1, fresh, impl.OK},
		{"an insert too short", impl.ChInsert, 1, fresh[:2], impl.ErrBad},
		{"an insert too long", impl.ChInsert, 1, append(slices.Clone(fresh), null), impl.ErrBad},
		{"an insert of an update", impl.ChInsert, 1, append(slices.Clone(old), fresh...), impl.ErrBad},
		{"an insert of nothing", impl.ChInsert, 1, nil, impl.ErrBad},
		{"an insert of another kind", impl.ChInsert, 1, []impl.Value{decv(9), textv("z"), null}, impl.ErrBad},
		{"an insert of a value that is not valid", impl.ChInsert, 1, []impl.Value{intv(9), textv("\xff"), null}, impl.ErrBad},
		{"an insert of an Int for a Dec", impl.ChInsert, 3, []impl.Value{intv(9), null}, impl.ErrBad},
		{"an update", impl.ChUpdate, 1, append(slices.Clone(old), fresh...), impl.OK},
		{"an update too short", impl.ChUpdate, 1, append(slices.Clone(old), fresh[:2]...), impl.ErrBad},
		{"an update too long", impl.ChUpdate, 1, append(append(slices.Clone(old), fresh...), null), impl.ErrBad},
		{"an update without new values", impl.ChUpdate, 1, old, impl.ErrBad},
		{"an update of nothing", impl.ChUpdate, 1, nil, impl.ErrBad},
		{"an update to another kind", impl.ChUpdate, 1, append(slices.Clone(old), intv(9), intv(9), null), impl.ErrBad},
		{"an update to a value that is not valid", impl.ChUpdate, 1, append(slices.Clone(old), intv(9), textv("\xff"), null), impl.ErrBad},
		{"an update of another kind", impl.ChUpdate, 1, append([]impl.Value{decv(1), textv("p"), intv(10)}, fresh...), impl.ErrBad},
		{"a delete", impl.ChDelete, 1, old, impl.OK},
		{"a delete too short", impl.ChDelete, 1, old[:2], impl.ErrBad},
		{"a delete too long", impl.ChDelete, 1, append(slices.Clone(old), null), impl.ErrBad},
		{"a delete of an update", impl.ChDelete, 1, append(slices.Clone(old), old...), impl.ErrBad},
		{"a delete of nothing", impl.ChDelete, 1, nil, impl.ErrBad},
		{"kind 0", 0, 1, old, impl.ErrBad},
		{"kind 4", 4, 1, old, impl.ErrBad},
		{"a kind below", -1, 1, old, impl.ErrBad},
		{"no table", impl.ChDelete, 0, old, impl.ErrBad},
		{"the number of an index", impl.ChInsert, 4, old, impl.ErrBad},
		{"a table beyond", impl.ChInsert, 5, old, impl.ErrBad},
		{"a table below", impl.ChInsert, -1, old, impl.ErrBad},
	} {
		if code := wantApply(t, s, st, c.kind, c.table, [][]impl.Value{c.row}); code != c.code {
			t.Errorf("%s: %d; want %d", c.what, code, c.code)
		}
	}
	// Rows that are wrong are told ahead of new rows that may not stand there.
	bad := [][]impl.Value{{intv(1), textv("z"), intv(0)}, {intv(1)}}
	if code := wantApply(t, s, st, impl.ChInsert, 1, bad); code != impl.ErrBad {
		t.Errorf("a wrong row behind one that fails: %d", code)
	}
	for _, kind := range []int{impl.ChInsert, impl.ChUpdate, impl.ChDelete, 0, 4} {
		for _, table := range []int{1, 2, 3, 0, 4} {
			wantApply(t, s, st, kind, table, nil)
			if _, code := impl.ApplyRows(impl.Schema{}, st, kind, table, nil); code != impl.ErrBad {
				t.Errorf("no schema: %d", code)
			}
			if _, code := impl.ApplyRows(s, impl.State{}, kind, table, nil); code != impl.ErrBad {
				t.Errorf("no state: %d", code)
			}
		}
	}
}

func TestApplyMaxRows(t *testing.T) {
	s := defined(t, "create table t (id int unique check (id <> 5000))")
	rows := func(from, to int) [][]impl.Value {
		var list [][]impl.Value
		for i := from; i <= to; i++ {
			list = append(list, []impl.Value{intv(i)})
		}
		return list
	}
	with := func(count int) impl.State { return impl.State{Tables: []impl.Rows{{Id: 1, Rows: rows(1, count)}}} }
	double := func(from, to int) [][]impl.Value {
		var list [][]impl.Value
		for i := from; i <= to; i++ {
			list = append(list, []impl.Value{intv(i), intv(-i)})
		}
		return list
	}
	for _, c := range []struct {
		what string
		st   impl.State
		kind int
		rows [][]impl.Value
		code int
	}{
		{"MaxRows into nothing", with(0), impl.ChInsert, rows(1, impl.MaxRows), impl.OK},
		{"one more into nothing", with(0), impl.ChInsert, rows(1, impl.MaxRows+1), impl.ErrBad},
		{"up to MaxRows", with(100), impl.ChInsert, rows(101, impl.MaxRows), impl.OK},
		{"one above MaxRows", with(100), impl.ChInsert, rows(101, impl.MaxRows+1), impl.ErrBig},
		{"one above MaxRows at the end", with(impl.MaxRows), impl.ChInsert, rows(500, 500), impl.ErrBig},
		{"none at the end", with(impl.MaxRows), impl.ChInsert, nil, impl.OK},
		{"ErrBig ahead of ErrUnique", with(impl.MaxRows), impl.ChInsert, rows(1, 1), impl.ErrBig},
		{"CheckRow ahead of ErrBig", with(impl.MaxRows), impl.ChInsert, rows(5000, 5000), impl.ErrCheck},
		{"ErrUnique below", with(impl.MaxRows - 1), impl.ChInsert, rows(1, 1), impl.ErrUnique},
		{"an update of all", with(impl.MaxRows), impl.ChUpdate, double(1, impl.MaxRows), impl.OK},
		{"a delete of all", with(impl.MaxRows), impl.ChDelete, rows(1, impl.MaxRows), impl.OK},
		{"a delete of one more", with(impl.MaxRows), impl.ChDelete, rows(1, impl.MaxRows+1), impl.ErrBad},
	} {
		if code := wantApply(t, s, c.st, c.kind, 1, c.rows); code != c.code {
			t.Errorf("%s: %d; want %d", c.what, code, c.code)
		}
	}
}

// TestApplyAnswersApart writes into the state of an answer, in each table, and into the rows that were handed in.
func TestApplyAnswersApart(t *testing.T) {
	s, st := shop(t)
	kept := copyState(st)
	for kind, text := range map[int]string{impl.ChInsert: "5,'z',1;6,'z',3", impl.ChUpdate: "1,'p',10,1,'p',11;2,'p',20,7,'r',21", impl.ChDelete: "1,'p',10"} {
		rows := literalRows(t, text)
		want, _ := wantedApply(s, st, kind, 1, rows)
		got, code := impl.ApplyRows(s, st, kind, 1, rows)
		if code != impl.OK {
			t.Fatalf("%d: %d", kind, code)
		}
		for i := range rows {
			for k := range rows[i] {
				rows[i][k] = textv("written into an argument")
			}
		}
		if !sameState(got, want) {
			t.Errorf("%d: the answer shares memory with the rows", kind)
		}
		for i, table := range got.Tables {
			_ = append(table.Rows, []impl.Value{intv(77)})
			for k, row := range table.Rows {
				if !slices.Equal(row, want.Tables[i].Rows[k]) {
					t.Errorf("%d: rows of an answer share memory", kind)
				}
				_ = append(row, intv(77), intv(78))
				for n := range row {
					row[n] = textv("written into an answer")
				}
			}
		}
		if !sameState(st, kept) {
			t.Errorf("%d: the answer shares memory with the state", kind)
		}
	}
}

// TestApplyStatements goes from a change's text to the state behind it, each by itself.
func TestApplyStatements(t *testing.T) {
	s, st := shop(t)
	for _, c := range []struct{ text, want string }{
		{"insert into a select v, 'n', null from b where v = 2", "2,n,NULL;1,p,10;2,p,20;1,q,NULL;2,q,NULL;"},
		{"update a set x = x + 1", "2,p,10;3,p,20;2,q,NULL;3,q,NULL;"},
		{"update a set x = 3 - x where y = 'q'", "1,p,10;2,p,20;1,q,NULL;2,q,NULL;"},
		{"delete from a where y = 'q'", "1,p,10;2,p,20;"},
	} {
		if got := filled(t, s, st, c.text); toldRows(got.Tables[0].Rows) != c.want {
			t.Errorf("%s: %s; want %s", c.text, toldRows(got.Tables[0].Rows), c.want)
		}
	}
	for text, want := range map[string]int{"update a set y = 'z', z = null where x = 1": impl.ErrUnique, "update a set x = 3 - x, z = x where y = 'q'": impl.ErrCheck, "insert into a select v, 'n', null from b where v = 1": impl.ErrUnique, "insert into a select v, 'n', null from b": impl.ErrNull} {
		change, _, _ := impl.BindChange(s, parsed(t, text))
		rows, _ := impl.Meaning(s, st, change.Plan)
		if _, code := impl.ApplyRows(s, st, change.Kind, change.Table, rows); code != want {
			t.Errorf("%s: %d; want %d", text, code, want)
		}
	}
}
