package tests

import (
	"fmt"
	"slices"
	"strings"
	"testing"

	"loop.example/g00001/impl"
)

// queryCase is a query of the villa with what it answers: names with commas between, rows, code, position.
type queryCase struct {
	text, names, rows string
	code, pos         int
}

func wantQueries(t *testing.T, s impl.Schema, st impl.State, cases []queryCase) {
	t.Helper()
	kept, keptSchema := copyState(st), copySchema(s)
	for _, c := range cases {
		names, rows, code, pos := impl.Query(s, st, c.text)
		if strings.Join(names, ",") != c.names || toldRows(rows) != c.rows || code != c.code || pos != c.pos {
			t.Errorf("%.200s\nis %v %s %d %d\nnot %s %s %d %d", c.text, names, toldRows(rows), code, pos, c.names, c.rows, c.code, c.pos)
		}
	}
	if !sameState(st, kept) || fmt.Sprint(s) != fmt.Sprint(keptSchema) {
		t.Errorf("an argument was written into")
	}
}

func TestQueryAnswers(t *testing.T) {
	t.Parallel()
	s, st := villa(t)
	wantQueries(t, s, st, []queryCase{
		{text: "select 1", names: "column1", rows: "1;"},
		{text: "select id, a from t where a = 10;", names: "id,a", rows: "1,10;3,10;"},
		{text: "select * from t where id = 2", names: "id,a,b,c,d,e", rows: "2,NULL,y,NULL,false,1970-01-02;"},
		{text: `select t.id, u.y as "a name" from t join u on t.a = u.a order by 1, 2`, names: "id,a name", rows: "1,q;1,r;3,q;3,r;4,s;"},
		{text: "select t.id, u.y from t left join u on t.a = u.a and u.id = 9 order by t.id desc", names: "id,y", rows: "4,s;3,NULL;2,NULL;1,NULL;"},
		{text: "select a, count(*), sum(c) as s from t group by a order by a nulls first", names: "a,column2,s", rows: "NULL,1,NULL;10,2,4;20,1,1.5;"},
		{text: "select b from t where id > 9", names: "b", rows: ""},
		{text: "select count(*) from \"k 1\"", names: "column1", rows: "0;"},
		{text: "select b from t union select y from u order by b", names: "b", rows: "q;r;s;x;y;NULL;"},
		{text: "select id from t order by a desc nulls last, id limit 2 offset 1", names: "id", rows: "1;3;"},
		{text: "select id from t where exists (select 1 from u where u.a = t.a and u.w) order by id", names: "id", rows: "1;3;4;"},
	})
}

// TestQueryCodes asks for each step's code, and for its position.
func TestQueryCodes(t *testing.T) {
	t.Parallel()
	s, st := villa(t)
	wantQueries(t, s, st, []queryCase{
		{text: "", code: impl.ErrSyntax, pos: 0},
		{text: "select 'a", code: impl.ErrToken, pos: 7},
		{text: "select 1 1", code: impl.ErrSyntax, pos: 9},
		{text: "select id from", code: impl.ErrSyntax, pos: 14},
		{text: strings.Repeat(" ", impl.MaxSource+1), code: impl.ErrBig, pos: 0},
		{text: "select " + strings.Repeat("- ", 120) + "1", code: impl.ErrDeep, pos: 247},
		{text: "select z from t", code: impl.ErrColumn, pos: 7},
		{text: "select id from nope", code: impl.ErrTable, pos: 15},
		{text: "select id from t, u", code: impl.ErrMany, pos: 7},
		{text: "select a + b from t", code: impl.ErrType, pos: 9},
		{text: "select count(count(*)) from t", code: impl.ErrGroup, pos: 13},
		{text: "select id from t union select id, a from t", code: impl.ErrWidth, pos: 17},
		{text: "select 1 / 0", code: impl.ErrZero},
		{text: "select id / (id - 2) from t", code: impl.ErrZero},
		{text: "select 9223372036854775807 + id from t", code: impl.ErrOverflow},
		{text: "select cast(b as int) from t", code: impl.ErrCast},
		{text: "select (select id from t)", code: impl.ErrRows},
		{text: "select 1 from t, t a, t b, t c, t d, t e, t f, t g", code: impl.ErrBig, pos: 37},
	})
	// Statements that are no queries are refused at 0, whatever else is wrong with them.
	for _, text := range []string{
		"explain select 1", "insert into t values (1)", "update nope set a = 1", "delete from t", "create table t (a int)", "drop table nope",
		"begin", "commit", "rollback", "savepoint s", "release s", "checkpoint", "  explain select z from t",
	} {
		wantQueries(t, s, st, []queryCase{{text: text, code: impl.ErrSyntax}})
	}
}

// TestQueryWork has a query that is too much work, though its parts are not.
func TestQueryWork(t *testing.T) {
	t.Parallel()
	s := estate(t)
	st := packedState(s, 100)
	wantQueries(t, s, st, []queryCase{
		{text: "select count(*) from t a, u b where a.id = b.id", names: "column1", rows: "86;"},
		{text: "select count(*) from t a, t b, t c", code: impl.ErrFuel},
	})
}

func TestQueryMaxAnswer(t *testing.T) {
	t.Parallel()
	s := defined(t, "create table w (n int)", "create table v (n int)")
	st := emptyState(s)
	for i := range 250 {
		st.Tables[0].Rows = append(st.Tables[0].Rows, []impl.Value{intv(i)})
	}
	st.Tables[1].Rows = [][]impl.Value{{intv(7)}}
	for text, count := range map[string]int{
		"select n from w union all select n from w":                                                impl.MaxAnswer,
		"select n from w union all select n from w union all select n from v":                      -1,
		"select count(*) from (select n from w union all select n from w union all select 1) as q": 1,
		"select n from w union all select n from w union all select n from v limit 500":            impl.MaxAnswer,
		"select n from w union all select n from w union all select n from v limit 501":            -1,
	} {
		names, rows, code, pos := impl.Query(s, st, text)
		if count < 0 && (len(names)+len(rows)+pos != 0 || code != impl.ErrBig) {
			t.Errorf("%s: %v, %d rows, %d %d", text, names, len(rows), code, pos)
		}
		if count >= 0 && (len(names) != 1 || len(rows) != count || code != impl.OK || pos != 0) {
			t.Errorf("%s: %v, %d rows, %d %d", text, names, len(rows), code, pos)
		}
	}
}

// TestQueryOfWrongStates looks at the state ahead of the text.
func TestQueryOfWrongStates(t *testing.T) {
	t.Parallel()
	s, st := villa(t)
	short, odd, twice := copyState(st), copyState(st), copyState(st)
	short.Tables = short.Tables[:2]
	odd.Tables[0].Rows[1][1] = textv("x")
	twice.Tables[0].Rows[1][0] = intv(1)
	wrong := copySchema(s)
	wrong.Tables[0].Name = "other"
	for i, c := range []struct {
		s  impl.Schema
		st impl.State
	}{{s, short}, {s, odd}, {s, twice}, {wrong, st}, {impl.Schema{}, impl.State{}}} {
		for _, text := range []string{"select 1", "select 'a", "delete from t", "select z from t", ""} {
			wantQueries(t, c.s, c.st, []queryCase{{text: text, code: impl.ErrBad}})
		}
		if impl.StateOK(c.s, c.st) {
			t.Errorf("state %d is valid", i)
		}
	}
	wantQueries(t, impl.Schema{Next: 1}, impl.State{}, []queryCase{{text: "select 1", names: "column1", rows: "1;"}, {text: "select * from t", code: impl.ErrTable, pos: 14}})
}

// TestQueryInNewMemory writes into an answer, which nothing else may see.
func TestQueryInNewMemory(t *testing.T) {
	t.Parallel()
	s, st := villa(t)
	kept := copyState(st)
	for _, text := range []string{"select * from t", "select * from t order by id desc", "select * from t union all select * from t", "select t.*, t.* from t", "select * from t where id = 1"} {
		names, rows, _, _ := impl.Query(s, st, text)
		want := cloned(rows)
		wantListsApart(t, rows, intv(-5))
		for i := range names {
			names[i] = "?"
		}
		if !sameState(st, kept) {
			t.Fatalf("%s: an answer shares memory with the state", text)
		}
		if _, again, _, _ := impl.Query(s, st, text); !sameValues(again, want) {
			t.Fatalf("%s is answered otherwise", text)
		}
	}
}

// TestQueryByChance goes the way of chapter 17 step by step; where the meaning is not too much work, it is the same bag of rows.
func TestQueryByChance(t *testing.T) {
	t.Parallel()
	var met tally
	s := estate(t)
	atOnce(t, 8, func(t *testing.T, run int) {
		numbers := &numberSource{state: uint64(901 + run)}
		states := append(grownStates(numbers, s, 10, 12), packedState(s, 30), packedState(s, 60))
		for round := range 400 {
			q := newQueryGrower(numbers, s, round%3)
			statement := q.query(q.kinds(1, 3), false)
			if q.chance(8) {
				statement = q.change()
			}
			if q.chance(5) {
				q.spoilStatement(statement)
			}
			text, _ := impl.Print(planted(statement))
			met.add(wantQuery(t, s, states[below(numbers, len(states))], text))
		}
	})
	met.wantAtLeast(t, map[string]int{
		"code 0": 800, "code 0 in order": 150, "code 3": 100, "code 7": 30, "code 8": 30, "code 10": 30, "code 13": 20, "code 15": 20, "code 29": 5, "code 5": 5,
	})
}

// wantQuery tells what it has met.
func wantQuery(t *testing.T, s impl.Schema, st impl.State, text string) string {
	t.Helper()
	names, rows, code, pos := impl.Query(s, st, text)
	n := &inn{schema: s}
	var wantNames []string
	var plan impl.Plan
	want, wantCode, wantPos := asked(func() [][]impl.Value {
		tree, code, pos := impl.Parse(text)
		stopIf(code != impl.OK, code, pos)
		stopIf(rootOf(tree).Op != impl.NQuery, impl.ErrSyntax, 0)
		plan, wantNames, code, pos = impl.Bind(s, tree)
		stopIf(code != impl.OK, code, pos)
		return n.executed(st, plan, 500)
	})
	if wantCode != impl.OK {
		wantNames = nil
	}
	if code != wantCode || pos != wantPos || !slices.Equal(names, wantNames) || !sameValues(rows, want) {
		t.Fatalf("%s\nis %v %v %d %d\nnot %v %v %d %d", text, names, rows, code, pos, wantNames, want, wantCode, wantPos)
	}
	if len(plan.Nodes) == 0 || code == impl.ErrFuel || code == impl.ErrBig {
		return fmt.Sprint("code ", code)
	}
	return wantBagOf(t, s, st, plan, rows, code, text)
}

// wantBagOf asks for the rows and the code that a plan means; where a PSort is its root, in an order that this lets be.
func wantBagOf(t *testing.T, s impl.Schema, st impl.State, p impl.Plan, rows [][]impl.Value, code int, text string) string {
	t.Helper()
	meant, meantCode := impl.Meaning(s, st, p)
	if meantCode == impl.ErrFuel {
		return "too much to mean"
	}
	if meantCode != code || !sameValues(sortedRows(rows), sortedRows(meant)) {
		t.Fatalf("%s\nis %v %d\nand means %v %d", text, rows, code, meant, meantCode)
	}
	root := p.Nodes[len(p.Nodes)-1]
	if root.Op != impl.PSort || code != impl.OK {
		return fmt.Sprint("code ", code)
	}
	var o outcome
	o.sort(root, rows)
	if !sameValues(o.rows, rows) {
		t.Fatalf("%s\nis %v, which is not in order", text, rows)
	}
	return "code 0 in order"
}
