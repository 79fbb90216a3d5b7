package tests

import (
	"slices"
	"testing"

	"loop.example/g00001/impl"
)

// stateCase changes a packed state of 6 rows in each table of the estate; ok tells whether it is valid then.
type stateCase struct {
	what   string
	change func(st *impl.State)
	ok     bool
}

func wantStates(t *testing.T, s impl.Schema, base impl.State, cases []stateCase) {
	t.Helper()
	for _, c := range cases {
		st := copyState(base)
		c.change(&st)
		if impl.StateOK(s, st) != c.ok || wantedStateOK(s, st) != c.ok {
			t.Errorf("%s: %v; want %v", c.what, impl.StateOK(s, st), c.ok)
		}
		rows, code := impl.Meaning(s, st, scanPlan(s, 0))
		behind, applied := impl.ApplyRows(s, st, impl.ChInsert, 1, nil)
		if c.ok != (code == impl.OK) || c.ok != (applied == impl.OK) || !c.ok && (code != impl.ErrBad || applied != impl.ErrBad || len(rows)+len(behind.Tables) > 0) {
			t.Errorf("%s: Meaning %v, %d; ApplyRows %v, %d", c.what, rows, code, behind, applied)
		}
	}
}

func TestStateTables(t *testing.T) {
	s := estate(t)
	wantStates(t, s, packedState(s, 6), []stateCase{
		{"as it is", func(st *impl.State) {}, true},
		{"empty", func(st *impl.State) { *st = emptyState(s) }, true},
		{"no tables", func(st *impl.State) { st.Tables = nil }, false},
		{"one too few", func(st *impl.State) { st.Tables = st.Tables[:3] }, false},
		{"the first too few", func(st *impl.State) { st.Tables = st.Tables[1:] }, false},
		{"one too many", func(st *impl.State) { st.Tables = append(st.Tables, impl.Rows{Id: 6}) }, false},
		{"one twice", func(st *impl.State) { st.Tables = append(st.Tables, st.Tables[3]) }, false},
		{"out of order", func(st *impl.State) { st.Tables[0], st.Tables[1] = st.Tables[1], st.Tables[0] }, false},
		{"another number", func(st *impl.State) { st.Tables[3].Id = 6 }, false},
		{"the place for the number", func(st *impl.State) { st.Tables[1].Id = 1 }, false},
		{"no number", func(st *impl.State) { st.Tables[0].Id = 0 }, false},
	})
	if !impl.StateOK(impl.Schema{Next: 1}, impl.State{}) || impl.StateOK(impl.Schema{}, impl.State{}) || impl.StateOK(impl.Schema{Next: 1}, impl.State{Tables: []impl.Rows{{}}}) {
		t.Errorf("a schema without tables")
	}
}

func TestStateRows(t *testing.T) {
	s := estate(t)
	at := func(table, row, column int, v impl.Value) func(st *impl.State) {
		return func(st *impl.State) { st.Tables[table].Rows[row][column] = v }
	}
	wantStates(t, s, packedState(s, 6), []stateCase{
		{"a value of the kind", at(0, 2, 1, intv(99)), true},
		{"NULL", at(0, 2, 1, null), true},
		{"another kind", at(0, 2, 1, decv(1)), false},
		{"an Int in a Dec's column", at(0, 2, 3, intv(1)), false},
		{"a value that is not valid", at(0, 2, 4, boolish(2)), false},
		{"a text that is too long", at(0, 2, 2, invalidValues()[21]), false},
		{"NULL in a key", at(0, 0, 0, null), false},
		{"NULL where NOT NULL is said", at(1, 0, 2, null), false},
		{"a condition that is false", at(3, 0, 1, intv(5)), false},
		{"no row", func(st *impl.State) { st.Tables[0].Rows = nil }, true},
		{"a row too short", func(st *impl.State) { st.Tables[2].Rows[3] = nil }, false},
		{"a row too long", func(st *impl.State) { st.Tables[2].Rows[3] = []impl.Value{intv(1), null} }, false},
		{"a row of another table", func(st *impl.State) { st.Tables[0].Rows[5] = st.Tables[1].Rows[5] }, false},
	})
}

func TestStateKeys(t *testing.T) {
	s := estate(t)
	p := func(k string, n int, m, x impl.Value) []impl.Value { return []impl.Value{textv(k), intv(n), m, x} }
	rowsOfP := func(rows ...[]impl.Value) func(st *impl.State) {
		return func(st *impl.State) { st.Tables[3].Rows = rows }
	}
	u := func(a, w impl.Value) []impl.Value { return []impl.Value{null, null, textv(""), a, w, null} }
	rowsOfU := func(rows ...[]impl.Value) func(st *impl.State) {
		return func(st *impl.State) { st.Tables[1].Rows = rows }
	}
	wantStates(t, s, packedState(s, 6), []stateCase{
		{"keys that rise", func(st *impl.State) { st.Tables[0].Rows[5][0] = intv(1000) }, true},
		{"keys alike", func(st *impl.State) { st.Tables[0].Rows[5][0] = intv(5) }, false},
		{"keys that fall", func(st *impl.State) { st.Tables[0].Rows[5][0] = intv(4) }, false},
		{"the first ones fall", func(st *impl.State) { st.Tables[0].Rows[0][0] = intv(2) }, false},
		{"two rows exchanged", func(st *impl.State) {
			rows := st.Tables[0].Rows
			rows[2], rows[3] = rows[3], rows[2]
		}, false},
		{"two columns, the second rises", rowsOfP(p("a", 1, null, null), p("b", 1, null, null), p("A", 2, null, null)), true},
		{"two columns, the second falls", rowsOfP(p("b", 1, null, null), p("a", 1, null, null)), false},
		{"two columns, both alike", rowsOfP(p("a", 1, null, null), p("a", 1, intv(1), null)), false},
		{"two columns, the first falls", rowsOfP(p("a", 2, null, null), p("b", 1, null, null)), false},
		{"a unique column alike", rowsOfP(p("a", 1, intv(7), null), p("a", 2, intv(7), decv(1))), false},
		{"far apart", rowsOfP(p("a", 1, intv(7), null), p("a", 2, intv(8), null), p("a", 3, intv(7), null)), false},
		{"NULLs in a unique column", rowsOfP(p("a", 1, null, decv(1)), p("a", 2, null, decv(1)), p("a", 3, null, null)), true},
		{"a unique index, both columns alike", rowsOfU(u(intv(1), boolv(true)), u(intv(1), boolv(true))), false},
		{"a unique index, one column alike", rowsOfU(u(intv(1), boolv(true)), u(intv(1), boolv(false)), u(intv(2), boolv(true))), true},
		{"a unique index, NULL in one", rowsOfU(u(intv(1), null), u(intv(1), null), u(null, boolv(true)), u(null, boolv(true)), u(null, null), u(null, null)), true},
		{"an index that is not unique", rowsOfU(u(intv(1), null), u(intv(2), null)), true},
		{"no key, all alike", func(st *impl.State) {
			st.Tables[2].Rows = [][]impl.Value{{intv(1)}, {intv(1)}, {null}, {null}, {intv(0)}}
		}, true},
	})
	alone := defined(t, "create table a (x decimal, y decimal, unique (x, y))")
	st := impl.State{Tables: []impl.Rows{{Id: 1, Rows: [][]impl.Value{{decv(1), null}, {decv(1), null}, {decv(1), decv(2)}, {decv(2), decv(1)}}}}}
	if !impl.StateOK(alone, st) {
		t.Errorf("pairs that differ")
	}
	st.Tables[0].Rows[3] = []impl.Value{decv(1), decv(2)}
	if impl.StateOK(alone, st) {
		t.Errorf("pairs that are alike")
	}
	// Texts whose bytes run into one another are still not alike.
	texts := defined(t, "create table a (x text, y text, unique (x, y))")
	st.Tables[0].Rows = [][]impl.Value{{textv("a"), textv("bc")}, {textv("ab"), textv("c")}, {textv(""), textv("abc")}, {textv("a3 0 0 "), textv("")}, {textv("a"), textv("3 0 0 ")}}
	if !impl.StateOK(texts, st) {
		t.Errorf("texts that differ")
	}
}

func TestStateMaxRows(t *testing.T) {
	s := estate(t)
	st := packedState(s, impl.MaxRows)
	if !impl.StateOK(s, st) {
		t.Fatalf("MaxRows rows")
	}
	for i := range st.Tables {
		one := copyState(st)
		one.Tables[i].Rows = packedState(s, impl.MaxRows+1).Tables[i].Rows
		if impl.StateOK(s, one) {
			t.Errorf("table %d with one row more", i)
		}
	}
	// The last row is looked at, too.
	st.Tables[0].Rows[impl.MaxRows-1][0] = intv(1)
	if impl.StateOK(s, st) {
		t.Errorf("the last row out of order")
	}
}

// TestPromise1OfManyRows hands in far more than is let, whose answer must not take long.
func TestPromise1OfManyRows(t *testing.T) {
	s := estate(t)
	st := emptyState(s)
	st.Tables[2].Rows = slices.Repeat([][]impl.Value{{intv(1)}}, 1000000)
	if impl.StateOK(s, st) {
		t.Errorf("a million rows")
	}
	if _, code := impl.Meaning(s, st, scanPlan(s, 2)); code != impl.ErrBad {
		t.Errorf("Meaning: %d", code)
	}
	if _, code := impl.ApplyRows(s, emptyState(s), impl.ChInsert, 4, st.Tables[2].Rows); code != impl.ErrBad {
		t.Errorf("ApplyRows: %d", code)
	}
	many := impl.Plan{Nodes: make([]impl.PNode, 1000000)}
	wide := scanPlan(s, 2)
	wide.Nodes[0].Exprs, wide.Nodes[0].Kinds, wide.Nodes[0].Keys = make([]impl.Expr, 1000000), make([]int, 1000000), make([]int, 1000000)
	for _, p := range []impl.Plan{many, wide} {
		if impl.PlanOK(s, p) || impl.SafePlan(p) != (len(p.Nodes) > 1) {
			t.Errorf("a plan of %d nodes", len(p.Nodes))
		}
	}
}
