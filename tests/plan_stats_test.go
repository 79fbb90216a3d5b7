package tests

import (
	"testing"

	"loop.example/g00001/impl"
)

// wantAnalysis asks Analyze for what the reference counts.
func wantAnalysis(t *testing.T, s impl.Schema, st impl.State) {
	t.Helper()
	kept := copyState(st)
	var want impl.Stats
	wantCode := impl.ErrBad
	if wantedSchemaOK(s) && wantedStateOK(s, st) {
		want, wantCode = wantedStats(s, st), impl.OK
	}
	got, code := impl.Analyze(s, st)
	if code != wantCode || !sameStats(got, want) {
		t.Fatalf("Analyze of %v is %d, %v, not %d, %v", st, code, got, wantCode, want)
	}
	if code == impl.OK && !wantedStatsOK(s, got) {
		t.Fatalf("%v is not valid", got)
	}
	if !sameState(st, kept) {
		t.Fatal("Analyze wrote into a state")
	}
}

func TestAnalyze(t *testing.T) {
	s := estate(t)
	st := emptyState(s)
	for _, c := range []struct {
		table int
		rows  [][]impl.Value
		want  []int
	}{
		{0, nil, []int{0, 0, 0, 0, 0, 0}},
		{2, nil, []int{0}},
		// NULLs are no values, also where there is nothing else.
		{2, [][]impl.Value{{null}, {null}}, []int{0}},
		{2, [][]impl.Value{{null}, {intv(1)}, {null}, {intv(1)}, {intv(-1)}, {intv(0)}}, []int{3}},
		// Values that are alike count once, of each kind.
		{1, [][]impl.Value{
			{intv(1), decv(10000), textv("a"), intv(1), boolv(true), datev(0)}, {intv(1), decv(10001), textv("A"), intv(2), boolv(false), datev(1)},
			{intv(2), decv(10000), textv(""), intv(3), boolv(true), datev(0)}, {null, null, textv("a"), intv(4), null, null},
		}, []int{2, 2, 3, 4, 2, 2}},
		{0, [][]impl.Value{{intv(-9223372036854775808), intv(0), textv("é"), decv(0), boolv(false), datev(-1)}, {intv(9223372036854775807), intv(0), textv("e"), decv(0), boolv(false), datev(1)}}, []int{2, 1, 2, 1, 1, 2}},
		{3, [][]impl.Value{{textv("x"), intv(1), intv(1), decv(5)}, {textv("y"), intv(1), intv(2), decv(5)}, {textv("x"), intv(2), null, null}}, []int{2, 2, 2, 1}},
	} {
		st.Tables[c.table].Rows = c.rows
		x, code := impl.Analyze(s, st)
		if code != impl.OK || len(x.Tables) != 4 || !sameStats(impl.Stats{Tables: x.Tables[c.table : c.table+1]}, impl.Stats{Tables: []impl.TableStats{{Id: s.Tables[c.table].Id, Rows: len(c.rows), Distinct: c.want}}}) {
			t.Errorf("%v: %d, %v", c.rows, code, x)
		}
		wantAnalysis(t, s, st)
	}
	full := packedState(s, 400)
	wantAnalysis(t, s, full)
	if x, _ := impl.Analyze(s, full); x.Tables[0].Rows != 400 || x.Tables[0].Distinct[0] != 400 {
		t.Errorf("%v", x.Tables[0])
	}
	if x, code := impl.Analyze(impl.Schema{Next: 1}, impl.State{}); code != impl.OK || len(x.Tables) != 0 {
		t.Errorf("no tables: %d, %v", code, x)
	}
}

func TestAnalyzeWrongStates(t *testing.T) {
	s := estate(t)
	bad := s
	bad.Next = 0
	for what, c := range map[string]struct {
		s     impl.Schema
		spoil func(st *impl.State)
	}{
		"a wrong schema": {bad, func(*impl.State) {}}, "no schema": {impl.Schema{}, func(*impl.State) {}}, "no tables": {s, func(st *impl.State) { st.Tables = nil }},
		"a table less": {s, func(st *impl.State) { st.Tables = st.Tables[:3] }}, "a table more": {s, func(st *impl.State) { st.Tables = append(st.Tables, impl.Rows{Id: 6}) }},
		"another number": {s, func(st *impl.State) { st.Tables[1].Id = 2 }}, "another order": {s, func(st *impl.State) { st.Tables[0], st.Tables[1] = st.Tables[1], st.Tables[0] }},
		"a row too wide": {s, func(st *impl.State) { st.Tables[2].Rows[0] = []impl.Value{null, null} }}, "another kind": {s, func(st *impl.State) { st.Tables[2].Rows[0] = []impl.Value{textv("1")} }},
		"a wrong value": {s, func(st *impl.State) { st.Tables[2].Rows[0] = []impl.Value{{Kind: impl.Int, S: "x"}} }}, "a key twice": {s, func(st *impl.State) { st.Tables[0].Rows[1][0] = intv(1) }},
		"keys that fall": {s, func(st *impl.State) { st.Tables[0].Rows[0][0] = intv(5) }}, "too many rows": {s, func(st *impl.State) {
			for range 400 {
				st.Tables[2].Rows = append(st.Tables[2].Rows, []impl.Value{null})
			}
		}},
	} {
		st := packedState(s, 3)
		c.spoil(&st)
		if x, code := impl.Analyze(c.s, st); code != impl.ErrBad || len(x.Tables) != 0 {
			t.Errorf("%s: %d, %v", what, code, x)
		}
		wantAnalysis(t, c.s, st)
	}
}

func TestAnalyzeAnswersApart(t *testing.T) {
	s := estate(t)
	x, _ := impl.Analyze(s, packedState(s, 5))
	var lists [][]int
	for _, numbers := range x.Tables {
		lists = append(lists, numbers.Distinct)
	}
	wantApart(t, "Analyze", lists)
}

func TestAnalyzeByChance(t *testing.T) {
	s := estate(t)
	numbers := &numberSource{state: 1049}
	for _, st := range grownStates(numbers, s, 60, 20) {
		wantAnalysis(t, s, st)
	}
}

func TestChooseWrongStatistics(t *testing.T) {
	s := estate(t)
	p := readPlan(t, s, "k")
	for what, c := range map[string]struct {
		spoil func(x *impl.Stats)
		code  int
	}{
		"nothing": {func(*impl.Stats) {}, impl.OK}, "no rows": {func(x *impl.Stats) { x.Tables[2] = impl.TableStats{Id: 4, Distinct: []int{0}} }, impl.OK},
		"all rows": {func(x *impl.Stats) { x.Tables[2] = impl.TableStats{Id: 4, Rows: 400, Distinct: []int{400}} }, impl.OK}, "no tables": {func(x *impl.Stats) { x.Tables = nil }, impl.ErrBad},
		"a table less": {func(x *impl.Stats) { x.Tables = x.Tables[:3] }, impl.ErrBad}, "a table more": {func(x *impl.Stats) { x.Tables = append(x.Tables, impl.TableStats{}) }, impl.ErrBad},
		"another order": {func(x *impl.Stats) { x.Tables[0], x.Tables[1] = x.Tables[1], x.Tables[0] }, impl.ErrBad}, "another number": {func(x *impl.Stats) { x.Tables[0].Id = 2 }, impl.ErrBad},
		"no number": {func(x *impl.Stats) { x.Tables[3].Id = 0 }, impl.ErrBad}, "rows below 0": {func(x *impl.Stats) { x.Tables[2] = impl.TableStats{Id: 4, Rows: -1, Distinct: []int{-1}} }, impl.ErrBad},
		"too many rows": {func(x *impl.Stats) { x.Tables[2].Rows = 401 }, impl.ErrBad}, "a column less": {func(x *impl.Stats) { x.Tables[0].Distinct = x.Tables[0].Distinct[1:] }, impl.ErrBad},
		"a column more": {func(x *impl.Stats) { x.Tables[2].Distinct = append(x.Tables[2].Distinct, 1) }, impl.ErrBad}, "no columns": {func(x *impl.Stats) { x.Tables[2].Distinct = nil }, impl.ErrBad},
		"values below 0": {func(x *impl.Stats) { x.Tables[1].Distinct[5] = -1 }, impl.ErrBad}, "more values than rows": {func(x *impl.Stats) { x.Tables[1].Distinct[5] = 51 }, impl.ErrBad},
		"the greatest": {func(x *impl.Stats) { x.Tables[1].Rows = 9223372036854775807 }, impl.ErrBad}, "the least": {func(x *impl.Stats) { x.Tables[1].Distinct[0] = -9223372036854775808 }, impl.ErrBad},
	} {
		x := farmStats()
		c.spoil(&x)
		f, code := wantChoice(t, s, x, p)
		if code != c.code || (len(f.Nodes) > 0) != (code == impl.OK) {
			t.Errorf("%s: %d, %d nodes", what, code, len(f.Nodes))
		}
	}
}

func TestChooseWrongPlans(t *testing.T) {
	s := estate(t)
	good := readPlan(t, s, "filtered(leftjoined(t, k, i0 = i6), i6 = 1 and some(k))")
	bad := s
	bad.Next = 0
	spoilt := func(spoil func(p impl.Plan)) impl.Plan {
		p := copyPlan(good)
		spoil(p)
		return p
	}
	for what, c := range map[string]struct {
		s    impl.Schema
		x    impl.Stats
		p    impl.Plan
		code int
	}{
		"valid": {s, farmStats(), good, impl.OK}, "no nodes": {s, farmStats(), impl.Plan{}, impl.ErrBad}, "no schema": {impl.Schema{}, farmStats(), good, impl.ErrBad}, "nothing at all": {impl.Schema{}, impl.Stats{}, impl.Plan{}, impl.ErrBad},
		"a schema without tables": {impl.Schema{Next: 1}, impl.Stats{}, good, impl.ErrBad}, "a wrong schema": {bad, farmStats(), good, impl.ErrBad}, "no root": {s, farmStats(), impl.Plan{Nodes: good.Nodes[:2]}, impl.ErrBad},
		"a table that is not there": {s, farmStats(), spoilt(func(p impl.Plan) { p.Nodes[0].Table = 2 }), impl.ErrBad}, "a wrong operation": {s, farmStats(), spoilt(func(p impl.Plan) { p.Nodes[2].Op = 12 }), impl.ErrBad},
		"a wrong join": {s, farmStats(), spoilt(func(p impl.Plan) { p.Nodes[2].A = impl.JoinCross }), impl.ErrBad}, "a column that is not there": {s, farmStats(), spoilt(func(p impl.Plan) { p.Nodes[2].Exprs[0].Nodes[0].B = 7 }), impl.ErrBad},
		"another kind": {s, farmStats(), spoilt(func(p impl.Plan) { p.Nodes[4].Kinds[0] = impl.Dec }), impl.ErrBad}, "no table, and none asked for": {impl.Schema{Next: 1}, impl.Stats{}, impl.Plan{Nodes: []impl.PNode{{Op: impl.PValues, L: -1, R: -1}}}, impl.OK},
	} {
		f, code := impl.Choose(c.s, c.x, c.p)
		if code != c.code || (len(f.Nodes) > 0) != (code == impl.OK) {
			t.Errorf("%s: %d, %d nodes", what, code, len(f.Nodes))
		}
	}
}
