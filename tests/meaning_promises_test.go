package tests

import (
	"slices"
	"testing"

	"loop.example/g00001/impl"
)

// wantMeaning asks PlanOK, SafePlan and Meaning of a valid schema and state for what the reference answers, and PhysOK and Execute for the same node by node; it tells the code.
func wantMeaning(t *testing.T, s impl.Schema, st impl.State, p impl.Plan) int {
	t.Helper()
	kept, keptPlan := copyState(st), copyPlan(p)
	ok := wantedPlanOK(s, p)
	if got := impl.PlanOK(s, p); got != ok {
		t.Fatalf("PlanOK is %v\n%v", got, p)
	}
	if got := impl.SafePlan(p); got != wantedSafePlan(p) {
		t.Fatalf("SafePlan is %v\n%v", got, p)
	}
	rows, code := impl.Meaning(s, st, p)
	var want [][]impl.Value
	wantCode, work := impl.ErrBad, 0
	if ok {
		want, wantCode, work = wantedRows(st, p)
	}
	if code != wantCode || !sameValues(rows, want) {
		t.Fatalf("%q\nis %d %v\nnot %d %v\nover %v", toldPlan(p), code, rows, wantCode, want, st)
	}
	wantNodeByNode(t, s, st, p, want, work, code)
	if ok && impl.SafePlan(p) && code != impl.OK && code != impl.ErrFuel {
		t.Fatalf("%q is safe and fails with %d", toldPlan(p), code)
	}
	if !sameState(st, kept) || !samePlan(p, keptPlan) {
		t.Fatalf("%v: an argument was written into", keptPlan)
	}
	return code
}

// wantNodeByNode asks Execute of a plan that is worked out by the operations of the same names for rows, work and a code.
func wantNodeByNode(t *testing.T, s impl.Schema, st impl.State, p impl.Plan, want [][]impl.Value, work, code int) {
	t.Helper()
	f := nodeByNode(p)
	if code != impl.OK {
		want, work = nil, 0
	}
	if got := impl.PhysOK(s, f); got != (code != impl.ErrBad) {
		t.Fatalf("PhysOK is %v\n%v", got, f)
	}
	rows, spent, got := impl.Execute(s, st, f)
	if got != code || spent != work || !sameValues(rows, want) {
		t.Fatalf("%sis %d, %d %v\nnot %d, %d %v\nover %v", impl.Explain(f), got, spent, rows, code, work, want, st)
	}
}

func grownStates(numbers *numberSource, s impl.Schema, count, most int) []impl.State {
	var states []impl.State
	for range count {
		states = append(states, grownState(exprGrower{grower: grower{numbers}}, s, most))
	}
	return states
}

func TestPlansByChance(t *testing.T) {
	t.Parallel()
	s := estate(t)
	numbers := &numberSource{state: 811}
	states := append(grownStates(numbers, s, 40, 12), packedState(s, 30), packedState(s, 60), packedState(s, 100))
	codes, ops, xops, safe, given := map[int]int{}, map[int]int{}, map[int]int{}, 0, 0
	for round := 0; round < 6000; round++ {
		g := newPlanGrower(numbers, s, round%3)
		p, fits := g.listed(g.grown(nil, round%5))
		if !fits {
			continue
		}
		if round%3 == 0 {
			spoilPlan(g.grower, p)
		}
		st := states[below(numbers, len(states))]
		code := wantMeaning(t, s, st, p)
		codes[code]++
		if code == impl.ErrBad {
			continue
		}
		if _, _, work := wantedRows(st, p); round%24 == 1 && len(p.Nodes) < 180 && work < impl.MaxWork-10 {
			wantWork(t, s, st, p, code, work)
		}
		if impl.SafePlan(p) {
			safe++
		}
		if rows, _ := impl.Meaning(s, st, p); len(rows) > 0 {
			given++
		}
		for _, node := range p.Nodes {
			ops[node.Op]++
			for _, e := range node.Exprs {
				for _, x := range e.Nodes {
					xops[x.Op]++
				}
			}
		}
	}
	for code, least := range map[int]int{impl.OK: 2000, impl.ErrBad: 1000, impl.ErrOverflow: 100, impl.ErrZero: 5, impl.ErrCast: 100, impl.ErrRows: 50, impl.ErrFuel: 10} {
		if codes[code] < least {
			t.Errorf("code %d: %d", code, codes[code])
		}
	}
	if safe < 500 || given < 1500 {
		t.Errorf("%d are safe, %d give rows", safe, given)
	}
	for op := impl.PScan; op <= impl.PExcept; op++ {
		if ops[op] < 200 {
			t.Errorf("operation %d of plans: %d", op, ops[op])
		}
	}
	for op := impl.XConst; op <= impl.XInPlan; op++ {
		if xops[op] < 50 {
			t.Errorf("operation %d of expressions: %d", op, xops[op])
		}
	}
}

// TestMeaningOfQueriesByChance goes from a query's tree to its rows.
func TestMeaningOfQueriesByChance(t *testing.T) {
	t.Parallel()
	s := estate(t)
	numbers := &numberSource{state: 821}
	states := append(grownStates(numbers, s, 40, 12), packedState(s, 40))
	codes := map[int]int{}
	for round := 0; round < 2000; round++ {
		q := newQueryGrower(numbers, s, round%3)
		p, _, code, _ := impl.Bind(s, inTree(q.query(q.kinds(1, 3), false)))
		if code == impl.OK {
			codes[wantMeaning(t, s, states[below(numbers, len(states))], p)]++
		}
	}
	for code, least := range map[int]int{impl.OK: 500, impl.ErrOverflow: 15, impl.ErrCast: 15, impl.ErrFuel: 5} {
		if codes[code] < least {
			t.Errorf("code %d: %d", code, codes[code])
		}
	}
	if codes[impl.ErrBad] > 0 {
		t.Errorf("%d plans that were bound are not valid", codes[impl.ErrBad])
	}
}

// asker binds and works out a query that is grown: rows, code.
type asker func(t *testing.T, s impl.Schema, st impl.State, root *plant) ([][]impl.Value, int)

// askMeaning answers by the meaning, which is held against the reference.
func askMeaning(t *testing.T, s impl.Schema, st impl.State, root *plant) ([][]impl.Value, int) {
	t.Helper()
	p, _, code, _ := impl.Bind(s, inTree(root))
	if code != impl.OK {
		return nil, impl.ErrBad
	}
	wantMeaning(t, s, st, p)
	return impl.Meaning(s, st, p)
}

func sortedRows(rows [][]impl.Value) [][]impl.Value {
	return slices.SortedFunc(slices.Values(rows), rowOrder)
}

// selectWhere is SELECT * FROM a table WHERE a condition.
func selectWhere(table string, condition *plant) *plant {
	return newPlant(impl.Node{Op: impl.NQuery}, newPlant(impl.Node{Op: impl.NSelect},
		newPlant(impl.Node{Op: impl.NItems}, newPlant(impl.Node{Op: impl.NStar})),
		newPlant(impl.Node{Op: impl.NFrom}, newPlant(impl.Node{Op: impl.NTable, Name: table})),
		newPlant(impl.Node{Op: impl.NWhere}, condition)))
}

func TestPromise13OfConditions(t *testing.T) {
	t.Parallel()
	wantParts(t, estate(t), 13, askMeaning)
}

// wantParts asks for the rows for which a condition is true, false and NULL.
func wantParts(t *testing.T, s impl.Schema, seed uint64, ask asker) {
	t.Helper()
	numbers := &numberSource{state: seed}
	states := append(grownStates(numbers, s, 30, 12), packedState(s, 30))
	whole, parts := 0, map[int]int{}
	for round := 0; round < 1200; round++ {
		at := below(numbers, len(s.Tables))
		table, st := s.Tables[at], states[below(numbers, len(states))]
		q := newQueryGrower(numbers, s, round%3)
		q.levels = [][]impl.ColName{scanned(table, table.Name).cols}
		condition := q.expr(impl.Bool, 1+round%3)
		var all [][]impl.Value
		fails := false
		for i, question := range []*plant{condition, newPlant(impl.Node{Op: impl.NNot}, condition), newPlant(impl.Node{Op: impl.NIs}, condition)} {
			rows, code := ask(t, s, st, selectWhere(table.Name, question))
			fails = fails || code != impl.OK
			all = append(all, rows...)
			parts[i] += min(len(rows), 1)
		}
		if fails {
			continue
		}
		whole++
		if !sameValues(sortedRows(all), sortedRows(st.Tables[at].Rows)) {
			t.Fatalf("%v\nis apart %v", st.Tables[at].Rows, all)
		}
	}
	if whole < 400 || parts[0] < 120 || parts[1] < 120 || parts[2] < 80 {
		t.Errorf("%d, %v", whole, parts)
	}
}

func TestPromise13OfQueries(t *testing.T) {
	t.Parallel()
	wantCounts(t, estate(t), 1313, askMeaning)
}

// wantCounts asks for the COUNT of a query, and for it twice less itself.
func wantCounts(t *testing.T, s impl.Schema, seed uint64, ask asker) {
	t.Helper()
	numbers := &numberSource{state: seed}
	states := grownStates(numbers, s, 30, 8)
	done := 0
	for round := 0; round < 1200; round++ {
		st := states[below(numbers, len(states))]
		q := newQueryGrower(numbers, s, round%3)
		query := q.query(q.kinds(1, 3), false)
		rows, code := ask(t, s, st, query)
		if code != impl.OK {
			continue
		}
		star := newPlant(impl.Node{Op: impl.NItem}, newPlant(impl.Node{Op: impl.NAgg, N: impl.AggAll}))
		counted, code := ask(t, s, st, newPlant(impl.Node{Op: impl.NQuery}, newPlant(impl.Node{Op: impl.NSelect}, newPlant(impl.Node{Op: impl.NItems}, star),
			newPlant(impl.Node{Op: impl.NFrom}, newPlant(impl.Node{Op: impl.NDerived, Name: "q"}, query)))))
		if code == impl.OK && !sameValues(counted, [][]impl.Value{{intv(len(rows))}}) {
			t.Fatalf("%d rows: %v", len(rows), counted)
		}
		twice := newPlant(impl.Node{Op: impl.NQuery}, newPlant(impl.Node{Op: impl.NSetOp, N: impl.SetUnion, M: 1}, query, query))
		left, code := ask(t, s, st, newPlant(impl.Node{Op: impl.NQuery}, newPlant(impl.Node{Op: impl.NSetOp, N: impl.SetExcept, M: 1}, twice, query)))
		if code != impl.OK {
			continue
		}
		if !sameValues(sortedRows(left), sortedRows(rows)) {
			t.Fatalf("%v\nis not %v", left, rows)
		}
		if len(rows) > 0 {
			done++
		}
	}
	if done < 200 {
		t.Errorf("%d", done)
	}
}

// spoilState changes something, so that most often the state is not valid.
func spoilState(g exprGrower, st impl.State) impl.State {
	st = copyState(st)
	at := below(g.numberSource, len(st.Tables))
	table := &st.Tables[at]
	values := append(validValues(), invalidValues()...)
	switch choice := below(g.numberSource, 8); {
	case choice == 0:
		table.Id += g.pick(-1, 1)
	case choice == 1:
		st.Tables = spoilList(g.grower, st.Tables, impl.Rows{Id: g.pick(1, 2, 3, 4, 5)})
	case choice == 2:
		other := &st.Tables[below(g.numberSource, len(st.Tables))]
		*table, *other = *other, *table
	case len(table.Rows) == 0:
		table.Rows = [][]impl.Value{{values[below(g.numberSource, len(values))]}}
	case choice == 3:
		row := table.Rows[below(g.numberSource, len(table.Rows))]
		table.Rows = append(table.Rows, slices.Clone(row))
	case choice == 4:
		a, b := below(g.numberSource, len(table.Rows)), below(g.numberSource, len(table.Rows))
		table.Rows[a], table.Rows[b] = table.Rows[b], table.Rows[a]
	case choice == 5:
		row := &table.Rows[below(g.numberSource, len(table.Rows))]
		*row = spoilList(g.grower, *row, null)
	default:
		row := table.Rows[below(g.numberSource, len(table.Rows))]
		row[below(g.numberSource, len(row))] = values[below(g.numberSource, len(values))]
	}
	return st
}

func TestStatesByChance(t *testing.T) {
	t.Parallel()
	s := estate(t)
	numbers := &numberSource{state: 823}
	g := exprGrower{grower: grower{numbers}}
	states := append(grownStates(numbers, s, 100, 12), packedState(s, 20))
	counts := map[bool]int{}
	for round := 0; round < 4000; round++ {
		st := states[below(numbers, len(states))]
		for range below(numbers, 3) {
			st = spoilState(g, st)
			if len(st.Tables) == 0 {
				break
			}
		}
		kept := copyState(st)
		want := wantedStateOK(s, st)
		if got := impl.StateOK(s, st); got != want {
			t.Fatalf("StateOK is %v: %v", got, st)
		}
		counts[want]++
		if _, code := impl.Meaning(s, st, scanPlan(s, 0)); (code == impl.OK) != want {
			t.Fatalf("Meaning is %d: %v", code, st)
		}
		if !sameState(st, kept) {
			t.Fatalf("%v: an argument was written into", kept)
		}
	}
	if counts[true] < 1000 || counts[false] < 1000 {
		t.Errorf("%v", counts)
	}
}

// scanPlan is the plan of all rows of the table at a place.
func scanPlan(s impl.Schema, at int) impl.Plan {
	return newPlanGrower(nil, s, 0).laidDown(scanned(s.Tables[at], "").plan)
}

// wantApply asks ApplyRows of a valid schema for what the reference answers; it tells the code.
func wantApply(t *testing.T, s impl.Schema, st impl.State, kind, table int, rows [][]impl.Value) int {
	t.Helper()
	kept, keptRows := copyState(st), cloned(rows)
	want, code := wantedApply(s, st, kind, table, rows)
	got, gotCode := impl.ApplyRows(s, st, kind, table, rows)
	if gotCode != code || !sameState(got, want) {
		t.Fatalf("%d of table %d with %v\nis %d %v\nnot %d %v\nover %v", kind, table, rows, gotCode, got, code, want, st)
	}
	if code == impl.OK && !impl.StateOK(s, got) {
		t.Fatalf("%d of table %d with %v: %v", kind, table, rows, got)
	}
	if !sameState(st, kept) || !sameValues(rows, keptRows) {
		t.Fatalf("%v, %v: an argument was written into", kept, keptRows)
	}
	return code
}

// grownChange are rows for a change of a table: some of its rows in their order, and new ones.
func grownChange(g exprGrower, table impl.Table, st impl.State, at, kind int) [][]impl.Value {
	var rows [][]impl.Value
	if kind == impl.ChInsert {
		for range below(g.numberSource, 4) {
			rows = append(rows, grownRow(g, table))
		}
		return rows
	}
	for _, row := range st.Tables[at].Rows {
		if g.chance(2) {
			continue
		}
		row = slices.Clone(row)
		if kind == impl.ChUpdate {
			fresh := slices.Clone(row)
			column := below(g.numberSource, len(fresh))
			fresh[column] = grownRow(g, table)[column]
			row = append(row, fresh...)
		}
		rows = append(rows, row)
	}
	return rows
}

func TestApplyRowsByChance(t *testing.T) {
	t.Parallel()
	s := estate(t)
	numbers := &numberSource{state: 827}
	g := exprGrower{grower: grower{numbers}}
	states := append(grownStates(numbers, s, 60, 12), packedState(s, 20))
	codes := map[int]int{}
	for round := 0; round < 8000; round++ {
		st := states[below(numbers, len(states))]
		at, kind := below(numbers, len(s.Tables)), 1+round%3
		rows := grownChange(g, s.Tables[at], st, at, kind)
		if g.chance(4) && len(rows) > 0 {
			row := &rows[below(numbers, len(rows))]
			*row = spoilList(g.grower, *row, g.valueOf(g.pick(0, 1, 2, 3, 4, 5)))
		}
		if g.chance(6) {
			slices.Reverse(rows)
		}
		table := s.Tables[at].Id
		if g.chance(30) {
			table += g.pick(-1, 1, 2)
		}
		if g.chance(30) {
			kind += g.pick(-3, 3)
		}
		codes[wantApply(t, s, st, kind, table, rows)]++
	}
	for code, least := range map[int]int{impl.OK: 3000, impl.ErrBad: 500, impl.ErrNull: 100, impl.ErrUnique: 200, impl.ErrCheck: 20} {
		if codes[code] < least {
			t.Errorf("code %d: %d", code, codes[code])
		}
	}
}

// TestPromise1OfMeaning hands in schemas, states and plans of which many are not valid, and any numbers.
func TestPromise1OfMeaning(t *testing.T) {
	t.Parallel()
	g := newCatalogGrower(&numberSource{state: 829}, nil)
	codes := map[int]int{}
	for round := 0; round < 2000; round++ {
		whole := grownSchema(g, 4)
		s := oddSchema(g, whole)
		st := grownState(g.exprGrower, whole, 4)
		if len(st.Tables) > 0 && g.chance(3) {
			st = spoilState(g.exprGrower, st)
		}
		var p impl.Plan
		if len(whole.Tables) > 0 {
			grown := newPlanGrower(g.numberSource, whole, 1)
			p, _ = grown.listed(grown.grown(nil, round%4))
		}
		if len(p.Nodes) > 0 && g.chance(2) {
			at := below(g.numberSource, len(p.Nodes))
			p.Nodes[at] = oddPNode(g.grower, p.Nodes[at])
		}
		table, kind := oddNumber(g), oddNumber(g)
		if g.chance(2) {
			table, kind = g.pick(1, 2, 3), g.pick(1, 2, 3)
		}
		rows := g.rows()
		if wantedSchemaOK(s) {
			wantState := wantedStateOK(s, st)
			if impl.StateOK(s, st) != wantState {
				t.Fatalf("StateOK: %v", st)
			}
			if wantState {
				codes[wantMeaning(t, s, st, p)]++
			}
			wantApply(t, s, st, kind, table, rows)
			continue
		}
		answer, code := impl.Meaning(s, st, p)
		behind, applied := impl.ApplyRows(s, st, kind, table, rows)
		if impl.StateOK(s, st) || impl.PlanOK(s, p) || len(answer) > 0 || code != impl.ErrBad || len(behind.Tables) > 0 || applied != impl.ErrBad {
			t.Fatalf("%v, %v, %v: %v, %d; %v, %d", s, st, p, answer, code, behind, applied)
		}
		codes[-1]++
	}
	if codes[-1] < 300 || codes[impl.OK] < 100 || codes[impl.ErrBad] < 100 {
		t.Errorf("%v", codes)
	}
}

// oddPNode puts any numbers and expressions into a node.
func oddPNode(g grower, n impl.PNode) impl.PNode {
	numbers := []*int{&n.Op, &n.L, &n.R, &n.Table, &n.A, &n.B}
	for range 1 + below(g.numberSource, 2) {
		*numbers[below(g.numberSource, len(numbers))] = g.pick(oddNumbers()...)
	}
	if g.chance(3) {
		n.Exprs = []impl.Expr{{Nodes: []impl.XNode{oddXNode(g), oddXNode(g)}}}
	}
	if g.chance(4) {
		n.Keys, n.Aggs = []int{g.pick(oddNumbers()...)}, []impl.PAgg{{Fn: g.pick(oddNumbers()...), Col: g.pick(oddNumbers()...)}}
	}
	if g.chance(4) {
		n.Sorts, n.Kinds = []impl.SortKey{{Col: g.pick(oddNumbers()...)}}, []int{g.pick(oddNumbers()...)}
	}
	return n
}
