package tests

import (
	"fmt"
	"slices"
	"sync"
	"testing"

	"loop.example/g00001/impl"
)

// TestExecutionsByChance has physical plans with all operations, of which every third is spoilt.
func TestExecutionsByChance(t *testing.T) {
	t.Parallel()
	s := farm(t)
	var met tally
	t.Run("all", func(t *testing.T) {
		for run := range 4 {
			t.Run(fmt.Sprint(run), func(t *testing.T) {
				t.Parallel()
				numbers := &numberSource{state: uint64(1101 + run)}
				states := append(grownStates(numbers, s, 10, 12), packedState(s, 5), packedState(s, 9), packedState(s, 14), packedState(s, 30), packedState(s, 60))
				for round := 0; round < 1500; round++ {
					g := newPhysGrower(numbers, s, round%3)
					f, fits := g.grownPhys(round%5, round%2 == 0)
					if !fits {
						continue
					}
					if round%3 == 0 {
						spoilPhys(g.planGrower.grower, f)
					}
					st := states[below(numbers, len(states))]
					code := wantExecution(t, s, st, f)
					met.add(fmt.Sprintf("code %d", code))
					if code == impl.ErrBad {
						continue
					}
					tellChoice(&met, f)
					rows, work, _ := wantedExecution(s, st, f)
					if len(rows) > 0 {
						met.add("rows")
					}
					if round%24 == 1 && len(f.Nodes) < 180 && work < impl.MaxWork-10 {
						wantPhysWork(t, s, st, f, code, work)
					}
				}
			})
		}
	})
	met.wantAtLeast(t, map[string]int{
		"op 1": 3000, "op 2": 2000, "op 3": 1000, "op 4": 1000, "op 5": 2000, "op 6": 800, "op 7": 400, "op 8": 300, "op 9": 150, "op 10": 500, "op 11": 500, "op 12": 150, "op 13": 1000, "op 14": 500, "op 15": 400, "op 16": 400,
		"op 7 join 1": 200, "op 7 join 2": 40, "op 7 join 4": 20, "op 7 join 5": 20, "op 9 join 1": 100, "op 9 join 2": 15, "op 9 join 4": 15, "op 9 join 5": 8, "look 1": 100, "look 2": 50, "join over join": 150,
		"seek 0.1": 50, "seek 0.3": 50, "seek 0.4": 50, "seek 0.12": 50, "seek 0.5": 50, "seek 0.7": 50, "seek 0.13": 50, "seek 0.15": 50, "seek 1.0": 400, "seek 1.1": 15, "seek 1.12": 15, "seek 1.15": 15, "seek 2.0": 300, "seek 3.0": 20,
		"rows": 800, "code 0": 2000, "code 1": 1000, "code 13": 20, "code 15": 40, "code 16": 100, "code 29": 3,
	})
}

// askExecution answers by what is chosen and executed: of the plan, or of what Rewrite makes of it, by statistics that have something to do with the rows or nothing.
func askExecution(numbers *numberSource) asker {
	return func(t *testing.T, s impl.Schema, st impl.State, root *plant) ([][]impl.Value, int) {
		t.Helper()
		p, _, code, _ := impl.Bind(s, inTree(root))
		if code != impl.OK {
			return nil, impl.ErrBad
		}
		g := grower{numbers}
		if g.chance(2) {
			p, _ = impl.Rewrite(s, p)
		}
		x, _ := impl.Analyze(s, st)
		if g.chance(2) {
			x = g.grownStats(s)
		}
		f, code := impl.Choose(s, x, p)
		if code == impl.ErrBig && len(p.Nodes) > 150 {
			return nil, code
		}
		if code != impl.OK || !impl.PhysOK(s, f) {
			t.Fatalf("%s\nis chosen: %d\n%s", shortPlan(p), code, impl.Explain(f))
		}
		rows, work, code := impl.Execute(s, st, f)
		if code != impl.OK && len(rows)+work > 0 || code == impl.OK && work < 1 {
			t.Fatalf("%s: %d rows, a work of %d, %d", impl.Explain(f), len(rows), work, code)
		}
		return rows, code
	}
}

// TestPromise13OfExecutedConditions asks for the rows for which a condition is true, false and NULL.
func TestPromise13OfExecutedConditions(t *testing.T) {
	t.Parallel()
	wantParts(t, farm(t), 1117, askExecution(&numberSource{state: 1123}))
}

// TestPromise13OfExecutedQueries asks for the COUNT of a query, and for it twice less itself.
func TestPromise13OfExecutedQueries(t *testing.T) {
	t.Parallel()
	wantCounts(t, farm(t), 1129, askExecution(&numberSource{state: 1151}))
}

// TestPromise1OfExecution hands in schemas, states and physical plans of which many are not valid, and any numbers.
func TestPromise1OfExecution(t *testing.T) {
	t.Parallel()
	g := newCatalogGrower(&numberSource{state: 1153}, nil)
	codes := map[int]int{}
	for round := 0; round < 2500; round++ {
		whole := grownSchema(g, 4)
		s := oddSchema(g, whole)
		st := grownState(g.exprGrower, whole, 4)
		if len(st.Tables) > 0 && g.chance(3) {
			st = spoilState(g.exprGrower, st)
		}
		var f impl.Phys
		if len(whole.Tables) > 0 {
			grown := newPhysGrower(g.numberSource, whole, 1)
			f, _ = grown.grownPhys(round%4, round%2 == 0)
		}
		for range below(g.numberSource, 3) {
			oddPhys(g.grower, &f)
		}
		kept, keptPhys := copyState(st), copyPhys(f)
		if wantedSchemaOK(s) && wantedStateOK(s, st) {
			codes[wantExecution(t, s, st, f)]++
			continue
		}
		rows, work, code := impl.Execute(s, st, f)
		if len(rows)+work > 0 || code != impl.ErrBad || impl.PhysOK(s, f) != (wantedSchemaOK(s) && wantedPhysOK(s, f)) {
			t.Fatalf("%v, %v, %v: %v, %d, %d", s, st, f, rows, work, code)
		}
		if !sameState(st, kept) || !samePhys(f, keptPhys) {
			t.Fatalf("%v: an argument was written into", keptPhys)
		}
		codes[-1]++
	}
	if codes[-1] < 500 || codes[impl.OK] < 150 || codes[impl.ErrBad] < 150 {
		t.Errorf("%v", codes)
	}
}

// oddPhys puts any numbers into a node, or any node into the plan.
func oddPhys(g grower, f *impl.Phys) {
	if len(f.Nodes) == 0 || g.chance(8) {
		f.Nodes = append(f.Nodes, oddQNode(g, len(f.Nodes)))
		return
	}
	n := &f.Nodes[below(g.numberSource, len(f.Nodes))]
	numbers := []*int{&n.Op, &n.L, &n.R, &n.Table, &n.Index, &n.A, &n.B, &n.Est, &n.Cost}
	for _, list := range [][]int{n.Keys, n.RKeys, n.Kinds} {
		for i := range list {
			numbers = append(numbers, &list[i])
		}
	}
	for i := range n.Sorts {
		numbers = append(numbers, &n.Sorts[i].Col)
	}
	for i := range n.Aggs {
		numbers = append(numbers, &n.Aggs[i].Fn, &n.Aggs[i].Col)
	}
	*numbers[below(g.numberSource, len(numbers))] = g.pick(oddNumbers()...)
	switch below(g.numberSource, 8) {
	case 0:
		n.Exprs = append(n.Exprs, impl.Expr{Nodes: []impl.XNode{oddXNode(g), oddXNode(g)}})
	case 1:
		n.Exprs = nil
	case 2:
		n.Keys = append(n.Keys, g.pick(oddNumbers()...))
	case 3:
		n.RKeys = append(n.RKeys, g.pick(oddNumbers()...))
	}
}

// TestExecutionsApart writes into the rows of an answer: no other row of it, no table and no later answer may see it.
func TestExecutionsApart(t *testing.T) {
	s, _ := barn(t)
	for _, text := range []string{
		"t", "sought(t, 8, '1 0', 10)", "filtered(t, true)", "unionedall(t, t)", "sorted(t, 's1')", "topped(t, 's1', 3, 1)", "once(u)", "limited(t, 2, 1)", "exceptedall(t, sought(t, 0, '1 0', 1))", "semihashed(t, u, '0=0', true)",
		"antilooked(t, u, 7, 1, i0, true)", "semijoined(t, u, true)", "leftlooked(t, u, 7, 1, i0, true)", "lefthashed(t, u, '0=0', true)", "merged(t, u, '0=0', true)", "looked(k, k, 12, 1, i0, true)", "grouped(t, 'k2 all')", "projected(t, i0, i0)", "vals('ii', 1, 2, 3, 4)",
	} {
		_, st := barn(t)
		kept := copyState(st)
		f := readPhys(t, s, text)
		want, _, _ := wantedExecution(s, st, f)
		rows, _, _ := impl.Execute(s, st, f)
		if len(rows) == 0 {
			t.Errorf("%s gives no rows", text)
		}
		for i, row := range rows {
			if !slices.Equal(row, want[i]) {
				t.Fatalf("%s: row %d is %v", text, i, row)
			}
			_ = append(row, intv(77), intv(78))
			for k := range row {
				row[k] = textv(fmt.Sprint("written into ", i))
			}
		}
		if again, _, _ := impl.Execute(s, st, f); !sameValues(again, want) || !sameState(st, kept) {
			t.Errorf("%s: an answer shares memory", text)
		}
	}
}

// TestExecutionsAgain asks many times and at once: the answer hangs on no order in which a map is gone through, and on no call ahead.
func TestExecutionsAgain(t *testing.T) {
	s, st := barn(t)
	f := readPhys(t, s, "grouped(hashed(leftlooked(t, u, 7, 1, i0, true), merged(k, p, '0=2', true), '1=0', true), 'k0 k2 all max(9)')")
	want, work, code := impl.Execute(s, st, f)
	if code != impl.OK || len(want) == 0 {
		t.Fatalf("%v, %d, %d", want, work, code)
	}
	var all sync.WaitGroup
	same := make([]bool, 50)
	for i := range same {
		all.Go(func() {
			rows, spent, code := impl.Execute(s, st, f)
			same[i] = sameValues(rows, want) && spent == work && code == impl.OK
		})
	}
	all.Wait()
	if slices.Contains(same, false) {
		t.Errorf("an answer differs from %v", want)
	}
}
