package tests

import (
	"fmt"
	"slices"
	"sync"
	"testing"

	"loop.example/g00001/impl"
)

// wantChoice asks Choose of a valid schema for what the reference answers, twice; it tells the answer.
func wantChoice(t *testing.T, s impl.Schema, x impl.Stats, p impl.Plan) (impl.Phys, int) {
	t.Helper()
	keptStats, keptPlan := copyStats(x), copyPlan(p)
	want, wantCode := wantedPhys(s, x, p)
	got, code := impl.Choose(s, x, p)
	if code != wantCode || !samePhys(got, want) {
		t.Fatalf("%s\nby %v is %d\n%s%+v\nnot %d\n%s%+v", shortPlan(p), x, code, impl.Explain(got), got, wantCode, impl.Explain(want), want)
	}
	if again, _ := impl.Choose(s, x, p); !samePhys(got, again) {
		t.Fatalf("%s\nby %v is\n%sand\n%s", shortPlan(p), x, impl.Explain(got), impl.Explain(again))
	}
	if !samePlan(p, keptPlan) || !sameStats(x, keptStats) {
		t.Fatalf("Choose wrote into %s", shortPlan(keptPlan))
	}
	return got, code
}

// orderAsked tells what a plan's root asks for: the keys in whose order its rows come, as far as they are still columns of it, and whether they come in just one.
func orderAsked(p impl.Plan) (keys []impl.SortKey, exact bool) {
	at := len(p.Nodes) - 1
	var over []impl.PNode
	for p.Nodes[at].Op == impl.PLimit || p.Nodes[at].Op == impl.PProject {
		over = append(over, p.Nodes[at])
		exact = exact || p.Nodes[at].Op == impl.PLimit
		at = p.Nodes[at].L
	}
	if p.Nodes[at].Op != impl.PSort {
		return nil, false
	}
	keys = p.Nodes[at].Sorts
	for _, n := range slices.Backward(over) {
		if n.Op == impl.PProject {
			keys = projectedKeys(keys, n.Exprs)
		}
	}
	return keys, exact
}

// projectedKeys are keys by the columns that a PProject makes of theirs, up to the first that it makes none of.
func projectedKeys(keys []impl.SortKey, exprs []impl.Expr) []impl.SortKey {
	var list []impl.SortKey
	for _, key := range keys {
		place := slices.IndexFunc(exprs, func(e impl.Expr) bool {
			x := e.Nodes[0]
			return len(e.Nodes) == 1 && x.Op == impl.XCol && x.A == 0 && x.B == key.Col
		})
		if place < 0 {
			break
		}
		key.Col = place
		list = append(list, key)
	}
	return list
}

// wantExecuted asks that a physical plan gives what the plan means: when it is executed, and spelled out by the words of chapter 11; it tells the rows and the code of the execution.
func wantExecuted(t *testing.T, s impl.Schema, st impl.State, p impl.Plan, f impl.Phys) ([][]impl.Value, int) {
	t.Helper()
	want, code := impl.Meaning(s, st, p)
	spelled, spelledCode, _ := wantedRows(st, spelledOut(t, s, f))
	executedCode := wantExecution(t, s, st, f)
	executed, _, _ := impl.Execute(s, st, f)
	for i, got := range [][][]impl.Value{spelled, executed} {
		gotCode := []int{spelledCode, executedCode}[i]
		if code == impl.ErrFuel || gotCode == impl.ErrFuel {
			continue
		}
		if code != gotCode || !lets(p, want, got) {
			t.Fatalf("%s\nis %d %v\n%sis %d %v\nover %v", shortPlan(p), code, want, impl.Explain(f), gotCode, got, st)
		}
	}
	return executed, executedCode
}

// lets tells whether rows are the same as those that a plan means, in an order that its root lets be.
func lets(p impl.Plan, want, got [][]impl.Value) bool {
	keys, exact := orderAsked(p)
	same := sameValues(sortedRows(want), sortedRows(got)) && (!exact || sameValues(want, got))
	if len(keys) == 0 {
		return same
	}
	o := &outcome{}
	o.sort(impl.PNode{Sorts: keys}, got)
	return same && sameValues(o.rows, got)
}

// tellChoice counts what a physical plan has.
func tellChoice(met *tally, f impl.Phys) {
	for i, n := range f.Nodes {
		met.add(fmt.Sprintf("op %d", n.Op))
		switch n.Op {
		case impl.QSeek:
			met.add(fmt.Sprintf("seek %d.%d", n.A, n.B))
		case impl.QHash, impl.QLook:
			met.add(fmt.Sprintf("op %d join %d", n.Op, n.A))
		case impl.QFilter:
			if n.L >= 0 && f.Nodes[n.L].Op == impl.QProject && f.Nodes[f.Nodes[n.L].L].Op >= impl.QLoop && f.Nodes[f.Nodes[n.L].L].Op <= impl.QLook {
				met.add("over a region")
			}
		}
		if n.Op == impl.QLook {
			met.add(fmt.Sprintf("look %d", n.B))
		}
		if n.Op >= impl.QLoop && n.Op <= impl.QLook && i > 0 && f.Nodes[i-1].Op >= impl.QLoop && f.Nodes[i-1].Op <= impl.QLook {
			met.add("join over join")
		}
	}
}

// wantPromises asks Choose for what the reference chooses, with indexes and without, and both for what the plan means.
func wantPromises(t *testing.T, s impl.Schema, x impl.Stats, st impl.State, p impl.Plan, met *tally) {
	t.Helper()
	f, code := wantChoice(t, s, x, p)
	if code != impl.OK {
		t.Fatalf("%s: %d", shortPlan(p), code)
	}
	tellChoice(met, f)
	got, code := wantExecuted(t, s, st, p, f)
	met.add(fmt.Sprintf("code %d", code))
	if len(got) > 0 {
		met.add("rows")
	}
	// P12: without indexes there is another plan, and the same answer.
	bare := withoutIndexes(s)
	without, _ := wantChoice(t, bare, x, p)
	other, otherCode := wantExecuted(t, bare, st, p, without)
	if code != impl.ErrFuel && otherCode != impl.ErrFuel && (code != otherCode || !sameValues(sortedRows(got), sortedRows(other))) {
		t.Fatalf("%s is %d %v, without indexes %d %v", shortPlan(p), code, got, otherCode, other)
	}
	if !samePhys(f, without) {
		met.add("other without indexes")
	}
}

// TestP11AndP12ByChance has statistics of which most have nothing to do with the rows: no answer hangs on them.
func TestP11AndP12ByChance(t *testing.T) {
	t.Parallel()
	s := farm(t)
	var met tally
	t.Run("all", func(t *testing.T) {
		for run := range 6 {
			t.Run(fmt.Sprint(run), func(t *testing.T) {
				t.Parallel()
				numbers := &numberSource{state: uint64(1013 + run)}
				states := append(grownStates(numbers, s, 5, 12), packedState(s, 3), packedState(s, 5), packedState(s, 7), packedState(s, 9), packedState(s, 12))
				for round := 0; round < 600; round++ {
					g := newChoiceGrower(numbers, s, round%3)
					p, fits := g.listed(g.plan(nil, round%5))
					if !fits {
						continue
					}
					if round%4 == 0 {
						p, _ = impl.Rewrite(s, p)
					}
					st := states[below(numbers, len(states))]
					x := g.grownStats(s)
					if round%8 == 0 {
						x, _ = impl.Analyze(s, st)
					}
					wantPromises(t, s, x, st, p, &met)
				}
			})
		}
	})
	met.wantAtLeast(t, map[string]int{
		"op 1": 4000, "op 2": 500, "op 3": 500, "op 4": 1500, "op 5": 2000, "op 6": 1500, "op 7": 200, "op 8": 70, "op 9": 700, "op 10": 200, "op 11": 200, "op 12": 300, "op 13": 20, "op 14": 600, "op 15": 150, "op 16": 150,
		"op 7 join 1": 150, "op 7 join 2": 10, "op 7 join 4": 5, "op 7 join 5": 5, "op 9 join 1": 600, "op 9 join 2": 20, "op 9 join 4": 15, "op 9 join 5": 5, "look 1": 600, "look 2": 50, "seek 1.0": 200, "seek 2.0": 10,
		"seek 0.1": 50, "seek 0.3": 50, "seek 0.4": 50, "seek 0.12": 50, "over a region": 20, "join over join": 300, "other without indexes": 700, "rows": 700, "code 0": 2500, "code 13": 10, "code 15": 20, "code 16": 30,
	})
}

// TestP11AndP12OfQueriesByChance goes from a query's tree to what is chosen.
func TestP11AndP12OfQueriesByChance(t *testing.T) {
	t.Parallel()
	s := farm(t)
	numbers := &numberSource{state: 1031}
	states := append(grownStates(numbers, s, 10, 12), packedState(s, 5), packedState(s, 9), packedState(s, 14))
	var met tally
	for round := 0; round < 500; round++ {
		q := newQueryGrower(numbers, s, 1+round%2)
		p, _, code, _ := impl.Bind(s, inTree(q.query(q.kinds(1, 3), false)))
		if code != impl.OK {
			continue
		}
		if round%2 == 0 {
			p, _ = impl.Rewrite(s, p)
		}
		wantPromises(t, s, grower{numbers}.grownStats(s), states[below(numbers, len(states))], p, &met)
	}
	met.wantAtLeast(t, map[string]int{"code 0": 200, "rows": 100})
}

// TestP11AndP12OfQueries has queries as they are asked, rewritten and chosen by what stands in the tables.
func TestP11AndP12OfQueries(t *testing.T) {
	s := farm(t)
	var met tally
	for _, text := range []string{
		"select * from t where id = 4", "select a from t where id > 2 and id <= 7 and d", "select id from t where a = 1 and b = 'x'", "select * from p where n = 7 and k > 'w' and k <= 'y'",
		"select t.id, u.x from t join u on t.id = u.a where u.w", "select t.id, u.x from t left join u on t.id = u.a and u.w order by 1", "select count(*) from t, u, p where t.id = u.a and u.a = p.m and t.d = u.w",
		"select t.id from t join u on t.c = u.x order by t.id, u.a limit 5 offset 2", "select t.b, count(*), max(u.a) from t join u on t.b = u.y group by t.b order by 1", "select id from t where exists (select 1 from u where u.a = t.id and u.w)",
		"select id from t where not exists (select 1 from p where p.m = t.id and p.x > 0.0003)", "select id from t where a in (select id from u) union select a from u where a > 3", "select a from u where id = 3 except select a from t",
		"select x.id from t as x, t as y, t as z where x.a = y.a and y.b = z.b and z.id = 2 and x.d", "select distinct t.a from t join u on t.id = u.id join p on p.n = u.a where p.k = 'x'",
		"select id, (select count(*) from u where u.id = t.a) from t where id between 2 and 6", "select u.a from u join (select id, a from t where a is not null limit 6) as q on q.id = u.a order by 1 desc limit 3",
	} {
		p := boundPlan(t, s, text)
		for _, count := range []int{0, 1, 4, 9, 20, 60} {
			st := packedState(s, count)
			x, _ := impl.Analyze(s, st)
			rewritten, _ := impl.Rewrite(s, p)
			wantPromises(t, s, x, st, p, &met)
			wantPromises(t, s, x, st, rewritten, &met)
		}
		if rows, code := impl.Meaning(s, packedState(s, 9), p); len(rows) == 0 {
			t.Errorf("%s gives no rows: %d", text, code)
		}
	}
	met.wantAtLeast(t, map[string]int{"op 2": 20, "op 7": 10, "op 8": 2, "op 9": 20, "op 13": 5, "rows": 100})
}

// TestPromise1OfPlanning hands in schemas, states, statistics and plans of which many are not valid.
func TestPromise1OfPlanning(t *testing.T) {
	t.Parallel()
	g := newCatalogGrower(&numberSource{state: 1033}, nil)
	codes := map[string]int{}
	for round := 0; round < 1500; round++ {
		whole := grownSchema(g, 4)
		s := oddSchema(g, whole)
		var p impl.Plan
		if len(whole.Tables) > 0 {
			grown := newChoiceGrower(g.numberSource, whole, 1)
			p, _ = grown.listed(grown.plan(nil, round%4))
		}
		if len(p.Nodes) > 0 && g.chance(4) {
			at := below(g.numberSource, len(p.Nodes))
			p.Nodes[at] = oddPNode(g.grower, p.Nodes[at])
		} else if len(p.Nodes) > 0 && g.chance(4) {
			spoilPlan(g.grower, p)
		}
		x := g.oddStats(g.grownStats(whole))
		valid := wantedSchemaOK(s)
		if valid {
			wantChoice(t, s, x, p)
		}
		f, code := impl.Choose(s, x, p)
		if !valid && code != impl.ErrBad || code != impl.OK && len(f.Nodes) > 0 {
			t.Fatalf("Choose: %d, %d nodes", code, len(f.Nodes))
		}
		codes[fmt.Sprint("Choose ", code)]++
		impl.Explain(f)
		st := emptyState(whole)
		if len(whole.Tables) > 0 {
			st = grownState(exprGrower{grower: g.grower}, whole, 3)
		}
		if len(st.Tables) > 0 && g.chance(4) {
			at := &st.Tables[below(g.numberSource, len(st.Tables))]
			at.Id, at.Rows = g.pick(oddNumbers()...), append(at.Rows, []impl.Value{intv(1)})
		}
		wantAnalysis(t, s, st)
		_, code = impl.Analyze(s, st)
		codes[fmt.Sprint("Analyze ", code)]++
	}
	for _, what := range []string{"Choose 0", "Choose 1", "Analyze 0", "Analyze 1"} {
		if codes[what] < 200 {
			t.Errorf("%v", codes)
		}
	}
}

// oddStats are statistics of which now and then a number is spoilt.
func (g grower) oddStats(x impl.Stats) impl.Stats {
	if len(x.Tables) == 0 || !g.chance(3) {
		return x
	}
	numbers := &x.Tables[below(g.numberSource, len(x.Tables))]
	switch below(g.numberSource, 5) {
	case 0:
		numbers.Id = g.pick(oddNumbers()...)
	case 1:
		numbers.Rows = g.pick(oddNumbers()...)
	case 2:
		numbers.Distinct[below(g.numberSource, len(numbers.Distinct))] = g.pick(oddNumbers()...)
	case 3:
		numbers.Distinct = numbers.Distinct[1:]
	case 4:
		x.Tables = append(x.Tables, *numbers)
	}
	return x
}

// TestChoicesApart writes into each node of an answer: no other node of it, and no argument, may see it.
func TestChoicesApart(t *testing.T) {
	s := farm(t)
	for _, text := range []string{
		"joined(joined(t, k, i0 = i6 and some(filtered(u, i0 = r1.i6))), p, i0 = i8 and i1 in (1, 2))", "limited(sorted(grouped(t, 'k0 k1 all max(1)'), 's0 s1d'), 3, 1)", "leftjoined(t, u, i0 = i6 and d3 = d7 and b4)",
		"filtered(t, i0 = coalesce(1, 2) and (b4 or some(once(k))))", "unioned(sorted(k, 's0'), vals('i', 1, 2))", "leftjoined(k, filtered(t, b4 in (true, false)), i1 = coalesce(i0, 1) and t3 like 'x')", "joined(t, u, d3 = d7)",
		"joined(k, joined(k, k, i0 = i1), i0 = i2)", "projected(excepted(k, k), i0, coalesce(i0, 1))",
	} {
		p, x := readPlan(t, s, text), farmStats()
		kept, keptStats := copyPlan(p), copyStats(x)
		f, _ := impl.Choose(s, x, p)
		for i := range f.Nodes {
			before := copyPhys(f)
			writeIntoPhys(&f.Nodes[i])
			before.Nodes[i] = f.Nodes[i]
			if !samePhys(f, before) || !samePlan(p, kept) || !sameStats(x, keptStats) {
				t.Fatalf("%s: what is written into node %d is seen elsewhere", text, i)
			}
		}
		f, _ = impl.Choose(s, x, p)
		var lists [][]int
		for _, n := range f.Nodes {
			lists = append(lists, n.Keys, n.RKeys, n.Kinds)
			for _, e := range n.Exprs {
				lists = append(lists, kidsOfExpr(e)...)
			}
		}
		wantApart(t, text, lists)
	}
}

func copyPhys(f impl.Phys) impl.Phys {
	copied := impl.Phys{Nodes: slices.Clone(f.Nodes)}
	for i, n := range copied.Nodes {
		to := &copied.Nodes[i]
		to.Keys, to.RKeys, to.Aggs, to.Sorts, to.Kinds = slices.Clone(n.Keys), slices.Clone(n.RKeys), slices.Clone(n.Aggs), slices.Clone(n.Sorts), slices.Clone(n.Kinds)
		to.Exprs = nil
		for _, e := range n.Exprs {
			to.Exprs = append(to.Exprs, copyExpr(e))
		}
	}
	return copied
}

func writeIntoPhys(n *impl.QNode) {
	written := impl.PNode{Exprs: n.Exprs, Keys: n.Keys, Aggs: n.Aggs, Sorts: n.Sorts, Kinds: n.Kinds}
	writeInto(&written)
	for i := range n.RKeys {
		n.RKeys[i] = 77
	}
}

// TestChoicesAtOnce asks many goroutines for the same plan: the answer hangs on no schedule.
func TestChoicesAtOnce(t *testing.T) {
	s := farm(t)
	p := readPlan(t, s, "joined(joined(joined(joined(joined(t, k, i0 = i6), u, i0 = i7), k, i6 = i13), p, i0 = i15), vals('i', 1, 2), i18 = i0)")
	want, code := wantChoice(t, s, farmStats(), p)
	if code != impl.OK {
		t.Fatalf("%d", code)
	}
	var all sync.WaitGroup
	answers := make([]impl.Phys, 50)
	for i := range answers {
		all.Go(func() { answers[i], _ = impl.Choose(s, farmStats(), p) })
	}
	all.Wait()
	for _, got := range answers {
		if !samePhys(got, want) {
			t.Fatalf("%s and\n%s", impl.Explain(got), impl.Explain(want))
		}
	}
}
