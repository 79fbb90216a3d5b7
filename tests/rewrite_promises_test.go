package tests

import (
	"fmt"
	"maps"
	"slices"
	"sync"
	"testing"

	"loop.example/g00001/impl"
)

// tally counts what several tests have met.
type tally struct {
	sync.Mutex
	counts map[string]int
}

func (c *tally) add(what string) {
	c.Lock()
	defer c.Unlock()
	if c.counts == nil {
		c.counts = map[string]int{}
	}
	c.counts[what]++
}

func (c *tally) wantAtLeast(t *testing.T, least map[string]int) {
	t.Helper()
	for what, count := range least {
		if c.counts[what] < count {
			t.Errorf("%s: %d; want %d or more", what, c.counts[what], count)
		}
	}
	if t.Failed() {
		for _, what := range slices.Sorted(maps.Keys(c.counts)) {
			t.Logf("%s: %d", what, c.counts[what])
		}
	}
}

// wantRewritings asks all rewritings of a plan for what the reference answers, and for the same meaning in a state.
func wantRewritings(t *testing.T, s impl.Schema, st impl.State, p impl.Plan, met *tally) {
	t.Helper()
	for _, r := range rewritings() {
		q := wantRewriting(t, s, r, p)
		if samePlan(p, q) {
			continue
		}
		met.add(r.name)
		met.add(fmt.Sprintf("code %d", wantSameMeaning(t, s, st, p, q)))
		if rows, _, _ := wantedRows(st, q); len(rows) > 0 {
			met.add(r.name + " with rows")
		}
		for _, n := range q.Nodes {
			if n.Op == impl.PJoin && !slices.ContainsFunc(p.Nodes, func(m impl.PNode) bool { return m.Op == impl.PJoin && m.A == n.A }) {
				met.add(fmt.Sprintf("%s makes join %d", r.name, n.A))
			}
		}
	}
}

// TestP10ByChance grows plans and states in several runs at a time.
func TestP10ByChance(t *testing.T) {
	t.Parallel()
	s := estate(t)
	var met tally
	t.Run("all", func(t *testing.T) {
		for run := range 6 {
			t.Run(fmt.Sprint(run), func(t *testing.T) {
				t.Parallel()
				numbers := &numberSource{state: uint64(911 + run)}
				states := append(grownStates(numbers, s, 5, 12), packedState(s, 3), packedState(s, 5), packedState(s, 7), packedState(s, 9), packedState(s, 11), packedState(s, 12))
				for round := 0; round < 700; round++ {
					g := newPlanGrower(numbers, s, round%3)
					g.rich = true
					if p, fits := g.listed(g.grown(nil, round%6)); fits {
						wantRewritings(t, s, states[below(numbers, len(states))], p, &met)
					}
				}
			})
		}
	})
	met.wantAtLeast(t, map[string]int{
		"FoldPlan": 1500, "Decorrelate": 300, "SimplifyJoins": 40, "PushFilters": 900, "Rewrite": 1700, "FoldPlan with rows": 500, "Decorrelate with rows": 40, "SimplifyJoins with rows": 5,
		"PushFilters with rows": 200, "Rewrite with rows": 600, "Decorrelate makes join 4": 300, "Decorrelate makes join 5": 80, "SimplifyJoins makes join 1": 40,
		"code 0": 3000, "code 13": 80, "code 14": 5, "code 15": 100, "code 16": 300,
	})
}

// TestP10OfQueriesByChance goes from a query's tree to plans and their rows.
func TestP10OfQueriesByChance(t *testing.T) {
	t.Parallel()
	s := estate(t)
	numbers := &numberSource{state: 941}
	states := append(grownStates(numbers, s, 10, 12), packedState(s, 5), packedState(s, 9), packedState(s, 14))
	var met tally
	for round := 0; round < 400; round++ {
		q := newQueryGrower(numbers, s, 1+round%2)
		if p, _, code, _ := impl.Bind(s, inTree(q.query(q.kinds(1, 3), false))); code == impl.OK {
			wantRewritings(t, s, states[below(numbers, len(states))], p, &met)
		}
	}
	met.wantAtLeast(t, map[string]int{"FoldPlan": 100, "PushFilters": 100, "Rewrite": 150, "code 0": 200})
}

// TestP10OfQueries has queries as they are asked, over rows that many of them find.
func TestP10OfQueries(t *testing.T) {
	s := estate(t)
	var met tally
	for _, text := range []string{
		"select id from t where exists (select 1 from u where u.id = t.id) and not exists (select 1 from u where u.a = t.id and u.w)",
		"select id, a from t where id in (select id from u where u.y = t.b) order by 2 desc, 1",
		"select t.id, u.x from t left join u on t.id = u.a where u.x > 0.4 and t.b = 'x' or u.x > 1.1",
		"select t.id, u.x from t left join u on t.id = u.a and u.w where u.y like '%' and t.d",
		"select y, n from (select y, count(*) as n, max(a) as m from u group by y) as q where y = 'x' and n > 1",
		"select * from (select id, b from t union select id, y from u) as q where id > 2 and b = 'y'",
		"select * from (select id from t except all select id from u where id < 3) as q where id <> 5",
		"select q.id, r.id from (select id, a from t where d) as q join (select id, a from t) as r on q.a = r.a where q.id < r.id and r.id > 3",
		"select distinct b from t where 1 = 1 and (select count(*) from u where u.id = t.id) >= 0",
		"select id from t where id in (select id from u where exists (select 1 from p where p.n = u.a + 5)) and id not in (select k from \"k 1\" where k is not null)",
		"select id from t where exists (select 1 from u, p where u.a = p.m and u.id = t.id)",
		"select id from t where 1 = 2 union all select id from u where id between 1 and 4 limit 3",
		"select count(*) from t where exists (select 1 from u where false) or a = 1",
		"select a, count(*) from t where b = 'x' group by a having a is not null order by 1",
	} {
		p := boundPlan(t, s, text)
		for _, count := range []int{0, 1, 4, 9, 20} {
			wantRewritings(t, s, packedState(s, count), p, &met)
		}
		if rows, _ := impl.Meaning(s, packedState(s, 9), p); len(rows) == 0 {
			t.Errorf("%s gives no rows", text)
		}
	}
	met.wantAtLeast(t, map[string]int{"FoldPlan with rows": 5, "Decorrelate with rows": 10, "SimplifyJoins with rows": 3, "PushFilters with rows": 20, "Rewrite with rows": 30})
}

// TestRewriteIsAllFive asks for Rewrite what the others answer one behind the other.
func TestRewriteIsAllFive(t *testing.T) {
	wantRewrites(t, "Rewrite", []rewriteCase{
		{"filtered(t, some(filtered(k, true and i0 = r1.i0)) and 1 = 1)", "semijoined(t, k, i6 = i0)"},
		{"filtered(leftjoined(t, k, i0 = i6 and true), i6 = 1 + 1)", "joined(t, filtered(k, i0 = 2), i0 = i6)"},
		{"filtered(once(projected(t, i1)), i0 = 1 and among(i0, filtered(k, i0 > 0)))", "semijoined(once(projected(filtered(t, i1 = 1), i1)), filtered(k, i0 > 0), i0 = i1)"},
		// What is pushed down is folded there.
		{"filtered(joined(k, k, true), false and some(u))", "vals('ii')"},
		{"filtered(antijoined(k, k, i0 = i1), among(i0, filtered(k, false)))", "vals('i')"},
		{"filtered(k, not some(filtered(k, 1 = 2)))", "k"},
		{"unioned(filtered(k, false), filtered(k, null))", "vals('i')"},
		{"filtered(unioned(filtered(k, false), filtered(k, null)), i0 = 1)", "vals('i')"},
	})
	s := estate(t)
	numbers := &numberSource{state: 953}
	for round := 0; round < 300; round++ {
		g := newPlanGrower(numbers, s, round%3)
		g.rich = true
		p, fits := g.listed(g.grown(nil, round%6))
		if !fits {
			continue
		}
		want := p
		for _, call := range []func(s impl.Schema, p impl.Plan) (impl.Plan, int){impl.FoldPlan, impl.Decorrelate, impl.SimplifyJoins, impl.PushFilters, impl.FoldPlan} {
			want, _ = call(s, want)
		}
		if got, code := impl.Rewrite(s, p); code != impl.OK || !samePlan(got, want) {
			t.Fatalf("%s\nis %d\n%s\nnot\n%s", shortPlan(p), code, shortPlan(got), shortPlan(want))
		}
	}
}

// TestPromise1OfRewriting hands in schemas and plans of which many are not valid.
func TestPromise1OfRewriting(t *testing.T) {
	t.Parallel()
	g := newCatalogGrower(&numberSource{state: 967}, nil)
	codes := map[int]int{}
	for round := 0; round < 1200; round++ {
		whole := grownSchema(g, 4)
		s := oddSchema(g, whole)
		var p impl.Plan
		if len(whole.Tables) > 0 {
			grown := newPlanGrower(g.numberSource, whole, 1)
			grown.rich = round%2 == 0
			p, _ = grown.listed(grown.grown(nil, round%5))
		}
		if len(p.Nodes) > 0 && g.chance(3) {
			at := below(g.numberSource, len(p.Nodes))
			p.Nodes[at] = oddPNode(g.grower, p.Nodes[at])
		} else if len(p.Nodes) > 0 && g.chance(3) {
			spoilPlan(g.grower, p)
		}
		valid := wantedSchemaOK(s)
		for _, r := range rewritings() {
			if valid {
				wantRewriting(t, s, r, p)
			}
			q, code := r.call(s, p)
			if !valid && (code != impl.ErrBad || len(q.Nodes) > 0) {
				t.Fatalf("%s with a schema that is not valid: %d", r.name, code)
			}
			codes[code]++
		}
	}
	if codes[impl.OK] < 500 || codes[impl.ErrBad] < 1000 {
		t.Errorf("%v", codes)
	}
}

func TestRewriteWrongPlans(t *testing.T) {
	s := estate(t)
	good := readPlan(t, s, "filtered(leftjoined(t, k, i0 = i6), i6 = 1 and some(k))")
	bad := s
	bad.Next = 0
	for _, r := range rewritings() {
		for what, c := range map[string]struct {
			s    impl.Schema
			p    impl.Plan
			code int
		}{
			"valid": {s, good, impl.OK}, "no nodes": {s, impl.Plan{}, impl.ErrBad}, "no schema": {impl.Schema{}, good, impl.ErrBad}, "a schema without tables": {impl.Schema{Next: 1}, good, impl.ErrBad},
			"a wrong schema": {bad, good, impl.ErrBad}, "no root": {s, impl.Plan{Nodes: good.Nodes[:2]}, impl.ErrBad}, "part of it": {s, impl.Plan{Nodes: good.Nodes[1:]}, impl.ErrBad},
			"a table that is not there": {s, impl.Plan{Nodes: []impl.PNode{{Op: impl.PScan, L: -1, R: -1, Table: 2, Kinds: []int{1}}}}, impl.ErrBad},
		} {
			q, code := r.call(c.s, c.p)
			if code != c.code || (len(q.Nodes) > 0) != (code == impl.OK) {
				t.Errorf("%s, %s: %d, %d nodes", r.name, what, code, len(q.Nodes))
			}
		}
	}
}

// TestRewriteAnswersApart writes into each node of an answer: no other node of it, and no argument, may see it.
func TestRewriteAnswersApart(t *testing.T) {
	s := estate(t)
	for _, text := range []string{
		"filtered(unioned(sorted(k, 's0d'), grouped(k, 'k0')), i0 in (1, 2) and some(k))", "leftjoined(t, vals('it'), true)", "filtered(t, among(i0, filtered(k, i0 between 1 and 2)))",
		"filtered(leftjoined(t, k, i0 = i6), i6 = 1)", "limited(projected(grouped(filtered(once(t), true), 'k0 all max(1)'), i0, i1), 3, 1)", "unionedall(unioned(k, k), sorted(k, 's0 s0d'))",
	} {
		for _, r := range rewritings() {
			p := copyPlan(readPlan(t, s, text))
			kept := copyPlan(p)
			q, _ := r.call(s, p)
			for i := range q.Nodes {
				before := copyPlan(q)
				writeInto(&q.Nodes[i])
				before.Nodes[i] = q.Nodes[i]
				if !samePlan(q, before) || !samePlan(p, kept) {
					t.Fatalf("%s of %s: what is written into node %d is seen elsewhere", r.name, text, i)
				}
			}
		}
		again := readPlan(t, s, text)
		q, _ := impl.PushFilters(s, again)
		wantApart(t, text, listsOfPlan(q))
	}
}

func writeInto(n *impl.PNode) {
	for i := range n.Kinds {
		n.Kinds[i] = 77
	}
	for i := range n.Keys {
		n.Keys[i] = 77
	}
	for i := range n.Aggs {
		n.Aggs[i].Fn = 77
	}
	for i := range n.Sorts {
		n.Sorts[i].Col = 77
	}
	for _, e := range n.Exprs {
		for i := range e.Nodes {
			e.Nodes[i].A = 77
			for k := range e.Nodes[i].Kids {
				e.Nodes[i].Kids[k] = 77
			}
		}
	}
}
