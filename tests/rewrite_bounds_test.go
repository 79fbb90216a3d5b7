package tests

import (
	"testing"

	"loop.example/g00001/impl"
)

// grove makes plans of many nodes, over the table k of the estate.
type grove struct {
	planner
	table impl.Table
}

func newGrove(t *testing.T) *grove {
	t.Helper()
	s := estate(t)
	return &grove{planner{schema: s}, s.Tables[2]}
}

func (g *grove) k() *shrub { return scanned(g.table, "").plan }

func (g *grove) filter(l *shrub, conditions ...*branch) *shrub {
	whole := conditions[0]
	for _, next := range conditions[1:] {
		whole = binOf(impl.OpAnd, whole, next)
	}
	return sameRows(l, impl.PNode{Op: impl.PFilter}, whole)
}

func (g *grove) onces(l *shrub, count int) *shrub {
	for range count {
		l = sameRows(l, impl.PNode{Op: impl.PDistinct})
	}
	return l
}

func (g *grove) join(kind int, l, r *shrub, on *branch) *shrub {
	node := impl.PNode{Op: impl.PJoin, A: kind, Kinds: []int{impl.Int, impl.Int}}
	return &shrub{node, l, r, []*branch{on}}
}

func (g *grove) exists(plan *shrub) *branch {
	g.plans = append(g.plans, plan)
	return &branch{XNode: impl.XNode{Op: impl.XExists, Kind: impl.Bool, B: len(g.plans) - 1}}
}

func (g *grove) among(kid *branch, plan *shrub) *branch {
	g.plans = append(g.plans, plan)
	return &branch{impl.XNode{Op: impl.XInPlan, Kind: impl.Bool, B: len(g.plans) - 1}, []*branch{kid}}
}

// questions are so many conditions EXISTS (k).
func (g *grove) questions(count int) []*branch {
	var list []*branch
	for range count {
		list = append(list, g.exists(g.k()))
	}
	return list
}

// unions is a PUnion of so many tables.
func (g *grove) unions(count int) *shrub {
	made := g.k()
	for range count - 1 {
		made = &shrub{PNode: impl.PNode{Op: impl.PUnion, A: 1, Kinds: made.Kinds}, l: made, r: g.k()}
	}
	return made
}

// nots is a condition of so many nodes on a row of two columns of Int.
func nots(count int) *branch {
	made := binOf(impl.OpEq, columnOf(impl.Int, 0, 0), columnOf(impl.Int, 0, 1))
	for range count - 3 {
		made = unOf(impl.OpNot, made)
	}
	return made
}

// wantWithin asks a rewriting for a change of a plan, or for the plan itself where it would have too many nodes.
func (g *grove) wantWithin(t *testing.T, what, name string, root *shrub, fits bool) {
	t.Helper()
	p := impl.Plan{Nodes: g.lay(root, nil)}
	if !impl.PlanOK(g.schema, p) {
		t.Fatalf("%s: %d nodes are no valid plan", what, len(p.Nodes))
	}
	got := wantRewriting(t, g.schema, rewritingNamed(name), p)
	if samePlan(got, p) == fits {
		t.Errorf("%s: %s of %d nodes has %d nodes", what, name, len(p.Nodes), len(got.Nodes))
	}
}

func TestRewriteMaxPlan(t *testing.T) {
	g := newGrove(t)
	one := binOf(impl.OpEq, columnOf(impl.Int, 0, 0), constOf(intv(1)))
	for more, fits := range []bool{true, true, false} {
		g.wantWithin(t, "questions", "Decorrelate", g.onces(g.filter(g.k(), g.questions(99)...), more), fits)
		g.wantWithin(t, "questions and a condition", "Decorrelate", g.onces(g.filter(g.k(), append(g.questions(99), one)...), more-1), fits)
		g.wantWithin(t, "questions within", "Decorrelate", g.filter(g.k(), unOf(impl.OpNot, unOf(impl.OpNot, g.exists(g.onces(g.filter(g.k(), g.questions(97)...), more+2))))), fits)
	}
	for more, fits := range []bool{true, false} {
		g.wantWithin(t, "unions", "PushFilters", g.onces(g.filter(g.unions(67), one), more), fits)
		g.wantWithin(t, "unions within", "PushFilters", project(g.k(), []*branch{g.exists(g.onces(g.filter(g.unions(66), one), more+1))}), fits)
	}
	// Plans of MaxPlan nodes may become smaller, and stay as large.
	outer := g.filter(g.join(impl.JoinLeft, g.k(), g.k(), constOf(boolv(true))), binOf(impl.OpEq, columnOf(impl.Int, 0, 1), constOf(intv(1))))
	g.wantWithin(t, "a left join in 200 nodes", "SimplifyJoins", g.onces(outer, 196), true)
	g.wantWithin(t, "a filter in 200 nodes", "FoldPlan", g.onces(g.filter(g.k(), constOf(boolv(true))), 198), true)
	g.wantWithin(t, "a condition in 200 nodes", "PushFilters", g.filter(g.onces(g.k(), 198), one), true)
	for _, r := range rewritings() {
		p := impl.Plan{Nodes: g.lay(g.onces(outer, 197), nil)}
		if q, code := r.call(g.schema, p); code != impl.ErrBad || len(q.Nodes) > 0 {
			t.Errorf("%s of %d nodes: %d", r.name, len(p.Nodes), code)
		}
	}
}

func TestRewriteMaxItems(t *testing.T) {
	g := newGrove(t)
	wide := func() *shrub {
		return project(g.k(), []*branch{columnOf(impl.Int, 0, 0), columnOf(impl.Int, 0, 0)})
	}
	yes := constOf(boolv(true))
	for more, fits := range []bool{true, false} {
		// Two conditions and the AND between them.
		g.wantWithin(t, "two filters", "PushFilters", g.filter(g.filter(wide(), nots(200)), nots(199+more)), fits)
		g.wantWithin(t, "a filter and a join", "PushFilters", g.filter(g.join(impl.JoinInner, g.k(), g.k(), nots(200)), nots(199+more)), fits)
		g.wantWithin(t, "a cast more", "PushFilters", g.filter(wide(), constOf(null), nots(397+more)), fits)
		g.wantWithin(t, "two filters of a query", "Decorrelate", g.filter(g.k(), g.exists(g.filter(g.filter(wide(), nots(200)), nots(199+more)))), fits)
		g.wantWithin(t, "a question and a filter", "Decorrelate", g.filter(g.k(), g.among(columnOf(impl.Int, 0, 0), g.filter(g.k(), manyNots(396+more)))), fits)
		g.wantWithin(t, "a question about what is projected", "Decorrelate", g.filter(g.k(), g.among(yes, project(g.k(), []*branch{manyNots(398 + more)}))), fits)
		// One such expression anywhere lets all stay as it is.
		long := g.exists(g.filter(g.filter(wide(), nots(200)), nots(199+more)))
		g.wantWithin(t, "a query within", "PushFilters", g.filter(g.onces(g.k(), 1), binOf(impl.OpEq, columnOf(impl.Int, 0, 0), constOf(intv(1))), unOf(impl.OpNot, long)), fits)
		side := &shrub{PNode: impl.PNode{Op: impl.PUnion, Kinds: []int{impl.Int, impl.Int}}, l: g.filter(g.onces(wide(), 1), nots(3)), r: g.filter(g.filter(wide(), nots(200)), nots(199+more))}
		g.wantWithin(t, "a side", "PushFilters", side, fits)
	}
	g.wantWithin(t, "nothing to push", "PushFilters", g.onces(g.k(), 1), false)
}

// TestRewriteAroundBounds has plans of which one step would be too much: the others are done all the same.
func TestRewriteAroundBounds(t *testing.T) {
	g := newGrove(t)
	root := g.filter(g.onces(g.filter(g.k(), g.questions(100)...), 1), binOf(impl.OpEq, columnOf(impl.Int, 0, 0), binOf(impl.OpAdd, constOf(intv(1)), constOf(intv(1)))))
	p := impl.Plan{Nodes: g.lay(root, nil)}
	got := wantRewriting(t, g.schema, rewritingNamed("Rewrite"), p)
	if len(got.Nodes) != len(p.Nodes) || got.Nodes[1].Op != impl.PFilter || impl.ExprText(got.Nodes[1].Exprs[0]) != "(#0 = 2)" || got.Nodes[len(got.Nodes)-1].Op != impl.PDistinct {
		t.Errorf("Rewrite has %d nodes: %s", len(got.Nodes), shortPlan(got))
	}
	p = impl.Plan{Nodes: g.lay(g.filter(g.unions(68), constOf(boolv(true)), binOf(impl.OpEq, columnOf(impl.Int, 0, 0), constOf(intv(1)))), nil)}
	got = wantRewriting(t, g.schema, rewritingNamed("Rewrite"), p)
	if last := got.Nodes[len(got.Nodes)-1]; len(got.Nodes) != len(p.Nodes) || impl.ExprText(last.Exprs[0]) != "(#0 = 1)" {
		t.Errorf("Rewrite has %d nodes: %s", len(got.Nodes), shortPlan(got))
	}
}
