package tests

import (
	"testing"

	"loop.example/g00001/impl"
)

// wantRoom asks Choose for a plan of so many nodes, or for ErrBig.
func (g *grove) wantRoom(t *testing.T, what string, x impl.Stats, root *shrub, nodes int) {
	t.Helper()
	p := impl.Plan{Nodes: g.lay(root, nil)}
	if !impl.PlanOK(g.schema, p) {
		t.Errorf("%s: a plan of %d nodes is not valid", what, len(p.Nodes))
		return
	}
	f, code := wantChoice(t, g.schema, x, p)
	if len(f.Nodes) != nodes || code == impl.OK != (nodes > 0) || code != impl.OK && code != impl.ErrBig {
		t.Errorf("%s of %d nodes: %d, %d nodes; want %d", what, len(p.Nodes), code, len(f.Nodes), nodes)
	}
}

func TestChooseMaxPlan(t *testing.T) {
	g := newGrove(t)
	x := evenStats(g.schema, 20, 4)
	yes := constOf(boolv(true))
	g.wantRoom(t, "200 nodes", x, g.onces(g.k(), 199), 200)
	// The columns of a region are put back by a node more.
	g.wantRoom(t, "a region", x, g.onces(g.join(impl.JoinInner, g.k(), g.k(), yes), 196), 200)
	g.wantRoom(t, "a region in 200 nodes", x, g.onces(g.join(impl.JoinInner, g.k(), g.k(), yes), 197), 0)
	g.wantRoom(t, "a left join in 200 nodes", x, g.onces(g.join(impl.JoinLeft, g.k(), g.k(), yes), 197), 200)
	// What is not plain is a node more.
	g.wantRoom(t, "a question", x, g.onces(g.join(impl.JoinInner, g.k(), g.k(), g.exists(g.k())), 194), 200)
	g.wantRoom(t, "a question too much", x, g.onces(g.join(impl.JoinInner, g.k(), g.k(), g.exists(g.k())), 195), 0)
	// Within a plan that an expression names.
	asked := func(count int) *shrub {
		return g.filter(g.k(), unOf(impl.OpNot, g.exists(g.onces(g.join(impl.JoinInner, g.k(), g.k(), yes), count))))
	}
	g.wantRoom(t, "a region in a question", x, asked(194), 200)
	g.wantRoom(t, "a region in a question too much", x, asked(195), 0)
	// A look needs no node for the table, nor for the filter over it.
	t4 := scanned(g.schema.Tables[0], "").plan
	look := &shrub{impl.PNode{Op: impl.PJoin, A: impl.JoinSemi, Kinds: []int{impl.Int}}, g.onces(g.k(), 196), g.filter(t4, columnOf(impl.Bool, 0, 4)), []*branch{binOf(impl.OpEq, columnOf(impl.Int, 0, 0), columnOf(impl.Int, 0, 1))}}
	g.wantRoom(t, "a look", evenStats(g.schema, 400, 400), look, 198)
	p := impl.Plan{Nodes: g.lay(g.onces(g.k(), 200), nil)}
	if f, code := impl.Choose(g.schema, x, p); code != impl.ErrBad || len(f.Nodes) > 0 {
		t.Errorf("201 nodes: %d", code)
	}
}

func TestChooseMaxItems(t *testing.T) {
	g := newGrove(t)
	x := evenStats(g.schema, 20, 4)
	one := &shrub{PNode: impl.PNode{Op: impl.PValues, A: 1}}
	for more := range 2 {
		fits := func(nodes int) int { return nodes * (1 - more) }
		// Two conditions and the AND between them, where two leaves are joined.
		inner := g.join(impl.JoinInner, g.k(), g.k(), nots(200))
		g.wantRoom(t, "conditions of two joins", x, g.join(impl.JoinInner, inner, one, nots(199+more)), fits(6))
		// Two questions over a region.
		long := func(count int) *branch {
			made := g.exists(g.k())
			for range count - 1 {
				made = unOf(impl.OpNot, made)
			}
			return made
		}
		inner = g.join(impl.JoinInner, g.k(), g.k(), long(200))
		g.wantRoom(t, "questions of two joins", x, g.join(impl.JoinInner, inner, one, long(199+more)), fits(9))
		// The conditions of a look, and of the filter below it.
		t4 := scanned(g.schema.Tables[0], "").plan
		equal := binOf(impl.OpEq, columnOf(impl.Int, 0, 0), columnOf(impl.Int, 0, 1))
		below := g.filter(t4, nots(200))
		look := &shrub{impl.PNode{Op: impl.PJoin, A: impl.JoinSemi, Kinds: []int{impl.Int}}, g.k(), below, []*branch{binOf(impl.OpAnd, equal, nots(199+more))}}
		g.wantRoom(t, "conditions of a look", evenStats(g.schema, 400, 400), look, fits(2))
		// Only what is chosen counts.
		g.wantRoom(t, "conditions of a look that is not chosen", evenStats(g.schema, 400, 1), look, 4)
		// The cast of the first condition may be too much.
		g.wantRoom(t, "a cast more", x, g.join(impl.JoinInner, g.k(), g.k(), binOf(impl.OpAnd, constOf(null), nots(397+more))), fits(4))
	}
	// A condition stays as it is where nothing is done with it.
	g.wantRoom(t, "a long condition", x, g.filter(project(g.k(), []*branch{columnOf(impl.Int, 0, 0), columnOf(impl.Int, 0, 0)}), nots(400)), 3)
	g.wantRoom(t, "a long condition of a join", x, g.join(impl.JoinLeft, g.k(), g.k(), nots(400)), 3)
	g.wantRoom(t, "a long condition of a region", x, g.join(impl.JoinInner, g.k(), g.k(), nots(400)), 4)
}
