package tests

import (
	"slices"
	"testing"

	"loop.example/g00001/impl"
)

// estate is the house with keys of each sort: t (1), u (3), "k 1" (4), p (5); the indexes are 6 and 7.
func estate(t *testing.T) impl.Schema {
	t.Helper()
	return definedOn(t, house(t), "create table p (k text, n int, m int unique, x decimal, primary key (n, k), unique (x, m), check (n <> 5 or m is null))",
		"create unique index ui on u (a, w)", "create index uj on u (id)")
}

func emptyState(s impl.Schema) impl.State {
	var st impl.State
	for _, table := range s.Tables {
		st.Tables = append(st.Tables, impl.Rows{Id: table.Id})
	}
	return st
}

// grownRow is a row for a table, which may often stand there.
func grownRow(g exprGrower, table impl.Table) []impl.Value {
	var row []impl.Value
	for _, column := range table.Cols {
		v := g.valueOf(column.Kind)
		if column.Kind == impl.Int && g.chance(2) {
			v = intv(below(g.numberSource, 9))
		}
		if g.chance(5) {
			v = null
		}
		row = append(row, v)
	}
	return row
}

// grownState is a valid state with a few rows in each table.
func grownState(g exprGrower, s impl.Schema, most int) impl.State {
	st := emptyState(s)
	for _, table := range s.Tables {
		for count := below(g.numberSource, most+1); count > 0; count-- {
			if next, code := wantedApply(s, st, impl.ChInsert, table.Id, [][]impl.Value{grownRow(g, table)}); code == impl.OK {
				st = next
			}
		}
	}
	return st
}

// planGrower makes valid plans by chance; what its expressions name stands in the planner's list.
type planGrower struct {
	grower
	*planner
	// depth says how many plans may still stand in one another's expressions.
	depth int
	// rich has conditions that rewritings look for, see richCondition.
	rich bool
}

func newPlanGrower(numbers *numberSource, s impl.Schema, depth int) planGrower {
	return planGrower{grower: grower{numbers}, planner: &planner{schema: s}, depth: depth}
}

// exprs makes expressions that see some lists of kinds.
func (g planGrower) exprs(lists [][]int) exprGrower {
	made := exprGrower{grower: g.grower, lists: lists}
	if g.depth > 0 && len(lists) < 8 && !(g.rich && g.chance(2)) {
		made.named = func(kind int) *branch { return g.naming(kind, lists) }
	}
	return made
}

// naming is a branch that names a plan, which sees some lists.
func (g planGrower) naming(kind int, lists [][]int) *branch {
	inner := g
	inner.depth--
	node := impl.XNode{Op: impl.XScalar, Kind: kind}
	var kids []*branch
	switch {
	case kind == impl.Bool && g.chance(2):
		node.Op = impl.XExists
		g.plans = append(g.plans, inner.grown(lists, 2))
	case kind == impl.Bool && g.chance(2):
		node.Op, node.A = impl.XInPlan, g.flag()
		asked := g.pick(0, 1, 2, 3, 4, 5)
		kids = []*branch{inner.exprs(lists).ofKind(asked, 1)}
		g.plans = append(g.plans, inner.ofKinds([]int{g.pick(asked, asked, impl.Null)}, lists, 2))
	default:
		plan := inner.ofKinds([]int{kind}, lists, 1)
		if !g.chance(3) {
			// Most often one row is left.
			plan = sameRows(plan, impl.PNode{Op: impl.PLimit, A: 1, B: g.pick(0, 0, 1)})
		}
		g.plans = append(g.plans, plan)
	}
	node.B = len(g.plans) - 1
	return &branch{node, kids}
}

// ofKinds is a plan whose rows are of some kinds.
func (g planGrower) ofKinds(kinds []int, around [][]int, size int) *shrub {
	below := g.grown(around, size-1)
	var exprs []*branch
	for _, kind := range kinds {
		exprs = append(exprs, g.exprs(append([][]int{below.Kinds}, around...)).ofKind(kind, g.pick(0, 0, 1)))
	}
	return project(below, exprs)
}

func (g planGrower) someKinds(least, most int) []int {
	var kinds []int
	for count := least + below(g.numberSource, most-least+1); count > 0; count-- {
		kinds = append(kinds, g.pick(1, 1, 1, 2, 2, 3, 4, 5, 0))
	}
	return kinds
}

func (g planGrower) condition(lists [][]int) *branch {
	if g.rich {
		return g.richCondition(lists)
	}
	return g.exprs(lists).ofKind(g.pick(4, 4, 4, 4, 4, 4, 4, 0), g.pick(1, 1, 2))
}

// grown is any plan, which sees some lists of kinds around it.
func (g planGrower) grown(around [][]int, size int) *shrub {
	if size <= 0 {
		return g.source(around)
	}
	op := impl.PFilter + below(g.numberSource, 9)
	left := g.grown(around, size-1)
	sees := func(kinds []int) [][]int { return append([][]int{kinds}, around...) }
	switch {
	case op == impl.PFilter:
		return sameRows(left, impl.PNode{Op: op}, g.condition(sees(left.Kinds)))
	case op == impl.PJoin:
		right := g.grown(around, size-2)
		both := append(slices.Clone(left.Kinds), right.Kinds...)
		if len(both) > 32 {
			return left
		}
		node := impl.PNode{Op: op, A: g.pick(1, 2, 4, 5), Kinds: both}
		if node.A > 3 {
			node.Kinds = left.Kinds
		}
		join := &shrub{node, left, right, []*branch{g.condition(sees(both))}}
		if g.rich && g.chance(2) {
			return sameRows(join, impl.PNode{Op: impl.PFilter}, g.condition(sees(join.Kinds)))
		}
		return join
	case op == impl.PGroup:
		return g.group(left)
	case op == impl.PDistinct:
		return sameRows(left, impl.PNode{Op: op})
	case op == impl.PSort && len(left.Kinds) > 0:
		node := impl.PNode{Op: op}
		for count := g.pick(1, 2, 3); count > 0; count-- {
			node.Sorts = append(node.Sorts, impl.SortKey{Col: below(g.numberSource, len(left.Kinds)), Desc: g.chance(2), First: g.chance(2)})
		}
		return sameRows(left, node)
	case op == impl.PLimit && g.rich:
		return sameRows(left, impl.PNode{Op: op, A: g.pick(-1, -1, 0, 3, 5), B: g.pick(0, 0, 0, 1)})
	case op == impl.PLimit:
		return sameRows(left, impl.PNode{Op: op, A: g.pick(-1, 0, 1, 3, 9223372036854775807), B: g.pick(0, 1, 2, 9223372036854775807)})
	case op == impl.PUnion || op == impl.PExcept:
		return &shrub{PNode: impl.PNode{Op: op, A: g.flag(), Kinds: left.Kinds}, l: left, r: g.other(left, around, size)}
	}
	kinds := g.someKinds(0, 4)
	var exprs []*branch
	for _, kind := range kinds {
		exprs = append(exprs, g.exprs(sees(left.Kinds)).ofKind(kind, g.pick(0, 0, 0, 1, 2)))
	}
	return project(left, exprs)
}

// other is a plan whose rows are of the kinds of another one: itself changed somewhat, or any.
func (g planGrower) other(like *shrub, around [][]int, size int) *shrub {
	if g.chance(2) {
		return sameRows(like, impl.PNode{Op: impl.PLimit, A: g.pick(1, 3), B: g.pick(0, 1)})
	}
	return g.ofKinds(like.Kinds, around, size-1)
}

func (g planGrower) source(around [][]int) *shrub {
	if !g.chance(3) {
		return scanned(g.schema.Tables[below(g.numberSource, len(g.schema.Tables))], "").plan
	}
	node := impl.PNode{Op: impl.PValues, A: g.pick(0, 1, 1, 2, 3), Kinds: g.someKinds(0, 2)}
	made := &shrub{PNode: node}
	for range node.A {
		for _, kind := range node.Kinds {
			made.exprs = append(made.exprs, g.exprs(append([][]int{nil}, around...)).ofKind(kind, g.pick(0, 0, 1)))
		}
	}
	return made
}

func (g planGrower) group(left *shrub) *shrub {
	node := impl.PNode{Op: impl.PGroup}
	for count := g.pick(0, 1, 1, 2); count > 0 && len(left.Kinds) > 0; count-- {
		node.Keys = append(node.Keys, below(g.numberSource, len(left.Kinds)))
	}
	for count := g.pick(0, 1, 2, 4); count > 0; count-- {
		agg := impl.PAgg{Fn: impl.AggAll, Col: -1}
		if len(left.Kinds) > 0 && !g.chance(4) {
			agg = impl.PAgg{Fn: g.pick(2, 3, 4, 5, 6), Col: below(g.numberSource, len(left.Kinds)), Distinct: g.chance(2)}
		}
		node.Aggs = append(node.Aggs, agg)
		if _, ok := groupKinds(node, left.Kinds); !ok {
			node.Aggs = node.Aggs[:len(node.Aggs)-1]
		}
	}
	node.Kinds, _ = groupKinds(node, left.Kinds)
	return &shrub{PNode: node, l: left}
}

func (g planGrower) laidDown(root *shrub) impl.Plan { return impl.Plan{Nodes: g.lay(root, nil)} }

// listed is the list of a plan's nodes; false if there are more than a plan may have.
func (g planGrower) listed(root *shrub) (impl.Plan, bool) {
	if g.nodeCount(root, map[*shrub]int{}) > 200 {
		return impl.Plan{}, false
	}
	return g.laidDown(root), true
}

// spoilPlan changes one field of a node.
func spoilPlan(g grower, p impl.Plan) {
	n := &p.Nodes[below(g.numberSource, len(p.Nodes))]
	numbers := []*int{&n.Op, &n.L, &n.R, &n.Table, &n.A, &n.B}
	switch choice := below(g.numberSource, 13); choice {
	case 0, 1, 2, 3, 4, 5:
		*numbers[choice] += g.pick(-1, 1, 1, -2, 7)
	case 6:
		n.Exprs = spoilList(g, n.Exprs, impl.Expr{Nodes: []impl.XNode{{Op: impl.XConst}}})
	case 7:
		n.Keys = spoilList(g, n.Keys, g.pick(-1, 0, 1, 2))
	case 8:
		n.Aggs = spoilList(g, n.Aggs, impl.PAgg{Fn: g.pick(0, 1, 2, 3, 4, 5, 6, 7), Col: g.pick(-1, 0, 1, 2), Distinct: g.chance(2)})
	case 9:
		n.Sorts = spoilList(g, n.Sorts, impl.SortKey{Col: g.pick(-1, 0, 1, 2)})
	case 10:
		n.Kinds = spoilList(g, n.Kinds, g.pick(-1, 0, 1, 2, 3, 4, 5, 6))
	default:
		if len(n.Exprs) == 0 {
			return
		}
		e := n.Exprs[below(g.numberSource, len(n.Exprs))]
		spoilXNode(g, &e.Nodes[below(g.numberSource, len(e.Nodes))])
	}
}

// spoilList puts something in the place of an element, or makes the list one longer or shorter.
func spoilList[T any](g grower, list []T, other T) []T {
	list = slices.Clone(list)
	if len(list) == 0 || g.chance(3) {
		return append(list, other)
	}
	if g.chance(2) {
		return list[1:]
	}
	list[below(g.numberSource, len(list))] = other
	return list
}

func spoilXNode(g grower, x *impl.XNode) {
	step := g.pick(-1, 1)
	switch below(g.numberSource, 6) {
	case 0:
		x.Op += step
	case 1:
		x.Kind += step
	case 2:
		x.A += step
	case 3:
		x.B += step
	case 4:
		x.Val = intv(1)
	case 5:
		x.Kids = spoilList(g, x.Kids, g.pick(-1, 0, 1))
	}
}

func copyPlan(p impl.Plan) impl.Plan {
	copied := impl.Plan{Nodes: slices.Clone(p.Nodes)}
	for i, n := range copied.Nodes {
		to := &copied.Nodes[i]
		to.Exprs, to.Keys, to.Aggs, to.Sorts, to.Kinds = nil, slices.Clone(n.Keys), slices.Clone(n.Aggs), slices.Clone(n.Sorts), slices.Clone(n.Kinds)
		for _, e := range n.Exprs {
			to.Exprs = append(to.Exprs, copyExpr(e))
		}
	}
	return copied
}

// packedState has a number of rows in each table of the estate: ids rise from 1 on, other columns hold a few values and NULL.
func packedState(s impl.Schema, count int) impl.State {
	st := emptyState(s)
	for i := 1; i <= count; i++ {
		few := []impl.Value{intv(i % 3), textv([]string{"x", "y"}[i%2]), decv(i % 4 * 5000), boolv(i%2 == 0), datev(i % 2)}
		if i%5 == 0 {
			few[0], few[2] = null, null
		}
		rows := [][]impl.Value{
			append([]impl.Value{intv(i)}, few...),
			{intv(i % 7), few[2], few[1], intv(i), few[3], few[4]},
			{few[0]},
			{few[1], intv(i + 5), intv(i), decv(i)},
		}
		for table, row := range rows {
			st.Tables[table].Rows = append(st.Tables[table].Rows, slices.Clone(row))
		}
	}
	return st
}
