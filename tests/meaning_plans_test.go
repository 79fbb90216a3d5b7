package tests

import (
	"fmt"
	"slices"
	"strings"
	"testing"

	"loop.example/g00001/impl"
)

// wantPlan asks PlanOK for an answer, and the reference for the same; Meaning answers ErrBad where it is no.
func wantPlan(t *testing.T, what string, s impl.Schema, p impl.Plan, ok bool) {
	t.Helper()
	if impl.PlanOK(s, p) != ok || wantedPlanOK(s, p) != ok {
		t.Errorf("%s: %v, by the reference %v; want %v", what, impl.PlanOK(s, p), wantedPlanOK(s, p), ok)
	}
	if rows, code := impl.Meaning(s, emptyState(s), p); (code != impl.ErrBad) != ok || code != impl.OK && len(rows) > 0 {
		t.Errorf("%s: Meaning is %v, %d", what, rows, code)
	}
	wantPhys(t, what, s, nodeByNode(p), ok)
}

func boundPlan(t *testing.T, s impl.Schema, text string) impl.Plan {
	t.Helper()
	p, _, code, pos := impl.Bind(s, parsed(t, text))
	if code != impl.OK {
		t.Fatalf("%s: %d, %d", text, code, pos)
	}
	return p
}

// fieldsOf are the numbers of a node under their names.
func fieldsOf(n *impl.PNode) map[string]*int {
	fields := lists{&n.Exprs, &n.Keys, &n.Aggs, &n.Sorts, &n.Kinds}.fields()
	for name, field := range map[string]*int{"Op": &n.Op, "L": &n.L, "R": &n.R, "Table": &n.Table, "A": &n.A, "B": &n.B} {
		fields[name] = field
	}
	return fields
}

// listChanges make each list of a node one longer or one shorter, and its expressions' lists of nodes and kids.
func listChanges(n *impl.PNode) map[string]func() {
	return lists{&n.Exprs, &n.Keys, &n.Aggs, &n.Sorts, &n.Kinds}.changes()
}

// lists are those of a node of a plan, or of a physical one.
type lists struct {
	exprs *[]impl.Expr
	keys  *[]int
	aggs  *[]impl.PAgg
	sorts *[]impl.SortKey
	kinds *[]int
}

// fields are the numbers in the lists under their names.
func (l lists) fields() map[string]*int {
	fields := map[string]*int{}
	keys, aggs, sorts, kinds := *l.keys, *l.aggs, *l.sorts, *l.kinds
	for i := range keys {
		fields[fmt.Sprintf("key %d", i)] = &keys[i]
	}
	for i := range aggs {
		fields[fmt.Sprintf("function %d", i)], fields[fmt.Sprintf("argument %d", i)] = &aggs[i].Fn, &aggs[i].Col
	}
	for i := range sorts {
		fields[fmt.Sprintf("sort %d", i)] = &sorts[i].Col
	}
	for i := range kinds {
		fields[fmt.Sprintf("kind %d", i)] = &kinds[i]
	}
	for i, e := range *l.exprs {
		for k := range e.Nodes {
			x := &e.Nodes[k]
			for name, field := range map[string]*int{"Op": &x.Op, "Kind": &x.Kind, "A": &x.A, "B": &x.B} {
				fields[fmt.Sprintf("expression %d node %d %s", i, k, name)] = field
			}
		}
	}
	return fields
}

// changes make each list one longer or one shorter, and the expressions' lists of nodes and kids.
func (l lists) changes() map[string]func() {
	changes := map[string]func(){}
	lengthChanges(changes, "expression", l.exprs, laid(constOf(null)))
	lengthChanges(changes, "key", l.keys, 0)
	lengthChanges(changes, "aggregate", l.aggs, impl.PAgg{Fn: impl.AggAll, Col: -1})
	lengthChanges(changes, "sort", l.sorts, impl.SortKey{})
	lengthChanges(changes, "kind", l.kinds, impl.Null)
	for i := range *l.exprs {
		e := &(*l.exprs)[i]
		changes[fmt.Sprintf("expression %d node more", i)] = func() { e.Nodes = append(e.Nodes, impl.XNode{Op: impl.XConst}) }
		changes[fmt.Sprintf("expression %d node less", i)] = func() { e.Nodes = e.Nodes[1:] }
		changes[fmt.Sprintf("expression %d kid more", i)] = func() { e.Nodes[0].Kids = append(e.Nodes[0].Kids, 0) }
		changes[fmt.Sprintf("expression %d value", i)] = func() { e.Nodes[0].Val.N++ }
	}
	for i := range *l.aggs {
		changes[fmt.Sprintf("distinct %d", i)] = func() { (*l.aggs)[i].Distinct = !(*l.aggs)[i].Distinct }
	}
	return changes
}

// lengthChanges make a list one longer, and one shorter if it is not empty.
func lengthChanges[T any](changes map[string]func(), name string, list *[]T, more T) {
	changes[name+" more"] = func() { *list = append(*list, more) }
	if len(*list) > 0 {
		changes[name+" less"] = func() { *list = (*list)[1:] }
	}
}

// changedPlans are all plans that are p with one field of the last node changed, under what was done.
func changedPlans(p impl.Plan) map[string]impl.Plan {
	plans := map[string]impl.Plan{}
	last := len(p.Nodes) - 1
	for name := range fieldsOf(&p.Nodes[last]) {
		for _, step := range []int{-1, 1} {
			changed := copyPlan(p)
			*fieldsOf(&changed.Nodes[last])[name] += step
			plans[fmt.Sprintf("%s %+d", name, step)] = changed
		}
	}
	for name := range listChanges(&p.Nodes[last]) {
		changed := copyPlan(p)
		listChanges(&changed.Nodes[last])[name]()
		plans[name] = changed
	}
	return plans
}

// TestPlanOKFields changes each field of each operation by one; those changes are told that leave a valid plan.
func TestPlanOKFields(t *testing.T) {
	s := estate(t)
	column := func(kind, at int) *branch { return columnOf(kind, 0, at) }
	scan := func() *shrub { return scanned(s.Tables[2], "").plan }
	wide := func() *shrub { return scanned(s.Tables[0], "").plan }
	join := func(kind int, kinds ...int) *shrub {
		return &shrub{impl.PNode{Op: impl.PJoin, A: kind, Kinds: kinds}, scan(), scan(), []*branch{binOf(impl.OpLt, column(1, 0), column(1, 1))}}
	}
	both := func(op, a int) *shrub {
		return &shrub{PNode: impl.PNode{Op: op, A: a, Kinds: []int{1}}, l: scan(), r: scan()}
	}
	for _, c := range []struct {
		what string
		root *shrub
		ok   string
	}{
		{"scan", wide(), ""},
		{"values", &shrub{PNode: impl.PNode{Op: impl.PValues, A: 2, Kinds: []int{1, 4}}, exprs: []*branch{constOf(intv(1)), constOf(boolv(true)), constOf(intv(2)), castOf(impl.Bool, constOf(null))}}, "expression 0 value, expression 2 value"},
		{"values of nothing", &shrub{PNode: impl.PNode{Op: impl.PValues, A: 0, Kinds: []int{1, 4, 3}}}, "kind 0 +1, kind 0 -1, kind 1 +1, kind 1 -1, kind 2 +1, kind 2 -1, kind less, kind more"},
		{"one row of nothing", &shrub{PNode: impl.PNode{Op: impl.PValues, A: 1}}, "A +1, A -1"},
		{"filter", sameRows(scan(), impl.PNode{Op: impl.PFilter}, unOf(impl.OpIsNull, column(1, 0))), ""},
		{"project", project(scan(), []*branch{column(1, 0), constOf(textv("x"))}), ""},
		{"join", join(impl.JoinInner, 1, 1), "A +1, expression 0 node 0 B +1, expression 0 node 1 B -1, expression 0 node 2 A +1, expression 0 node 2 A -1"},
		{"left join", join(impl.JoinLeft, 1, 1), "A -1, expression 0 node 0 B +1, expression 0 node 1 B -1, expression 0 node 2 A +1, expression 0 node 2 A -1"},
		{"semi join", join(impl.JoinSemi, 1), "A +1, expression 0 node 0 B +1, expression 0 node 1 B -1, expression 0 node 2 A +1, expression 0 node 2 A -1"},
		{"anti join", join(impl.JoinAnti, 1), "A -1, expression 0 node 0 B +1, expression 0 node 1 B -1, expression 0 node 2 A +1, expression 0 node 2 A -1"},
		{"group", &shrub{PNode: impl.PNode{Op: impl.PGroup, Keys: []int{2}, Aggs: []impl.PAgg{{Fn: impl.AggAll, Col: -1}, {Fn: impl.AggCount, Col: 5}, {Fn: impl.AggSum, Col: 0}, {Fn: impl.AggAvg, Col: 3}, {Fn: impl.AggMin, Col: 2}, {Fn: impl.AggMax, Col: 4, Distinct: true}}, Kinds: []int{3, 1, 1, 1, 2, 3, 4}}, l: wide()},
			"argument 1 -1, argument 2 +1, distinct 1, distinct 2, distinct 3, distinct 4, distinct 5, function 2 -1, function 3 +1, function 3 -1, function 4 +1, function 5 -1"},
		{"group without keys", &shrub{PNode: impl.PNode{Op: impl.PGroup, Aggs: []impl.PAgg{{Fn: impl.AggMin, Col: 1}}, Kinds: []int{1}}, l: wide()}, "argument 0 -1, distinct 0, function 0 +1"},
		{"distinct", sameRows(wide(), impl.PNode{Op: impl.PDistinct}), ""},
		{"sort", sameRows(wide(), impl.PNode{Op: impl.PSort, Sorts: []impl.SortKey{{Col: 5, Desc: true}, {Col: 0, First: true}}}), "sort 0 -1, sort 1 +1, sort less, sort more"},
		{"sort by one", sameRows(scan(), impl.PNode{Op: impl.PSort, Sorts: []impl.SortKey{{Col: 0}}}), "sort more"},
		{"limit", sameRows(scan(), impl.PNode{Op: impl.PLimit, A: 3, B: 2}), "A +1, A -1, B +1, B -1"},
		{"offset", sameRows(scan(), impl.PNode{Op: impl.PLimit, A: -1}), "A +1, B +1"},
		{"union", both(impl.PUnion, 0), "A +1, Op +1"},
		{"union all", both(impl.PUnion, 1), "A -1, Op +1"},
		{"except", both(impl.PExcept, 0), "A +1, Op -1"},
		{"except all", both(impl.PExcept, 1), "A -1, Op -1"},
	} {
		g := newPlanGrower(nil, s, 0)
		p := g.laidDown(c.root)
		wantPlan(t, c.what, s, p, true)
		var kept []string
		for what, changed := range changedPlans(p) {
			ok := impl.PlanOK(s, changed)
			wantPlan(t, c.what+", "+what, s, changed, ok)
			if ok {
				kept = append(kept, what)
			}
		}
		slices.Sort(kept)
		if got := strings.Join(kept, ", "); got != c.ok {
			t.Errorf("%s is still valid with %s; want %s", c.what, got, c.ok)
		}
	}
}

// TestPlanOKOthers has operations that are none, columns that are not there, and sides of different kinds.
func TestPlanOKOthers(t *testing.T) {
	s := estate(t)
	g := newPlanGrower(nil, s, 0)
	wide := func() *shrub { return scanned(s.Tables[0], "").plan }
	for _, op := range []int{0, -1, 12, 13, 9223372036854775807, -9223372036854775808} {
		wantPlan(t, fmt.Sprintf("operation %d", op), s, impl.Plan{Nodes: []impl.PNode{{Op: op, L: -1, R: -1}}}, false)
		wantPlan(t, fmt.Sprintf("operation %d over a scan", op), s, g.laidDown(sameRows(wide(), impl.PNode{Op: op})), false)
	}
	for _, table := range []int{0, 2, 6, -1, 1000} {
		wantPlan(t, fmt.Sprintf("table %d", table), s, impl.Plan{Nodes: []impl.PNode{{Op: impl.PScan, L: -1, R: -1, Table: table}}}, false)
	}
	group := func(node impl.PNode) impl.Plan {
		node.Op = impl.PGroup
		return g.laidDown(&shrub{PNode: node, l: wide()})
	}
	for column, kind := range map[int]int{-1: -1, 0: impl.Int, 5: impl.Date, 6: -1, 9223372036854775807: -1, -9223372036854775808: -1} {
		wantPlan(t, fmt.Sprintf("key %d", column), s, group(impl.PNode{Keys: []int{column}, Kinds: []int{kind}}), kind >= 0)
		wantPlan(t, fmt.Sprintf("key %d of no kind", column), s, group(impl.PNode{Keys: []int{column}}), false)
		wantPlan(t, fmt.Sprintf("count of %d of no kind", column), s, group(impl.PNode{Aggs: []impl.PAgg{{Fn: impl.AggCount, Col: column}}}), false)
		wantPlan(t, fmt.Sprintf("greatest of %d", column), s, group(impl.PNode{Aggs: []impl.PAgg{{Fn: impl.AggMax, Col: column}}, Kinds: []int{kind}}), kind >= 0)
		wantPlan(t, fmt.Sprintf("sorted by %d", column), s, g.laidDown(sameRows(wide(), impl.PNode{Op: impl.PSort, Sorts: []impl.SortKey{{}, {Col: column}}})), kind >= 0)
	}
	nulls := func() *shrub { return project(wide(), []*branch{constOf(null)}) }
	for fn, kinds := range map[int][]int{impl.AggAll: {-1, -1, -1}, impl.AggCount: {1, 1, 1}, impl.AggSum: {1, -1, -1}, impl.AggAvg: {2, -1, -1}, impl.AggMin: {1, 3, -1}, impl.AggMax: {1, 3, -1}, 0: {-1, -1, -1}, 7: {-1, -1, -1}, -1: {-1, -1, -1}} {
		for i, kind := range kinds {
			below := []*shrub{project(wide(), []*branch{columnOf(impl.Int, 0, 0)}), project(wide(), []*branch{columnOf(impl.Text, 0, 2)}), nulls()}[i]
			made := func(kind int) impl.Plan {
				return g.laidDown(&shrub{PNode: impl.PNode{Op: impl.PGroup, Aggs: []impl.PAgg{{Fn: fn}}, Kinds: []int{kind}}, l: below})
			}
			wantPlan(t, fmt.Sprintf("aggregate %d of column %d", fn, i), s, made(kind), kind >= 0)
			for _, other := range []int{-2, -1, 0, 1, 2, 3, 4, 5} {
				wantPlan(t, fmt.Sprintf("aggregate %d of column %d with kind %d", fn, i, other), s, made(other), other == kind && kind >= 0)
			}
		}
	}
	for _, c := range []struct {
		agg  impl.PAgg
		kind int
		ok   bool
	}{{impl.PAgg{Fn: impl.AggAll, Col: -1}, impl.Int, true}, {impl.PAgg{Fn: impl.AggAll, Col: -1, Distinct: true}, impl.Int, false}, {impl.PAgg{Fn: impl.AggAll}, impl.Int, false}, {impl.PAgg{Fn: impl.AggAll, Col: -2}, impl.Int, false}, {impl.PAgg{Fn: impl.AggAll, Col: -1}, impl.Null, false}} {
		wantPlan(t, fmt.Sprint(c), s, group(impl.PNode{Aggs: []impl.PAgg{c.agg}, Kinds: []int{c.kind}}), c.ok)
	}
	texts := func() *shrub { return project(wide(), []*branch{columnOf(impl.Text, 0, 2)}) }
	for _, op := range []int{impl.PUnion, impl.PExcept} {
		for _, c := range []struct {
			l, r  *shrub
			kinds []int
			ok    bool
		}{{texts(), texts(), []int{3}, true}, {texts(), nulls(), []int{3}, false}, {nulls(), texts(), []int{3}, false}, {texts(), texts(), []int{0}, false}, {texts(), wide(), []int{3}, false}, {project(wide(), nil), project(wide(), nil), nil, true}} {
			wantPlan(t, fmt.Sprintf("operation %d with %v", op, c), s, g.laidDown(&shrub{PNode: impl.PNode{Op: op, Kinds: c.kinds}, l: c.l, r: c.r}), c.ok)
		}
	}
	for _, kind := range []int{impl.Int, impl.Dec, impl.Text, impl.Date} {
		wantPlan(t, "no condition", s, g.laidDown(sameRows(wide(), impl.PNode{Op: impl.PFilter}, castOf(kind, constOf(null)))), false)
	}
	wantPlan(t, "NULL as a condition", s, g.laidDown(sameRows(wide(), impl.PNode{Op: impl.PFilter}, constOf(null))), true)
}

// planEdit changes a plan's nodes.
type planEdit struct {
	what string
	edit func(nodes []impl.PNode) []impl.PNode
	ok   bool
}

func wantEdits(t *testing.T, s impl.Schema, p impl.Plan, edits []planEdit) {
	t.Helper()
	wantPlan(t, "as it is", s, p, true)
	for _, c := range edits {
		wantPlan(t, c.what, s, impl.Plan{Nodes: c.edit(copyPlan(p).Nodes)}, c.ok)
	}
}

// TestPlanOKOrder has nodes that stand otherwise than chapter 7 says.
func TestPlanOKOrder(t *testing.T) {
	s := estate(t)
	scan := scanPlan(s, 2).Nodes[0]
	wantPlan(t, "nothing", s, impl.Plan{}, false)
	wantPlan(t, "no schema", impl.Schema{}, scanPlan(s, 2), false)
	wantEdits(t, s, boundPlan(t, s, `select k from "k 1" union all select k from "k 1"`), []planEdit{
		{"a node behind the root", func(n []impl.PNode) []impl.PNode { return append(n, scan) }, false},
		{"a node ahead of all", func(n []impl.PNode) []impl.PNode {
			for i := range n {
				n[i].L, n[i].R = max(-1, n[i].L+min(1, n[i].L+1)), max(-1, n[i].R+min(1, n[i].R+1))
			}
			return append([]impl.PNode{scan}, n...)
		}, false},
		{"L and R exchanged", func(n []impl.PNode) []impl.PNode {
			n[4].L, n[4].R = n[4].R, n[4].L
			return n
		}, false},
		{"L and R the same", func(n []impl.PNode) []impl.PNode {
			n[4].L = n[4].R
			return n
		}, false},
		{"a node of itself", func(n []impl.PNode) []impl.PNode {
			n[1].L = 1
			return n
		}, false},
		{"a later node", func(n []impl.PNode) []impl.PNode {
			n[1].L = 2
			return n
		}, false},
		{"without its root", func(n []impl.PNode) []impl.PNode { return n[:4] }, false},
		{"one of two sources", func(n []impl.PNode) []impl.PNode { return n[:2] }, true},
		{"L below -1", func(n []impl.PNode) []impl.PNode {
			n[0].L = -2
			return n
		}, false},
		{"R far away", func(n []impl.PNode) []impl.PNode {
			n[4].R = 9223372036854775807
			return n
		}, false},
		{"no R", func(n []impl.PNode) []impl.PNode {
			n[4].R = -1
			return n
		}, false},
		{"R in the place of L", func(n []impl.PNode) []impl.PNode {
			n[1].L, n[1].R = -1, 0
			return n
		}, false},
	})
}

// TestPlanOKNames looks at what an expression must be to name a plan, and where that plan must stand.
func TestPlanOKNames(t *testing.T) {
	s := estate(t)
	// Nodes: 0 scan, 1 scan, 2 project, 3 scan, 4 project, 5 scan, 6 project, 7 the project with the expressions.
	p := boundPlan(t, s, `select exists (select 1 from "k 1"), (select k from "k 1"), 1 in (select k from "k 1") from t`)
	x := func(n []impl.PNode, e int) *impl.XNode {
		nodes := n[7].Exprs[e].Nodes
		return &nodes[len(nodes)-1]
	}
	set := func(change func(n []impl.PNode)) func(n []impl.PNode) []impl.PNode {
		return func(n []impl.PNode) []impl.PNode {
			change(n)
			return n
		}
	}
	wantEdits(t, s, p, []planEdit{
		{"EXISTS of another kind", set(func(n []impl.PNode) { x(n, 0).Kind, n[7].Kinds[0] = impl.Int, impl.Int }), false},
		{"EXISTS of kind Null", set(func(n []impl.PNode) { x(n, 0).Kind, n[7].Kinds[0] = impl.Null, impl.Null }), false},
		{"EXISTS with NOT", set(func(n []impl.PNode) { x(n, 0).A = 1 }), false},
		{"EXISTS with a value", set(func(n []impl.PNode) { x(n, 0).Val = intv(1) }), false},
		{"EXISTS with a kid", set(func(n []impl.PNode) {
			n[7].Exprs[0].Nodes = append([]impl.XNode{{Op: impl.XConst}}, impl.XNode{Op: impl.XExists, Kind: impl.Bool, B: 2, Kids: []int{0}})
		}), false},
		{"EXISTS of the next plan", set(func(n []impl.PNode) { x(n, 0).B = 4 }), false},
		{"EXISTS and the value exchanged", set(func(n []impl.PNode) { x(n, 0).B, x(n, 1).B = 4, 2 }), false},
		{"EXISTS of a node in the plan", set(func(n []impl.PNode) { x(n, 0).B = 1 }), false},
		{"EXISTS of no node", set(func(n []impl.PNode) { x(n, 0).B = -1 }), false},
		{"EXISTS of the node itself", set(func(n []impl.PNode) { x(n, 0).B = 7 }), false},
		{"EXISTS of L", set(func(n []impl.PNode) { x(n, 0).B = 0 }), false},
		{"EXISTS of a plan without columns", set(func(n []impl.PNode) { n[2].Exprs, n[2].Kinds = nil, nil }), true},
		{"EXISTS of two columns", set(func(n []impl.PNode) { n[2].Exprs, n[2].Kinds = append(n[2].Exprs, n[2].Exprs[0]), []int{1, 1} }), true},
		{"a value of another kind", set(func(n []impl.PNode) { x(n, 1).Kind, n[7].Kinds[1] = impl.Dec, impl.Dec }), false},
		{"a value of kind Null", set(func(n []impl.PNode) { x(n, 1).Kind, n[7].Kinds[1] = impl.Null, impl.Null }), false},
		{"a value with NOT", set(func(n []impl.PNode) { x(n, 1).A = 1 }), false},
		{"a value of no column", set(func(n []impl.PNode) { n[4].Exprs, n[4].Kinds = nil, nil }), false},
		{"a value of two columns", set(func(n []impl.PNode) { n[4].Exprs, n[4].Kinds = append(n[4].Exprs, n[4].Exprs[0]), []int{1, 1} }), false},
		{"a value of a text", set(func(n []impl.PNode) {
			n[4].Exprs[0], n[4].Kinds[0], x(n, 1).Kind, n[7].Kinds[1] = laid(constOf(textv("x"))), impl.Text, impl.Text, impl.Text
		}), true},
		{"IN of kind Null", set(func(n []impl.PNode) { x(n, 2).Kind, n[7].Kinds[2] = impl.Null, impl.Null }), false},
		{"NOT IN", set(func(n []impl.PNode) { x(n, 2).A = 1 }), true},
		{"IN with A 2", set(func(n []impl.PNode) { x(n, 2).A = 2 }), false},
		{"IN with A below 0", set(func(n []impl.PNode) { x(n, 2).A = -1 }), false},
		{"IN with a value", set(func(n []impl.PNode) { x(n, 2).Val = boolv(true) }), false},
		{"IN without a kid", set(func(n []impl.PNode) { n[7].Exprs[2].Nodes = []impl.XNode{{Op: impl.XInPlan, Kind: impl.Bool, B: 6}} }), false},
		{"IN with two kids", set(func(n []impl.PNode) {
			one := impl.XNode{Op: impl.XConst, Kind: impl.Int, Val: intv(1)}
			n[7].Exprs[2].Nodes = []impl.XNode{one, one, {Op: impl.XInPlan, Kind: impl.Bool, B: 6, Kids: []int{0, 1}}}
		}), false},
		{"IN of a Dec", set(func(n []impl.PNode) {
			n[7].Exprs[2].Nodes[0] = impl.XNode{Op: impl.XConst, Kind: impl.Dec, Val: decv(1)}
		}), true},
		{"IN of NULL", set(func(n []impl.PNode) { n[7].Exprs[2].Nodes[0] = impl.XNode{Op: impl.XConst} }), true},
		{"IN of a text", set(func(n []impl.PNode) {
			n[7].Exprs[2].Nodes[0] = impl.XNode{Op: impl.XConst, Kind: impl.Text, Val: textv("1")}
		}), false},
		{"IN a plan of NULL", set(func(n []impl.PNode) { n[6].Exprs[0], n[6].Kinds[0] = laid(constOf(null)), impl.Null }), true},
		{"IN a plan of texts", set(func(n []impl.PNode) { n[6].Exprs[0], n[6].Kinds[0] = laid(constOf(textv("1"))), impl.Text }), false},
		{"IN a plan of two columns", set(func(n []impl.PNode) { n[6].Exprs, n[6].Kinds = append(n[6].Exprs, n[6].Exprs[0]), []int{1, 1} }), false},
		{"IN a plan of no column", set(func(n []impl.PNode) { n[6].Exprs, n[6].Kinds = nil, nil }), false},
		{"a plan that sees the row around it", set(func(n []impl.PNode) { n[4].Exprs[0] = laid(columnOf(impl.Int, 1, 1)) }), true},
		{"a plan that sees a row beyond", set(func(n []impl.PNode) { n[4].Exprs[0] = laid(columnOf(impl.Int, 2, 0)) }), false},
		{"a plan that sees a column too many", set(func(n []impl.PNode) { n[4].Exprs[0] = laid(columnOf(impl.Int, 1, 6)) }), false},
		{"a plan that sees a column of another kind", set(func(n []impl.PNode) { n[4].Exprs[0] = laid(columnOf(impl.Int, 1, 2)) }), false},
		{"an expression that sees a row around the root", set(func(n []impl.PNode) { n[7].Exprs[0] = laid(columnOf(impl.Bool, 1, 4)) }), false},
	})
	// What is in L or R sees the rows around the node, but not the node's own.
	sides := boundPlan(t, s, `select (select p.k from "k 1" as p join (select t.a as z from u where u.a = t.id) as q on p.k = q.z and t.id = 1) from t`)
	wantMeaning(t, s, packedState(s, 3), sides)
	wantPlan(t, "sides", s, sides, true)
	for i, n := range sides.Nodes {
		if n.Op != impl.PFilter {
			continue
		}
		deeper := copyPlan(sides)
		deeper.Nodes[i].Exprs[0] = laid(unOf(impl.OpIsNull, columnOf(impl.Int, 2, 0)))
		wantPlan(t, "a side that sees the node over it", s, deeper, false)
	}
}

func TestPlanOKBounds(t *testing.T) {
	s := estate(t)
	g := newPlanGrower(nil, s, 0)
	chain := func(count int) *shrub {
		made := scanned(s.Tables[2], "").plan
		for ; count > 1; count-- {
			made = sameRows(made, impl.PNode{Op: impl.PDistinct})
		}
		return made
	}
	for count, ok := range map[int]bool{1: true, 2: true, impl.MaxPlan: true, impl.MaxPlan + 1: false} {
		wantPlan(t, fmt.Sprintf("%d nodes", count), s, g.laidDown(chain(count)), ok)
	}
	values := func(width, rows int) *shrub {
		node := impl.PNode{Op: impl.PValues, A: rows, Kinds: slices.Repeat([]int{impl.Int}, width)}
		made := &shrub{PNode: node}
		for range width * rows {
			made.exprs = append(made.exprs, constOf(intv(1)))
		}
		return made
	}
	for width, ok := range map[int]bool{0: true, 1: true, impl.MaxWide: true, impl.MaxWide + 1: false} {
		below := scanned(s.Tables[2], "").plan
		wantPlan(t, fmt.Sprintf("values of %d columns", width), s, g.laidDown(values(width, 1)), ok)
		wantPlan(t, fmt.Sprintf("no values of %d columns", width), s, g.laidDown(values(width, 0)), ok)
		wantPlan(t, fmt.Sprintf("%d columns of a project", width), s, g.laidDown(project(below, values(width, 1).exprs)), ok)
		keys := &shrub{PNode: impl.PNode{Op: impl.PGroup, Keys: make([]int, width), Kinds: values(width, 0).Kinds}, l: below}
		wantPlan(t, fmt.Sprintf("%d keys", width), s, g.laidDown(keys), ok)
		if width == 0 {
			continue
		}
		for _, kind := range []int{impl.JoinInner, impl.JoinLeft, impl.JoinSemi, impl.JoinAnti} {
			left, right := values(width-1, 1), values(1, 1)
			join := &shrub{impl.PNode{Op: impl.PJoin, A: kind, Kinds: append(slices.Clone(left.Kinds), right.Kinds...)}, left, right, []*branch{constOf(null)}}
			if kind > impl.JoinCross {
				join.Kinds = left.Kinds
			}
			wantPlan(t, fmt.Sprintf("join %d of %d columns", kind, width), s, g.laidDown(join), ok)
		}
	}
	for rows, ok := range map[int]bool{impl.MaxInsert: true, impl.MaxInsert + 1: false} {
		wantPlan(t, fmt.Sprintf("values of %d rows", rows), s, g.laidDown(values(2, rows)), ok)
		wantPlan(t, fmt.Sprintf("%d rows of nothing", rows), s, g.laidDown(values(0, rows)), ok)
	}
	for _, kinds := range [][]int{{-1}, {6}, {9223372036854775807}} {
		wantPlan(t, "no kind", s, g.laidDown(&shrub{PNode: impl.PNode{Op: impl.PValues, Kinds: kinds}}), false)
	}
	for count, ok := range map[int]bool{impl.MaxItems: true, impl.MaxItems + 1: false} {
		wantPlan(t, fmt.Sprintf("%d nodes of an expression", count), s, g.laidDown(sameRows(chain(1), impl.PNode{Op: impl.PFilter}, manyNots(count))), ok)
	}
}

// TestPlanOKDepth has plans in one another's expressions: an expression sees MaxUp rows at most, what has none may stand deeper.
func TestPlanOKDepth(t *testing.T) {
	s := estate(t)
	nested := func(depth int, inmost *shrub) impl.Plan {
		g := newPlanGrower(nil, s, 0)
		made := inmost
		for range depth {
			g.plans = append(g.plans, made)
			made = project(scanned(s.Tables[2], "").plan, []*branch{{XNode: impl.XNode{Op: impl.XExists, Kind: impl.Bool, B: len(g.plans) - 1}}})
		}
		return g.laidDown(made)
	}
	scan := scanned(s.Tables[2], "").plan
	seesAll := func(row int) *shrub { return project(scan, []*branch{columnOf(impl.Int, row, 0)}) }
	for depth, ok := range map[int]bool{0: true, 6: true, 7: true, 8: false, 9: false} {
		wantPlan(t, fmt.Sprintf("an expression within %d others", depth), s, nested(depth, seesAll(depth)), ok)
		wantPlan(t, fmt.Sprintf("an expression that sees its own row, within %d others", depth), s, nested(depth, seesAll(0)), ok)
		wantPlan(t, fmt.Sprintf("values within %d others", depth), s, nested(depth, &shrub{PNode: impl.PNode{Op: impl.PValues, A: 1, Kinds: []int{1}}, exprs: []*branch{constOf(intv(1))}}), ok)
		wantPlan(t, fmt.Sprintf("a row too far within %d others", depth), s, nested(depth, seesAll(depth+1)), false)
	}
	for depth, ok := range map[int]bool{8: true, 9: false} {
		wantPlan(t, fmt.Sprintf("a scan within %d others", depth), s, nested(depth, scan), ok)
		wantPlan(t, fmt.Sprintf("a group within %d others", depth), s, nested(depth, &shrub{PNode: impl.PNode{Op: impl.PGroup, Keys: []int{0}, Kinds: []int{1}}, l: scan}), ok)
		wantPlan(t, fmt.Sprintf("a row of nothing within %d others", depth), s, nested(depth, &shrub{PNode: impl.PNode{Op: impl.PValues, A: 1}}), ok)
	}
	wantMeaning(t, s, packedState(s, 1), nested(7, seesAll(7)))
}

func TestSafePlan(t *testing.T) {
	s := estate(t)
	for _, text := range []string{
		"select * from t", "select 1, 'x', null", "select id from t where a > 1 and not d or b like 'x%'", "select distinct a from t order by a limit 1", "select a, count(*), count(b), min(b), max(c) from t group by a",
		"select id from t where exists (select 1 from u where u.a = t.a)", "select id in (select a from u), id not in (select a from u) from t", "select t.id from t left join u on t.id = u.id", "select a from t union select a from u", "select a from t except all select a from u",
		"select cast(a as text), cast(null as int), cast(a as int), cast(d as text), cast(e as text), cast(c as text) from t", "select length(b), lower(b), upper(b), nullif(a, 1), year(e), month(e), day(e), trim(b), least(a, 1), greatest(a, 2), coalesce(a, 1) from t",
		"select case when d then 1 else 2 end, a between 1 and 2, a in (1, 2), a is null, a is distinct from 1 from t", "select count(distinct a) from t", "select exists (select exists (select 1))",
	} {
		if !impl.SafePlan(boundPlan(t, s, text)) {
			t.Errorf("%s is safe", text)
		}
	}
	for _, text := range []string{
		"select a + 1 from t", "select a - 1 from t", "select a * 1 from t", "select a / 1 from t", "select a % 1 from t", "select b || b from t", "select -a from t", "select cast(b as int) from t", "select cast(a as decimal) from t", "select cast(c as int) from t", "select cast(b as date) from t", "select cast(b as boolean) from t",
		"select abs(a) from t", "select substr(b, 1, 1) from t", "select round(c) from t", "select (select a from t)", "select 1 from t where a + 1 = 2", "select 1 from t join u on t.a + 1 = 2", "select sum(a) from t", "select avg(a) from t", "select sum(distinct c) from t", "select 1 + 1", "select 1 from t order by a + 1",
		"select exists (select a + 1 from t)", "select exists (select 1 from t where (select d from t))", "select 1 in (select sum(a) from t)", "select case when d then 1 else a + 1 end from t", "select not (not (a + 1 = 2)) from t", "select id from t union all select a + 1 from u", "select a from t union select c from t",
	} {
		if impl.SafePlan(boundPlan(t, s, text)) {
			t.Errorf("%s is not safe", text)
		}
	}
}

// TestSafePlanOfAny hands in plans that are not valid: their nodes are looked at one by one, and their expressions must have a text.
func TestSafePlanOfAny(t *testing.T) {
	with := func(exprs ...impl.Expr) impl.Plan {
		return impl.Plan{Nodes: []impl.PNode{{Op: 77, L: 5, R: -9, Exprs: exprs}, {}}}
	}
	one := impl.XNode{Op: impl.XConst, Kind: impl.Int, Val: intv(1)}
	of := func(nodes ...impl.XNode) impl.Expr { return impl.Expr{Nodes: nodes} }
	for what, c := range map[string]struct {
		p    impl.Plan
		safe bool
	}{
		"nothing":                       {impl.Plan{}, true},
		"no expression":                 {with(), true},
		"any fields":                    {with(of(impl.XNode{Op: impl.XConst, Kind: 99, A: 5, B: 6, Val: boolish(7)})), true},
		"EXISTS of no plan":             {with(of(impl.XNode{Op: impl.XExists, B: -77})), true},
		"IN of no plan":                 {with(of(one, impl.XNode{Op: impl.XInPlan, B: 1000, Kids: []int{0}})), true},
		"a value of no plan":            {with(of(impl.XNode{Op: impl.XScalar, B: -77})), false},
		"an expression without nodes":   {with(of(one), impl.Expr{}), false},
		"two roots":                     {with(of(one, one)), false},
		"a kid that is not there":       {with(of(one, impl.XNode{Op: impl.XUn, A: impl.OpNot, Kids: []int{7}})), false},
		"a kid too few":                 {with(of(one, impl.XNode{Op: impl.XBin, A: impl.OpEq, Kids: []int{0}})), false},
		"no operation":                  {with(of(impl.XNode{Op: 15})), false},
		"operation 0":                   {with(of(impl.XNode{})), false},
		"no operator":                   {with(of(one, one, impl.XNode{Op: impl.XBin, A: impl.OpNot, Kids: []int{0, 1}})), false},
		"operator 0":                    {with(of(one, one, impl.XNode{Op: impl.XBin, Kids: []int{0, 1}})), false},
		"no function":                   {with(of(impl.XNode{Op: impl.XCall, A: 14})), false},
		"a cast to Null":                {with(of(one, impl.XNode{Op: impl.XCast, A: impl.Null, Kids: []int{0}})), false},
		"a cast to no kind":             {with(of(one, impl.XNode{Op: impl.XCast, A: 6, Kids: []int{0}})), false},
		"a cast to the kid's own kind":  {with(of(one, impl.XNode{Op: impl.XCast, A: impl.Int, Kids: []int{0}})), true},
		"a cast of kind Null":           {with(of(impl.XNode{Op: impl.XConst}, impl.XNode{Op: impl.XCast, A: impl.Date, Kids: []int{0}})), true},
		"a cast to Text":                {with(of(one, impl.XNode{Op: impl.XCast, A: impl.Text, Kids: []int{0}})), true},
		"a cast to Dec":                 {with(of(one, impl.XNode{Op: impl.XCast, A: impl.Dec, Kids: []int{0}})), false},
		"a sum of nothing":              {impl.Plan{Nodes: []impl.PNode{{Aggs: []impl.PAgg{{Fn: impl.AggMax, Col: -5}, {Fn: impl.AggSum, Col: -5}}}}}, false},
		"a mean of nothing":             {impl.Plan{Nodes: []impl.PNode{{}, {Op: impl.PScan, Aggs: []impl.PAgg{{Fn: impl.AggAvg}}}}}, false},
		"no aggregate":                  {impl.Plan{Nodes: []impl.PNode{{Aggs: []impl.PAgg{{Fn: 99}, {Fn: impl.AggAll}, {Fn: impl.AggCount}, {Fn: impl.AggMin}, {Fn: impl.AggMax}}}}}, true},
		"more nodes than a plan has":    {impl.Plan{Nodes: make([]impl.PNode, 500)}, true},
		"as many nodes as one may have": {with(laid(manyNots(impl.MaxItems))), true},
		"one node more":                 {with(laid(manyNots(impl.MaxItems + 1))), false},
	} {
		if got := impl.SafePlan(c.p); got != c.safe || wantedSafePlan(c.p) != c.safe {
			t.Errorf("%s: %v, by the reference %v; want %v", what, got, wantedSafePlan(c.p), c.safe)
		}
	}
}

func manyNots(count int) *branch {
	made := constOf(boolv(true))
	for range count - 1 {
		made = unOf(impl.OpNot, made)
	}
	return made
}
