package tests

import (
	"fmt"
	"slices"
	"strings"
	"testing"

	"loop.example/g00001/impl"
)

// smith lays plans down as physical ones. A shrub that is marked is what its mark says, with its own sides, Kinds and expressions; all others are the operation of the same name.
type smith struct {
	*planner
	marks map[*shrub]impl.QNode
}

func newSmith(p *planner) smith { return smith{p, map[*shrub]impl.QNode{}} }

func (f smith) phys(root *shrub) impl.Phys { return impl.Phys{Nodes: f.layPhys(root, nil)} }

func (f smith) layPhys(plan *shrub, nodes []impl.QNode) []impl.QNode {
	node, marked := f.marks[plan]
	if !marked {
		node = asPhys(plan.PNode)
	}
	node.L, node.R, node.Kinds = -1, -1, plan.Kinds
	if plan.l != nil {
		nodes = f.layPhys(plan.l, nodes)
		node.L = len(nodes) - 1
	}
	if plan.r != nil {
		nodes = f.layPhys(plan.r, nodes)
		node.R = len(nodes) - 1
	}
	node.Exprs = f.layExprs(plan.exprs, func(named *shrub) int {
		nodes = f.layPhys(named, nodes)
		return len(nodes) - 1
	})
	return append(nodes, node)
}

// asPhys is the node of a physical plan that does what a plan's node does, by the operation of the same name.
func asPhys(n impl.PNode) impl.QNode {
	op := map[int]int{
		impl.PScan: impl.QScan, impl.PValues: impl.QValues, impl.PFilter: impl.QFilter, impl.PProject: impl.QProject, impl.PJoin: impl.QLoop, impl.PGroup: impl.QGroup,
		impl.PDistinct: impl.QDistinct, impl.PSort: impl.QSort, impl.PLimit: impl.QLimit, impl.PUnion: impl.QUnion, impl.PExcept: impl.QExcept,
	}[n.Op]
	return impl.QNode{Op: op, L: n.L, R: n.R, Table: n.Table, A: n.A, B: n.B, Exprs: n.Exprs, Keys: n.Keys, Aggs: n.Aggs, Sorts: n.Sorts, Kinds: n.Kinds}
}

// nodeByNode is a plan as a physical one that does the same node by node.
func nodeByNode(p impl.Plan) impl.Phys {
	var f impl.Phys
	for _, n := range p.Nodes {
		f.Nodes = append(f.Nodes, asPhys(n))
	}
	return f
}

// physReader reads physical plans that are written as calls: those of a planReader, and
// sought(table, index, 'A B', values ..); looked(L, table, index, B, values .., condition) of each join; hashed(L, R, 'key=key ..', condition) of each join, merged
// likewise; topped(L, sorts, limit, offset).
type physReader struct {
	*planReader
	smith
}

// readPhys reads a physical plan, which may be no valid one.
func readPhys(t *testing.T, s impl.Schema, text string) impl.Phys {
	t.Helper()
	r := physReader{planReader: &planReader{T: t, planner: planner{schema: s, tree: parsed(t, "select "+text)}}}
	r.smith = newSmith(&r.planReader.planner)
	r.more = r.physical
	return r.phys(r.plan(firstItem(t, r.planReader.tree)))
}

func (r physReader) physical(call impl.Node) *shrub {
	kids := call.Kids
	switch {
	case call.Name == "sought":
		var node impl.QNode
		fmt.Sscanf(r.planReader.at(kids[2]).Val.S, "%d %d", &node.A, &node.B)
		return r.marked(r.found(node, impl.QSeek, kids[0], kids[1]), &shrub{PNode: impl.PNode{Kinds: r.plan(kids[0]).Kinds}, exprs: r.exprsOf(kids[3:])})
	case joinNamed(call.Name, "looked") > 0:
		left := r.plan(kids[0])
		node := r.found(impl.QNode{A: joinNamed(call.Name, "looked"), B: r.number(kids[3])}, impl.QLook, kids[1], kids[2])
		return r.marked(node, &shrub{PNode: impl.PNode{Kinds: joinedKinds(node.A, left.Kinds, r.plan(kids[1]).Kinds)}, l: left, exprs: r.exprsOf(kids[4:])})
	case joinNamed(call.Name, "hashed") > 0:
		return r.matched(impl.QNode{Op: impl.QHash, A: joinNamed(call.Name, "hashed")}, kids)
	case joinNamed(call.Name, "merged") > 0:
		return r.matched(impl.QNode{Op: impl.QMerge, A: joinNamed(call.Name, "merged")}, kids)
	case call.Name == "topped":
		node := impl.QNode{Op: impl.QTop, Sorts: sortsOf(r.planReader.at(kids[1]).Val.S), A: r.number(kids[2]), B: r.number(kids[3])}
		return r.marked(node, sameRows(r.plan(kids[0]), impl.PNode{}))
	}
	return nil
}

func (f smith) marked(node impl.QNode, made *shrub) *shrub {
	f.marks[made] = node
	return made
}

// found puts into a node the table and the index that it finds rows by.
func (r physReader) found(node impl.QNode, op, table, index int) impl.QNode {
	node.Op, node.Table, node.Index = op, r.plan(table).Table, r.number(index)
	return node
}

func (r physReader) matched(node impl.QNode, kids []int) *shrub {
	left, right := r.plan(kids[0]), r.plan(kids[1])
	for _, word := range strings.Fields(r.planReader.at(kids[2]).Val.S) {
		var a, b int
		fmt.Sscanf(word, "%d=%d", &a, &b)
		node.Keys, node.RKeys = append(node.Keys, a), append(node.RKeys, b)
	}
	return r.marked(node, &shrub{impl.PNode{Kinds: joinedKinds(node.A, left.Kinds, right.Kinds)}, left, right, r.exprsOf(kids[3:])})
}

// physGrower makes valid physical plans by chance: plans of which some operations become others that they need not be like.
type physGrower struct {
	planGrower
	smith
	// forged are the shrubs that were looked at, and what became of them.
	forged map[*shrub]*shrub
}

func newPhysGrower(numbers *numberSource, s impl.Schema, depth int) physGrower {
	g := physGrower{planGrower: newPlanGrower(numbers, s, depth), forged: map[*shrub]*shrub{}}
	g.smith = newSmith(g.planGrower.planner)
	return g
}

// grownPhys is a valid physical plan, with many joins if told so; false if there are too many nodes.
func (g physGrower) grownPhys(size int, joins bool) (impl.Phys, bool) {
	plan := g.grown
	if joins {
		g.rich = true
		plan = choiceGrower{g.planGrower}.plan
	}
	root := g.forge(plan(nil, size), nil)
	if g.smith.nodeCount(root, map[*shrub]int{}) > 200 {
		return impl.Phys{}, false
	}
	return g.phys(root), true
}

// forge makes a physical plan of a plan, which sees some lists of kinds around it.
func (g physGrower) forge(p *shrub, around [][]int) *shrub {
	if p == nil {
		return nil
	}
	if made, done := g.forged[p]; done {
		return made
	}
	made := &shrub{p.PNode, g.forge(p.l, around), g.forge(p.r, around), slices.Clone(p.exprs)}
	g.forged[p], g.forged[made] = made, made
	rows := g.changed(made, around)
	for i, e := range made.exprs {
		g.forgeNamed(e, append([][]int{rows(i)}, around...))
	}
	return made
}

// forgeNamed makes physical plans of those that an expression names.
func (g physGrower) forgeNamed(b *branch, seen [][]int) {
	for _, kid := range b.kids {
		g.forgeNamed(kid, seen)
	}
	if b.Op >= impl.XExists {
		plans := g.planGrower.plans
		plans[b.B] = g.forge(plans[b.B], seen)
	}
}

// changed makes another operation of a node, or not; it tells the row 0 of each expression.
func (g physGrower) changed(p *shrub, around [][]int) func(expr int) []int {
	var left, right []int
	if p.l != nil {
		left = p.l.Kinds
	}
	if p.r != nil {
		right = p.r.Kinds
	}
	both := append(slices.Clone(left), right...)
	rows := func(int) []int { return both }
	if g.chance(4) {
		return rows
	}
	switch {
	case p.Op == impl.PScan && g.chance(2):
		g.seek(p, around)
	case p.Op == impl.PJoin && p.r.Op == impl.PScan && g.marks[p.r].Op != impl.QSeek && g.chance(2):
		if count := g.look(p, left, around); count > 0 {
			return func(expr int) []int {
				if expr < count {
					return left
				}
				return both
			}
		}
	case p.Op == impl.PJoin:
		g.match(p, left, right)
	case (p.Op == impl.PLimit || p.Op == impl.PSort) && len(left) > 0:
		g.marks[p] = impl.QNode{Op: impl.QTop, Sorts: []impl.SortKey{{Col: below(g.planGrower.numberSource, len(left)), Desc: g.chance(2), First: g.chance(2)}, {Col: below(g.planGrower.numberSource, len(left))}}, A: g.pick(0, 1, 3, 9, 9223372036854775807), B: g.pick(0, 0, 1, 2)}
	}
	return rows
}

// someKey is a key of a table: an index's number, or 0, and its columns.
func (g physGrower) someKey(table int) (int, []int) {
	s := g.smith.schema
	place := slices.IndexFunc(s.Tables, func(one impl.Table) bool { return one.Id == table })
	numbers, keys := []int{0}, [][]int{s.Tables[place].Primary}
	for _, index := range s.Indexes {
		if index.Table == s.Tables[place].Name {
			numbers, keys = append(numbers, index.Id), append(keys, index.Cols)
		}
	}
	at := below(g.planGrower.numberSource, len(keys))
	return numbers[at], keys[at]
}

// keyValue is an expression of a kind: a value that a table may have, a column, NULL, or any.
func (g physGrower) keyValue(kind int, seen [][]int) *branch {
	if g.chance(20) {
		return castOf(kind, constOf(null))
	}
	if g.chance(6) {
		return g.exprs(seen).ofKind(kind, g.pick(0, 1))
	}
	var columns []*branch
	for row, kinds := range seen {
		for column, of := range kinds {
			if of == kind {
				columns = append(columns, columnOf(kind, row, column))
			}
		}
	}
	if len(columns) > 0 && !g.chance(3) {
		return g.pickBranch(columns...)
	}
	few := map[int][]impl.Value{
		impl.Int: {intv(1), intv(2), intv(0), intv(3), intv(4), intv(7)}, impl.Dec: {decv(0), decv(5000), decv(10000), decv(15000)}, impl.Text: {textv("x"), textv("y"), textv("")},
		impl.Bool: {boolv(true), boolv(false)}, impl.Date: {datev(0), datev(1)},
	}[kind]
	return constOf(few[below(g.planGrower.numberSource, len(few))])
}

func (g physGrower) seek(p *shrub, around [][]int) {
	index, key := g.someKey(p.Table)
	node := impl.QNode{Op: impl.QSeek, Table: p.Table, Index: index, A: below(g.planGrower.numberSource, len(key)+1)}
	bounds := 0
	if node.A < len(key) && (node.A == 0 || g.chance(2)) {
		node.B = g.pick(1, 3, 4, 12, 5, 7, 13, 15)
		bounds = map[int]int{1: 1, 3: 1, 4: 1, 12: 1, 5: 2, 7: 2, 13: 2, 15: 2}[node.B]
	}
	if len(key) == 0 {
		return
	}
	for i := range node.A + bounds {
		p.exprs = append(p.exprs, g.keyValue(p.Kinds[key[min(i, node.A)]], append([][]int{nil}, around...)))
	}
	g.marks[p] = node
}

// look makes a QLook of a join with a table, of so many columns; 0 if the table has no key.
func (g physGrower) look(p *shrub, left []int, around [][]int) int {
	index, key := g.someKey(p.r.Table)
	if len(key) == 0 {
		return 0
	}
	node := impl.QNode{Op: impl.QLook, Table: p.r.Table, Index: index, A: p.A, B: 1 + below(g.planGrower.numberSource, len(key))}
	var exprs []*branch
	for _, column := range key[:node.B] {
		exprs = append(exprs, g.keyValue(p.r.Kinds[column], append([][]int{left}, around...)))
	}
	p.r, p.exprs = nil, append(exprs, p.exprs...)
	g.marks[p] = node
	return node.B
}

// match makes a QHash or QMerge of a join, if columns of both sides are of one kind.
func (g physGrower) match(p *shrub, left, right []int) {
	node := impl.QNode{Op: impl.QHash, A: p.A}
	if p.A == impl.JoinInner && g.chance(2) {
		node.Op = impl.QMerge
	}
	for i, kind := range left {
		for k, other := range right {
			if kind == other && kind != impl.Null && g.chance(len(left)+1) {
				node.Keys, node.RKeys = append(node.Keys, i), append(node.RKeys, k)
			}
		}
	}
	if len(node.Keys) == 0 {
		return
	}
	if g.chance(3) {
		p.exprs = []*branch{constOf(boolv(true))}
	}
	g.marks[p] = node
}

// spoilPhys changes one field of a node.
func spoilPhys(g grower, f impl.Phys) {
	n := &f.Nodes[below(g.numberSource, len(f.Nodes))]
	numbers := []*int{&n.Op, &n.L, &n.R, &n.Table, &n.Index, &n.A, &n.B}
	switch choice := below(g.numberSource, 15); choice {
	case 0, 1, 2, 3, 4, 5, 6:
		*numbers[choice] += g.pick(-1, 1, 1, -2, 7)
	case 7:
		n.Keys = spoilList(g, n.Keys, g.pick(-1, 0, 1, 2))
	case 8:
		n.RKeys = spoilList(g, n.RKeys, g.pick(-1, 0, 1, 2))
	case 9:
		n.Exprs = spoilList(g, n.Exprs, impl.Expr{Nodes: []impl.XNode{{Op: impl.XConst}}})
	case 10:
		n.Aggs = spoilList(g, n.Aggs, impl.PAgg{Fn: g.pick(0, 1, 2, 3, 4, 5, 6, 7), Col: g.pick(-1, 0, 1, 2), Distinct: g.chance(2)})
	case 11:
		n.Sorts = spoilList(g, n.Sorts, impl.SortKey{Col: g.pick(-1, 0, 1, 2)})
	case 12:
		n.Kinds = spoilList(g, n.Kinds, g.pick(-1, 0, 1, 2, 3, 4, 5, 6))
	default:
		if len(n.Exprs) > 0 {
			e := n.Exprs[below(g.numberSource, len(n.Exprs))]
			spoilXNode(g, &e.Nodes[below(g.numberSource, len(e.Nodes))])
		}
	}
}

// physBehindFiller is the union of a filler with a physical plan of which no row and no column is taken: its work is 3 more than that of both.
func physBehindFiller(work int, f impl.Phys) impl.Phys {
	nodes := nodeByNode(impl.Plan{Nodes: (&planner{}).lay(filler(work), nil)}).Nodes
	first := len(nodes)
	for _, n := range copyPhys(f).Nodes {
		if n.L >= 0 {
			n.L += first
		}
		if n.R >= 0 {
			n.R += first
		}
		for _, e := range n.Exprs {
			for i := range e.Nodes {
				if e.Nodes[i].Op >= impl.XExists {
					e.Nodes[i].B += first
				}
			}
		}
		nodes = append(nodes, n)
	}
	last := len(nodes) - 1
	nodes = append(nodes, impl.QNode{Op: impl.QLimit, L: last, R: -1, Kinds: nodes[last].Kinds}, impl.QNode{Op: impl.QProject, L: last + 1, R: -1})
	return impl.Phys{Nodes: append(nodes, impl.QNode{Op: impl.QUnion, L: first - 1, R: last + 2, A: 1})}
}

// wantPhysWork asks how much work a physical plan is that ends with a code: just so much is left for it of MaxWork, and then one less.
func wantPhysWork(t *testing.T, s impl.Schema, st impl.State, f impl.Phys, code, work int) {
	t.Helper()
	ahead := impl.MaxWork - 3 - work
	for extra, want := range []int{code, impl.ErrFuel} {
		rows, spent, got := impl.Execute(s, st, physBehindFiller(ahead+extra, f))
		wantSpent := impl.MaxWork
		if want != impl.OK {
			wantSpent = 0
		}
		if got != want || len(rows) > 0 || spent != wantSpent {
			t.Errorf("with a work of %d ahead: %d, %d; want %d, %d\n%s", ahead+extra, spent, got, wantSpent, want, impl.Explain(f))
		}
	}
}

// wantExecution asks PhysOK and Execute of a valid schema and state for what the reference answers; it tells the code.
func wantExecution(t *testing.T, s impl.Schema, st impl.State, f impl.Phys) int {
	t.Helper()
	kept, keptPhys := copyState(st), copyPhys(f)
	ok := wantedPhysOK(s, f)
	if got := impl.PhysOK(s, f); got != ok {
		t.Fatalf("PhysOK is %v\n%+v", got, f)
	}
	var want [][]impl.Value
	wantWork, wantCode := 0, impl.ErrBad
	if ok {
		want, wantWork, wantCode = wantedExecution(s, st, f)
	}
	if wantCode != impl.OK {
		want, wantWork = nil, 0
	}
	rows, work, code := impl.Execute(s, st, f)
	if code != wantCode || work != wantWork || !sameValues(rows, want) {
		t.Fatalf("%sis %d, %d %v\nnot %d, %d %v\nover %v", impl.Explain(f), code, work, rows, wantCode, wantWork, want, st)
	}
	if !sameState(st, kept) || !samePhys(f, keptPhys) {
		t.Fatalf("%v: an argument was written into", keptPhys)
	}
	return code
}
