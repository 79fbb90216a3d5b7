package tests

import (
	"fmt"
	"slices"

	"loop.example/g00001/impl"
)

// wantedStats is Analyze of a valid state.
func wantedStats(s impl.Schema, st impl.State) impl.Stats {
	var x impl.Stats
	for i, table := range s.Tables {
		numbers := impl.TableStats{Id: table.Id, Rows: len(st.Tables[i].Rows)}
		for column := range table.Cols {
			var met [][]impl.Value
			for _, row := range st.Tables[i].Rows {
				if one := row[column : column+1]; one[0] != null && firstLike(met, one) < 0 {
					met = append(met, one)
				}
			}
			numbers.Distinct = append(numbers.Distinct, len(met))
		}
		x.Tables = append(x.Tables, numbers)
	}
	return x
}

func wantedStatsOK(s impl.Schema, x impl.Stats) bool {
	if len(x.Tables) != len(s.Tables) {
		return false
	}
	for i, table := range s.Tables {
		numbers := x.Tables[i]
		if numbers.Id != table.Id || numbers.Rows < 0 || numbers.Rows > 400 || len(numbers.Distinct) != len(table.Cols) {
			return false
		}
		for _, count := range numbers.Distinct {
			if count < 0 || count > numbers.Rows {
				return false
			}
		}
	}
	return true
}

// bush is a node of a physical plan with what it stands on at hand.
type bush struct {
	impl.QNode
	l, r  *bush
	exprs []*branch
}

// strategist says chapter 10 once more.
type strategist struct {
	*rewriter
	schema impl.Schema
	stats  impl.Stats
}

// wantedPhys is Choose of a valid schema.
func wantedPhys(s impl.Schema, x impl.Stats, p impl.Plan) (impl.Phys, int) {
	if !wantedStatsOK(s, x) || !wantedPlanOK(s, p) {
		return impl.Phys{}, impl.ErrBad
	}
	r, root := shrubsOf(p)
	c := &strategist{r, s, x}
	f := impl.Phys{Nodes: c.layPhys(c.choose(root, false), nil)}
	if len(f.Nodes) > 200 {
		return impl.Phys{}, impl.ErrBig
	}
	for _, n := range f.Nodes {
		if slices.ContainsFunc(n.Exprs, func(e impl.Expr) bool { return len(e.Nodes) > 400 }) {
			return impl.Phys{}, impl.ErrBig
		}
	}
	return f, impl.OK
}

func (c *strategist) layPhys(b *bush, nodes []impl.QNode) []impl.QNode {
	node := b.QNode
	node.L, node.R = -1, -1
	if b.l != nil {
		nodes = c.layPhys(b.l, nodes)
		node.L = len(nodes) - 1
	}
	if b.r != nil {
		nodes = c.layPhys(b.r, nodes)
		node.R = len(nodes) - 1
	}
	for _, e := range b.exprs {
		list := laid(e)
		for i, x := range list.Nodes {
			if x.Op >= impl.XExists {
				nodes = c.layPhys(c.choose(c.plans[x.B], false), nodes)
				list.Nodes[i].B = len(nodes) - 1
			}
		}
		node.Exprs = append(node.Exprs, list)
	}
	return append(nodes, node)
}

func cut(n int) int { return min(n, 1000000000) }

func (c *strategist) statsOf(table int) impl.TableStats {
	return c.stats.Tables[slices.IndexFunc(c.stats.Tables, func(x impl.TableStats) bool { return x.Id == table })]
}

func (c *strategist) dist(n *shrub, column int) int {
	for {
		switch n.Op {
		case impl.PScan:
			return max(1, c.statsOf(n.Table).Distinct[column])
		case impl.PFilter, impl.PDistinct, impl.PSort, impl.PLimit:
			n = n.l
			continue
		case impl.PProject:
			if e := n.exprs[column]; e.Op == impl.XCol && e.A == 0 {
				n, column = n.l, e.B
				continue
			}
		}
		return 10
	}
}

// ownCol tells whether an expression is a column of row 0.
func ownCol(b *branch) bool { return b.Op == impl.XCol && b.A == 0 }

// divided is an estimate divided for conditions; pair tells the dist for two columns of which one is L's and one is R's, 0 for others.
func divided(est int, list []*branch, dist func(column int) int, pair func(a, b int) int) int {
	for _, b := range list {
		by := 2
		switch {
		case b.Op == impl.XBetween || b.Op == impl.XBin && b.A >= impl.OpLt && b.A <= impl.OpGe:
			by = 3
		case b.Op == impl.XBin && b.A == impl.OpEq && ownCol(b.kids[0]) && ownCol(b.kids[1]) && pair(b.kids[0].B, b.kids[1].B) > 0:
			by = pair(b.kids[0].B, b.kids[1].B)
		case b.Op == impl.XBin && b.A == impl.OpEq && ownCol(b.kids[0]):
			by = dist(b.kids[0].B)
		case b.Op == impl.XBin && b.A == impl.OpEq && ownCol(b.kids[1]):
			by = dist(b.kids[1].B)
		}
		est = max(1, est/by)
	}
	return est
}

func noPair(int, int) int { return 0 }

func (c *strategist) choose(n *shrub, keep bool) *bush {
	if n.Op == impl.PJoin {
		return c.join(n, keep)
	}
	node := impl.QNode{Table: n.Table, A: n.A, B: n.B, Keys: n.Keys, Aggs: n.Aggs, Sorts: n.Sorts, Kinds: n.Kinds}
	made := &bush{QNode: node, exprs: n.exprs}
	if n.Op == impl.PLimit {
		keep = true
	}
	from := n.l
	if n.Op == impl.PLimit && n.A != -1 && n.l.Op == impl.PSort {
		made.Op, made.Sorts, from = impl.QTop, n.l.Sorts, n.l.l
	}
	l, r := &bush{}, &bush{}
	if from != nil {
		l = c.choose(from, keep)
		made.l = l
	}
	if n.r != nil {
		r = c.choose(n.r, keep)
		made.r = r
	}
	made.Cost = l.Cost + l.Est
	switch n.Op {
	case impl.PScan:
		made.Op, made.Est = impl.QScan, c.statsOf(n.Table).Rows
		made.Cost = max(1, made.Est)
	case impl.PValues:
		made.Op, made.Est, made.Cost = impl.QValues, n.A, n.A
	case impl.PFilter:
		list := wantedConjuncts(n.exprs[0])
		made.Op, made.Est = impl.QFilter, divided(l.Est, list, func(column int) int { return c.dist(n.l, column) }, noPair)
		if sought := c.sought(n, list, l.Cost); sought != nil {
			return c.overSought(made, sought)
		}
	case impl.PProject:
		made.Op, made.Est = impl.QProject, l.Est
	case impl.PGroup:
		made.Op, made.Est = impl.QGroup, l.Est/2
		if len(n.Keys) == 0 {
			made.Est = 1
		}
	case impl.PDistinct:
		made.Op, made.Est = impl.QDistinct, l.Est/2
	case impl.PSort:
		made.Op, made.Est, made.Cost = impl.QSort, l.Est, l.Cost+2*l.Est
	case impl.PLimit:
		made.Est = l.Est
		if n.A != -1 {
			made.Est = min(made.Est, n.A)
		}
		if made.Op == impl.QTop {
			made.Cost += l.Est
		} else {
			made.Op = impl.QLimit
		}
	case impl.PUnion:
		made.Op, made.Est, made.Cost = impl.QUnion, l.Est+r.Est, l.Cost+l.Est+r.Cost+r.Est
	case impl.PExcept:
		made.Op, made.Est, made.Cost = impl.QExcept, l.Est, l.Cost+l.Est+r.Cost+r.Est
	}
	made.Est, made.Cost = cut(max(1, made.Est)), cut(made.Cost)
	return made
}

// wantedKey is a primary key or an index.
type wantedKey struct {
	id   int
	cols []int
}

func (c *strategist) keysOf(table int) []wantedKey {
	var keys []wantedKey
	for _, t := range c.schema.Tables {
		if t.Id != table {
			continue
		}
		if len(t.Primary) > 0 {
			keys = append(keys, wantedKey{0, t.Primary})
		}
		for _, index := range c.schema.Indexes {
			if index.Table == t.Name {
				keys = append(keys, wantedKey{index.Id, index.Cols})
			}
		}
	}
	return keys
}

// facing finds the first conjunct of a column and an expression of its kind, by one of some operators as they are with the column on the left; the expression sees only such columns of row 0 as may be. -1 if there is none.
func (c *strategist) facing(list []*branch, column int, ops []int, may func(column int) bool) (at, op int, other *branch) {
	turned := map[int]int{impl.OpEq: impl.OpEq, impl.OpLt: impl.OpGt, impl.OpLe: impl.OpGe, impl.OpGt: impl.OpLt, impl.OpGe: impl.OpLe}
	for i, b := range list {
		if b.Op != impl.XBin || turned[b.A] == 0 || !c.isPlain(b) {
			continue
		}
		for way, x := range b.kids {
			y, by := b.kids[1-way], b.A
			if way == 1 {
				by = turned[by]
			}
			if ownCol(x) && x.B == column && slices.Contains(ops, by) && x.Kind == y.Kind && !slices.ContainsFunc(columnsSeen(y), func(seen int) bool { return !may(seen) }) {
				return i, by, y
			}
		}
	}
	return -1, 0, nil
}

func never(int) bool { return false }

// sought is the QSeek for a PFilter, with the places of the conjuncts that it answers as its Keys; nil if there is none.
func (c *strategist) sought(n *shrub, list []*branch, scanCost int) *bush {
	if n.l.Op != impl.PScan || !c.safeNode(n) {
		return nil
	}
	var best *bush
	for _, key := range c.keysOf(n.l.Table) {
		made := &bush{QNode: impl.QNode{Op: impl.QSeek, Table: n.l.Table, Index: key.id, Kinds: n.l.Kinds, Est: c.statsOf(n.l.Table).Rows}}
		for _, column := range key.cols {
			if at, _, y := c.facing(list, column, []int{impl.OpEq}, never); at >= 0 {
				made.A++
				made.Est /= c.dist(n.l, column)
				made.Keys, made.exprs = append(made.Keys, at), append(made.exprs, y)
				continue
			}
			if at, op, y := c.facing(list, column, []int{impl.OpGt, impl.OpGe}, never); at >= 0 {
				made.B += map[int]int{impl.OpGt: 1, impl.OpGe: 3}[op]
				made.Est /= 3
				made.Keys, made.exprs = append(made.Keys, at), append(made.exprs, y)
			}
			if at, op, y := c.facing(list, column, []int{impl.OpLt, impl.OpLe}, never); at >= 0 {
				made.B += map[int]int{impl.OpLt: 4, impl.OpLe: 12}[op]
				made.Est /= 3
				made.Keys, made.exprs = append(made.Keys, at), append(made.exprs, y)
			}
			break
		}
		made.Est = max(1, made.Est)
		made.Cost = 2 + made.Est
		if len(made.exprs) > 0 && made.Cost < scanCost && (best == nil || made.Cost < best.Cost) {
			best = made
		}
	}
	return best
}

// overSought puts what is left of a QFilter over a QSeek that answers some of its conjuncts.
func (c *strategist) overSought(filter, sought *bush) *bush {
	var left []*branch
	for i, b := range wantedConjuncts(filter.exprs[0]) {
		if !slices.Contains(sought.Keys, i) {
			left = append(left, b)
		}
	}
	sought.Keys = nil
	if len(left) == 0 {
		return sought
	}
	filter.l, filter.exprs, filter.Cost = sought, []*branch{andOf(left)}, sought.Cost+sought.Est
	return filter
}

// joint is what is joined: how it is worked out, which plans it comes from, the dist of its columns.
type joint struct {
	l, r   *bush
	source *shrub
	kind   int
	list   []*branch
	whole  *branch
	keep   bool
	dist   func(column int) int
}

func (c *strategist) join(n *shrub, keep bool) *bush {
	if n.A == impl.JoinInner && !keep {
		if made := c.region(n); made != nil {
			return made
		}
	}
	j := joint{l: c.choose(n.l, keep), r: c.choose(n.r, keep), source: n.r, kind: n.A, list: wantedConjuncts(n.exprs[0]), whole: n.exprs[0], keep: keep}
	width := len(n.l.Kinds)
	j.dist = func(column int) int {
		if column < width {
			return c.dist(n.l, column)
		}
		return c.dist(n.r, column-width)
	}
	ways := c.ways(j)
	if !c.safeNode(n) {
		return ways[0]
	}
	return cheapestOf(ways)
}

func cheapestOf(ways []*bush) *bush {
	best := ways[0]
	for _, way := range ways {
		if way.Cost < best.Cost {
			best = way
		}
	}
	return best
}

// ways are all ways of a join of which nothing fails, in their order.
func (c *strategist) ways(j joint) []*bush {
	width := len(j.l.Kinds)
	apart := func(a, b int) int {
		if (a < width) == (b < width) {
			return 0
		}
		return max(j.dist(a), j.dist(b))
	}
	est := divided(cut(j.l.Est*j.r.Est), j.list, j.dist, apart)
	switch j.kind {
	case impl.JoinLeft:
		est = max(est, j.l.Est)
	case impl.JoinSemi, impl.JoinAnti:
		est = max(1, j.l.Est/2)
	}
	kinds := j.l.Kinds
	if j.kind < 3 {
		kinds = append(slices.Clone(kinds), j.r.Kinds...)
	}
	node := impl.QNode{Op: impl.QLoop, A: j.kind, Est: est, Kinds: kinds, Cost: cut(j.l.Cost + j.r.Cost + j.l.Est*j.r.Est)}
	ways := []*bush{{node, j.l, j.r, []*branch{j.whole}}}
	node.Op, node.Cost = impl.QHash, cut(j.l.Cost+j.r.Cost+j.l.Est+2*j.r.Est)
	var others []*branch
	for _, b := range j.list {
		if b.Op == impl.XBin && b.A == impl.OpEq && ownCol(b.kids[0]) && ownCol(b.kids[1]) && apart(b.kids[0].B, b.kids[1].B) > 0 && b.kids[0].Kind == b.kids[1].Kind && b.kids[0].Kind != impl.Null {
			pair := []int{b.kids[0].B, b.kids[1].B}
			slices.Sort(pair)
			node.Keys, node.RKeys = append(node.Keys, pair[0]), append(node.RKeys, pair[1]-width)
		} else {
			others = append(others, b)
		}
	}
	if len(node.Keys) > 0 {
		ways = append(ways, &bush{node, j.l, j.r, []*branch{andOf(others)}})
	}
	if look := c.look(j, est); look != nil {
		ways = append(ways, look)
	}
	if len(node.Keys) > 0 && j.kind == impl.JoinInner && !j.keep {
		node.Op, node.Cost = impl.QMerge, cut(j.l.Cost+j.r.Cost+j.l.Est+j.r.Est+32)
		ways = append(ways, &bush{node, j.l, j.r, []*branch{andOf(others)}})
	}
	return ways
}

func (c *strategist) look(j joint, est int) *bush {
	scan := j.source
	var below []*branch
	if scan.Op == impl.PFilter && scan.l.Op == impl.PScan && c.safeNode(scan) {
		below = wantedConjuncts(scan.exprs[0])
		scan = scan.l
	}
	if scan.Op != impl.PScan || slices.ContainsFunc(below, func(b *branch) bool { return !c.isPlain(b) }) {
		return nil
	}
	width := len(j.l.Kinds)
	var best *bush
	for _, key := range c.keysOf(scan.Table) {
		made := &bush{QNode: impl.QNode{Op: impl.QLook, Table: scan.Table, Index: key.id, A: j.kind, Est: est, Kinds: j.l.Kinds}, l: j.l}
		if j.kind < 3 {
			made.Kinds = append(slices.Clone(j.l.Kinds), scan.Kinds...)
		}
		rows := c.statsOf(scan.Table).Rows
		var used []int
		for _, column := range key.cols {
			at, _, y := c.facing(j.list, width+column, []int{impl.OpEq}, func(seen int) bool { return seen < width })
			if at < 0 {
				break
			}
			used, made.exprs = append(used, at), append(made.exprs, y)
			rows /= c.dist(scan, column)
		}
		made.B = len(used)
		if made.B == 0 || best != nil && made.B <= best.B {
			continue
		}
		var rest []*branch
		for i, b := range j.list {
			if !slices.Contains(used, i) {
				rest = append(rest, b)
			}
		}
		for _, b := range below {
			rest = append(rest, c.shifted(b, 0, width))
		}
		made.exprs = append(made.exprs, andOf(rest))
		made.Cost = cut(j.l.Cost + j.l.Est*(2+max(1, rows)))
		best = made
	}
	return best
}

// shifted has other numbers for the columns of a row, also where plans in the expression see it.
func (c *strategist) shifted(b *branch, row, by int) *branch {
	inner := c.inPlans([]*branch{b}, func(n *shrub) *shrub { return c.shiftedPlan(n, row+1, by) })[0]
	return renumbered(inner, func(seen, column int) (int, int) {
		if seen == row {
			column += by
		}
		return seen, column
	})
}

func (c *strategist) shiftedPlan(n *shrub, row, by int) *shrub {
	if n == nil {
		return nil
	}
	made := *n
	made.l, made.r, made.exprs = c.shiftedPlan(n.l, row, by), c.shiftedPlan(n.r, row, by), nil
	for _, e := range n.exprs {
		made.exprs = append(made.exprs, c.shifted(e, row, by))
	}
	return &made
}

// territory is a region: its leaves, where their columns begin, its pool.
type territory struct {
	leaves []*shrub
	starts []int
	width  int
	pool   []*branch
	ok     bool
}

func (c *strategist) explore(n *shrub, t *territory) {
	if n.Op != impl.PJoin || n.A != impl.JoinInner {
		t.leaves, t.starts = append(t.leaves, n), append(t.starts, t.width)
		t.width += len(n.Kinds)
		t.ok = t.ok && c.safePlan(n)
		return
	}
	start := t.width
	c.explore(n.l, t)
	c.explore(n.r, t)
	t.ok = t.ok && c.safeNode(n)
	for _, b := range wantedConjuncts(n.exprs[0]) {
		if b.Op != impl.XConst || b.Val != boolv(true) {
			t.pool = append(t.pool, c.shifted(b, 0, start))
		}
	}
}

// leafOf is the leaf that has a column.
func (t *territory) leafOf(column int) int {
	for i, leaf := range t.leaves {
		if column >= t.starts[i] && column < t.starts[i]+len(leaf.Kinds) {
			return i
		}
	}
	panic("no leaf has this column")
}

// route is a way to join leaves, in an order.
type route struct {
	*bush
	order []int
}

// columns are the numbers of a route's columns among those of all leaves.
func (t *territory) columns(order []int) []int {
	var list []int
	for _, leaf := range order {
		for i := range t.leaves[leaf].Kinds {
			list = append(list, t.starts[leaf]+i)
		}
	}
	return list
}

// region is the way of a region whose order is chosen, nil if it is not.
func (c *strategist) region(n *shrub) *bush {
	t := &territory{ok: true}
	c.explore(n, t)
	if !t.ok || len(t.leaves) > 6 {
		return nil
	}
	var all []int
	for i := range t.leaves {
		all = append(all, i)
	}
	whole := c.route(t, all, map[string]route{})
	made := whole.bush
	columns := t.columns(whole.order)
	if !slices.Equal(columns, t.columns(all)) {
		node := impl.QNode{Op: impl.QProject, Est: whole.Est, Cost: cut(whole.Cost + whole.Est), Kinds: n.Kinds}
		made = &bush{QNode: node, l: whole.bush}
		for column, kind := range n.Kinds {
			made.exprs = append(made.exprs, columnOf(kind, 0, slices.Index(columns, column)))
		}
	}
	var hard []*branch
	for _, b := range t.pool {
		if !c.isPlain(b) {
			hard = append(hard, b)
		}
	}
	if len(hard) == 0 {
		return made
	}
	est := divided(made.Est, hard, func(column int) int { return c.leafDist(t, column) }, noPair)
	node := impl.QNode{Op: impl.QFilter, Est: est, Cost: cut(made.Cost + made.Est), Kinds: n.Kinds}
	return &bush{QNode: node, l: made, exprs: []*branch{andOf(hard)}}
}

func (c *strategist) leafDist(t *territory, column int) int {
	leaf := t.leafOf(column)
	return c.dist(t.leaves[leaf], column-t.starts[leaf])
}

// route is the cheapest way to join a set of leaves, which rise; known are those that were asked for ahead.
func (c *strategist) route(t *territory, set []int, known map[string]route) route {
	name := fmt.Sprint(set)
	if made, there := known[name]; there {
		return made
	}
	if len(set) == 1 {
		known[name] = route{c.choose(t.leaves[set[0]], false), set}
		return known[name]
	}
	var best route
	for i, leaf := range set {
		others := slices.Delete(slices.Clone(set), i, i+1)
		left := c.route(t, others, known)
		order := append(slices.Clone(left.order), leaf)
		columns := t.columns(order)
		j := joint{l: left.bush, r: c.route(t, []int{leaf}, known).bush, source: t.leaves[leaf], kind: impl.JoinInner}
		for _, b := range t.pool {
			if !c.isPlain(b) {
				continue
			}
			outside, new := false, len(others) == 1
			for _, column := range columnsSeen(b) {
				of := t.leafOf(column)
				outside = outside || !slices.Contains(set, of)
				new = new || of == leaf
			}
			if !outside && new {
				j.list = append(j.list, renumbered(b, func(row, column int) (int, int) {
					if row == 0 {
						column = slices.Index(columns, column)
					}
					return row, column
				}))
			}
		}
		j.whole = andOf(j.list)
		j.dist = func(column int) int { return c.leafDist(t, columns[column]) }
		if made := cheapestOf(c.ways(j)); best.bush == nil || made.Cost < best.Cost {
			best = route{made, order}
		}
	}
	known[name] = best
	return best
}
