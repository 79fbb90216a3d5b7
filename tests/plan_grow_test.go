package tests

import (
	"slices"
	"testing"

	"loop.example/g00001/impl"
)

// farm is the estate with more indexes: t (1) has 8 on (a, b), 9 on (b, e), 13 on (e, a, id); u (3) has 6 on (a, w), 7 on (id), 10 on (id, a); "k 1" (4) has 12 on (k); p (5) has 11 on (m, x).
func farm(t *testing.T) impl.Schema {
	t.Helper()
	return definedOn(t, estate(t), "create index ta on t (a, b)", "create index tb on t (b, e)", "create index ub on u (id, a)", "create index pm on p (m, x)",
		`create index kk on "k 1" (k)`, "create index te on t (e, a, id)")
}

// withoutIndexes is a schema with tables alone.
func withoutIndexes(s impl.Schema) impl.Schema {
	s = copySchema(s)
	s.Indexes = nil
	return s
}

// evenStats has the same number of rows for all tables, and of values for all columns.
func evenStats(s impl.Schema, rows, values int) impl.Stats {
	var x impl.Stats
	for _, table := range s.Tables {
		x.Tables = append(x.Tables, impl.TableStats{Id: table.Id, Rows: rows, Distinct: slices.Repeat([]int{values}, len(table.Cols))})
	}
	return x
}

// grownStats are valid.
func (g grower) grownStats(s impl.Schema) impl.Stats {
	var x impl.Stats
	most := g.pick(5, 50, 400, 400)
	for _, table := range s.Tables {
		numbers := impl.TableStats{Id: table.Id, Rows: g.pick(0, 1, 2, 3, 4, 5, 9, 30, 31, 50, 99, 100, 200, 400)}
		numbers.Rows = min(numbers.Rows, most)
		for range table.Cols {
			numbers.Distinct = append(numbers.Distinct, g.pick(0, min(1, numbers.Rows), min(2, numbers.Rows), min(10, numbers.Rows), numbers.Rows/2, numbers.Rows, below(g.numberSource, numbers.Rows+1)))
		}
		x.Tables = append(x.Tables, numbers)
	}
	return x
}

func copyStats(x impl.Stats) impl.Stats {
	copied := impl.Stats{Tables: slices.Clone(x.Tables)}
	for i, numbers := range copied.Tables {
		copied.Tables[i].Distinct = slices.Clone(numbers.Distinct)
	}
	return copied
}

func sameStats(a, b impl.Stats) bool {
	return slices.EqualFunc(a.Tables, b.Tables, func(x, y impl.TableStats) bool {
		return x.Id == y.Id && x.Rows == y.Rows && slices.Equal(x.Distinct, y.Distinct)
	})
}

func samePhys(a, b impl.Phys) bool {
	return slices.EqualFunc(a.Nodes, b.Nodes, func(x, y impl.QNode) bool {
		return [...]int{x.Op, x.L, x.R, x.Table, x.Index, x.A, x.B, x.Est, x.Cost} == [...]int{y.Op, y.L, y.R, y.Table, y.Index, y.A, y.B, y.Est, y.Cost} &&
			slices.EqualFunc(x.Exprs, y.Exprs, sameExpr) && slices.Equal(x.Keys, y.Keys) && slices.Equal(x.RKeys, y.RKeys) &&
			slices.Equal(x.Aggs, y.Aggs) && slices.Equal(x.Sorts, y.Sorts) && slices.Equal(x.Kinds, y.Kinds)
	})
}

// choiceGrower makes valid plans that have what Choose looks for.
type choiceGrower struct{ planGrower }

func newChoiceGrower(numbers *numberSource, s impl.Schema, depth int) choiceGrower {
	g := choiceGrower{newPlanGrower(numbers, s, depth)}
	g.rich = true
	return g
}

// plan is a plan of some operations over joins, filters and scans.
func (g choiceGrower) plan(around [][]int, size int) *shrub {
	switch choice := below(g.numberSource, 10); {
	case size <= 0:
		return g.leaf(around)
	case choice < 4:
		return g.joins(around, g.pick(2, 2, 3, 3, 4, 5))
	case choice < 5:
		return g.outer(around, size)
	case choice < 6:
		return g.grown(around, size)
	}
	left := g.plan(around, size-1)
	switch below(g.numberSource, 9) {
	case 0, 1:
		if len(left.Kinds) > 0 {
			return sameRows(left, impl.PNode{Op: impl.PSort, Sorts: []impl.SortKey{{Col: below(g.numberSource, len(left.Kinds)), Desc: g.chance(2), First: g.chance(2)}}})
		}
	case 2, 3:
		return sameRows(left, impl.PNode{Op: impl.PLimit, A: g.pick(-1, 0, 1, 3, 9), B: g.pick(0, 0, 0, 2)})
	case 4:
		return sameRows(left, impl.PNode{Op: impl.PDistinct})
	case 5:
		return g.group(left)
	case 6:
		return project(left, g.shuffled(left.Kinds))
	case 7:
		return &shrub{PNode: impl.PNode{Op: g.pick(impl.PUnion, impl.PExcept), A: g.flag(), Kinds: left.Kinds}, l: left, r: g.other(left, around, size)}
	}
	return sameRows(left, impl.PNode{Op: impl.PFilter}, g.tested(left.Kinds, around))
}

// shuffled are some columns, and now and then a constant.
func (g choiceGrower) shuffled(kinds []int) []*branch {
	var exprs []*branch
	for range g.pick(1, 2, 3, 6) {
		if len(kinds) == 0 || g.chance(6) {
			exprs = append(exprs, constOf(intv(g.pick(1, 2, 3))))
			continue
		}
		column := below(g.numberSource, len(kinds))
		exprs = append(exprs, columnOf(kinds[column], 0, column))
	}
	return exprs
}

// leaf is mostly a table, filtered or not.
func (g choiceGrower) leaf(around [][]int) *shrub {
	made := scanned(g.schema.Tables[below(g.numberSource, len(g.schema.Tables))], "").plan
	switch below(g.numberSource, 12) {
	case 0:
		return g.source(around)
	case 1:
		return g.grown(around, 1)
	case 2:
		return project(made, g.shuffled(made.Kinds))
	case 3, 4, 5, 6:
		return sameRows(made, impl.PNode{Op: impl.PFilter}, g.tested(made.Kinds, around))
	}
	return made
}

// tested joins some conditions on columns of row 0 by AND.
func (g choiceGrower) tested(kinds []int, around [][]int) *branch {
	lists := append([][]int{kinds}, around...)
	var list []*branch
	for range g.pick(1, 1, 2, 2, 3, 4) {
		if g.chance(8) {
			list = append(list, g.conjunct(lists))
		} else {
			list = append(list, g.faced(lists))
		}
	}
	if len(list) == 3 && g.chance(2) {
		return binOf(impl.OpAnd, list[0], binOf(impl.OpAnd, list[1], list[2]))
	}
	return andOf(list)
}

// faced holds a column against something that sees no row 0: mostly a constant of its kind.
func (g choiceGrower) faced(lists [][]int) *branch {
	if len(lists[0]) == 0 {
		return constOf(boolv(true))
	}
	// The first columns are those of most keys.
	column := min(below(g.numberSource, len(lists[0])), below(g.numberSource, len(lists[0])))
	first := columnOf(lists[0][column], 0, column)
	value := g.exprs(lists).valueOf(first.Kind)
	if first.Kind == impl.Int && g.chance(2) {
		value = intv(below(g.numberSource, 7))
	}
	second := constOf(value)
	switch below(g.numberSource, 12) {
	case 0:
		second = castOf(first.Kind, constOf(null))
	case 1:
		second = constOf(null)
	case 2:
		second = newBranch(impl.XNode{Op: impl.XCoalesce}, second, second)
	case 3, 4:
		for row := 1; row < len(lists); row++ {
			if at := slices.Index(lists[row], first.Kind); at >= 0 {
				second = columnOf(first.Kind, row, at)
			}
		}
	case 5:
		if first.Kind == impl.Int {
			second = constOf(decv(10000))
		}
	}
	op := g.pick(impl.OpEq, impl.OpEq, impl.OpEq, impl.OpLt, impl.OpLe, impl.OpGt, impl.OpGe, impl.OpNe)
	if g.chance(3) {
		return binOf(op, second, first)
	}
	return binOf(op, first, second)
}

// linked is a condition of two sides: mostly that a column of each is equal.
func (g choiceGrower) linked(left, right []int, around [][]int) *branch {
	both := append(slices.Clone(left), right...)
	lists := append([][]int{both}, around...)
	var list []*branch
	for range g.pick(1, 1, 1, 2, 2, 3) {
		var pairs [][2]int
		for i, kind := range left {
			for k, other := range right {
				if kind == other || kind+other == impl.Int+impl.Dec && g.chance(10) {
					pairs = append(pairs, [2]int{i, len(left) + k})
				}
			}
		}
		switch choice := below(g.numberSource, 12); {
		case choice == 0:
			list = append(list, constOf(boolv(true)))
		case choice == 1 && len(lists) < 8:
			list = append(list, g.conjunct(lists))
		case choice == 2 && len(both) > 0:
			list = append(list, g.faced(lists))
		case len(pairs) > 0:
			pair := pairs[min(below(g.numberSource, len(pairs)), below(g.numberSource, len(pairs)))]
			if g.chance(3) {
				pair[0], pair[1] = pair[1], pair[0]
			}
			op := g.pick(impl.OpEq, impl.OpEq, impl.OpEq, impl.OpEq, impl.OpEq, impl.OpLt, impl.OpSame)
			list = append(list, binOf(op, columnOf(both[pair[0]], 0, pair[0]), columnOf(both[pair[1]], 0, pair[1])))
		}
	}
	return andOf(list)
}

// joins is a tree of inner joins of some leaves.
func (g choiceGrower) joins(around [][]int, leaves int) *shrub {
	if leaves == 1 {
		return g.leaf(around)
	}
	first := g.pick(leaves-1, leaves-1, 1+below(g.numberSource, leaves-1))
	left, right := g.joins(around, first), g.joins(around, leaves-first)
	if len(left.Kinds)+len(right.Kinds) > 32 {
		return left
	}
	node := impl.PNode{Op: impl.PJoin, A: impl.JoinInner, Kinds: append(slices.Clone(left.Kinds), right.Kinds...)}
	return &shrub{node, left, right, []*branch{g.linked(left.Kinds, right.Kinds, around)}}
}

// outer is a join of any kind.
func (g choiceGrower) outer(around [][]int, size int) *shrub {
	left, right := g.plan(around, size-1), g.leaf(around)
	if len(left.Kinds)+len(right.Kinds) > 32 {
		return left
	}
	node := impl.PNode{Op: impl.PJoin, A: g.pick(impl.JoinLeft, impl.JoinLeft, impl.JoinSemi, impl.JoinAnti, impl.JoinInner), Kinds: left.Kinds}
	if node.A < 3 {
		node.Kinds = append(slices.Clone(left.Kinds), right.Kinds...)
	}
	return &shrub{node, left, right, []*branch{g.linked(left.Kinds, right.Kinds, around)}}
}
