package tests

import (
	"slices"
	"strings"

	"loop.example/g00001/impl"
)

// plant is a node of a tree with its kids at hand.
type plant struct {
	impl.Node
	kids []*plant
}

func newPlant(node impl.Node, kids ...*plant) *plant { return &plant{node, kids} }

// planted lays the nodes down in the one order that a tree has.
func planted(root *plant) impl.Tree {
	var nodes []impl.Node
	var lay func(p *plant) int
	lay = func(p *plant) int {
		node := p.Node
		node.Kids = nil
		for _, kid := range p.kids {
			node.Kids = append(node.Kids, lay(kid))
		}
		nodes = append(nodes, node)
		return len(nodes) - 1
	}
	lay(root)
	return impl.Tree{Nodes: nodes}
}

// grower makes trees by chance; size says how much it may still nest.
type grower struct{ *numberSource }

func (g grower) chance(of int) bool { return below(g.numberSource, of) == 0 }

func (g grower) flag() int { return below(g.numberSource, 2) }

func (g grower) pick(of ...int) int { return of[below(g.numberSource, len(of))] }

func (g grower) name() string {
	names := []string{
		"a", "b", "t", "x1", "_", "select", "Select", "A b", `q"q`, "date", "count", "is", "1a", " ", "~", "'", "--", ".", "*", "f",
		strings.Repeat("n", impl.MaxName), strings.Repeat(`"`, impl.MaxName), "first", "nul", "nulls", "from",
	}
	return names[below(g.numberSource, len(names))]
}

func (g grower) maybeName() string {
	if g.chance(2) {
		return ""
	}
	return g.name()
}

func (g grower) literal() impl.Value {
	for {
		values := validValues()
		v := values[below(g.numberSource, len(values))]
		if (v.Kind == impl.Int || v.Kind == impl.Dec) && v.N < 0 || len(v.S) > 20 && !g.chance(20) {
			continue
		}
		return v
	}
}

func (g grower) several(least, most int, make func() *plant) []*plant {
	var list []*plant
	for count := least + below(g.numberSource, most-least+1); count > 0; count-- {
		list = append(list, make())
	}
	return list
}

func (g grower) expressions(size, least, most int) []*plant {
	return g.several(least, most, func() *plant { return g.expression(size) })
}

func (g grower) expression(size int) *plant {
	if size <= 0 || g.chance(4) {
		if g.chance(2) {
			return newPlant(impl.Node{Op: impl.NLit, Val: g.literal()})
		}
		return newPlant(impl.Node{Op: impl.NCol, Name: g.name(), Qual: g.maybeName()})
	}
	size--
	switch op := 3 + below(g.numberSource, 15); op {
	case impl.NNot, impl.NNeg:
		return newPlant(impl.Node{Op: op}, g.expression(size))
	case impl.NBin:
		return newPlant(impl.Node{Op: op, N: g.pick(1, 2, 3, 4, 5, 6, 7, 8, 9, 10, 11, 12, 14, 15)}, g.expressions(size, 2, 2)...)
	case impl.NIs:
		return newPlant(impl.Node{Op: op, N: g.flag()}, g.expression(size))
	case impl.NSame, impl.NLike:
		return newPlant(impl.Node{Op: op, N: g.flag()}, g.expressions(size, 2, 2)...)
	case impl.NIn:
		return newPlant(impl.Node{Op: op, N: g.flag()}, g.expressions(size, 2, 4)...)
	case impl.NInQuery:
		return newPlant(impl.Node{Op: op, N: g.flag()}, g.expression(size), g.query(size, true))
	case impl.NBetween:
		return newPlant(impl.Node{Op: op, N: g.flag()}, g.expressions(size, 3, 3)...)
	case impl.NCase:
		node := impl.Node{Op: op, N: g.flag(), M: g.flag()}
		count := node.M + 2*g.pick(1, 1, 2) + node.N
		return newPlant(node, g.expressions(size, count, count)...)
	case impl.NCast:
		return newPlant(impl.Node{Op: op, N: g.pick(1, 2, 3, 4, 5)}, g.expression(size))
	case impl.NCall:
		return newPlant(impl.Node{Op: op, Name: g.name()}, g.expressions(size, 0, 3)...)
	case impl.NAgg:
		if g.chance(4) {
			return newPlant(impl.Node{Op: op, N: impl.AggAll})
		}
		return newPlant(impl.Node{Op: op, N: g.pick(2, 3, 4, 5, 6), M: g.flag()}, g.expression(size))
	default:
		return newPlant(impl.Node{Op: op}, g.query(size, op == impl.NScalar))
	}
}

// query grows a query; bare says that its text must begin with SELECT.
func (g grower) query(size int, bare bool) *plant {
	kids := []*plant{g.body(size-1, bare)}
	if g.chance(3) {
		keys := g.several(1, 2, func() *plant {
			return newPlant(impl.Node{Op: impl.NKey, N: g.flag(), M: g.pick(0, 1, 2)}, g.expression(size-1))
		})
		kids = append(kids, newPlant(impl.Node{Op: impl.NOrder}, keys...))
	}
	if g.chance(3) {
		limit := impl.Node{Op: impl.NLimit, N: g.pick(-1, 0, 3, 9223372036854775807), M: g.pick(0, 7, 9223372036854775807)}
		if limit.N >= 0 && g.chance(2) {
			limit.M = -1
		}
		kids = append(kids, newPlant(limit))
	}
	return newPlant(impl.Node{Op: impl.NQuery}, kids...)
}

func (g grower) body(size int, bare bool) *plant {
	switch {
	case size > 0 && g.chance(4):
		left := g.body(size-1, bare)
		right := g.selection(size - 1)
		if g.chance(3) {
			right = g.query(size-1, false)
		}
		return newPlant(impl.Node{Op: impl.NSetOp, N: g.pick(1, 2), M: g.flag()}, left, right)
	case size > 0 && !bare && g.chance(4):
		return g.query(size-1, false)
	}
	return g.selection(size)
}

func (g grower) selection(size int) *plant {
	items := g.several(1, 3, func() *plant {
		if g.chance(4) {
			return newPlant(impl.Node{Op: impl.NStar, Qual: g.maybeName()})
		}
		return newPlant(impl.Node{Op: impl.NItem, Name: g.maybeName()}, g.expression(size-1))
	})
	kids := []*plant{newPlant(impl.Node{Op: impl.NItems}, items...)}
	if g.chance(2) {
		kids = append(kids, newPlant(impl.Node{Op: impl.NFrom}, g.several(1, 2, func() *plant { return g.source(size-1, 3) })...))
	}
	if g.chance(3) {
		kids = append(kids, newPlant(impl.Node{Op: impl.NWhere}, g.expression(size-1)))
	}
	if g.chance(4) {
		kids = append(kids, newPlant(impl.Node{Op: impl.NGroup}, g.expressions(size-1, 1, 3)...))
	}
	if g.chance(4) {
		kids = append(kids, newPlant(impl.Node{Op: impl.NHaving}, g.expression(size-1)))
	}
	return newPlant(impl.Node{Op: impl.NSelect, N: g.flag()}, kids...)
}

// source grows one of the first sorts of three: a table, a query, a join.
func (g grower) source(size, sorts int) *plant {
	sort := below(g.numberSource, sorts)
	switch {
	case sort == 1 && size > 0:
		return newPlant(impl.Node{Op: impl.NDerived, Name: g.name()}, g.query(size-1, false))
	case sort == 2 && size > 0:
		join := newPlant(impl.Node{Op: impl.NJoin, N: g.pick(1, 2, 3)}, g.source(size-1, 3), g.source(size-1, 2))
		if join.N != impl.JoinCross {
			join.kids = append(join.kids, g.expression(size-1))
		}
		return join
	}
	return newPlant(impl.Node{Op: impl.NTable, Name: g.name(), Qual: g.maybeName()})
}

func (g grower) statement(size int) *plant {
	switch op := g.pick(27, 27, 27, 40, 40, 46, 48, 49, 49, 55, 56, 57, 58, 59, 60, 61, 62, 63, 64); op {
	case impl.NQuery:
		return g.query(size, false)
	case impl.NInsert:
		return g.insert(size)
	case impl.NUpdate:
		sets := g.several(1, 3, func() *plant { return newPlant(impl.Node{Op: impl.NSet, Name: g.name()}, g.value(size)) })
		return newPlant(impl.Node{Op: op, Name: g.name()}, append(sets, g.where(size)...)...)
	case impl.NDelete:
		return newPlant(impl.Node{Op: op, Name: g.name()}, g.where(size)...)
	case impl.NCreateTable:
		return newPlant(impl.Node{Op: op, Name: g.name()}, g.several(1, 4, func() *plant { return g.element(size) })...)
	case impl.NCreateIndex:
		return newPlant(impl.Node{Op: op, Name: g.name(), Qual: g.name(), N: g.flag()}, g.names()...)
	case impl.NBegin:
		return newPlant(impl.Node{Op: op, N: g.pick(0, 1, 2)})
	case impl.NCommit, impl.NCheckpoint:
		return newPlant(impl.Node{Op: op})
	case impl.NRollback:
		return newPlant(impl.Node{Op: op, Name: g.maybeName()})
	case impl.NExplain:
		return newPlant(impl.Node{Op: op}, g.query(size, false))
	default:
		return newPlant(impl.Node{Op: op, Name: g.name()})
	}
}

func (g grower) names() []*plant {
	return g.several(1, 3, func() *plant { return newPlant(impl.Node{Op: impl.NName, Name: g.name()}) })
}

func (g grower) where(size int) []*plant {
	if g.chance(2) {
		return nil
	}
	return []*plant{newPlant(impl.Node{Op: impl.NWhere}, g.expression(size))}
}

func (g grower) value(size int) *plant {
	if g.chance(4) {
		return newPlant(impl.Node{Op: impl.NDefault})
	}
	return g.expression(size)
}

func (g grower) insert(size int) *plant {
	insert := newPlant(impl.Node{Op: impl.NInsert, Name: g.name()})
	if g.chance(2) {
		insert.kids = append(insert.kids, newPlant(impl.Node{Op: impl.NNames}, g.names()...))
	}
	if g.chance(2) {
		insert.kids = append(insert.kids, g.query(size, false))
		return insert
	}
	rows := g.several(1, 3, func() *plant {
		return newPlant(impl.Node{Op: impl.NRow}, g.several(1, 3, func() *plant { return g.value(size - 1) })...)
	})
	insert.kids = append(insert.kids, newPlant(impl.Node{Op: impl.NValues}, rows...))
	return insert
}

func (g grower) element(size int) *plant {
	switch below(g.numberSource, 6) {
	case 0:
		return newPlant(impl.Node{Op: impl.NKeyOf}, g.names()...)
	case 1:
		return newPlant(impl.Node{Op: impl.NUnique}, g.names()...)
	case 2:
		return newPlant(impl.Node{Op: impl.NCheck}, g.expression(size))
	}
	kids := g.several(0, 2, func() *plant {
		return newPlant(impl.Node{Op: g.pick(impl.NDefaultIs, impl.NCheck)}, g.expression(size))
	})
	column := impl.Node{Op: impl.NColumn, Name: g.name(), N: g.pick(1, 2, 3, 4, 5), M: below(g.numberSource, 8)}
	return newPlant(column, kids...)
}

func copyTree(tree impl.Tree) impl.Tree {
	nodes := slices.Clone(tree.Nodes)
	for i := range nodes {
		nodes[i].Kids = slices.Clone(nodes[i].Kids)
	}
	return impl.Tree{Nodes: nodes}
}

func sameTree(a, b impl.Tree) bool { return slices.EqualFunc(a.Nodes, b.Nodes, sameNode) }

func sameNode(a, b impl.Node) bool {
	return a.Op == b.Op && a.Name == b.Name && a.Qual == b.Qual && a.N == b.N && a.M == b.M && a.Val == b.Val && a.Pos == b.Pos && slices.Equal(a.Kids, b.Kids)
}

func bare(tree impl.Tree) impl.Tree {
	tree = copyTree(tree)
	for i := range tree.Nodes {
		tree.Nodes[i].Pos = 0
	}
	return tree
}
