package tests

import (
	"slices"

	"loop.example/g00001/impl"
)

// catalogGrower makes expressions of SQL over some columns, and definitions, most of them right, by chance.
type catalogGrower struct {
	exprGrower
	cols []impl.ColName
	// elsewhere makes what stands for a value of a kind that is no column here; a literal does, if it is nil.
	elsewhere func(kind int) *plant
}

func newCatalogGrower(numbers *numberSource, cols []impl.ColName) catalogGrower {
	// Without columns a leaf is still looked for in one list at least.
	lists := append(kindsOfCols(cols), []int{0, 1, 2, 3, 4, 5})
	return catalogGrower{exprGrower: exprGrower{grower: grower{numbers}, lists: lists}, cols: cols}
}

// sql is an expression whose meaning is of a kind, where nothing was spoilt.
func (g catalogGrower) sql(kind, size int) *plant { return g.unbound(g.ofKind(kind, size)) }

// unbound writes an expression as nodes of a tree that mean it.
func (g catalogGrower) unbound(b *branch) *plant {
	var kids []*plant
	for _, kid := range b.kids {
		kids = append(kids, g.unbound(kid))
	}
	of := func(node impl.Node) *plant { return newPlant(node, kids...) }
	switch b.Op {
	case impl.XConst:
		return g.unboundConst(b.Val)
	case impl.XCol:
		return g.unboundColumn(b)
	case impl.XBin:
		if b.A == impl.OpSame {
			return of(impl.Node{Op: impl.NSame, N: g.flag()})
		}
		return of(impl.Node{Op: impl.NBin, N: b.A})
	case impl.XUn:
		return of(map[int]impl.Node{impl.OpNot: {Op: impl.NNot}, impl.OpNeg: {Op: impl.NNeg}, impl.OpIsNull: {Op: impl.NIs, N: g.flag()}}[b.A])
	case impl.XIn:
		return of(impl.Node{Op: impl.NIn, N: b.A})
	case impl.XLike:
		return of(impl.Node{Op: impl.NLike, N: b.A})
	case impl.XBetween:
		return of(impl.Node{Op: impl.NBetween, N: b.A})
	case impl.XCase:
		return g.unboundCase(b, kids)
	case impl.XCast:
		if b.A == impl.Null {
			return kids[0]
		}
		return of(impl.Node{Op: impl.NCast, N: b.A})
	case impl.XCall:
		return of(impl.Node{Op: impl.NCall, Name: functionNames()[b.A]})
	}
	return of(impl.Node{Op: impl.NCall, Name: "coalesce"})
}

func (g catalogGrower) unboundConst(v impl.Value) *plant {
	if v == intv(-9223372036854775808) {
		v.N = 7
	}
	if v.N < 0 && (v.Kind == impl.Int || v.Kind == impl.Dec) {
		v.N = -v.N
		return newPlant(impl.Node{Op: impl.NNeg}, newPlant(impl.Node{Op: impl.NLit, Val: v}))
	}
	return newPlant(impl.Node{Op: impl.NLit, Val: v})
}

func (g catalogGrower) unboundColumn(b *branch) *plant {
	if b.A > 0 && g.elsewhere != nil {
		return g.elsewhere(b.Kind)
	}
	if b.A > 0 {
		return g.unboundConst(g.valueOf(b.Kind))
	}
	node := impl.Node{Op: impl.NCol, Name: g.cols[b.B].Name}
	if g.chance(2) || g.elsewhere != nil && !g.chance(20) && g.namedTwice(node.Name) {
		node.Qual = g.cols[b.B].Qual
	}
	return newPlant(node)
}

func (g catalogGrower) namedTwice(name string) bool {
	count := 0
	for _, column := range g.cols {
		if column.Name == name {
			count++
		}
	}
	return count > 1
}

// unboundCase has, by chance, an operand and what it is compared with in place of the conditions.
func (g catalogGrower) unboundCase(b *branch, kids []*plant) *plant {
	node := impl.Node{Op: impl.NCase, N: b.A}
	if g.chance(2) {
		return newPlant(node, kids...)
	}
	node.M = 1
	kind := g.pick(1, 2, 3, 4, 5)
	for i := 0; i+1 < len(kids); i += 2 {
		kids[i] = g.sql(kind, 1)
	}
	return newPlant(node, append([]*plant{g.sql(kind, 1)}, kids...)...)
}

// withAll are a plant and all that are in it.
func withAll(p *plant) []*plant {
	list := []*plant{p}
	for _, kid := range p.kids {
		list = append(list, withAll(kid)...)
	}
	return list
}

// spoil changes an expression somewhere in a plant, so that most often it means nothing any more.
func (g catalogGrower) spoil(root *plant) {
	all := slices.DeleteFunc(withAll(root), func(p *plant) bool { return p.Op > impl.NScalar })
	if len(all) == 0 {
		return
	}
	p := all[below(g.numberSource, len(all))]
	switch below(g.numberSource, 10) {
	case 0:
		*p = *newPlant(impl.Node{Op: impl.NCol, Name: g.name(), Qual: g.maybeName()})
	case 1:
		*p = *newPlant(impl.Node{Op: impl.NCall, Name: append(functionNames(), "coalesce")[below(g.numberSource, 15)]}, p.kids...)
	case 2, 3:
		*p = *newPlant(impl.Node{Op: impl.NLit, Val: g.literal()})
	case 4:
		*p = *newPlant(impl.Node{Op: impl.NAgg, N: impl.AggSum, M: g.flag()}, g.sql(g.pick(1, 2), 1))
	case 5:
		*p = *newPlant(impl.Node{Op: impl.NExists}, g.query(2, false))
	case 6:
		*p = *newPlant(impl.Node{Op: impl.NInQuery}, g.sql(1, 1), g.query(2, true))
	case 7:
		*p = *newPlant(impl.Node{Op: impl.NScalar}, g.query(2, true))
	default:
		*p = *g.sql(g.pick(0, 1, 2, 2, 3, 4, 5), 1)
	}
}

// inTree makes a tree of a plant, with a position of its own for each node.
func inTree(root *plant) impl.Tree {
	tree := planted(root)
	for i := range tree.Nodes {
		tree.Nodes[i].Pos = 1000 + 3*i
	}
	return tree
}

func selected(p *plant) impl.Tree {
	items := newPlant(impl.Node{Op: impl.NItems}, newPlant(impl.Node{Op: impl.NItem}, p))
	return inTree(newPlant(impl.Node{Op: impl.NQuery}, newPlant(impl.Node{Op: impl.NSelect}, items)))
}

func (g catalogGrower) oneOf(names ...string) string { return names[below(g.numberSource, len(names))] }

func (g catalogGrower) tableName() string {
	return g.oneOf("t", "u", "v", "T", "a", "select", "odd name", `q"`, "w", "x", "y")
}

func (g catalogGrower) indexName() string { return g.oneOf("i", "j", "k", "t", "I", "where", "l", "m") }

func (g catalogGrower) columnName() string { return g.oneOf("a", "b", "c", "d", "from", "A", "e 1") }

// definition is a statement for a schema: of the tables that it has, most often.
func (g catalogGrower) definition(s impl.Schema) *plant {
	table := g.tableName()
	if len(s.Tables) > 0 && !g.chance(4) {
		table = s.Tables[below(g.numberSource, len(s.Tables))].Name
	}
	index := g.indexName()
	if len(s.Indexes) > 0 && !g.chance(4) {
		index = s.Indexes[below(g.numberSource, len(s.Indexes))].Name
	}
	switch below(g.numberSource, 12) {
	case 0:
		return newPlant(impl.Node{Op: impl.NDropTable, Name: table})
	case 1:
		return newPlant(impl.Node{Op: impl.NDropIndex, Name: index})
	case 2, 3, 4, 5:
		names := g.keyNames()
		if at := tableNamed(s, table); at >= 0 && !g.chance(4) {
			cols := s.Tables[at].Cols
			names = []*plant{newPlant(impl.Node{Op: impl.NName, Name: cols[below(g.numberSource, len(cols))].Name})}
		}
		return newPlant(impl.Node{Op: impl.NCreateIndex, Name: g.indexName(), Qual: table, N: g.flag()}, names...)
	}
	return g.createTable()
}

func (g catalogGrower) keyNames() []*plant {
	return g.several(1, 2, func() *plant { return newPlant(impl.Node{Op: impl.NName, Name: g.columnName()}) })
}

// createTable has columns, then keys and conditions among them; by chance something in it is wrong.
func (g catalogGrower) createTable() *plant {
	root := newPlant(impl.Node{Op: impl.NCreateTable, Name: g.tableName()})
	var cols []impl.ColName
	var elements []*plant
	for count := 1 + below(g.numberSource, 5); count > 0; count-- {
		column := impl.ColName{Qual: root.Name, Name: g.columnName(), Kind: g.pick(1, 2, 3, 4, 5)}
		taken := slices.ContainsFunc(cols, func(c impl.ColName) bool { return c.Name == column.Name })
		if taken && !g.chance(20) {
			continue
		}
		cols = append(cols, column)
		elements = append(elements, newPlant(impl.Node{Op: impl.NColumn, Name: column.Name, N: column.Kind, M: g.pick(0, 0, 0, 1, 1, 4, 5)}))
	}
	elements[0].M |= g.pick(0, 0, 2)
	alone, inside := newCatalogGrower(g.numberSource, nil), newCatalogGrower(g.numberSource, cols)
	for _, element := range elements {
		if g.chance(3) {
			kind := element.N
			if kind == impl.Dec && g.chance(2) {
				kind = impl.Int
			}
			element.kids = append(element.kids, newPlant(impl.Node{Op: impl.NDefaultIs}, alone.sql(kind, 2)))
		}
		if g.chance(4) {
			element.kids = append(element.kids, newPlant(impl.Node{Op: impl.NCheck}, inside.sql(impl.Bool, 2)))
		}
	}
	for g.chance(2) {
		at := below(g.numberSource, len(elements)+1)
		elements = slices.Insert(elements, at, inside.laterElement())
	}
	root.kids = elements
	if g.chance(3) {
		g.spoilTable(root)
	}
	return root
}

func (g catalogGrower) laterElement() *plant {
	names := g.keyNames
	if len(g.cols) > 0 && !g.chance(6) {
		names = func() []*plant {
			return []*plant{newPlant(impl.Node{Op: impl.NName, Name: g.cols[below(g.numberSource, len(g.cols))].Name})}
		}
	}
	switch below(g.numberSource, 3) {
	case 0:
		return newPlant(impl.Node{Op: impl.NKeyOf}, names()...)
	case 1:
		return newPlant(impl.Node{Op: impl.NUnique}, names()...)
	}
	return newPlant(impl.Node{Op: impl.NCheck}, g.sql(g.pick(0, 4, 4, 4, 4), 2))
}

func (g catalogGrower) spoilTable(root *plant) {
	element := root.kids[below(g.numberSource, len(root.kids))]
	switch below(g.numberSource, 5) {
	case 0:
		g.spoil(root)
	case 1:
		if element.Op == impl.NKeyOf || element.Op == impl.NUnique {
			element.kids = append(element.kids, element.kids[0])
		} else {
			root.kids = append(root.kids, element)
		}
	case 2:
		if element.Op == impl.NColumn {
			element.kids = append(element.kids, newPlant(impl.Node{Op: impl.NDefaultIs}, g.sql(g.pick(0, 1, 2, 3, 4, 5), 1)))
		}
	case 3:
		if element.Op == impl.NColumn {
			element.M = below(g.numberSource, 8)
		}
	case 4:
		root.kids = slices.DeleteFunc(root.kids, func(p *plant) bool { return p.Op == impl.NColumn })
		if len(root.kids) == 0 {
			root.kids = []*plant{newPlant(impl.Node{Op: impl.NUnique}, g.keyNames()...)}
		}
	}
}
