package tests

import (
	"slices"
	"strconv"

	"loop.example/g00001/impl"
)

// queryGrower makes queries and changes of SQL over a schema, most of them right, by chance.
type queryGrower struct {
	grower
	schema impl.Schema
	// levels are those that an expression sees here, the nearest first.
	levels [][]impl.ColName
	// group is what an expression may be made of in a group; its nearest level has those columns alone that are keys.
	group *grownGroup
	// depth says how many queries may still stand in one another.
	depth int
}

// grownGroup are the keys of a group with their kinds, and what makes the arguments of its aggregates.
type grownGroup struct {
	keys  []*plant
	kinds []int
	below queryGrower
}

func newQueryGrower(numbers *numberSource, s impl.Schema, depth int) queryGrower {
	return queryGrower{grower: grower{numbers}, schema: s, depth: depth}
}

func (q queryGrower) oneKind() int { return q.pick(1, 1, 1, 2, 2, 3, 3, 4, 5, 0) }

func (q queryGrower) kinds(least, most int) []int {
	var kinds []int
	for count := least + below(q.numberSource, most-least+1); count > 0; count-- {
		kinds = append(kinds, q.oneKind())
	}
	return kinds
}

func (q queryGrower) deeper() queryGrower {
	q.depth--
	return q
}

// plain makes expressions over the nearest level.
func (q queryGrower) plain() catalogGrower {
	var cols []impl.ColName
	if len(q.levels) > 0 {
		cols = q.levels[0]
	}
	g := newCatalogGrower(q.numberSource, cols)
	g.elsewhere = q.elsewhere
	return g
}

func (q queryGrower) expr(kind, size int) *plant { return q.plain().sql(kind, size) }

func (q queryGrower) elsewhere(kind int) *plant {
	choice := below(q.numberSource, 10)
	if q.group != nil && choice < 3 {
		return q.aggregate(kind)
	}
	if q.group != nil && choice < 6 {
		for i, key := range q.group.keys {
			if q.group.kinds[i] == kind {
				return key
			}
		}
	}
	if choice < 8 && len(q.levels) > 1 {
		if column := q.outerColumn(kind); column != nil {
			return column
		}
	}
	if choice == 9 && q.depth > 0 {
		return q.question(kind)
	}
	return q.plain().unboundConst(q.plain().valueOf(kind))
}

func (q queryGrower) outerColumn(kind int) *plant {
	level := q.levels[1+below(q.numberSource, len(q.levels)-1)]
	for _, column := range level {
		if column.Kind == kind && q.chance(2) {
			node := impl.Node{Op: impl.NCol, Name: column.Name}
			if !q.chance(4) {
				node.Qual = column.Qual
			}
			return newPlant(node)
		}
	}
	return nil
}

// question is a query as a value of a kind.
func (q queryGrower) question(kind int) *plant {
	inner := q.deeper()
	if kind == impl.Bool && q.chance(2) {
		return newPlant(impl.Node{Op: impl.NExists}, inner.query(q.kinds(1, 3), false))
	}
	if kind == impl.Bool && q.chance(2) {
		asked := q.oneKind()
		return newPlant(impl.Node{Op: impl.NInQuery, N: q.flag()}, q.expr(asked, 1), inner.query([]int{asked}, true))
	}
	return newPlant(impl.Node{Op: impl.NScalar}, inner.query([]int{kind}, true))
}

func (q queryGrower) aggregate(kind int) *plant {
	below := q.group.below.deeper()
	of := func(fn, kind int) *plant {
		return newPlant(impl.Node{Op: impl.NAgg, N: fn, M: q.flag()}, below.expr(kind, 1))
	}
	switch {
	case kind == impl.Null:
		return newPlant(impl.Node{Op: impl.NLit})
	case kind == impl.Int && q.chance(3):
		return newPlant(impl.Node{Op: impl.NAgg, N: impl.AggAll})
	case kind == impl.Int && q.chance(2):
		return of(impl.AggCount, q.oneKind())
	case kind == impl.Dec && q.chance(2):
		return of(impl.AggAvg, q.pick(1, 2))
	case (kind == impl.Int || kind == impl.Dec) && q.chance(2):
		return of(impl.AggSum, kind)
	}
	return of(q.pick(impl.AggMin, impl.AggMax), kind)
}

// query has columns of some kinds, or any if there are none; bare says that its text must begin with SELECT.
func (q queryGrower) query(kinds []int, bare bool) *plant {
	// A query sees the group around it as the columns that are its keys.
	q.group = nil
	root := newPlant(impl.Node{Op: impl.NQuery})
	var names []string
	var inside queryGrower
	choice := below(q.numberSource, 8)
	switch {
	case choice == 0 && q.depth > 0 && len(kinds) > 0:
		root.kids = []*plant{q.setOperation(kinds, bare)}
	case choice == 1 && q.depth > 0 && !bare:
		root.kids = []*plant{q.deeper().query(kinds, false)}
	default:
		root.kids = make([]*plant, 1)
		root.kids[0], names, inside = q.selection(kinds)
	}
	if q.chance(3) {
		keys := q.several(1, 2, func() *plant { return q.key(names, inside, len(kinds)) })
		root.kids = append(root.kids, newPlant(impl.Node{Op: impl.NOrder}, keys...))
	}
	if q.chance(5) {
		limit := impl.Node{Op: impl.NLimit, N: q.pick(0, 3, 7), M: q.pick(0, 2)}
		if q.chance(2) {
			limit.N = -1
		} else if q.chance(2) {
			limit.M = -1
		}
		root.kids = append(root.kids, newPlant(limit))
	}
	return root
}

func (q queryGrower) key(names []string, inside queryGrower, width int) *plant {
	node := impl.Node{Op: impl.NKey, N: q.flag(), M: q.pick(0, 1, 2)}
	switch below(q.numberSource, 4) {
	case 0:
		if len(names) > 0 {
			return newPlant(node, newPlant(impl.Node{Op: impl.NCol, Name: names[below(q.numberSource, len(names))]}))
		}
	case 1, 2:
		if len(names) > 0 {
			return newPlant(node, inside.deeper().expr(q.oneKind(), 1))
		}
	}
	return newPlant(node, newPlant(impl.Node{Op: impl.NLit, Val: intv(1 + below(q.numberSource, max(width, 1)))}))
}

func (q queryGrower) setOperation(kinds []int, bare bool) *plant {
	var left, right *plant
	if q.chance(4) {
		left = q.deeper().setOperation(kinds, bare)
	} else {
		left, _, _ = q.deeper().selection(q.mixed(kinds))
	}
	if q.chance(3) {
		right = q.deeper().query(q.mixed(kinds), false)
	} else {
		right, _, _ = q.deeper().selection(q.mixed(kinds))
	}
	return newPlant(impl.Node{Op: impl.NSetOp, N: q.pick(1, 2), M: q.flag()}, left, right)
}

// mixed are other kinds that go with these.
func (q queryGrower) mixed(kinds []int) []int {
	list := slices.Clone(kinds)
	for i, kind := range list {
		if q.chance(8) {
			list[i] = impl.Null
		} else if kind == impl.Dec && q.chance(3) {
			list[i] = impl.Int
		}
	}
	return list
}

// selection is a SELECT, the names of its columns as far as they are known, and what makes the keys of an order over it.
func (q queryGrower) selection(kinds []int) (*plant, []string, queryGrower) {
	node := newPlant(impl.Node{Op: impl.NSelect, N: q.pick(0, 0, 0, 1)})
	inner := q
	inner.levels = append([][]impl.ColName{nil}, q.levels...)
	items := newPlant(impl.Node{Op: impl.NItems})
	node.kids = append(node.kids, items)
	if !q.chance(6) {
		from := newPlant(impl.Node{Op: impl.NFrom})
		for count := q.pick(1, 1, 1, 2, 3); count > 0; count-- {
			source, cols := q.joined(q.pick(0, 0, 0, 1, 2))
			from.kids = append(from.kids, source)
			inner.levels[0] = append(slices.Clone(inner.levels[0]), cols...)
		}
		node.kids = append(node.kids, from)
	}
	if q.chance(3) {
		node.kids = append(node.kids, newPlant(impl.Node{Op: impl.NWhere}, inner.expr(impl.Bool, 2)))
	}
	if len(kinds) > 0 && q.chance(3) {
		inner = inner.grouped(node)
	}
	names := inner.addItems(items, kinds)
	return node, names, inner
}

// grouped adds a GROUP BY, a HAVING, or both; what is answered makes expressions in the group.
func (q queryGrower) grouped(node *plant) queryGrower {
	group := &grownGroup{below: q}
	inner := q
	inner.group = group
	inner.levels = slices.Clone(q.levels)
	inner.levels[0] = nil
	keys := newPlant(impl.Node{Op: impl.NGroup})
	for count := q.pick(0, 1, 1, 2, 3); count > 0; count-- {
		if cols := q.levels[0]; len(cols) > 0 && q.chance(2) {
			column := cols[below(q.numberSource, len(cols))]
			group.keys = append(group.keys, newPlant(impl.Node{Op: impl.NCol, Qual: column.Qual, Name: column.Name}))
			group.kinds = append(group.kinds, column.Kind)
			inner.levels[0] = append(inner.levels[0], column)
			continue
		}
		kind := q.oneKind()
		group.keys = append(group.keys, q.deeper().expr(kind, 1))
		group.kinds = append(group.kinds, kind)
	}
	if keys.kids = group.keys; len(keys.kids) > 0 {
		node.kids = append(node.kids, keys)
	}
	if len(keys.kids) == 0 && q.chance(2) || q.chance(3) {
		node.kids = append(node.kids, newPlant(impl.Node{Op: impl.NHaving}, inner.expr(impl.Bool, 2)))
	}
	return inner
}

func (q queryGrower) addItems(items *plant, kinds []int) []string {
	var names []string
	if len(kinds) == 0 && len(q.levels[0]) > 0 && q.group == nil {
		star := impl.Node{Op: impl.NStar}
		if q.chance(2) {
			star.Qual = q.levels[0][below(q.numberSource, len(q.levels[0]))].Qual
		}
		items.kids = append(items.kids, newPlant(star))
	}
	for len(kinds) == 0 {
		kinds = q.kinds(0, 3)
	}
	for i, kind := range kinds {
		item := impl.Node{Op: impl.NItem}
		name := "column" + strconv.Itoa(i+1)
		if q.chance(3) {
			item.Name = []string{"a", "b", "id", "x", "new", "z 1"}[below(q.numberSource, 6)]
			name = item.Name
		}
		e := q.expr(kind, 1+below(q.numberSource, 2))
		if e.Op == impl.NCol && item.Name == "" {
			name = e.Name
		}
		names = append(names, name)
		items.kids = append(items.kids, newPlant(item, e))
	}
	return names
}

// joined is a source of some joins, and its columns.
func (q queryGrower) joined(joins int) (*plant, []impl.ColName) {
	source, cols := q.source()
	for ; joins > 0; joins-- {
		right, more := q.source()
		cols = append(slices.Clone(cols), more...)
		join := newPlant(impl.Node{Op: impl.NJoin, N: q.pick(1, 2, 3)}, source, right)
		if join.N != impl.JoinCross {
			pairs := q
			pairs.levels = append([][]impl.ColName{cols}, q.levels...)
			join.kids = append(join.kids, pairs.deeper().expr(impl.Bool, 1))
		}
		source = join
	}
	return source, cols
}

func (q queryGrower) source() (*plant, []impl.ColName) {
	qual := []string{"p", "q", "r", "t", "s 2", "f", "g", "h", "j", "l", "m", "n", "o"}[below(q.numberSource, 13)]
	if q.depth > 0 && q.chance(4) {
		kinds := q.kinds(1, 3)
		inner := q.deeper().query(kinds, false)
		var cols []impl.ColName
		for i, name := range outputNames(inner) {
			if i < len(kinds) {
				cols = append(cols, impl.ColName{Qual: qual, Name: name, Kind: kinds[i]})
			}
		}
		return newPlant(impl.Node{Op: impl.NDerived, Name: qual}, inner), cols
	}
	table := q.schema.Tables[below(q.numberSource, len(q.schema.Tables))]
	node := impl.Node{Op: impl.NTable, Name: table.Name}
	if q.chance(2) {
		node.Qual = qual
	} else {
		qual = table.Name
	}
	return newPlant(node), scanned(table, qual).cols
}

// outputNames are the names of a query's columns, where it has no stars.
func outputNames(p *plant) []string {
	for p.Op != impl.NSelect {
		p = p.kids[0]
	}
	var names []string
	for i, item := range p.kids[0].kids {
		switch {
		case item.Name != "":
			names = append(names, item.Name)
		case len(item.kids) > 0 && item.kids[0].Op == impl.NCol:
			names = append(names, item.kids[0].Name)
		default:
			names = append(names, "column"+strconv.Itoa(i+1))
		}
	}
	return names
}

// change is an INSERT, UPDATE or DELETE.
func (q queryGrower) change() *plant {
	table := q.schema.Tables[below(q.numberSource, len(q.schema.Tables))]
	q.levels = [][]impl.ColName{scanned(table, table.Name).cols}
	var where []*plant
	if q.chance(2) {
		where = []*plant{newPlant(impl.Node{Op: impl.NWhere}, q.expr(impl.Bool, 2))}
	}
	switch below(q.numberSource, 5) {
	case 0:
		return newPlant(impl.Node{Op: impl.NDelete, Name: table.Name}, where...)
	case 1, 2:
		var sets []*plant
		for _, column := range table.Cols {
			if q.chance(2) || len(sets) == 0 {
				sets = append(sets, newPlant(impl.Node{Op: impl.NSet, Name: column.Name}, q.valueFor(column)))
			}
		}
		return newPlant(impl.Node{Op: impl.NUpdate, Name: table.Name}, append(sets, where...)...)
	}
	q.levels = nil
	root := newPlant(impl.Node{Op: impl.NInsert, Name: table.Name})
	cols := slices.Clone(table.Cols)
	if q.chance(2) {
		names := newPlant(impl.Node{Op: impl.NNames})
		for range below(q.numberSource, len(cols)) {
			at := below(q.numberSource, len(cols))
			cols[0], cols[at] = cols[at], cols[0]
			cols = cols[:max(len(cols)-q.flag(), 1)]
		}
		for _, column := range cols {
			names.kids = append(names.kids, newPlant(impl.Node{Op: impl.NName, Name: column.Name}))
		}
		root.kids = append(root.kids, names)
	}
	if q.chance(3) {
		var kinds []int
		for _, column := range cols {
			kinds = append(kinds, column.Kind)
		}
		root.kids = append(root.kids, q.query(q.mixed(kinds), false))
		return root
	}
	rows := q.several(1, 3, func() *plant {
		row := newPlant(impl.Node{Op: impl.NRow})
		for _, column := range cols {
			row.kids = append(row.kids, q.valueFor(column))
		}
		return row
	})
	root.kids = append(root.kids, newPlant(impl.Node{Op: impl.NValues}, rows...))
	return root
}

func (q queryGrower) valueFor(column impl.Column) *plant {
	if q.chance(5) {
		return newPlant(impl.Node{Op: impl.NDefault})
	}
	return q.expr(q.mixed([]int{column.Kind})[0], 2)
}

// spoilStatement changes something, so that most often there is a fault.
func (q queryGrower) spoilStatement(root *plant) {
	all := withAll(root)
	p := all[below(q.numberSource, len(all))]
	switch p.Op {
	case impl.NTable, impl.NInsert, impl.NUpdate, impl.NDelete:
		p.Name = []string{"t", "u", "nope", "q"}[below(q.numberSource, 4)]
	case impl.NCol, impl.NStar:
		p.Qual = []string{"", "p", "q", "t", "nope"}[below(q.numberSource, 5)]
	case impl.NDerived:
		p.Name = []string{"p", "q", "t"}[below(q.numberSource, 3)]
	case impl.NName, impl.NSet:
		p.Name = []string{"a", "b", "id", "nope"}[below(q.numberSource, 4)]
	case impl.NItems, impl.NRow, impl.NFrom, impl.NGroup:
		if q.chance(2) {
			p.kids = append(p.kids, p.kids[0])
		} else if len(p.kids) > 1 {
			p.kids = p.kids[1:]
		}
	case impl.NKey:
		p.kids = []*plant{newPlant(impl.Node{Op: impl.NLit, Val: intv(below(q.numberSource, 5))})}
	case impl.NSelect:
		p.N = 1 - p.N
	default:
		q.plain().spoil(p)
	}
}
