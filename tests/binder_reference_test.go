package tests

import (
	"slices"
	"strconv"

	"loop.example/g00001/impl"
)

// shrub is a node of a plan with what it stands on at hand.
type shrub struct {
	impl.PNode
	l, r  *shrub
	exprs []*branch
}

// planner says chapter 7 once more. A node of an expression that names a plan has the plan's place in its list as B.
type planner struct {
	schema impl.Schema
	tree   impl.Tree
	plans  []*shrub
}

// seen is a level: its columns and, in a group, the keys.
type seen struct {
	cols    []impl.ColName
	grouped bool
	keys    []*branch
}

// grouping is a group on its way: the levels below it, its keys, its aggregates and their arguments.
type grouping struct {
	below     []seen
	keys      []*branch
	arguments []*branch
	aggs      []impl.PAgg
	kinds     []int
}

// relation is a plan with its columns; columns for an order stand behind those.
type relation struct {
	plan *shrub
	cols []impl.ColName
}

func (p *planner) at(at int) impl.Node { return p.tree.Nodes[at] }

// part is the kid with an operation, if there is one.
func (p *planner) part(node impl.Node, op int) (impl.Node, bool) {
	for _, kid := range node.Kids {
		if p.at(kid).Op == op {
			return p.at(kid), true
		}
	}
	return impl.Node{}, false
}

// holdsOp tells whether a node with an operation is in a node, which is one itself, too; outside of queries if told so.
func (p *planner) holdsOp(at, op int, outside bool) bool {
	for i := firstIn(p.tree, at); i <= at; i++ {
		if p.at(i).Op == op && !(outside && queryAround(p.tree, i, at) >= 0) {
			return true
		}
	}
	return false
}

func project(below *shrub, exprs []*branch) *shrub {
	return &shrub{PNode: impl.PNode{Op: impl.PProject, Kinds: kindsOf(exprs)}, l: below, exprs: exprs}
}

// sameRows is a node that changes no column.
func sameRows(below *shrub, node impl.PNode, exprs ...*branch) *shrub {
	node.Kinds = below.Kinds
	return &shrub{PNode: node, l: below, exprs: exprs}
}

func plainColumns(kinds []int) []*branch {
	var list []*branch
	for i, kind := range kinds {
		list = append(list, columnOf(kind, 0, i))
	}
	return list
}

// expr binds an expression that sees some levels, the nearest first; in a group, if there is one.
func (p *planner) expr(at int, levels []seen, group *grouping) *branch {
	node := p.at(at)
	if group != nil && node.Op == impl.NAgg {
		return p.aggregate(node, group)
	}
	if group != nil && !p.holdsOp(at, impl.NAgg, false) && !p.holdsOp(at, impl.NQuery, false) {
		plain, code, _ := asked(func() impl.Expr { return laid(p.expr(at, group.below, nil)) })
		for i, key := range group.keys {
			if code == impl.OK && sameExpr(laid(key), plain) {
				return columnOf(key.Kind, 0, i)
			}
		}
	}
	var kids []*branch
	for _, kid := range node.Kids {
		if p.at(kid).Op != impl.NQuery {
			kids = append(kids, p.expr(kid, levels, group))
		}
	}
	var made *branch
	switch node.Op {
	case impl.NCol:
		made = p.column(node, levels)
	case impl.NExists, impl.NScalar, impl.NInQuery:
		made = p.questioned(node, kids, p.query(node.Kids[len(node.Kids)-1], levels))
	default:
		made = wantedMeaning(node, kids, nil)
	}
	stopIf(len(laid(made).Nodes) > 400, impl.ErrBig, node.Pos)
	return made
}

func (p *planner) column(node impl.Node, levels []seen) *branch {
	for row, level := range levels {
		var places []int
		for i, column := range level.cols {
			if column.Name == node.Name && (node.Qual == "" || node.Qual == column.Qual) {
				places = append(places, i)
			}
		}
		if len(places) == 0 {
			continue
		}
		stopIf(len(places) > 1, impl.ErrMany, node.Pos)
		kind, place := level.cols[places[0]].Kind, places[0]
		if level.grouped {
			place = slices.IndexFunc(level.keys, func(key *branch) bool { return key.Op == impl.XCol && key.A == 0 && key.B == places[0] })
			stopIf(place < 0, impl.ErrGroup, node.Pos)
		}
		return columnOf(kind, row, place)
	}
	panic(stopped{impl.ErrColumn, node.Pos})
}

func (p *planner) questioned(node impl.Node, kids []*branch, given relation) *branch {
	p.plans = append(p.plans, given.plan)
	made := impl.XNode{Op: impl.XExists, Kind: impl.Bool, B: len(p.plans) - 1}
	if node.Op != impl.NExists {
		stopIf(len(given.cols) != 1, impl.ErrWidth, node.Pos)
	}
	if node.Op == impl.NScalar {
		made.Op, made.Kind = impl.XScalar, given.cols[0].Kind
	}
	if node.Op == impl.NInQuery {
		stopIf(tableKind(impl.XNode{Op: impl.XIn}, []int{kids[0].Kind, given.cols[0].Kind}) < 0, impl.ErrType, node.Pos)
		made.Op, made.A = impl.XInPlan, node.N
	}
	return &branch{made, kids}
}

func (p *planner) aggregate(node impl.Node, group *grouping) *branch {
	kind, column := impl.Int, -1
	if node.N != impl.AggAll {
		argument := p.expr(node.Kids[0], group.below, nil)
		column = len(group.keys) + len(group.arguments)
		group.arguments = append(group.arguments, argument)
		switch node.N {
		case impl.AggSum, impl.AggAvg:
			stopIf(argument.Kind != impl.Int && argument.Kind != impl.Dec, impl.ErrType, node.Pos)
		case impl.AggMin, impl.AggMax:
			stopIf(argument.Kind == impl.Null, impl.ErrType, node.Pos)
		}
		kind = map[int]int{impl.AggCount: impl.Int, impl.AggAvg: impl.Dec, impl.AggSum: argument.Kind, impl.AggMin: argument.Kind, impl.AggMax: argument.Kind}[node.N]
	}
	group.aggs = append(group.aggs, impl.PAgg{Fn: node.N, Col: column, Distinct: node.M == 1})
	group.kinds = append(group.kinds, kind)
	return columnOf(kind, 0, len(group.keys)+len(group.aggs)-1)
}

func (p *planner) condition(at int, levels []seen, group *grouping) *branch {
	made := p.expr(at, levels, group)
	stopIf(made.Kind != impl.Bool && made.Kind != impl.Null, impl.ErrType, p.at(at).Pos)
	return made
}

func (p *planner) query(at int, around []seen) relation {
	node := p.at(at)
	order, _ := p.part(node, impl.NOrder)
	given, sorts := p.sortedBody(node.Kids[0], order, around)
	if len(sorts) > 0 {
		given.plan = sameRows(given.plan, impl.PNode{Op: impl.PSort, Sorts: sorts})
		if width := len(given.cols); width < len(given.plan.Kinds) {
			given.plan = project(given.plan, plainColumns(given.plan.Kinds)[:width])
		}
	}
	if limit, there := p.part(node, impl.NLimit); there {
		offset := limit.M
		if offset == -1 {
			offset = 0
		}
		given.plan = sameRows(given.plan, impl.PNode{Op: impl.PLimit, A: limit.N, B: offset})
	}
	return given
}

func (p *planner) sortedBody(at int, order impl.Node, around []seen) (relation, []impl.SortKey) {
	refuse := func(at int) int { panic(stopped{impl.ErrColumn, p.at(at).Pos}) }
	switch node := p.at(at); node.Op {
	case impl.NSelect:
		return p.selection(node, order, around)
	case impl.NSetOp:
		given := p.setOperation(node, around)
		return given, p.sorts(order, given.cols, refuse)
	}
	given := p.query(at, around)
	return given, p.sorts(order, given.cols, refuse)
}

func (p *planner) sorts(order impl.Node, cols []impl.ColName, other func(at int) int) []impl.SortKey {
	var sorts []impl.SortKey
	for _, kid := range order.Kids {
		key := p.at(kid)
		sort := impl.SortKey{Col: -1, Desc: key.N == 1, First: key.M == 1 || key.M == 0 && key.N == 1}
		e := p.at(key.Kids[0])
		if e.Op == impl.NLit && e.Val.Kind == impl.Int {
			stopIf(e.Val.N < 1 || e.Val.N > len(cols), impl.ErrColumn, e.Pos)
			sort.Col = e.Val.N - 1
		}
		for i, column := range cols {
			if e.Op == impl.NCol && e.Qual == "" && e.Name == column.Name {
				stopIf(sort.Col >= 0, impl.ErrMany, e.Pos)
				sort.Col = i
			}
		}
		if sort.Col < 0 {
			sort.Col = other(key.Kids[0])
		}
		sorts = append(sorts, sort)
	}
	return sorts
}

func (p *planner) setOperation(node impl.Node, around []seen) relation {
	var sides [2]relation
	for i := range sides {
		sides[i], _ = p.sortedBody(node.Kids[i], impl.Node{}, around)
	}
	stopIf(len(sides[0].cols) != len(sides[1].cols), impl.ErrWidth, node.Pos)
	cols := slices.Clone(sides[0].cols)
	for i := range cols {
		a, b := sides[0].cols[i].Kind, sides[1].cols[i].Kind
		numbers := a+b == impl.Int+impl.Dec && a*b == impl.Int*impl.Dec
		stopIf(a != b && a != impl.Null && b != impl.Null && !numbers, impl.ErrType, node.Pos)
		// Of two kinds that go together the one with the greater number is wanted: Null is the least, and Dec behind Int.
		cols[i].Kind = max(a, b)
	}
	kinds := kindsOfCols(cols)[0]
	for i, side := range sides {
		var columns []*branch
		for k, column := range plainColumns(side.plan.Kinds) {
			columns = append(columns, wantedAt(column, kinds[k]))
		}
		if !slices.Equal(side.plan.Kinds, kinds) {
			sides[i].plan = project(side.plan, columns)
		}
	}
	op := []int{0, impl.PUnion, impl.PExcept}[node.N]
	return relation{&shrub{PNode: impl.PNode{Op: op, A: node.M, Kinds: kinds}, l: sides[0].plan, r: sides[1].plan}, cols}
}

func (p *planner) source(at int, around []seen) relation {
	node := p.at(at)
	switch node.Op {
	case impl.NTable:
		place := tableNamed(p.schema, node.Name)
		stopIf(place < 0, impl.ErrTable, node.Pos)
		qual := node.Qual
		if qual == "" {
			qual = node.Name
		}
		return scanned(p.schema.Tables[place], qual)
	case impl.NDerived:
		given := p.query(node.Kids[0], around)
		cols := slices.Clone(given.cols)
		for i := range cols {
			cols[i].Qual = node.Name
		}
		return relation{given.plan, cols}
	}
	left := p.source(node.Kids[0], around)
	right := p.source(node.Kids[1], around)
	if node.N == impl.JoinCross {
		return p.crossed(left, right, node.Pos)
	}
	joined := p.crossed(left, right, node.Pos)
	stopIf(len(around) >= 8, impl.ErrDeep, node.Pos)
	joined.plan.A = node.N
	joined.plan.exprs = []*branch{p.condition(node.Kids[2], append([]seen{{cols: joined.cols}}, around...), nil)}
	return joined
}

func scanned(table impl.Table, qual string) relation {
	var cols []impl.ColName
	for _, column := range table.Cols {
		cols = append(cols, impl.ColName{Qual: qual, Name: column.Name, Kind: column.Kind})
	}
	return relation{&shrub{PNode: impl.PNode{Op: impl.PScan, Table: table.Id, Kinds: kindsOfCols(cols)[0]}}, cols}
}

func (p *planner) crossed(left, right relation, pos int) relation {
	cols := append(slices.Clone(left.cols), right.cols...)
	stopIf(len(cols) > 32, impl.ErrBig, pos)
	plan := &shrub{PNode: impl.PNode{Op: impl.PJoin, A: 1, Kinds: kindsOfCols(cols)[0]}, l: left.plan, r: right.plan, exprs: []*branch{constOf(boolv(true))}}
	return relation{plan, cols}
}

func (p *planner) from(node impl.Node, around []seen) relation {
	given := relation{plan: &shrub{PNode: impl.PNode{Op: impl.PValues, A: 1}}}
	from, _ := p.part(node, impl.NFrom)
	for i, kid := range from.Kids {
		right := p.source(kid, around)
		if i > 0 {
			right = p.crossed(given, right, p.at(kid).Pos)
		}
		given = right
	}
	return given
}

func (p *planner) selection(node, order impl.Node, around []seen) (relation, []impl.SortKey) {
	rows := p.from(node, around)
	stopIf(len(around) >= 8, impl.ErrDeep, node.Pos)
	levels := append([]seen{{cols: rows.cols}}, around...)
	if where, there := p.part(node, impl.NWhere); there {
		rows.plan = sameRows(rows.plan, impl.PNode{Op: impl.PFilter}, p.condition(where.Kids[0], levels, nil))
	}
	group := p.grouping(node, order, levels)
	if group != nil {
		levels = append([]seen{{rows.cols, true, group.keys}}, around...)
	}
	var having []*branch
	if clause, there := p.part(node, impl.NHaving); there {
		having = []*branch{p.condition(clause.Kids[0], levels, group)}
	}
	exprs, cols := p.items(node, levels, group)
	sorts := p.sorts(order, cols, func(at int) int {
		stopIf(node.N == 1, impl.ErrColumn, p.at(at).Pos)
		exprs = append(exprs, p.expr(at, levels, group))
		return len(exprs) - 1
	})
	plan := rows.plan
	if group != nil {
		kinds := append(kindsOf(group.keys), group.kinds...)
		stopIf(len(kinds) > 32, impl.ErrBig, node.Pos)
		below := project(plan, append(slices.Clone(group.keys), group.arguments...))
		plan = &shrub{PNode: impl.PNode{Op: impl.PGroup, Keys: upTo(0, len(group.keys)-1), Aggs: group.aggs, Kinds: kinds}, l: below}
	}
	if len(having) > 0 {
		plan = sameRows(plan, impl.PNode{Op: impl.PFilter}, having...)
	}
	stopIf(len(exprs) > 32, impl.ErrBig, node.Pos)
	plan = project(plan, exprs)
	if node.N == 1 {
		plan = sameRows(plan, impl.PNode{Op: impl.PDistinct})
	}
	return relation{plan, cols}, sorts
}

// grouping is nil where nothing is grouped.
func (p *planner) grouping(node, order impl.Node, levels []seen) *grouping {
	keys, there := p.part(node, impl.NGroup)
	_, having := p.part(node, impl.NHaving)
	items, _ := p.part(node, impl.NItems)
	there = there || having
	for _, kid := range append(slices.Clone(items.Kids), order.Kids...) {
		there = there || p.holdsOp(kid, impl.NAgg, true)
	}
	if !there {
		return nil
	}
	group := &grouping{below: levels}
	for _, kid := range keys.Kids {
		group.keys = append(group.keys, p.expr(kid, levels, nil))
	}
	return group
}

func (p *planner) items(node impl.Node, levels []seen, group *grouping) (exprs []*branch, cols []impl.ColName) {
	items, _ := p.part(node, impl.NItems)
	for _, kid := range items.Kids {
		item := p.at(kid)
		if item.Op == impl.NStar {
			found := 0
			for i, column := range levels[0].cols {
				if item.Qual == "" || item.Qual == column.Qual {
					found++
					exprs = append(exprs, columnOf(column.Kind, 0, i))
					cols = append(cols, column)
				}
			}
			stopIf(found == 0, impl.ErrColumn, item.Pos)
			stopIf(group != nil, impl.ErrGroup, item.Pos)
			continue
		}
		made := p.expr(item.Kids[0], levels, group)
		exprs = append(exprs, made)
		name := "column" + strconv.Itoa(len(exprs))
		if e := p.at(item.Kids[0]); e.Op == impl.NCol {
			name = e.Name
		}
		if item.Name != "" {
			name = item.Name
		}
		cols = append(cols, impl.ColName{Name: name, Kind: made.Kind})
	}
	return exprs, cols
}

// nodeCount counts up to somewhat above MaxPlan: a plan that stands in an operand of a CASE stands there often.
func (p *planner) nodeCount(plan *shrub, known map[*shrub]int) int {
	if plan == nil {
		return 0
	}
	if count, there := known[plan]; there {
		return count
	}
	count := 1 + p.nodeCount(plan.l, known) + p.nodeCount(plan.r, known)
	for _, e := range plan.exprs {
		for _, node := range laid(e).Nodes {
			if node.Op >= impl.XExists && count < 1000 {
				count += p.nodeCount(p.plans[node.B], known)
			}
		}
	}
	known[plan] = count
	return count
}

func (p *planner) lay(plan *shrub, nodes []impl.PNode) []impl.PNode {
	node := plan.PNode
	node.L, node.R = -1, -1
	if plan.l != nil {
		nodes = p.lay(plan.l, nodes)
		node.L = len(nodes) - 1
	}
	if plan.r != nil {
		nodes = p.lay(plan.r, nodes)
		node.R = len(nodes) - 1
	}
	node.Exprs = p.layExprs(plan.exprs, func(named *shrub) int {
		nodes = p.lay(named, nodes)
		return len(nodes) - 1
	})
	return append(nodes, node)
}

// layExprs are expressions with the plans that they name laid down, one behind the other, by a function that tells their roots' numbers.
func (p *planner) layExprs(exprs []*branch, lay func(named *shrub) int) []impl.Expr {
	var list []impl.Expr
	for _, b := range exprs {
		e := laid(b)
		for i := range e.Nodes {
			if e.Nodes[i].Op >= impl.XExists {
				e.Nodes[i].B = lay(p.plans[e.Nodes[i].B])
			}
		}
		list = append(list, e)
	}
	return list
}

func (p *planner) whole(plan *shrub) impl.Plan {
	stopIf(p.nodeCount(plan, map[*shrub]int{}) > 200, impl.ErrBig, 0)
	return impl.Plan{Nodes: p.lay(plan, nil)}
}

// wantedPlan is Bind, of a schema that is valid.
func wantedPlan(s impl.Schema, tree impl.Tree) (impl.Plan, []string, int, int) {
	if !impl.TreeOK(tree) {
		return impl.Plan{}, nil, impl.ErrBad, 0
	}
	at := len(tree.Nodes) - 1
	if tree.Nodes[at].Op == impl.NExplain {
		at = tree.Nodes[at].Kids[0]
	}
	if tree.Nodes[at].Op != impl.NQuery {
		return impl.Plan{}, nil, impl.ErrBad, 0
	}
	p := &planner{schema: s, tree: tree}
	var names []string
	plan, code, pos := asked(func() impl.Plan {
		given := p.query(at, nil)
		for _, column := range given.cols {
			names = append(names, column.Name)
		}
		return p.whole(given.plan)
	})
	if code != impl.OK {
		names = nil
	}
	return plan, names, code, pos
}

// wantedStatementChange is BindChange, of a schema that is valid.
func wantedStatementChange(s impl.Schema, tree impl.Tree) (impl.Change, int, int) {
	if !impl.TreeOK(tree) {
		return impl.Change{}, impl.ErrBad, 0
	}
	root := tree.Nodes[len(tree.Nodes)-1]
	kind := map[int]int{impl.NInsert: 1, impl.NUpdate: 2, impl.NDelete: 3}[root.Op]
	if kind == 0 {
		return impl.Change{}, impl.ErrBad, 0
	}
	p := &planner{schema: s, tree: tree}
	return asked(func() impl.Change {
		place := tableNamed(s, root.Name)
		stopIf(place < 0, impl.ErrTable, root.Pos)
		table := s.Tables[place]
		var plan *shrub
		switch kind {
		case 1:
			plan = p.insert(root, table)
		case 2:
			plan = p.update(root, table)
		case 3:
			plan = p.kept(root, scanned(table, table.Name))
		}
		return impl.Change{Kind: kind, Table: table.Id, Plan: p.whole(plan)}
	})
}

// kept are the rows of a table for which a statement's WHERE holds.
func (p *planner) kept(root impl.Node, rows relation) *shrub {
	if where, there := p.part(root, impl.NWhere); there {
		return sameRows(rows.plan, impl.PNode{Op: impl.PFilter}, p.condition(where.Kids[0], []seen{{cols: rows.cols}}, nil))
	}
	return rows.plan
}

// fits is a value as a column takes it.
func fits(value *branch, column impl.Column, pos int) *branch {
	widened := value.Kind == impl.Int && column.Kind == impl.Dec
	stopIf(value.Kind != column.Kind && value.Kind != impl.Null && !widened, impl.ErrType, pos)
	if value.Kind == column.Kind {
		return value
	}
	return castOf(column.Kind, value)
}

func (p *planner) value(at int, column impl.Column, levels []seen) *branch {
	if p.at(at).Op == impl.NDefault {
		return wantedConstant(column.Default, column.Kind)
	}
	made := fits(p.expr(at, levels, nil), column, p.at(at).Pos)
	stopIf(len(laid(made).Nodes) > 400, impl.ErrBig, p.at(at).Pos)
	return made
}

func (p *planner) insert(root impl.Node, table impl.Table) *shrub {
	places := upTo(0, len(table.Cols)-1)
	if names, there := p.part(root, impl.NNames); there {
		places = wantedList(p.tree, names, table.Cols)
	}
	standard := func() []*branch {
		var row []*branch
		for _, column := range table.Cols {
			row = append(row, wantedConstant(column.Default, column.Kind))
		}
		return row
	}
	last := root.Kids[len(root.Kids)-1]
	if node := p.at(last); node.Op == impl.NQuery {
		given := p.query(last, nil)
		stopIf(len(given.cols) != len(places), impl.ErrWidth, node.Pos)
		row := standard()
		for i, column := range given.cols {
			row[places[i]] = fits(columnOf(column.Kind, 0, i), table.Cols[places[i]], node.Pos)
		}
		return project(given.plan, row)
	}
	var all []*branch
	for count, at := range p.at(last).Kids {
		node := p.at(at)
		stopIf(count >= 100, impl.ErrBig, node.Pos)
		stopIf(len(node.Kids) != len(places), impl.ErrWidth, node.Pos)
		row := standard()
		for i, kid := range node.Kids {
			row[places[i]] = p.value(kid, table.Cols[places[i]], nil)
		}
		all = append(all, row...)
	}
	return &shrub{PNode: impl.PNode{Op: impl.PValues, A: len(all) / len(table.Cols), Kinds: scanned(table, "").plan.Kinds}, exprs: all}
}

func (p *planner) update(root impl.Node, table impl.Table) *shrub {
	rows := scanned(table, table.Name)
	row := plainColumns(rows.plan.Kinds)
	news := plainColumns(rows.plan.Kinds)
	var done []string
	for _, kid := range root.Kids {
		node := p.at(kid)
		if node.Op != impl.NSet {
			continue
		}
		place := slices.IndexFunc(table.Cols, func(c impl.Column) bool { return c.Name == node.Name })
		stopIf(place < 0, impl.ErrColumn, node.Pos)
		stopIf(slices.Contains(done, node.Name), impl.ErrMany, node.Pos)
		done = append(done, node.Name)
		news[place] = p.value(node.Kids[0], table.Cols[place], []seen{{cols: rows.cols}})
	}
	return project(p.kept(root, rows), append(row, news...))
}

func samePlan(a, b impl.Plan) bool {
	return slices.EqualFunc(a.Nodes, b.Nodes, func(x, y impl.PNode) bool {
		return x.Op == y.Op && x.L == y.L && x.R == y.R && x.Table == y.Table && x.A == y.A && x.B == y.B && slices.EqualFunc(x.Exprs, y.Exprs, sameExpr) &&
			slices.Equal(x.Keys, y.Keys) && slices.Equal(x.Aggs, y.Aggs) && slices.Equal(x.Sorts, y.Sorts) && slices.Equal(x.Kinds, y.Kinds)
	})
}
