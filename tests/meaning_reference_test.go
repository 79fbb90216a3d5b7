package tests

import (
	"math/big"
	"slices"

	"loop.example/g00001/impl"
)

// order is Compare of values that go together.
func order(a, b impl.Value) int {
	sign, code := impl.Compare(a, b)
	if code != impl.OK {
		panic("values that do not go together")
	}
	return sign
}

func alike(a, b []impl.Value) bool {
	return slices.EqualFunc(a, b, func(x, y impl.Value) bool { return order(x, y) == 0 })
}

// firstLike is the number of the first row that is like a row, -1 if there is none.
func firstLike(rows [][]impl.Value, row []impl.Value) int {
	return slices.IndexFunc(rows, func(one []impl.Value) bool { return alike(one, row) })
}

func columnsOf(row []impl.Value, cols []int) []impl.Value {
	var list []impl.Value
	for _, column := range cols {
		list = append(list, row[column])
	}
	return list
}

// wantedStateOK is StateOK of a valid schema.
func wantedStateOK(s impl.Schema, st impl.State) bool {
	if len(st.Tables) != len(s.Tables) {
		return false
	}
	for i, table := range s.Tables {
		rows := st.Tables[i].Rows
		if st.Tables[i].Id != table.Id || len(rows) > 400 {
			return false
		}
		for _, row := range rows {
			if wantedRowCode(s, i, row) != impl.OK {
				return false
			}
		}
		if !wantedKeys(s, table, rows) {
			return false
		}
	}
	return true
}

func wantedKeys(s impl.Schema, table impl.Table, rows [][]impl.Value) bool {
	keys := slices.Clone(table.Uniques)
	for _, index := range s.Indexes {
		if index.Unique && index.Table == table.Name {
			keys = append(keys, index.Cols)
		}
	}
	for i := range rows {
		if i > 0 && len(table.Primary) > 0 && rowOrder(columnsOf(rows[i-1], table.Primary), columnsOf(rows[i], table.Primary)) >= 0 {
			return false
		}
		for k := range i {
			for _, key := range keys {
				if a := columnsOf(rows[i], key); !slices.Contains(a, null) && alike(a, columnsOf(rows[k], key)) {
					return false
				}
			}
		}
	}
	return true
}

func rowOrder(a, b []impl.Value) int {
	return slices.CompareFunc(a, b, order)
}

// planChecker says of a plan's nodes from the root down what chapter 8 says of valid ones; free is the last node that nobody has named yet.
type planChecker struct {
	schema impl.Schema
	nodes  []impl.PNode
	free   int
	ok     bool
	// visit looks at the root of a plan that an expression names.
	visit func(at int, around [][]int)
}

func wantedPlanOK(s impl.Schema, p impl.Plan) bool {
	c := &planChecker{schema: s, nodes: p.Nodes, free: len(p.Nodes) - 1, ok: len(p.Nodes) >= 1 && len(p.Nodes) <= 200}
	c.visit = c.node
	if c.ok {
		c.node(c.free, nil)
	}
	return c.ok && c.free == -1
}

func (c *planChecker) must(holds bool) bool {
	c.ok = c.ok && holds
	return c.ok
}

// node looks at the node with a number, which must be the one that is free; its expressions see the lists of kinds around.
func (c *planChecker) node(at int, around [][]int) {
	if !c.must(at >= 0 && at == c.free) {
		return
	}
	c.free--
	n := c.nodes[at]
	hasL, hasR := n.Op != impl.PScan && n.Op != impl.PValues, n.Op == impl.PJoin || n.Op == impl.PUnion || n.Op == impl.PExcept
	if !c.must((n.L != -1) == hasL && (n.R != -1) == hasR && n.L < at && n.R < at && n.L >= -1 && n.R >= -1 && len(n.Kinds) <= 32) {
		return
	}
	var left, right []int
	if hasL {
		left = c.nodes[n.L].Kinds
	}
	if hasR {
		right = c.nodes[n.R].Kinds
	}
	both := append(slices.Clone(left), right...)
	if !c.must(c.fields(n, left, right, both)) {
		return
	}
	seen := append([][]int{both}, around...)
	for i := len(n.Exprs) - 1; i >= 0 && c.ok; i-- {
		c.must(len(seen) <= 8)
		c.expr(n.Exprs[i], seen)
	}
	if hasR && c.ok {
		c.node(n.R, around)
	}
	if hasL && c.ok {
		c.node(n.L, around)
	}
}

// fields asks for all fields of a node but the insides of its expressions.
func (c *planChecker) fields(n impl.PNode, left, right, both []int) bool {
	var kinds []int
	for _, e := range n.Exprs {
		if len(e.Nodes) == 0 {
			return false
		}
		kinds = append(kinds, e.Nodes[len(e.Nodes)-1].Kind)
	}
	condition := len(kinds) == 1 && (kinds[0] == impl.Bool || kinds[0] == impl.Null)
	// What an operation uses is looked at, and then taken out: the rest must be blank.
	rest := n
	rest.Op, rest.L, rest.R, rest.Kinds = 0, 0, 0, nil
	ok, given := true, left
	switch n.Op {
	case impl.PScan:
		place := slices.IndexFunc(c.schema.Tables, func(t impl.Table) bool { return t.Id == n.Table })
		if ok = place >= 0; ok {
			given = scanned(c.schema.Tables[place], "").plan.Kinds
		}
		rest.Table = 0
	case impl.PValues:
		ok, given = n.A >= 0 && n.A <= 100 && len(kinds) == n.A*len(n.Kinds) && listsValid([][]int{n.Kinds}), n.Kinds
		for i := range kinds {
			ok = ok && kinds[i] == n.Kinds[i%len(n.Kinds)]
		}
		rest.A, rest.Exprs = 0, nil
	case impl.PFilter:
		ok, rest.Exprs = condition, nil
	case impl.PProject:
		given, rest.Exprs = kinds, nil
	case impl.PJoin:
		ok = condition && len(both) <= 32 && slices.Contains([]int{1, 2, 4, 5}, n.A)
		if n.A < 3 {
			given = both
		}
		rest.A, rest.Exprs = 0, nil
	case impl.PGroup:
		given, ok = groupKinds(n, left)
		rest.Keys, rest.Aggs = nil, nil
	case impl.PDistinct:
	case impl.PSort:
		ok = len(n.Sorts) > 0 && !slices.ContainsFunc(n.Sorts, func(key impl.SortKey) bool { return key.Col < 0 || key.Col >= len(left) })
		rest.Sorts = nil
	case impl.PLimit:
		ok = n.A >= -1 && n.B >= 0
		rest.A, rest.B = 0, 0
	case impl.PUnion, impl.PExcept:
		ok = (n.A == 0 || n.A == 1) && slices.Equal(left, right)
		rest.A = 0
	default:
		return false
	}
	return ok && slices.Equal(n.Kinds, given) && samePlan(impl.Plan{Nodes: []impl.PNode{rest}}, impl.Plan{Nodes: []impl.PNode{{}}})
}

func groupKinds(n impl.PNode, below []int) ([]int, bool) {
	var kinds []int
	for _, key := range n.Keys {
		if key < 0 || key >= len(below) {
			return nil, false
		}
		kinds = append(kinds, below[key])
	}
	for _, agg := range n.Aggs {
		if agg.Fn == impl.AggAll && agg.Col == -1 && !agg.Distinct {
			kinds = append(kinds, impl.Int)
			continue
		}
		if agg.Col < 0 || agg.Col >= len(below) {
			return nil, false
		}
		of := below[agg.Col]
		number := of == impl.Int || of == impl.Dec
		switch {
		case agg.Fn == impl.AggCount:
			kinds = append(kinds, impl.Int)
		case agg.Fn == impl.AggAvg && number:
			kinds = append(kinds, impl.Dec)
		case agg.Fn == impl.AggSum && number, (agg.Fn == impl.AggMin || agg.Fn == impl.AggMax) && of != impl.Null:
			kinds = append(kinds, of)
		default:
			return nil, false
		}
	}
	return kinds, true
}

func (c *planChecker) expr(e impl.Expr, seen [][]int) {
	if !c.must(len(e.Nodes) <= 400 && standingNodes(e.Nodes)) {
		return
	}
	for i := len(e.Nodes) - 1; i >= 0 && c.ok; i-- {
		x := e.Nodes[i]
		if x.Op < impl.XExists || x.Op > impl.XInPlan {
			continue
		}
		if !c.must(x.B >= 0 && x.B == c.free) {
			return
		}
		given := c.nodes[x.B].Kinds
		blank := x.Val == null && (x.A == 0 || x.Op == impl.XInPlan && x.A == 1)
		switch x.Op {
		case impl.XExists:
			c.must(blank && x.Kind == impl.Bool && len(x.Kids) == 0)
		case impl.XScalar:
			c.must(blank && len(given) == 1 && x.Kind == given[0] && len(x.Kids) == 0)
		case impl.XInPlan:
			c.must(blank && len(given) == 1 && x.Kind == impl.Bool && len(x.Kids) == 1)
			c.must(c.ok && listsValid([][]int{given, {e.Nodes[x.Kids[0]].Kind}}))
			c.must(c.ok && tableKind(impl.XNode{Op: impl.XIn}, []int{e.Nodes[x.Kids[0]].Kind, given[0]}) == impl.Bool)
		}
		if c.ok {
			c.visit(x.B, seen)
		}
	}
	// What names a plan is now as good as a column of its kind, or as an IN of one.
	plain := copyExpr(e)
	for i, x := range plain.Nodes {
		switch x.Op {
		case impl.XExists, impl.XScalar:
			plain.Nodes[i] = impl.XNode{Op: impl.XCast, Kind: x.Kind, A: x.Kind, Kids: []int{-1}}
		case impl.XInPlan:
			plain.Nodes[i] = impl.XNode{Op: impl.XUn, Kind: x.Kind, A: impl.OpIsNull, Kids: x.Kids}
		}
	}
	c.must(c.ok && plainNodesValid(plain, seen))
}

// plainNodesValid looks at each node by the table; a kid -1 stands for something of kind Null.
func plainNodesValid(e impl.Expr, seen [][]int) bool {
	for _, x := range e.Nodes {
		var kinds []int
		for _, kid := range x.Kids {
			if kid == -1 {
				kinds = append(kinds, impl.Null)
				continue
			}
			kinds = append(kinds, e.Nodes[kid].Kind)
		}
		if slices.ContainsFunc(kinds, func(kind int) bool { return kind < 0 || kind > 5 }) {
			return false
		}
		if x.Op == impl.XCol && !inLists(seen)(x) || x.Op != impl.XCol && x.B != 0 || x.Op != impl.XConst && x.Val != null || x.Kind < 0 || tableKind(x, kinds) != x.Kind {
			return false
		}
	}
	return true
}

// wantedSafePlan is SafePlan; an expression that has no text is not safe.
func wantedSafePlan(p impl.Plan) bool {
	for _, node := range p.Nodes {
		for _, agg := range node.Aggs {
			if agg.Fn == impl.AggSum || agg.Fn == impl.AggAvg {
				return false
			}
		}
		for _, e := range node.Exprs {
			// No text of a whole expression but one of a wrong constant alone is a question mark.
			if impl.ExprText(e) == "?" && !(len(e.Nodes) == 1 && e.Nodes[0].Op == impl.XConst && len(e.Nodes[0].Kids) == 0) || len(e.Nodes) == 0 {
				return false
			}
			if !wantedSafe(upright(e)) || slices.ContainsFunc(e.Nodes, func(x impl.XNode) bool { return x.Op == impl.XScalar }) {
				return false
			}
		}
	}
	return true
}

// worker works out a plan by the words of chapter 8.
type worker struct {
	nodes []impl.PNode
	// exprs are those of the nodes.
	exprs [][]*branch
	state impl.State
	work  int
	// ask works out a plan that an expression names.
	ask func(at int, around [][]impl.Value) ([][]impl.Value, int)
}

// spent is thrown when there has been too much work.
type spent struct{}

func (w *worker) spend() {
	w.work++
	if w.work > 20000 {
		panic(spent{})
	}
}

// wantedRows is Meaning of a valid plan, and the work that was done.
func wantedRows(st impl.State, p impl.Plan) (rows [][]impl.Value, code, work int) {
	w := &worker{nodes: p.Nodes, state: st}
	w.ask = w.node
	for _, n := range p.Nodes {
		w.exprs = append(w.exprs, uprightAll(n.Exprs))
	}
	return w.root()
}

func uprightAll(exprs []impl.Expr) []*branch {
	var list []*branch
	for _, e := range exprs {
		list = append(list, upright(e))
	}
	return list
}

// root works out the last node.
func (w *worker) root() (rows [][]impl.Value, code, work int) {
	defer func() {
		if thrown := recover(); thrown != nil {
			_ = thrown.(spent)
			rows, code, work = nil, impl.ErrFuel, w.work
		}
	}()
	rows, code = w.ask(len(w.exprs)-1, nil)
	return rows, code, w.work
}

// outcome is what a node has given so far, and all the codes with which it failed.
type outcome struct {
	*worker
	exprs []*branch
	rows  [][]impl.Value
	codes []int
}

func (o *outcome) give(row ...impl.Value) {
	o.rows = append(o.rows, slices.Clone(row))
}

// values works out expressions; nil, and a code noted, if one fails.
func (o *outcome) values(exprs []*branch, rows [][]impl.Value) (values []impl.Value, ok bool) {
	defer func() {
		thrown := recover()
		if code, is := thrown.(failed); is {
			o.codes = append(o.codes, int(code))
			values, ok = nil, false
		} else if thrown != nil {
			panic(thrown)
		}
	}()
	ask := evaluator{func(plan int, rows [][]impl.Value) [][]impl.Value {
		given, code := o.ask(plan, rows)
		if code != impl.OK {
			panic(failed(code))
		}
		return given
	}}
	for _, e := range exprs {
		values = append(values, ask.workOut(e, rows))
	}
	return values, true
}

// sides are the rows of L and then of R, as far as there are such.
func (w *worker) sides(l, r int, around [][]impl.Value) (sides [2][][]impl.Value, code int) {
	for i, side := range []int{l, r} {
		if side < 0 {
			continue
		}
		if sides[i], code = w.ask(side, around); code != impl.OK {
			break
		}
	}
	return sides, code
}

func (w *worker) node(at int, around [][]impl.Value) ([][]impl.Value, int) {
	w.spend()
	n := w.nodes[at]
	sides, code := w.sides(n.L, n.R, around)
	if code != impl.OK {
		return nil, code
	}
	o := &outcome{worker: w, exprs: w.exprs[at]}
	if n.Op < impl.PJoin {
		o.simple(n, sides[0], around)
	} else {
		o.other(n, sides[0], sides[1], around)
	}
	return o.given()
}

// given are the rows of a node that is worked out, or the least code.
func (o *outcome) given() ([][]impl.Value, int) {
	if len(o.codes) > 0 {
		return nil, slices.Min(o.codes)
	}
	for range o.rows {
		o.spend()
	}
	return o.rows, impl.OK
}

func (o *outcome) simple(n impl.PNode, left, around [][]impl.Value) {
	sees := func(row []impl.Value) [][]impl.Value { return append([][]impl.Value{row}, around...) }
	switch n.Op {
	case impl.PScan:
		for _, table := range o.state.Tables {
			for _, row := range table.Rows {
				if table.Id == n.Table {
					o.give(row...)
				}
			}
		}
	case impl.PValues:
		for i := range n.A {
			if row, ok := o.values(o.exprs[i*len(n.Kinds):][:len(n.Kinds)], sees(nil)); ok {
				o.give(row...)
			}
		}
	case impl.PFilter:
		for _, row := range left {
			if given, ok := o.values(o.exprs, sees(row)); ok && given[0] == boolv(true) {
				o.give(row...)
			}
		}
	case impl.PProject:
		for _, row := range left {
			if given, ok := o.values(o.exprs, sees(row)); ok {
				o.give(given...)
			}
		}
	}
}

func (o *outcome) other(n impl.PNode, left, right, around [][]impl.Value) {
	switch n.Op {
	case impl.PJoin:
		o.join(n, left, around, func([]impl.Value) ([][]impl.Value, bool) { return right, true })
	case impl.PGroup:
		o.group(n, left)
	case impl.PDistinct:
		o.once(left)
	case impl.PSort:
		o.sort(n, left)
	case impl.PLimit:
		for i, row := range left {
			if i >= n.B && (n.A == -1 || i-n.B < n.A) {
				o.give(row...)
			}
		}
	case impl.PUnion:
		all := append(slices.Clone(left), right...)
		if n.A == 0 {
			o.once(all)
		}
		for i := 0; n.A == 1 && i < len(all); i++ {
			o.give(all[i]...)
		}
	case impl.PExcept:
		o.except(n, left, right)
	}
}

func (o *outcome) once(rows [][]impl.Value) {
	for i, row := range rows {
		if firstLike(rows, row) == i {
			o.give(row...)
		}
	}
}

func (o *outcome) except(n impl.PNode, left, right [][]impl.Value) {
	if n.A == 1 {
		left = slices.Clone(left)
		for _, row := range right {
			if at := firstLike(left, row); at >= 0 {
				left = slices.Delete(left, at, at+1)
			}
		}
	}
	for i, row := range left {
		if n.A == 1 || firstLike(left, row) == i && firstLike(right, row) < 0 {
			o.give(row...)
		}
	}
}

// join looks for each row of L at those that find tells for it, unless it fails; the condition is the last expression.
func (o *outcome) join(n impl.PNode, left, around [][]impl.Value, find func(l []impl.Value) ([][]impl.Value, bool)) {
	for _, l := range left {
		partners := 0
		right, ok := find(l)
		if !ok {
			continue
		}
		for _, r := range right {
			o.spend()
			both := append(slices.Clone(l), r...)
			given, ok := o.values(o.exprs[len(o.exprs)-1:], append([][]impl.Value{both}, around...))
			if !ok || given[0] != boolv(true) {
				continue
			}
			partners++
			if n.A == impl.JoinInner || n.A == impl.JoinLeft {
				o.give(both...)
			}
		}
		switch {
		case n.A == impl.JoinLeft && partners == 0:
			o.give(append(slices.Clone(l), make([]impl.Value, len(n.Kinds)-len(l))...)...)
		case n.A == impl.JoinSemi && partners > 0, n.A == impl.JoinAnti && partners == 0:
			o.give(l...)
		}
	}
}

func (o *outcome) group(n impl.PNode, rows [][]impl.Value) {
	var keys [][]impl.Value
	var groups [][][]impl.Value
	for _, row := range rows {
		key := columnsOf(row, n.Keys)
		at := firstLike(keys, key)
		if at < 0 {
			at = len(keys)
			keys, groups = append(keys, key), append(groups, nil)
		}
		groups[at] = append(groups[at], row)
	}
	if len(n.Keys) == 0 && len(rows) == 0 {
		keys, groups = [][]impl.Value{nil}, [][][]impl.Value{nil}
	}
	for i, group := range groups {
		before := len(o.codes)
		row := slices.Clone(keys[i])
		for _, agg := range n.Aggs {
			value, code := wantedAggregate(agg, group)
			if code != impl.OK {
				o.codes = append(o.codes, code)
			}
			row = append(row, value)
		}
		if len(o.codes) == before {
			o.give(row...)
		}
	}
}

func wantedAggregate(agg impl.PAgg, rows [][]impl.Value) (impl.Value, int) {
	if agg.Fn == impl.AggAll {
		return intv(len(rows)), impl.OK
	}
	var values []impl.Value
	for _, row := range rows {
		v := row[agg.Col]
		if v != null && !(agg.Distinct && slices.ContainsFunc(values, func(x impl.Value) bool { return order(x, v) == 0 })) {
			values = append(values, v)
		}
	}
	if agg.Fn == impl.AggCount {
		return intv(len(values)), impl.OK
	}
	if len(values) == 0 {
		return null, impl.OK
	}
	slices.SortFunc(values, order)
	switch agg.Fn {
	case impl.AggMin:
		return values[0], impl.OK
	case impl.AggMax:
		return values[len(values)-1], impl.OK
	}
	kind, sum := values[0].Kind, new(big.Rat)
	for _, v := range values {
		if agg.Fn == impl.AggAvg {
			cast, code := impl.Cast(v, impl.Dec)
			if code != impl.OK {
				return null, impl.ErrOverflow
			}
			v = cast
		}
		sum.Add(sum, new(big.Rat).SetInt64(int64(v.N)))
	}
	if agg.Fn == impl.AggAvg {
		mean := sum.Quo(sum, new(big.Rat).SetInt64(int64(len(values))))
		half := big.NewRat(int64(mean.Sign()), 2)
		whole := new(big.Int).Quo(half.Add(half, mean).Num(), half.Denom())
		return decv(int(whole.Int64())), impl.OK
	}
	if n := sum.Num(); !n.IsInt64() || kind == impl.Dec && n.CmpAbs(big.NewInt(impl.MaxDec)) > 0 {
		return null, impl.ErrOverflow
	}
	return impl.Value{Kind: kind, N: int(sum.Num().Int64())}, impl.OK
}

// sort takes again and again the first of the least rows that are left.
func (o *outcome) sort(n impl.PNode, rows [][]impl.Value) {
	rows = slices.Clone(rows)
	ahead := func(a, b []impl.Value) bool {
		for _, key := range n.Sorts {
			x, y := a[key.Col], b[key.Col]
			switch {
			case order(x, y) == 0:
				continue
			case x == null:
				return key.First
			case y == null:
				return !key.First
			}
			return order(x, y) < 0 != key.Desc
		}
		return false
	}
	for len(rows) > 0 {
		least := 0
		for i := range rows {
			if ahead(rows[i], rows[least]) {
				least = i
			}
		}
		o.give(rows[least]...)
		rows = slices.Delete(rows, least, least+1)
	}
}

// wantedApply is ApplyRows of a valid schema.
func wantedApply(s impl.Schema, st impl.State, kind, table int, rows [][]impl.Value) (impl.State, int) {
	place := slices.IndexFunc(s.Tables, func(t impl.Table) bool { return t.Id == table })
	if !wantedStateOK(s, st) || kind < 1 || kind > 3 || place < 0 || len(rows) > 400 {
		return impl.State{}, impl.ErrBad
	}
	width := len(s.Tables[place].Cols)
	was := st.Tables[place].Rows
	// Where a row goes nil stands in its place.
	become, next := slices.Clone(was), 0
	var news [][]impl.Value
	for _, row := range rows {
		if len(row) != []int{0, width, 2 * width, width}[kind] {
			return impl.State{}, impl.ErrBad
		}
		for i, v := range row {
			if !impl.ValueOK(v) || v != null && v.Kind != s.Tables[place].Cols[i%width].Kind {
				return impl.State{}, impl.ErrBad
			}
		}
		if kind == impl.ChInsert {
			become, news = append(become, row), append(news, row)
			continue
		}
		found := firstLike(was[next:], row[:width])
		if found < 0 {
			return impl.State{}, impl.ErrBad
		}
		next += found + 1
		become[next-1] = nil
		if kind == impl.ChUpdate {
			become[next-1], news = row[width:], append(news, row[width:])
		}
	}
	for _, row := range news {
		if code := wantedRowCode(s, place, row); code != impl.OK {
			return impl.State{}, code
		}
	}
	become = slices.DeleteFunc(become, func(row []impl.Value) bool { return row == nil })
	if len(become) > 400 {
		return impl.State{}, impl.ErrBig
	}
	if primary := s.Tables[place].Primary; len(primary) > 0 {
		slices.SortFunc(become, func(a, b []impl.Value) int { return rowOrder(columnsOf(a, primary), columnsOf(b, primary)) })
	}
	if !wantedKeys(s, s.Tables[place], become) {
		return impl.State{}, impl.ErrUnique
	}
	answer := copyState(st)
	answer.Tables[place].Rows = cloned(become)
	return answer, impl.OK
}

func copyState(st impl.State) impl.State {
	copied := impl.State{Tables: slices.Clone(st.Tables)}
	for i, table := range copied.Tables {
		copied.Tables[i].Rows = cloned(table.Rows)
	}
	return copied
}

func sameValues(a, b [][]impl.Value) bool {
	return slices.EqualFunc(a, b, slices.Equal)
}

func sameState(a, b impl.State) bool {
	return slices.EqualFunc(a.Tables, b.Tables, func(x, y impl.Rows) bool { return x.Id == y.Id && sameValues(x.Rows, y.Rows) })
}
