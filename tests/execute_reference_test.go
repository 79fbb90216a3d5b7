package tests

import (
	"slices"

	"loop.example/g00001/impl"
)

// physChecker says of a physical plan's nodes what chapter 11 says of valid ones, in the order in which a planChecker goes.
type physChecker struct {
	planChecker
	physical []impl.QNode
}

// wantedPhysOK is PhysOK of a valid schema.
func wantedPhysOK(s impl.Schema, f impl.Phys) bool {
	c := &physChecker{planChecker{schema: s, free: len(f.Nodes) - 1, ok: len(f.Nodes) >= 1 && len(f.Nodes) <= 200}, f.Nodes}
	c.visit = c.node
	for _, n := range f.Nodes {
		c.nodes = append(c.nodes, impl.PNode{Kinds: n.Kinds})
	}
	if c.ok {
		c.node(c.free, nil)
	}
	return c.ok && c.free == -1
}

func (c *physChecker) node(at int, around [][]int) {
	if !c.must(at >= 0 && at == c.free) {
		return
	}
	c.free--
	n := c.physical[at]
	hasL := !slices.Contains([]int{impl.QScan, impl.QSeek, impl.QValues}, n.Op)
	hasR := slices.Contains([]int{impl.QLoop, impl.QHash, impl.QMerge, impl.QUnion, impl.QExcept}, n.Op)
	if !c.must((n.L != -1) == hasL && (n.R != -1) == hasR && n.L < at && n.R < at && n.L >= -1 && n.R >= -1 && len(n.Kinds) <= 32) {
		return
	}
	var left, right []int
	if hasL {
		left = c.nodes[n.L].Kinds
	}
	if hasR {
		right = c.nodes[n.R].Kinds
	}
	for _, e := range n.Exprs {
		if !c.must(len(e.Nodes) > 0) {
			return
		}
	}
	seen, ok := c.rows(n, left, right)
	if !c.must(ok) {
		return
	}
	for i := len(n.Exprs) - 1; i >= 0 && c.ok; i-- {
		sees := append([][]int{seen[i]}, around...)
		c.must(len(sees) <= 8)
		c.expr(n.Exprs[i], sees)
	}
	if hasR && c.ok {
		c.node(n.R, around)
	}
	if hasL && c.ok {
		c.node(n.L, around)
	}
}

// asPlan is the node of a plan with the fields that both have.
func asPlan(n impl.QNode, op int) impl.PNode {
	return impl.PNode{Op: op, L: n.L, R: n.R, Table: n.Table, A: n.A, B: n.B, Exprs: n.Exprs, Keys: n.Keys, Aggs: n.Aggs, Sorts: n.Sorts, Kinds: n.Kinds}
}

// rows are the kinds of row 0 for each expression of a node; false if a field is wrong.
func (c *physChecker) rows(n impl.QNode, left, right []int) ([][]int, bool) {
	both := append(slices.Clone(left), right...)
	each := func(row []int) [][]int { return slices.Repeat([][]int{row}, len(n.Exprs)) }
	plain := asPlan(n, ofOperation(n.Op))
	if n.Op != impl.QSeek && n.Op != impl.QLook && n.Index != 0 || n.Op != impl.QHash && n.Op != impl.QMerge && len(n.RKeys) > 0 {
		return nil, false
	}
	switch n.Op {
	case impl.QSeek:
		return each(nil), c.seek(n)
	case impl.QLook:
		return c.look(n, left)
	case impl.QHash, impl.QMerge:
		plain.Op, plain.Keys = impl.PJoin, nil
		ok := len(n.Keys) > 0 && len(n.Keys) == len(n.RKeys) && (n.Op == impl.QHash || n.A == impl.JoinInner)
		for i := 0; ok && i < len(n.Keys); i++ {
			a, b := n.Keys[i], n.RKeys[i]
			ok = a >= 0 && a < len(left) && b >= 0 && b < len(right) && left[a] == right[b] && left[a] != impl.Null
		}
		return each(both), ok && c.fields(plain, left, right, both)
	case impl.QTop:
		sort, limit := plain, plain
		sort.Op, sort.A, sort.B = impl.PSort, 0, 0
		limit.Op, limit.Sorts = impl.PLimit, nil
		return each(both), n.A >= 0 && c.fields(sort, left, right, both) && c.fields(limit, left, right, both)
	}
	return each(both), c.fields(plain, left, right, both)
}

// found are the kinds of the table that a node finds rows of, and of the columns of the key that it finds them by.
func (c *physChecker) found(n impl.QNode) (table, key []int) {
	for _, one := range c.schema.Tables {
		if one.Id != n.Table {
			continue
		}
		table = scanned(one, "").plan.Kinds
		for _, column := range keyOf(c.schema, n) {
			key = append(key, table[column])
		}
	}
	return table, key
}

// keyOf are the columns of the key that a node finds rows by; none if there is no such key.
func keyOf(s impl.Schema, n impl.QNode) []int {
	for _, table := range s.Tables {
		if table.Id != n.Table {
			continue
		}
		if n.Index == 0 {
			return table.Primary
		}
		for _, index := range s.Indexes {
			if index.Id == n.Index && index.Table == table.Name {
				return index.Cols
			}
		}
	}
	return nil
}

func rootKind(e impl.Expr) int { return e.Nodes[len(e.Nodes)-1].Kind }

// blankBut tells whether all of a node is 0 and empty, but for what both that find rows have.
func blankBut(n impl.QNode) bool {
	return len(n.Keys)+len(n.RKeys)+len(n.Aggs)+len(n.Sorts) == 0 && n.R == -1
}

func (c *physChecker) seek(n impl.QNode) bool {
	table, key := c.found(n)
	bounds, there := map[int]int{0: 0, 1: 1, 3: 1, 4: 1, 12: 1, 5: 2, 7: 2, 13: 2, 15: 2}[n.B]
	if !there || !blankBut(n) || n.L != -1 || !slices.Equal(n.Kinds, table) || n.A < 0 || n.A > len(key) || len(n.Exprs) == 0 || len(n.Exprs) != n.A+bounds {
		return false
	}
	if bounds > 0 && n.A == len(key) {
		return false
	}
	for i, e := range n.Exprs {
		if rootKind(e) != key[min(i, n.A)] {
			return false
		}
	}
	return true
}

func (c *physChecker) look(n impl.QNode, left []int) ([][]int, bool) {
	table, key := c.found(n)
	both := append(slices.Clone(left), table...)
	given := both
	if n.A > 3 {
		given = left
	}
	if !blankBut(n) || !slices.Contains([]int{1, 2, 4, 5}, n.A) || n.B < 1 || n.B > len(key) || len(n.Exprs) != n.B+1 || len(both) > 32 || !slices.Equal(n.Kinds, given) {
		return nil, false
	}
	var rows [][]int
	for i, e := range n.Exprs[:n.B] {
		if rootKind(e) != key[i] {
			return nil, false
		}
		rows = append(rows, left)
	}
	condition := rootKind(n.Exprs[n.B])
	return append(rows, both), condition == impl.Bool || condition == impl.Null
}

// physWorker works out a physical plan by the words of chapter 11.
type physWorker struct {
	*worker
	schema   impl.Schema
	physical []impl.QNode
}

// wantedExecution is Execute of a valid physical plan, but that the work is told with a code, too.
func wantedExecution(s impl.Schema, st impl.State, f impl.Phys) (rows [][]impl.Value, work, code int) {
	w := &physWorker{&worker{state: st}, s, f.Nodes}
	w.ask = w.node
	for _, n := range f.Nodes {
		w.exprs = append(w.exprs, uprightAll(n.Exprs))
	}
	rows, code, work = w.root()
	return rows, work, code
}

func (w *physWorker) node(at int, around [][]impl.Value) ([][]impl.Value, int) {
	w.spend()
	n := w.physical[at]
	sides, code := w.sides(n.L, n.R, around)
	if code != impl.OK {
		return nil, code
	}
	o := &outcome{worker: w.worker, exprs: w.exprs[at]}
	switch plain := asPlan(n, ofOperation(n.Op)); n.Op {
	case impl.QScan, impl.QValues, impl.QFilter, impl.QProject:
		o.simple(plain, sides[0], around)
	case impl.QSeek:
		w.seek(o, n, around)
	case impl.QHash, impl.QMerge:
		w.match(o, n, sides, around)
	case impl.QLook:
		w.look(o, n, sides[0], around)
	case impl.QTop:
		sorted := &outcome{}
		sorted.sort(plain, sides[0])
		plain.Op = impl.PLimit
		o.other(plain, sorted.rows, nil, around)
	default:
		o.other(plain, sides[0], sides[1], around)
	}
	return o.given()
}

// table are the rows of the table that a node names.
func (w *physWorker) table(n impl.QNode) [][]impl.Value {
	return w.state.Tables[slices.IndexFunc(w.state.Tables, func(one impl.Rows) bool { return one.Id == n.Table })].Rows
}

// isTrue tells whether an operator answers true for two values.
func isTrue(op int, a, b impl.Value) bool {
	v, code := impl.Binary(op, a, b)
	return code == impl.OK && v == boolv(true)
}

func (w *physWorker) seek(o *outcome, n impl.QNode, around [][]impl.Value) {
	values, ok := o.values(o.exprs, append([][]impl.Value{nil}, around...))
	if !ok {
		return
	}
	ops := slices.Repeat([]int{impl.OpEq}, n.A)
	ops = append(ops, map[int][]int{
		1: {impl.OpGt}, 3: {impl.OpGe}, 4: {impl.OpLt}, 12: {impl.OpLe}, 5: {impl.OpGt, impl.OpLt}, 7: {impl.OpGe, impl.OpLt}, 13: {impl.OpGt, impl.OpLe}, 15: {impl.OpGe, impl.OpLe},
	}[n.B]...)
	key := keyOf(w.schema, n)
	for _, row := range w.table(n) {
		holds := true
		for i, op := range ops {
			holds = holds && isTrue(op, row[key[min(i, n.A)]], values[i])
		}
		if holds {
			o.give(row...)
		}
	}
}

// match joins the rows of both sides that are equal in their keys.
func (w *physWorker) match(o *outcome, n impl.QNode, sides [2][][]impl.Value, around [][]impl.Value) {
	if n.Op == impl.QMerge {
		for i, keys := range [][]int{n.Keys, n.RKeys} {
			var by impl.PNode
			for _, column := range keys {
				by.Sorts = append(by.Sorts, impl.SortKey{Col: column})
			}
			sorted := &outcome{}
			sorted.sort(by, sides[i])
			sides[i] = sorted.rows
		}
	}
	o.join(asPlan(n, impl.PJoin), sides[0], around, func(l []impl.Value) ([][]impl.Value, bool) {
		return equalRows(sides[1], n.RKeys, columnsOf(l, n.Keys)), true
	})
}

// equalRows are the rows that have in some columns what is equal to some values.
func equalRows(rows [][]impl.Value, cols []int, values []impl.Value) [][]impl.Value {
	var found [][]impl.Value
	for _, row := range rows {
		equal := true
		for i, column := range cols {
			equal = equal && isTrue(impl.OpEq, row[column], values[i])
		}
		if equal {
			found = append(found, row)
		}
	}
	return found
}

func (w *physWorker) look(o *outcome, n impl.QNode, left, around [][]impl.Value) {
	o.join(asPlan(n, impl.PJoin), left, around, func(l []impl.Value) ([][]impl.Value, bool) {
		values, ok := o.values(o.exprs[:n.B], append([][]impl.Value{l}, around...))
		if !ok {
			return nil, false
		}
		return equalRows(w.table(n), keyOf(w.schema, n)[:n.B], values), true
	})
}
