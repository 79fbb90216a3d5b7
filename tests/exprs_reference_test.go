package tests

import (
	"fmt"
	"slices"
	"strings"

	"loop.example/g00001/impl"
)

// standingNodes tells whether nodes stand in the one order, going down from the root.
func standingNodes(nodes []impl.XNode) bool {
	ok := len(nodes) > 0
	// begin is the first of the nodes that are in one, which is at its end.
	var begin func(at int) int
	begin = func(at int) int {
		free := at - 1
		for i := len(nodes[at].Kids) - 1; i >= 0 && ok; i-- {
			if nodes[at].Kids[i] != free || free < 0 {
				ok = false
				break
			}
			free = begin(free) - 1
		}
		return free + 1
	}
	return ok && begin(len(nodes)-1) == 0 && ok
}

// columnRule answers for a column.
type columnRule func(column impl.XNode) bool

func inLists(lists [][]int) columnRule {
	return func(c impl.XNode) bool {
		return c.A >= 0 && c.A < len(lists) && c.B >= 0 && c.B < len(lists[c.A]) && lists[c.A][c.B] == c.Kind
	}
}

func anywhere(c impl.XNode) bool {
	return c.A >= 0 && c.A < 8 && c.B >= 0 && c.B < 32 && c.Kind >= impl.Null && c.Kind <= impl.Date
}

func inRows(rows [][]impl.Value) columnRule {
	return func(c impl.XNode) bool {
		if !anywhere(c) || c.A >= len(rows) || c.B >= len(rows[c.A]) {
			return false
		}
		value := rows[c.A][c.B]
		return value == null || value.Kind == c.Kind
	}
}

// plainValid is what chapter 5 calls a valid plain expression, where the rule answers for the columns.
func plainValid(e impl.Expr, rule columnRule) bool {
	if len(e.Nodes) > 400 || !standingNodes(e.Nodes) {
		return false
	}
	for _, node := range e.Nodes {
		var kinds []int
		for _, kid := range node.Kids {
			kinds = append(kinds, e.Nodes[kid].Kind)
		}
		zeros := node.Op == impl.XCol || node.B == 0
		zeros = zeros && (node.Op == impl.XConst || node.Val == null)
		if !zeros || node.Kind < 0 || tableKind(node, kinds) != node.Kind || node.Op == impl.XCol && !rule(node) {
			return false
		}
	}
	return true
}

func listsValid(lists [][]int) bool {
	for _, list := range lists {
		if len(list) > 32 || slices.ContainsFunc(list, func(kind int) bool { return kind < 0 || kind > 5 }) {
			return false
		}
	}
	return len(lists) <= 8
}

func rowsValid(rows [][]impl.Value) bool {
	for _, row := range rows {
		if len(row) > 32 || slices.ContainsFunc(row, func(v impl.Value) bool { return !impl.ValueOK(v) }) {
			return false
		}
	}
	return len(rows) <= 8
}

// failed is thrown by what fails on the way.
type failed int

// orFail takes the answer of a call of chapter 2.
func orFail(v impl.Value, code int) impl.Value {
	if code != impl.OK {
		panic(failed(code))
	}
	return v
}

// wantedValue works out a branch by the words of chapter 5.
func wantedValue(b *branch, rows [][]impl.Value) (v impl.Value, code int) {
	defer func() {
		if thrown, is := recover().(failed); is {
			v, code = null, int(thrown)
		}
	}()
	return evaluator{}.workOut(b, rows), impl.OK
}

// evaluator works out branches; what a plan gives that one names is asked of rowsOf.
type evaluator struct {
	rowsOf func(plan int, rows [][]impl.Value) [][]impl.Value
}

func (e evaluator) workOut(b *branch, rows [][]impl.Value) impl.Value {
	kid := func(i int) impl.Value { return e.workOut(b.kids[i], rows) }
	var found impl.Value
	switch b.Op {
	case impl.XExists:
		return boolv(len(e.rowsOf(b.B, rows)) > 0)
	case impl.XScalar:
		given := e.rowsOf(b.B, rows)
		if len(given) > 1 {
			panic(failed(impl.ErrRows))
		}
		return append(given, []impl.Value{null})[0][0]
	case impl.XInPlan:
		first := kid(0)
		given := e.rowsOf(b.B, rows)
		found = isIn(first, len(given)+1, func(i int) impl.Value { return given[i-1][0] })
	case impl.XConst:
		return b.Val
	case impl.XCol:
		return rows[b.A][b.B]
	case impl.XBin:
		first := kid(0)
		if b.A == impl.OpAnd && first == boolv(false) || b.A == impl.OpOr && first == boolv(true) {
			return first
		}
		return orFail(impl.Binary(b.A, first, kid(1)))
	case impl.XUn:
		return orFail(impl.Unary(b.A, kid(0)))
	case impl.XCast:
		return orFail(impl.Cast(kid(0), b.A))
	case impl.XCall:
		var args []impl.Value
		for i := range b.kids {
			args = append(args, kid(i))
		}
		return orFail(impl.Call(b.A, args))
	case impl.XCase:
		for i := 0; i+1 < len(b.kids); i += 2 {
			if kid(i) == boolv(true) {
				return kid(i + 1)
			}
		}
		if b.A == 1 {
			return kid(len(b.kids) - 1)
		}
		return null
	case impl.XCoalesce:
		for i := range b.kids {
			if v := kid(i); v != null {
				return v
			}
		}
		return null
	case impl.XIn:
		found = isIn(kid(0), len(b.kids), kid)
	case impl.XLike:
		first, second := kid(0), kid(1)
		found = orFail(impl.Like(first, second))
	case impl.XBetween:
		x, low, high := kid(0), kid(1), kid(2)
		found = orFail(impl.Binary(impl.OpAnd, orFail(impl.Binary(impl.OpGe, x, low)), orFail(impl.Binary(impl.OpLe, x, high))))
	}
	if b.A == 1 {
		return orFail(impl.Unary(impl.OpNot, found))
	}
	return found
}

func isIn(first impl.Value, count int, kid func(i int) impl.Value) impl.Value {
	unknown := false
	for i := 1; i < count; i++ {
		switch orFail(impl.Binary(impl.OpEq, first, kid(i))) {
		case boolv(true):
			return boolv(true)
		case null:
			unknown = true
		}
	}
	if unknown {
		return null
	}
	return boolv(false)
}

// wantedSafe is the list of forms that fail, over a whole branch.
func wantedSafe(b *branch) bool {
	fails := b.Op == impl.XBin && b.A <= 6 || b.Op == impl.XUn && b.A == impl.OpNeg ||
		b.Op == impl.XCall && slices.Contains([]int{impl.FnAbs, impl.FnSubstr, impl.FnRound}, b.A)
	if b.Op == impl.XCast {
		from := b.kids[0].Kind
		fails = from != b.A && from != impl.Null && b.A != impl.Text
	}
	return !fails && !slices.ContainsFunc(b.kids, func(kid *branch) bool { return !wantedSafe(kid) })
}

func wantedConstant(v impl.Value, kind int) *branch {
	if v != null || kind == impl.Null {
		return constOf(v)
	}
	return castOf(kind, constOf(null))
}

func wantedAt(b *branch, kind int) *branch {
	if b.Kind == kind {
		return b
	}
	return castOf(kind, b)
}

// heldBy is the value of what chapter 5 calls constant; nil if it is not.
func heldBy(b *branch) *impl.Value {
	if b.Op == impl.XConst {
		return &b.Val
	}
	if b.Op == impl.XCast && b.kids[0].Op == impl.XConst && b.kids[0].Val == null {
		return &b.kids[0].Val
	}
	return nil
}

func holds(b *branch, v impl.Value) bool { return heldBy(b) != nil && *heldBy(b) == v }

// wantedFold is FoldExpr's five rules, without its bound.
func wantedFold(b *branch) *branch {
	node := &branch{XNode: b.XNode}
	open := false
	for _, kid := range b.kids {
		kid = wantedFold(kid)
		node.kids = append(node.kids, kid)
		open = open || heldBy(kid) == nil
	}
	if !open && len(node.kids) > 0 {
		v, code := wantedValue(node, nil)
		if code != impl.OK {
			return node
		}
		return wantedConstant(v, b.Kind)
	}
	switch {
	case b.Op == impl.XBin && b.A == impl.OpAnd:
		return wantedJunction(node, false, true)
	case b.Op == impl.XBin && b.A == impl.OpOr:
		return wantedJunction(node, true, false)
	case b.Op == impl.XCase:
		return wantedCase(node)
	case b.Op == impl.XCoalesce:
		return wantedCoalesce(node)
	}
	return node
}

func wantedJunction(b *branch, strong, weak bool) *branch {
	first, second := b.kids[0], b.kids[1]
	if holds(first, boolv(strong)) {
		return first
	}
	if holds(first, boolv(weak)) {
		return wantedAt(second, impl.Bool)
	}
	if holds(second, boolv(weak)) {
		return wantedAt(first, impl.Bool)
	}
	if holds(second, boolv(strong)) && wantedSafe(first) && len(laid(first).Nodes) <= impl.MaxItems {
		return second
	}
	return b
}

func wantedCase(b *branch) *branch {
	pairs, last := b.kids, []*branch{}
	if b.A == 1 {
		pairs, last = b.kids[:len(b.kids)-1], b.kids[len(b.kids)-1:]
	}
	var left []*branch
	for len(pairs) > 0 {
		condition, value := pairs[0], pairs[1]
		pairs = pairs[2:]
		if heldBy(condition) == nil {
			left = append(left, condition, value)
		} else if holds(condition, boolv(true)) {
			pairs, last = nil, []*branch{value}
		}
	}
	if len(left) == len(b.kids)-b.A {
		return b
	}
	if len(left) == 0 && len(last) == 0 {
		return wantedConstant(null, b.Kind)
	}
	if len(left) == 0 {
		return wantedAt(last[0], b.Kind)
	}
	for i := 1; i < len(left); i += 2 {
		left[i] = wantedAt(left[i], b.Kind)
	}
	for _, value := range last {
		left = append(left, wantedAt(value, b.Kind))
	}
	node := b.XNode
	node.A = len(last)
	return &branch{node, left}
}

func wantedCoalesce(b *branch) *branch {
	left := slices.DeleteFunc(slices.Clone(b.kids), func(kid *branch) bool { return holds(kid, null) })
	if end := slices.IndexFunc(left, func(kid *branch) bool { return heldBy(kid) != nil }); end >= 0 {
		left = left[:end+1]
	}
	if len(left) < len(b.kids) {
		for i := range left {
			left[i] = wantedAt(left[i], b.Kind)
		}
	}
	if len(left) == 1 {
		return wantedAt(left[0], b.Kind)
	}
	return &branch{b.XNode, left}
}

// wantedText writes a branch in which everything is as ExprText asks it.
func wantedText(b *branch) string {
	var list []string
	for _, kid := range b.kids {
		list = append(list, wantedText(kid))
	}
	not := strings.Repeat("NOT ", b.A&1)
	switch b.Op {
	case impl.XConst:
		return impl.Show(b.Val)
	case impl.XCol:
		if b.A == 0 {
			return fmt.Sprintf("#%d", b.B)
		}
		return fmt.Sprintf("%d#%d", b.A, b.B)
	case impl.XBin:
		return fmt.Sprintf("(%s %s %s)", list[0], strings.Fields("- + - * / % || = <> < <= > >= IS AND OR")[b.A], list[1])
	case impl.XUn:
		return fmt.Sprintf([]string{"(NOT %s)", "(- %s)", "(%s IS NULL)"}[b.A-impl.OpNot], list[0])
	case impl.XIn:
		return fmt.Sprintf("(%s %sIN (%s))", list[0], not, strings.Join(list[1:], ", "))
	case impl.XLike:
		return fmt.Sprintf("(%s %sLIKE %s)", list[0], not, list[1])
	case impl.XBetween:
		return fmt.Sprintf("(%s %sBETWEEN %s AND %s)", list[0], not, list[1], list[2])
	case impl.XCase:
		words := strings.Split(strings.Repeat(" WHEN ; THEN ;", len(list)/2)+strings.Repeat(" ELSE ;", b.A)+" END", ";")
		text := "CASE" + words[0]
		for i, kid := range list {
			text += kid + words[i+1]
		}
		return text
	case impl.XCast:
		return fmt.Sprintf("CAST(%s AS %s)", list[0], strings.Fields("- INT DECIMAL TEXT BOOLEAN DATE")[b.A])
	case impl.XCall:
		return functionNames()[b.A] + "(" + strings.Join(list, ", ") + ")"
	case impl.XCoalesce:
		return "coalesce(" + strings.Join(list, ", ") + ")"
	case impl.XExists:
		return fmt.Sprintf("EXISTS(@%d)", b.B)
	case impl.XScalar:
		return fmt.Sprintf("(@%d)", b.B)
	}
	return fmt.Sprintf("(%s %sIN @%d)", list[0], not, b.B)
}
