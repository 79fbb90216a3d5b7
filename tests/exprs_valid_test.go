package tests

import (
	"math"
	"slices"
	"testing"

	"loop.example/g00001/impl"
)

// wantExprValidity asks all five functions whether an expression is valid; it tells whether it is for the lists.
func wantExprValidity(t *testing.T, e impl.Expr, lists [][]int) bool {
	t.Helper()
	valid := listsValid(lists) && plainValid(e, inLists(lists))
	if got := impl.ExprOK(e, lists); got != valid {
		t.Fatalf("ExprOK(%v, %v) = %v", e, lists, got)
	}
	freely := plainValid(e, anywhere)
	folded, code := impl.FoldExpr(e)
	if freely != (code == impl.OK) || !freely && (code != impl.ErrBad || len(folded.Nodes) != 0) {
		t.Fatalf("FoldExpr(%v) = %v, %d", e, folded, code)
	}
	if safe := impl.SafeExpr(e); safe != (freely && wantedSafe(upright(e))) {
		t.Fatalf("SafeExpr(%v) = %v", e, safe)
	}
	return valid
}

func wantEvalValidity(t *testing.T, e impl.Expr, rows [][]impl.Value) {
	t.Helper()
	value, code := impl.EvalExpr(e, rows)
	if !rowsValid(rows) || !plainValid(e, inRows(rows)) {
		if value != null || code != impl.ErrBad {
			t.Fatalf("EvalExpr(%v, %v) = %v, %d", e, rows, value, code)
		}
		return
	}
	if want, wantCode := wantedValue(upright(e), rows); value != want || code != wantCode {
		t.Fatalf("EvalExpr(%v, %v) = %v, %d; want %v, %d", e, rows, value, code, want, wantCode)
	}
}

// overColumns is an operation whose kids are columns of these kinds, one behind the other in row 0.
func overColumns(node impl.XNode, kinds []int) impl.Expr {
	b := &branch{XNode: node}
	for i, kind := range kinds {
		b.kids = append(b.kids, columnOf(kind, 0, i))
	}
	return laid(b)
}

// TestExprOKOfEveryForm asks for every operation, A, and list of up to three kids' kinds, with every Kind.
func TestExprOKOfEveryForm(t *testing.T) {
	t.Parallel()
	valid := 0
	for _, kinds := range kindLists(3) {
		lists := [][]int{kinds}
		for op := -1; op <= 15; op++ {
			for a := -1; a <= 19; a++ {
				for kind := -1; kind <= 6; kind++ {
					node := impl.XNode{Op: op, A: a, Kind: kind}
					e := overColumns(node, kinds)
					want := plainValid(e, inLists(lists))
					if got := impl.ExprOK(e, lists); got != want {
						t.Fatalf("%v over %v: %v", node, kinds, got)
					}
					if want {
						valid++
					}
				}
			}
		}
	}
	if valid < 700 {
		t.Errorf("only %d forms are valid", valid)
	}
}

// TestExprOKOfManyKids asks for operations with up to nine kids, of which one or two are of another kind than the rest.
func TestExprOKOfManyKids(t *testing.T) {
	g := exprGrower{grower: grower{&numberSource{state: 41}}, lists: nil}
	valid := 0
	for round := 0; round < 30000; round++ {
		most := g.pick(0, 1, 2, 3, 4, 5)
		var kinds []int
		for count := g.pick(3, 4, 5, 6, 7, 8, 9); count > 0; count-- {
			kinds = append(kinds, g.pick(most, most, impl.Null))
		}
		node := impl.XNode{Op: g.pick(impl.XIn, impl.XBetween, impl.XCase, impl.XCase, impl.XCoalesce, impl.XCall), Kind: g.pick(most, impl.Bool), A: g.flag()}
		if node.Op == impl.XCase {
			for i := 0; i < len(kinds)-node.A; i += 2 {
				kinds[i] = g.pick(impl.Bool, impl.Bool, impl.Null)
			}
		}
		for g.chance(3) {
			kinds[below(g.numberSource, len(kinds))] = g.pick(0, 1, 2, 3, 4, 5)
		}
		if wantExprValidity(t, overColumns(node, kinds), [][]int{kinds}) {
			valid++
		}
	}
	if valid < 5000 || valid > 25000 {
		t.Errorf("%d of 30000 are valid", valid)
	}
}

// everyOperation has each plain operation once at least.
func everyOperation(t *testing.T) []*branch {
	var list []*branch
	for _, src := range []string{
		"i0", "r3.y5", "5", "NULL", "'a'", "i0 + 2", "b1 AND NULL", "n2 IS NOT DISTINCT FROM i0", "NOT b1", "-d3", "t4 IS NULL", "i0 IN (1, 2.5, NULL)", "i0 NOT IN (d3)",
		"t4 LIKE 'a%'", "t4 NOT LIKE NULL", "i0 BETWEEN 1 AND d3", "y5 NOT BETWEEN NULL AND y5", "CASE WHEN b1 THEN 1 WHEN NULL THEN NULL ELSE i0 END", "CASE WHEN b1 THEN NULL END",
		"CAST(i0 AS TEXT)", "CAST(NULL AS DATE)", "substr(t4, 1, i0)", "nullif(i0, 2.5)", "least(NULL, y5)", "coalesce(NULL, i0, 3)", "coalesce(n2)",
		"NOT (i0 + 1 > 2 OR lower(t4) LIKE 'a' AND b1 IN (TRUE, coalesce(b1, FALSE)))",
	} {
		list = append(list, bound(t, src))
	}
	return append(list, castOf(impl.Null, constOf(null)))
}

// exprEdits are a node's neighbours: each has one field that is other than it was.
func exprEdits(node impl.XNode, at int) []impl.XNode {
	var list []impl.XNode
	edit := func(change func(n *impl.XNode)) {
		changed := node
		changed.Kids = slices.Clone(node.Kids)
		change(&changed)
		list = append(list, changed)
	}
	for _, number := range append(oddNumbers(), 31, 32, 33) {
		edit(func(n *impl.XNode) { n.Op = number })
		edit(func(n *impl.XNode) { n.Kind = number })
		edit(func(n *impl.XNode) { n.A = number })
		edit(func(n *impl.XNode) { n.B = number })
	}
	for _, value := range append(invalidValues(), null, intv(0), intv(5), decv(7), textv("a"), textv(""), boolv(true), datev(0)) {
		edit(func(n *impl.XNode) { n.Val = value })
		edit(func(n *impl.XNode) { n.Val, n.Kind = value, value.Kind })
	}
	for _, kids := range kidEdits(impl.Node{Kids: node.Kids}, at) {
		edit(func(n *impl.XNode) { n.Kids = kids.Kids })
	}
	return list
}

func TestExprOKAtEveryField(t *testing.T) {
	lists := manyLists()
	rows := exprGrower{grower: grower{&numberSource{state: 42}}, lists: lists}.rows()
	for _, b := range everyOperation(t) {
		e := laid(b)
		for at := range e.Nodes {
			for _, changed := range exprEdits(e.Nodes[at], at) {
				other := copyExpr(e)
				other.Nodes[at] = changed
				wantExprValidity(t, other, lists)
				wantEvalValidity(t, other, rows)
				wantTextOrNone(t, other)
			}
		}
	}
}

func TestExprOKOfMovedNodes(t *testing.T) {
	for _, b := range everyOperation(t) {
		e := laid(b)
		for i := range e.Nodes {
			for k := range e.Nodes {
				swapped := copyExpr(e)
				swapped.Nodes[i], swapped.Nodes[k] = swapped.Nodes[k], swapped.Nodes[i]
				wantExprValidity(t, swapped, manyLists())
				wantTextOrNone(t, swapped)
			}
			more := copyExpr(e)
			more.Nodes = slices.Insert(more.Nodes, i, e.Nodes[0])
			wantExprValidity(t, more, manyLists())
			less := copyExpr(e)
			less.Nodes = slices.Delete(less.Nodes, i, i+1)
			wantExprValidity(t, less, manyLists())
			wantTextOrNone(t, less)
		}
	}
	wantExprValidity(t, impl.Expr{}, nil)
	wantTextOrNone(t, impl.Expr{})
}

func TestExprOKOfLists(t *testing.T) {
	wide := func(count, kind int) []int { return slices.Repeat([]int{kind}, count) }
	far := func(row, column int) impl.Expr { return laid(columnOf(impl.Int, row, column)) }
	cases := []struct {
		e     impl.Expr
		lists [][]int
		want  bool
	}{
		{laid(constOf(intv(1))), nil, true},
		{laid(constOf(intv(1))), [][]int{{6}}, false},
		{laid(constOf(intv(1))), [][]int{{0, 1, 2, 3, 4, 5}}, true},
		{laid(constOf(intv(1))), [][]int{nil, {1}, {1, -1}}, false},
		{laid(constOf(intv(1))), [][]int{{math.MinInt}}, false},
		{laid(constOf(intv(1))), make([][]int, impl.MaxUp), true},
		{laid(constOf(intv(1))), make([][]int, impl.MaxUp+1), false},
		{laid(constOf(intv(1))), [][]int{wide(impl.MaxWide, 2)}, true},
		{laid(constOf(intv(1))), [][]int{nil, wide(impl.MaxWide+1, 2)}, false},
		{far(0, 0), [][]int{{1}}, true},
		{far(0, 0), [][]int{{2}}, false},
		{far(0, 0), [][]int{{0}}, false},
		{far(0, 1), [][]int{{1}}, false},
		{far(1, 0), [][]int{{1}}, false},
		{far(0, -1), [][]int{{1}}, false},
		{far(-1, 0), [][]int{{1}}, false},
		{far(1, 2), [][]int{nil, {2, 2, 1}}, true},
		{far(7, 31), append(make([][]int, impl.MaxUp-1), wide(impl.MaxWide, 1)), true},
		{far(7, 31), append(make([][]int, impl.MaxUp-1), wide(impl.MaxWide-1, 1)), false},
		{far(8, 0), append(make([][]int, impl.MaxUp), wide(impl.MaxWide, 1)), false},
		{far(0, 32), [][]int{wide(impl.MaxWide+1, 1)}, false},
	}
	for i, c := range cases {
		if got := impl.ExprOK(c.e, c.lists); got != c.want {
			t.Errorf("case %d: %v", i, got)
		}
		wantExprValidity(t, c.e, c.lists)
	}
}

// TestPlacesWithoutLists asks for columns where no list tells whether they are there.
func TestPlacesWithoutLists(t *testing.T) {
	for row := -1; row <= impl.MaxUp; row++ {
		for column := -1; column <= impl.MaxWide; column++ {
			e := laid(unOf(impl.OpIsNull, columnOf(impl.Date, row, column)))
			inside := row >= 0 && row < 8 && column >= 0 && column < 32
			folded, code := impl.FoldExpr(e)
			if impl.SafeExpr(e) != inside || inside != (code == impl.OK) || inside != sameExpr(folded, e) {
				t.Errorf("row %d, column %d: %v, %d", row, column, folded, code)
			}
		}
	}
	// Each column's Kind is taken as it stands, also where one place is said to have two.
	e := laid(binOf(impl.OpAnd, bound(t, "i0 > 1"), bound(t, "t0 LIKE 'a'")))
	folded, code := impl.FoldExpr(e)
	if !impl.SafeExpr(e) || code != impl.OK || !sameExpr(folded, e) {
		t.Errorf("two kinds: %v, %d", folded, code)
	}
	if value, code := impl.EvalExpr(e, [][]impl.Value{{null}}); value != null || code != impl.OK {
		t.Errorf("two kinds: %v, %d", value, code)
	}
}

// negations is a column within many NOTs.
func negations(count int) impl.Expr {
	b := columnOf(impl.Bool, 0, 0)
	for ; count > 0; count-- {
		b = unOf(impl.OpNot, b)
	}
	return laid(b)
}

func wideIn(nodes int) impl.Expr {
	var kids []*branch
	for len(kids) < nodes-1 {
		kids = append(kids, columnOf(impl.Int, 0, 1))
	}
	return laid(newBranch(impl.XNode{Op: impl.XIn}, kids...))
}

func TestMaxItems(t *testing.T) {
	lists := [][]int{{impl.Bool, impl.Int}}
	rows := [][]impl.Value{{boolv(true), intv(1)}}
	for _, make := range []func(nodes int) impl.Expr{func(nodes int) impl.Expr { return negations(nodes - 1) }, wideIn} {
		for nodes, fits := range map[int]bool{impl.MaxItems - 1: true, impl.MaxItems: true, impl.MaxItems + 1: false, 3 * impl.MaxItems: false} {
			e := make(nodes)
			if len(e.Nodes) != nodes {
				t.Fatalf("%d nodes", len(e.Nodes))
			}
			folded, code := impl.FoldExpr(e)
			if impl.ExprOK(e, lists) != fits || impl.SafeExpr(e) != fits || fits != (code == impl.OK) || fits != sameExpr(folded, e) {
				t.Errorf("%d nodes: folded %d, %d", nodes, len(folded.Nodes), code)
			}
			value, code := impl.EvalExpr(e, rows)
			if fits && (value.Kind != impl.Bool || code != impl.OK) || !fits && (value != null || code != impl.ErrBad) {
				t.Errorf("%d nodes: %v, %d", nodes, value, code)
			}
			if told := impl.ExprText(e); (told != "?") != fits {
				t.Errorf("%d nodes: %q", nodes, told)
			}
		}
	}
}

func TestExprConstants(t *testing.T) {
	if impl.MaxItems != 400 || impl.MaxUp != 8 || impl.MaxWide != 32 {
		t.Errorf("bounds: %d, %d, %d", impl.MaxItems, impl.MaxUp, impl.MaxWide)
	}
	ops := []int{
		impl.XConst, impl.XCol, impl.XBin, impl.XUn, impl.XIn, impl.XLike, impl.XBetween, impl.XCase, impl.XCast, impl.XCall, impl.XCoalesce, impl.XExists,
		impl.XScalar, impl.XInPlan,
	}
	if !slices.Equal(ops, upTo(1, 14)) {
		t.Errorf("operations: %v", ops)
	}
}

func TestSafeExpr(t *testing.T) {
	cases := map[bool][]string{
		true: {
			"5", "NULL", "i0", "i0 = 5", "i0 <> d3", "t4 < 'a'", "i0 <= 1", "i0 > 1", "i0 >= 1", "i0 IS NOT DISTINCT FROM 1", "b1 AND b1", "b1 OR NULL", "NOT b1", "i0 IS NULL",
			"i0 IN (1, 2)", "i0 NOT IN (1, 2)", "t4 LIKE 'a'", "i0 BETWEEN 1 AND 2", "CASE WHEN b1 THEN 1 ELSE 2 END", "coalesce(i0, 1)", "CAST(i0 AS INT)", "CAST(t4 AS TEXT)",
			"CAST(i0 AS TEXT)", "CAST(d3 AS TEXT)", "CAST(b1 AS TEXT)", "CAST(y5 AS TEXT)", "CAST(n2 AS INT)", "CAST(NULL AS DATE)", "length(t4)", "lower(t4)", "upper(t4)",
			"nullif(i0, 1)", "year(y5)", "month(y5)", "day(y5)", "trim(t4)", "least(i0, 1)", "greatest(t4, 'a')",
		},
		false: {
			"1 + 1", "i0 - 1", "i0 * 1", "i0 / 1", "i0 % 1", "t4 || ''", "-i0", "-NULL", "NULL + NULL", "CAST(i0 AS DECIMAL)", "CAST(d3 AS INT)", "CAST(t4 AS INT)",
			"CAST(t4 AS DECIMAL)", "CAST(t4 AS BOOLEAN)", "CAST(t4 AS DATE)", "abs(i0)", "abs(NULL)", "substr(t4, 1, 1)", "round(d3)", "i0 + 1 = 2", "b1 AND NOT (i0 - 1 IS NULL)",
			"CASE WHEN b1 THEN i0 + 1 END", "coalesce(1, -i0)", "i0 IN (1, abs(i0))", "t4 LIKE t4 || '%'", "i0 BETWEEN 1 AND 1 / 0",
		},
	}
	for want, list := range cases {
		for _, src := range list {
			e := laid(bound(t, src))
			if got := impl.SafeExpr(e); got != want {
				t.Errorf("%s: %v", src, got)
			}
		}
	}
	for op := impl.XExists; op <= impl.XInPlan; op++ {
		b := &branch{XNode: impl.XNode{Op: op, Kind: impl.Bool}}
		if op == impl.XInPlan {
			b.kids = []*branch{constOf(intv(1))}
		}
		if e := laid(b); impl.SafeExpr(e) || impl.ExprOK(e, nil) || impl.SafeExpr(laid(unOf(impl.OpNot, b))) {
			t.Errorf("operation %d is no plain one", op)
		}
	}
}
