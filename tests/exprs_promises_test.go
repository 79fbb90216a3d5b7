package tests

import (
	"math"
	"slices"
	"testing"

	"loop.example/g00001/impl"
)

// wantSameWork asks for promise 8 with some rows; it tells the code.
func wantSameWork(t *testing.T, e impl.Expr, rows [][]impl.Value) int {
	t.Helper()
	value, code := impl.EvalExpr(e, rows)
	if code == impl.ErrBad {
		return code
	}
	folded, foldCode := impl.FoldExpr(e)
	if foldCode != impl.OK {
		t.Fatalf("FoldExpr(%v): %d", e, foldCode)
	}
	if got, gotCode := impl.EvalExpr(folded, rows); got != value || gotCode != code {
		t.Fatalf("with %v %s is %v, %d; folded to %s it is %v, %d", rows, impl.ExprText(e), value, code, impl.ExprText(folded), got, gotCode)
	}
	return code
}

func TestPromise8(t *testing.T) {
	t.Parallel()
	g := exprGrower{grower: grower{&numberSource{state: 8}}, lists: manyLists()}
	codes := map[int]int{}
	for round := 0; round < 8000; round++ {
		e := laid(g.any(1 + round%6))
		if len(e.Nodes) > impl.MaxItems {
			continue
		}
		for count := 0; count < 4; count++ {
			codes[wantSameWork(t, e, g.rows())]++
		}
	}
	if codes[impl.ErrBad] > 0 || codes[impl.OK] < 20000 || codes[impl.ErrZero] < 40 || codes[impl.ErrCast] < 100 || codes[impl.ErrOverflow] < 100 {
		t.Errorf("codes: %v", codes)
	}
}

// TestPromise8OfFailures has failures at every place that folding may take away or move.
func TestPromise8OfFailures(t *testing.T) {
	t.Parallel()
	parts := []string{"b0", "n1", "TRUE", "FALSE", "NULL", "CAST(NULL AS BOOLEAN)", "1 / 0 = 1", "CAST(t2 AS BOOLEAN)", "1 / i3 > 0"}
	var sources []string
	for _, a := range parts {
		for _, b := range parts {
			sources = append(sources, "("+a+") AND ("+b+")", "("+a+") OR ("+b+")", "("+a+") IN ("+b+", TRUE)", "("+a+") NOT BETWEEN ("+b+") AND FALSE")
			sources = append(sources, "coalesce("+a+", "+b+")", "CASE WHEN "+a+" THEN "+b+" END", "CASE WHEN "+a+" THEN 1 / i3 ELSE i3 END", "nullif("+a+", "+b+")")
			for _, c := range parts {
				sources = append(sources, "coalesce("+a+", "+b+", "+c+")", "CASE WHEN "+a+" THEN "+b+" ELSE "+c+" END", "CASE WHEN "+a+" THEN NULL WHEN "+b+" THEN "+c+" END")
				sources = append(sources, "(("+a+") AND ("+b+")) OR ("+c+")", "(("+a+") OR ("+b+")) AND NOT ("+c+")")
			}
		}
	}
	for _, src := range sources {
		e := laid(bound(t, src))
		for _, truth := range []impl.Value{null, boolv(true), boolv(false)} {
			for _, text := range []impl.Value{null, textv("true"), textv("x")} {
				for _, number := range []impl.Value{intv(0), intv(2)} {
					wantSameWork(t, e, [][]impl.Value{{truth, null, text, number}})
				}
			}
		}
	}
}

// wantLiteral asks for promise 3, as far as expressions go, of one value.
func wantLiteral(t *testing.T, v impl.Value) {
	t.Helper()
	e := laid(bound(t, impl.Show(v)))
	if !impl.ExprOK(e, nil) {
		t.Fatalf("%s is not valid: %v", impl.Show(v), e)
	}
	wantWorkedOut(t, e, v)
	wantWorkedOut(t, laid(constOf(v)), v)
	if v.Kind == impl.Int && v.N != math.MinInt || v.Kind == impl.Dec {
		other := v
		other.N = -v.N
		wantWorkedOut(t, laid(unOf(impl.OpNeg, constOf(other))), v)
	}
}

func wantWorkedOut(t *testing.T, e impl.Expr, v impl.Value) {
	t.Helper()
	if got, code := impl.EvalExpr(e, nil); got != v || code != impl.OK {
		t.Fatalf("%s is %v, %d; want %v", impl.ExprText(e), got, code, v)
	}
	folded, code := impl.FoldExpr(e)
	if code != impl.OK || !sameExpr(folded, laid(constOf(v))) {
		t.Fatalf("%s is folded to %v, %d", impl.ExprText(e), folded, code)
	}
	if got, code := impl.EvalExpr(folded, nil); got != v || code != impl.OK {
		t.Fatalf("%s, folded, is %v, %d; want %v", impl.ExprText(e), got, code, v)
	}
}

// literalValues are values that have a literal: all but the least Int.
func literalValues(numbers *numberSource, rounds int) []impl.Value {
	values := validValues()
	for ; rounds > 0; rounds-- {
		values = append(values, intv(numbers.next()), decv(numbers.nextDec()), datev(impl.MinDate+below(numbers, impl.MaxDate-impl.MinDate+1)))
	}
	return slices.DeleteFunc(values, func(v impl.Value) bool { return v == intv(math.MinInt) })
}

func TestPromise3(t *testing.T) {
	for _, v := range literalValues(&numberSource{state: 3}, 2000) {
		wantLiteral(t, v)
	}
	// Of the least Int the constant stands, but no literal.
	wantWorkedOut(t, laid(constOf(intv(math.MinInt))), intv(math.MinInt))
	least := laid(unOf(impl.OpNeg, constOf(intv(math.MinInt))))
	if v, code := impl.EvalExpr(least, nil); v != null || code != impl.ErrOverflow {
		t.Errorf("the least Int's counterpart: %v, %d", v, code)
	}
	wantFolded(t, least, least)
}

func oddXNode(g grower) impl.XNode {
	values := append(validValues(), invalidValues()...)
	number := func() int {
		return g.pick(0, 0, 1, 2, 3, -1, 5, 8, 16, math.MaxInt, math.MinInt, below(g.numberSource, 20), -below(g.numberSource, 20))
	}
	node := impl.XNode{Op: number(), Kind: number(), A: number(), B: number(), Val: values[below(g.numberSource, len(values))]}
	for count := below(g.numberSource, 4); count > 0; count-- {
		node.Kids = append(node.Kids, number())
	}
	return node
}

func oddLists(g exprGrower) [][]int {
	lists := manyLists()
	switch below(g.numberSource, 6) {
	case 0:
		return nil
	case 1:
		return slices.Repeat(lists, 3)
	case 2:
		lists[0] = append(lists[0], g.pick(-1, 6, math.MinInt, math.MaxInt))
	case 3:
		lists[1] = slices.Repeat(lists[1], 6)
	}
	return lists
}

func oddRows(g exprGrower) [][]impl.Value {
	rows := g.rows()
	wrong := invalidValues()
	switch below(g.numberSource, 6) {
	case 0:
		return nil
	case 1:
		return slices.Repeat(rows, 3)
	case 2:
		rows[below(g.numberSource, 2)][g.pick(0, 5)] = wrong[below(g.numberSource, len(wrong))]
	case 3:
		rows[1] = slices.Repeat(rows[1], 6)
	}
	return rows
}

func TestPromise1OfExprs(t *testing.T) {
	g := exprGrower{grower: grower{&numberSource{state: 21}}, lists: manyLists()}
	for round := 0; round < 6000; round++ {
		e := laid(g.any(round % 4))
		for count := below(g.numberSource, 3); count > 0; count-- {
			e.Nodes[below(g.numberSource, len(e.Nodes))] = oddXNode(g.grower)
		}
		lists, rows := oddLists(g), oddRows(g)
		kept, keptLists, keptRows := copyExpr(e), cloned(lists), cloned(rows)
		wantExprValidity(t, e, lists)
		wantEvalValidity(t, e, rows)
		impl.ExprText(e)
		if !sameExpr(e, kept) || !slices.EqualFunc(lists, keptLists, slices.Equal) || !slices.EqualFunc(rows, keptRows, slices.Equal) {
			t.Fatalf("%v, %v, %v was written into", kept, keptLists, keptRows)
		}
	}
}

func cloned[T any](lists [][]T) [][]T {
	var list [][]T
	for _, inner := range lists {
		list = append(list, slices.Clone(inner))
	}
	return list
}

// TestPromise1OfMuch hands in far more than is let, whose answer must not take long.
func TestPromise1OfMuch(t *testing.T) {
	many := impl.Expr{Nodes: make([]impl.XNode, 1000000)}
	deep := negations(200000)
	wide := impl.Expr{Nodes: []impl.XNode{{Op: impl.XIn, Kids: make([]int, 1000000)}}}
	rows := make([][]impl.Value, 1000000)
	row := [][]impl.Value{make([]impl.Value, 1000000)}
	for _, e := range []impl.Expr{many, deep, wide} {
		folded, foldCode := impl.FoldExpr(e)
		v, code := impl.EvalExpr(e, rows)
		if impl.ExprOK(e, make([][]int, 1000000)) || impl.SafeExpr(e) || len(folded.Nodes) > 0 || foldCode != impl.ErrBad || v != null || code != impl.ErrBad || impl.ExprText(e) != "?" {
			t.Errorf("%d nodes are taken", len(e.Nodes))
		}
	}
	if v, code := impl.EvalExpr(laid(constOf(intv(1))), row); v != null || code != impl.ErrBad {
		t.Errorf("%v, %d", v, code)
	}
}
