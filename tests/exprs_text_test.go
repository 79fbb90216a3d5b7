package tests

import (
	"math"
	"slices"
	"strings"
	"testing"

	"loop.example/g00001/impl"
)

// tellable is what ExprText asks for.
func tellable(e impl.Expr) bool {
	if len(e.Nodes) > 400 || !standingNodes(e.Nodes) {
		return false
	}
	for _, node := range e.Nodes {
		count := len(node.Kids)
		flagged := node.A == 0 || node.A == 1
		asked := map[int]bool{
			impl.XConst: count == 0, impl.XCol: count == 0, impl.XExists: count == 0, impl.XScalar: count == 0,
			impl.XBin: count == 2 && slices.Contains(upTo(1, 15), node.A), impl.XUn: count == 1 && slices.Contains(upTo(16, 18), node.A),
			impl.XIn: count >= 2 && flagged, impl.XLike: count == 2 && flagged, impl.XBetween: count == 3 && flagged,
			impl.XCase: flagged && slices.Contains([]int{2, 4, 6, 8, 10}, count-node.A), impl.XCast: count == 1 && slices.Contains(upTo(1, 5), node.A),
			impl.XCall: slices.Contains(upTo(1, 13), node.A), impl.XCoalesce: count >= 1, impl.XInPlan: count == 1 && flagged,
		}
		if !asked[node.Op] {
			return false
		}
	}
	return true
}

func wantTextOrNone(t *testing.T, e impl.Expr) {
	t.Helper()
	want := "?"
	if tellable(e) {
		want = wantedText(upright(e))
	}
	if got := impl.ExprText(e); got != want {
		t.Fatalf("ExprText(%v) = %q; want %q", e, got, want)
	}
}

func TestExprTextOfEachOperation(t *testing.T) {
	cases := []struct{ src, want string }{
		{"5", "5"}, {"-5", "(- 5)"}, {"2.50", "2.5"}, {"3.0", "3.0"}, {"'it''s'", "'it''s'"}, {"TRUE", "TRUE"}, {"false", "FALSE"}, {"NULL", "NULL"},
		{"DATE '2020-01-31'", "DATE '2020-01-31'"},
		{"i0", "#0"}, {"t31", "#31"}, {"r1.i0", "1#0"}, {"r7.b12", "7#12"},
		{"1 + 2", "(1 + 2)"}, {"1 - 2", "(1 - 2)"}, {"1 * 2", "(1 * 2)"}, {"1 / 2", "(1 / 2)"}, {"1 % 2", "(1 % 2)"}, {"'a' || 'b'", "('a' || 'b')"},
		{"1 = 2", "(1 = 2)"}, {"1 <> 2", "(1 <> 2)"}, {"1 < 2", "(1 < 2)"}, {"1 <= 2", "(1 <= 2)"}, {"1 > 2", "(1 > 2)"}, {"1 >= 2", "(1 >= 2)"},
		{"1 IS NOT DISTINCT FROM 2", "(1 IS 2)"}, {"1 IS DISTINCT FROM 2", "(NOT (1 IS 2))"},
		{"b0 and b1", "(#0 AND #1)"}, {"b0 or b1", "(#0 OR #1)"}, {"not b0", "(NOT #0)"}, {"i0 is null", "(#0 IS NULL)"}, {"i0 is not null", "(NOT (#0 IS NULL))"},
		{"1 + 2 * 3 = i0 and not b1 or b2", "((((1 + (2 * 3)) = #0) AND (NOT #1)) OR #2)"},
		{"i0 in (1)", "(#0 IN (1))"}, {"i0 in (1, 2, NULL)", "(#0 IN (1, 2, NULL))"}, {"i0 not in (1, 2)", "(#0 NOT IN (1, 2))"},
		{"t0 like 'a%'", "(#0 LIKE 'a%')"}, {"t0 not like t1", "(#0 NOT LIKE #1)"},
		{"i0 between 1 and 2", "(#0 BETWEEN 1 AND 2)"}, {"i0 not between 1 + 1 and 2", "(#0 NOT BETWEEN (1 + 1) AND 2)"},
		{"case when b0 then 1 end", "CASE WHEN #0 THEN 1 END"}, {"case when b0 then 1 else 2 end", "CASE WHEN #0 THEN 1 ELSE 2 END"},
		{"case when b0 then 1 when b1 then NULL else 2 end", "CASE WHEN #0 THEN 1 WHEN #1 THEN NULL ELSE 2 END"},
		{"cast(t0 as int)", "CAST(#0 AS INT)"}, {"cast(t0 as decimal)", "CAST(#0 AS DECIMAL)"}, {"cast(t0 as text)", "CAST(#0 AS TEXT)"},
		{"cast(t0 as boolean)", "CAST(#0 AS BOOLEAN)"}, {"cast(t0 as date)", "CAST(#0 AS DATE)"},
		{"abs(i0)", "abs(#0)"}, {"length(t0)", "length(#0)"}, {"lower(t0)", "lower(#0)"}, {"upper(t0)", "upper(#0)"}, {"substr(t0, 1, 2)", "substr(#0, 1, 2)"},
		{"nullif(i0, 1)", "nullif(#0, 1)"}, {"year(y0)", "year(#0)"}, {"month(y0)", "month(#0)"}, {"day(y0)", "day(#0)"}, {"round(d0)", "round(#0)"},
		{"trim(t0)", "trim(#0)"}, {"least(i0, 1)", "least(#0, 1)"}, {"greatest(i0, 1)", "greatest(#0, 1)"},
		{"coalesce(i0)", "coalesce(#0)"}, {"coalesce(i0, i1, 1)", "coalesce(#0, #1, 1)"},
	}
	for _, c := range cases {
		if got := impl.ExprText(laid(bound(t, c.src))); got != c.want {
			t.Errorf("%s: %q; want %q", c.src, got, c.want)
		}
	}
}

// TestExprTextOfAnyFields has fields and kinds that no valid expression has, but none that the text is made of.
func TestExprTextOfAnyFields(t *testing.T) {
	one, odd := constOf(intv(1)), textv("\xff")
	cases := []struct {
		node impl.XNode
		kids []*branch
		want string
	}{
		{impl.XNode{Op: impl.XConst, Val: odd}, nil, "?"},
		{impl.XNode{Op: impl.XConst, Kind: 77, A: -3, B: 9, Val: intv(-4)}, nil, "-4"},
		{impl.XNode{Op: impl.XCol, Kind: -1, A: -1, B: -2, Val: odd}, nil, "-1#-2"},
		{impl.XNode{Op: impl.XCol, A: math.MinInt, B: math.MaxInt}, nil, "-9223372036854775808#9223372036854775807"},
		{impl.XNode{Op: impl.XCol, B: math.MinInt}, nil, "#-9223372036854775808"},
		{impl.XNode{Op: impl.XCol, A: 400, B: 500}, nil, "400#500"},
		{impl.XNode{Op: impl.XBin, A: impl.OpAdd, Kind: 9, B: 1, Val: odd}, []*branch{one, constOf(boolv(true))}, "(1 + TRUE)"},
		{impl.XNode{Op: impl.XUn, A: impl.OpNot, B: -1}, []*branch{one}, "(NOT 1)"},
		{impl.XNode{Op: impl.XUn, A: impl.OpNeg}, []*branch{constOf(null)}, "(- NULL)"},
		{impl.XNode{Op: impl.XIn, A: 1}, []*branch{one, constOf(textv("a"))}, "(1 NOT IN ('a'))"},
		{impl.XNode{Op: impl.XLike}, []*branch{one, one}, "(1 LIKE 1)"},
		{impl.XNode{Op: impl.XCase}, []*branch{one, one}, "CASE WHEN 1 THEN 1 END"},
		{impl.XNode{Op: impl.XCast, A: impl.Date, Kind: impl.Int}, []*branch{one}, "CAST(1 AS DATE)"},
		{impl.XNode{Op: impl.XCall, A: impl.FnAbs}, nil, "abs()"},
		{impl.XNode{Op: impl.XCall, A: impl.FnTrim}, []*branch{one, one, one, one, one, one, one, one, one}, "trim(1, 1, 1, 1, 1, 1, 1, 1, 1)"},
		{impl.XNode{Op: impl.XCoalesce, A: 5, B: 5}, []*branch{one, constOf(textv("a"))}, "coalesce(1, 'a')"},
		{impl.XNode{Op: impl.XExists, B: 12, A: 7, Kind: 4}, nil, "EXISTS(@12)"},
		{impl.XNode{Op: impl.XScalar, B: -1}, nil, "(@-1)"},
		{impl.XNode{Op: impl.XInPlan, B: 3}, []*branch{one}, "(1 IN @3)"},
		{impl.XNode{Op: impl.XInPlan, A: 1, B: math.MaxInt}, []*branch{one}, "(1 NOT IN @9223372036854775807)"},
	}
	for _, c := range cases {
		inside := &branch{c.node, c.kids}
		if got := impl.ExprText(laid(inside)); got != c.want {
			t.Errorf("%v: %q; want %q", c.node, got, c.want)
		}
		around := &branch{impl.XNode{Op: impl.XUn, A: impl.OpNot}, []*branch{inside}}
		if got := impl.ExprText(laid(around)); got != "(NOT "+c.want+")" {
			t.Errorf("NOT of %v: %q", c.node, got)
		}
	}
}

// TestExprTextOfNone has each reason for which there is no text.
func TestExprTextOfNone(t *testing.T) {
	one := constOf(intv(1))
	kids := func(count int) []*branch { return slices.Repeat([]*branch{one}, count) }
	wrong := []*branch{
		{impl.XNode{Op: 0}, nil}, {impl.XNode{Op: 15}, nil}, {impl.XNode{Op: -1}, nil}, {impl.XNode{Op: math.MaxInt}, nil}, {impl.XNode{Op: math.MinInt}, kids(1)},
		{impl.XNode{Op: impl.XConst}, kids(1)}, {impl.XNode{Op: impl.XCol}, kids(1)}, {impl.XNode{Op: impl.XExists}, kids(1)}, {impl.XNode{Op: impl.XScalar}, kids(1)},
		{impl.XNode{Op: impl.XBin, A: 0}, kids(2)}, {impl.XNode{Op: impl.XBin, A: 16}, kids(2)}, {impl.XNode{Op: impl.XBin, A: 1}, kids(1)}, {impl.XNode{Op: impl.XBin, A: 1}, kids(3)},
		{impl.XNode{Op: impl.XUn, A: 15}, kids(1)}, {impl.XNode{Op: impl.XUn, A: 19}, kids(1)}, {impl.XNode{Op: impl.XUn, A: 16}, kids(0)}, {impl.XNode{Op: impl.XUn, A: 16}, kids(2)},
		{impl.XNode{Op: impl.XIn, A: 2}, kids(2)}, {impl.XNode{Op: impl.XIn, A: -1}, kids(2)}, {impl.XNode{Op: impl.XIn}, kids(1)}, {impl.XNode{Op: impl.XIn}, kids(0)},
		{impl.XNode{Op: impl.XLike, A: 2}, kids(2)}, {impl.XNode{Op: impl.XLike}, kids(1)}, {impl.XNode{Op: impl.XLike}, kids(3)},
		{impl.XNode{Op: impl.XBetween, A: -1}, kids(3)}, {impl.XNode{Op: impl.XBetween}, kids(2)}, {impl.XNode{Op: impl.XBetween}, kids(4)},
		{impl.XNode{Op: impl.XCase, A: 2}, kids(4)}, {impl.XNode{Op: impl.XCase, A: -1}, kids(3)}, {impl.XNode{Op: impl.XCase}, kids(0)}, {impl.XNode{Op: impl.XCase}, kids(1)},
		{impl.XNode{Op: impl.XCase}, kids(3)}, {impl.XNode{Op: impl.XCase, A: 1}, kids(1)}, {impl.XNode{Op: impl.XCase, A: 1}, kids(2)},
		{impl.XNode{Op: impl.XCast, A: 0}, kids(1)}, {impl.XNode{Op: impl.XCast, A: 6}, kids(1)}, {impl.XNode{Op: impl.XCast, A: 1}, kids(0)}, {impl.XNode{Op: impl.XCast, A: 1}, kids(2)},
		{impl.XNode{Op: impl.XCall, A: 0}, kids(1)}, {impl.XNode{Op: impl.XCall, A: 14}, kids(1)}, {impl.XNode{Op: impl.XCoalesce}, kids(0)},
		{impl.XNode{Op: impl.XInPlan, A: 2}, kids(1)}, {impl.XNode{Op: impl.XInPlan}, kids(0)}, {impl.XNode{Op: impl.XInPlan}, kids(2)},
	}
	for _, b := range wrong {
		e := laid(b)
		if got := impl.ExprText(e); got != "?" {
			t.Errorf("%v: %q", e, got)
		}
		if got := impl.ExprText(laid(&branch{impl.XNode{Op: impl.XCoalesce}, []*branch{one, b, one}})); got != "?" {
			t.Errorf("%v in another: %q", e, got)
		}
		wantTextOrNone(t, e)
	}
	lists := [][]impl.XNode{nil, {{Op: impl.XConst}, {Op: impl.XConst}}, {{Op: impl.XUn, A: impl.OpNot, Kids: []int{0}}}, {{Op: impl.XConst}, {Op: impl.XUn, A: impl.OpNot, Kids: []int{1}}}}
	for _, nodes := range lists {
		if got := impl.ExprText(impl.Expr{Nodes: nodes}); got != "?" {
			t.Errorf("%v: %q", nodes, got)
		}
	}
}

func TestExprTextByChance(t *testing.T) {
	g := exprGrower{grower: grower{&numberSource{state: 43}}, lists: manyLists()}
	for round := 0; round < 4000; round++ {
		wantTextOrNone(t, laid(g.any(round%5)))
	}
}

func TestExprTextOfMuch(t *testing.T) {
	b := constOf(textv(strings.Repeat("𝄞", impl.MaxChars)))
	long := wantedText(b)
	for count := 1; count < impl.MaxItems/2; count++ {
		b = binOf(impl.OpCat, b, b.firstLeaf())
	}
	if got := impl.ExprText(laid(b)); strings.Count(got, long) != impl.MaxItems/2 {
		t.Errorf("%d bytes", len(got))
	}
}

// firstLeaf is where the text of a branch begins.
func (b *branch) firstLeaf() *branch {
	for len(b.kids) > 0 {
		b = b.kids[0]
	}
	return b
}
