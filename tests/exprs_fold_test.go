package tests

import (
	"testing"

	"loop.example/g00001/impl"
)

// wantFolded asks for the folded nodes themselves, and that folding again changes nothing.
func wantFolded(t *testing.T, e, want impl.Expr) {
	t.Helper()
	got, code := impl.FoldExpr(e)
	if code != impl.OK || !sameExpr(got, want) {
		t.Fatalf("%s is folded to %s, %d; want %s\n%v\n%v", impl.ExprText(e), impl.ExprText(got), code, impl.ExprText(want), got, want)
	}
	again, code := impl.FoldExpr(got)
	if code != impl.OK || !sameExpr(again, got) {
		t.Fatalf("%s is folded to %s, %d", impl.ExprText(got), impl.ExprText(again), code)
	}
}

func wantFolds(t *testing.T, pairs [][2]string) {
	t.Helper()
	for _, pair := range pairs {
		b := bound(t, pair[0])
		wantFolded(t, laid(b), laid(bound(t, pair[1])))
		// The same within an operation that stays: the parts are folded alike.
		around := newBranch(impl.XNode{Op: impl.XCoalesce}, columnOf(b.Kind, 5, 5), b)
		if folded := wantedFold(around); folded.Op == impl.XCoalesce {
			wantFolded(t, laid(around), laid(folded))
		}
	}
}

// The first rule: all kids are constant.
func TestFoldConstants(t *testing.T) {
	wantFolds(t, [][2]string{
		{"5", "5"}, {"NULL", "NULL"}, {"i0", "i0"}, {"n0", "n0"}, {"CAST(NULL AS INT)", "CAST(NULL AS INT)"}, {"CAST(CAST(NULL AS INT) AS TEXT)", "CAST(NULL AS TEXT)"},
		{"1 + 2", "3"}, {"1 + 2 * 3", "7"}, {"1 + 2.5", "3.5"}, {"i0 + (1 + 2)", "i0 + 3"}, {"(i0 + 1) + 2", "i0 + 1 + 2"}, {"1 < 2", "TRUE"}, {"'a' || 'b'", "'ab'"},
		{"1 + NULL", "CAST(NULL AS INT)"}, {"2.5 + NULL", "CAST(NULL AS DECIMAL)"}, {"NULL || NULL", "CAST(NULL AS TEXT)"}, {"NULL + NULL", "NULL"}, {"- NULL", "NULL"},
		{"NULL = NULL", "CAST(NULL AS BOOLEAN)"}, {"NULL AND NULL", "CAST(NULL AS BOOLEAN)"}, {"NOT NULL", "CAST(NULL AS BOOLEAN)"}, {"NULL - DATE '2020-01-01'", "CAST(NULL AS INT)"},
		{"NULL + DATE '2020-01-01'", "CAST(NULL AS DATE)"}, {"NULL IS NULL", "TRUE"}, {"CAST(NULL AS TEXT) IS NULL", "TRUE"}, {"NULL IS NOT DISTINCT FROM NULL", "TRUE"},
		{"CAST(NULL AS INT) + 1", "CAST(NULL AS INT)"}, {"CAST(NULL AS INT) IS NOT DISTINCT FROM 1", "FALSE"}, {"- (1 + NULL)", "CAST(NULL AS INT)"},
		{"5 IN (1, NULL)", "CAST(NULL AS BOOLEAN)"}, {"5 IN (1, NULL, 5)", "TRUE"}, {"5 NOT IN (1, 2)", "TRUE"}, {"NULL IN (NULL)", "CAST(NULL AS BOOLEAN)"}, {"'ab' LIKE 'a_'", "TRUE"},
		{"'a' NOT LIKE NULL", "CAST(NULL AS BOOLEAN)"}, {"5 BETWEEN 1 AND 9", "TRUE"}, {"5 BETWEEN 9 AND NULL", "FALSE"}, {"5 BETWEEN 1 AND NULL", "CAST(NULL AS BOOLEAN)"},
		{"CASE WHEN FALSE THEN 1 ELSE 2 END", "2"}, {"CASE WHEN NULL THEN 1 END", "CAST(NULL AS INT)"}, {"CASE WHEN NULL THEN NULL END", "NULL"}, {"CASE WHEN TRUE THEN NULL ELSE 'a' END", "CAST(NULL AS TEXT)"},
		{"coalesce(NULL, 2)", "2"}, {"coalesce(NULL, NULL)", "NULL"}, {"coalesce(NULL, CAST(NULL AS DATE))", "CAST(NULL AS DATE)"}, {"coalesce(NULL)", "NULL"}, {"coalesce(5)", "5"},
		{"CAST('12' AS INT)", "12"}, {"CAST(5 AS INT)", "5"}, {"length('abc')", "3"}, {"nullif(1, 1)", "CAST(NULL AS INT)"}, {"nullif(NULL, 1)", "NULL"}, {"abs(NULL)", "NULL"},
		{"least(NULL, 1)", "CAST(NULL AS INT)"}, {"least(NULL, NULL)", "NULL"}, {"round(NULL)", "CAST(NULL AS DECIMAL)"}, {"greatest(1, 2) + i0", "2 + i0"},
		{"CAST(i0 AS TEXT)", "CAST(i0 AS TEXT)"}, {"CAST(n0 AS TEXT)", "CAST(n0 AS TEXT)"}, {"CAST(i0 AS INT)", "CAST(i0 AS INT)"}, {"CAST(n0 AS INT) + 1", "CAST(n0 AS INT) + 1"},
	})
	for _, v := range []impl.Value{intv(5), decv(25000), intv(0)} {
		minus := v
		minus.N = -v.N
		wantFolded(t, laid(unOf(impl.OpNeg, constOf(v))), laid(constOf(minus)))
	}
	// A cast to the kind Null is no constant, and folded to one.
	nothing := castOf(impl.Null, constOf(null))
	wantFolded(t, laid(nothing), laid(constOf(null)))
	wantFolded(t, laid(castOf(impl.Int, castOf(impl.Null, nothing))), laid(castOf(impl.Int, constOf(null))))
	wantFolded(t, laid(castOf(impl.Null, columnOf(impl.Null, 0, 0))), laid(castOf(impl.Null, columnOf(impl.Null, 0, 0))))
}

// A node that fails stays, with its folded kids, and is no constant to what is around it.
func TestFoldLeavesFailures(t *testing.T) {
	wantFolds(t, [][2]string{
		{"1 / 0", "1 / 0"}, {"(2 - 1) / (1 - 1)", "1 / 0"}, {"1 / 0 = i0", "1 / 0 = i0"}, {"1 / 0 + (1 + 1)", "1 / 0 + 2"}, {"CAST('x' AS INT)", "CAST('x' AS INT)"},
		{"CAST('x' || 'y' AS INT)", "CAST('xy' AS INT)"}, {"9223372036854775807 + 1", "9223372036854775807 + 1"},
		{"1 / 0 IS NULL", "1 / 0 IS NULL"}, {"NULL + 1 / 0", "NULL + 1 / 0"}, {"coalesce(1 / 0, 1 + 1, i0)", "coalesce(1 / 0, 2)"},
		{"CASE WHEN 1 / 0 = 1 THEN 1 + 1 WHEN FALSE THEN 3 ELSE i0 END", "CASE WHEN 1 / 0 = 1 THEN 2 ELSE i0 END"}, {"5 IN (5, 1 / 0)", "5 IN (5, 1 / 0)"},
		{"1 / 0 = 1 AND FALSE", "1 / 0 = 1 AND FALSE"}, {"FALSE AND 1 / 0 = 1", "FALSE"}, {"TRUE OR 1 / 0 = 1", "TRUE"}, {"TRUE AND 1 / 0 = 1", "1 / 0 = 1"},
		{"CASE WHEN TRUE THEN 1 ELSE 1 / 0 END", "1"}, {"CASE WHEN TRUE THEN 1 / 0 ELSE 1 END", "1 / 0"}, {"coalesce(1, 1 / 0)", "1"},
	})
	// A count that was folded, and is not let.
	piece := func(count *branch) *branch {
		return newBranch(impl.XNode{Op: impl.XCall, A: impl.FnSubstr}, constOf(textv("a")), constOf(intv(1)), count)
	}
	wantFolded(t, laid(unOf(impl.OpIsNull, piece(bound(t, "-(1 + 1)")))), laid(unOf(impl.OpIsNull, piece(constOf(intv(-2))))))
}

// The second rule.
func TestFoldTruths(t *testing.T) {
	wantFolds(t, [][2]string{
		{"FALSE AND b0", "FALSE"}, {"TRUE AND b0", "b0"}, {"b0 AND TRUE", "b0"}, {"b0 AND FALSE", "FALSE"}, {"NULL AND b0", "NULL AND b0"}, {"b0 AND NULL", "b0 AND NULL"},
		{"TRUE OR b0", "TRUE"}, {"FALSE OR b0", "b0"}, {"b0 OR FALSE", "b0"}, {"b0 OR TRUE", "TRUE"}, {"NULL OR b0", "NULL OR b0"}, {"b0 OR NULL", "b0 OR NULL"},
		{"b0 AND b1", "b0 AND b1"}, {"b0 OR b1", "b0 OR b1"}, {"(1 > 2) AND b0", "FALSE"}, {"(1 < 2) AND b0", "b0"}, {"b0 AND NOT FALSE", "b0"},
		{"TRUE AND n0", "CAST(n0 AS BOOLEAN)"}, {"n0 AND TRUE", "CAST(n0 AS BOOLEAN)"}, {"FALSE OR n0", "CAST(n0 AS BOOLEAN)"}, {"n0 OR FALSE", "CAST(n0 AS BOOLEAN)"},
		{"n0 AND FALSE", "FALSE"}, {"FALSE AND n0", "FALSE"}, {"n0 OR TRUE", "TRUE"}, {"TRUE OR n0", "TRUE"}, {"CAST(NULL AS BOOLEAN) AND b0", "CAST(NULL AS BOOLEAN) AND b0"},
		{"i0 / 1 = 1 AND FALSE", "i0 / 1 = 1 AND FALSE"}, {"i0 / 1 = 1 AND TRUE", "i0 / 1 = 1"}, {"i0 / 1 = 1 OR TRUE", "i0 / 1 = 1 OR TRUE"}, {"i0 / 1 = 1 OR FALSE", "i0 / 1 = 1"},
		{"FALSE AND i0 / 1 = 1", "FALSE"}, {"TRUE OR i0 / 1 = 1", "TRUE"}, {"i0 IN (1, 2) AND FALSE", "FALSE"}, {"i0 IN (1, -i0) AND FALSE", "i0 IN (1, -i0) AND FALSE"},
		// What was folded is asked whether it is safe.
		{"i0 = 1 + 1 AND FALSE", "FALSE"}, {"i0 IN (1, 7 / 2) OR TRUE", "TRUE"}, {"i0 = 1 / 0 AND FALSE", "i0 = 1 / 0 AND FALSE"}, {"1 / 0 = 1 AND FALSE", "1 / 0 = 1 AND FALSE"},
		{"FALSE AND 1 / 0 = 1", "FALSE"}, {"TRUE AND 1 / 0 = 1", "1 / 0 = 1"}, {"1 / 0 = 1 OR FALSE", "1 / 0 = 1"}, {"1 / 0 = 1 OR TRUE", "1 / 0 = 1 OR TRUE"},
		{"b0 AND b1 AND FALSE", "FALSE"}, {"b0 AND (TRUE AND b1)", "b0 AND b1"}, {"b0 AND (b1 OR TRUE)", "b0"}, {"(b0 OR TRUE) AND (b1 AND TRUE)", "b1"}, {"NOT (b0 AND FALSE)", "TRUE"},
		{"b0 = TRUE", "b0 = TRUE"}, {"b0 <> FALSE", "b0 <> FALSE"}, {"b0 IS NOT DISTINCT FROM TRUE", "b0 IS NOT DISTINCT FROM TRUE"},
	})
}

// The third rule.
func TestFoldCases(t *testing.T) {
	wantFolds(t, [][2]string{
		{"CASE WHEN b0 THEN i1 END", "CASE WHEN b0 THEN i1 END"}, {"CASE WHEN b0 THEN NULL ELSE 1 END", "CASE WHEN b0 THEN NULL ELSE 1 END"},
		{"CASE WHEN b0 THEN n1 WHEN b2 THEN 1 END", "CASE WHEN b0 THEN n1 WHEN b2 THEN 1 END"},
		// Pairs whose conditions are constant, and not true.
		{"CASE WHEN FALSE THEN i0 END", "CAST(NULL AS INT)"}, {"CASE WHEN NULL THEN i0 END", "CAST(NULL AS INT)"}, {"CASE WHEN FALSE THEN n0 END", "NULL"},
		{"CASE WHEN CAST(NULL AS BOOLEAN) THEN i0 END", "CAST(NULL AS INT)"}, {"CASE WHEN FALSE THEN i0 ELSE i1 END", "i1"}, {"CASE WHEN FALSE THEN i0 ELSE 1 END", "1"},
		{"CASE WHEN FALSE THEN i0 ELSE n1 END", "CAST(n1 AS INT)"}, {"CASE WHEN FALSE THEN i0 ELSE NULL END", "CAST(NULL AS INT)"},
		{"CASE WHEN FALSE THEN i0 WHEN b1 THEN i2 END", "CASE WHEN b1 THEN i2 END"}, {"CASE WHEN b1 THEN i2 WHEN FALSE THEN i0 END", "CASE WHEN b1 THEN i2 END"},
		{"CASE WHEN b1 THEN i2 WHEN NULL THEN i0 ELSE i3 END", "CASE WHEN b1 THEN i2 ELSE i3 END"},
		{"CASE WHEN b0 THEN 1 WHEN FALSE THEN 2 WHEN b1 THEN 3 WHEN NULL THEN 4 ELSE 5 END", "CASE WHEN b0 THEN 1 WHEN b1 THEN 3 ELSE 5 END"},
		{"CASE WHEN FALSE THEN 1 WHEN b1 THEN NULL END", "CASE WHEN b1 THEN CAST(NULL AS INT) END"}, {"CASE WHEN FALSE THEN 1 WHEN b1 THEN NULL ELSE n0 END", "CASE WHEN b1 THEN CAST(NULL AS INT) ELSE CAST(n0 AS INT) END"},
		{"CASE WHEN FALSE THEN NULL WHEN b1 THEN NULL ELSE 'a' END", "CASE WHEN b1 THEN CAST(NULL AS TEXT) ELSE 'a' END"},
		{"CASE WHEN FALSE THEN 1 WHEN n0 THEN NULL ELSE 2 END", "CASE WHEN n0 THEN CAST(NULL AS INT) ELSE 2 END"}, {"CASE WHEN FALSE THEN NULL WHEN b0 THEN NULL END", "CASE WHEN b0 THEN NULL END"},
		// A condition that is true ends the list.
		{"CASE WHEN TRUE THEN i0 END", "i0"}, {"CASE WHEN TRUE THEN i0 ELSE i1 END", "i0"}, {"CASE WHEN TRUE THEN n0 ELSE i1 END", "CAST(n0 AS INT)"}, {"CASE WHEN TRUE THEN NULL ELSE i1 END", "CAST(NULL AS INT)"},
		{"CASE WHEN FALSE THEN i0 WHEN TRUE THEN i1 WHEN b0 THEN i2 END", "i1"}, {"CASE WHEN b0 THEN i0 WHEN TRUE THEN i1 END", "CASE WHEN b0 THEN i0 ELSE i1 END"},
		{"CASE WHEN b0 THEN i0 WHEN TRUE THEN i1 ELSE i2 END", "CASE WHEN b0 THEN i0 ELSE i1 END"},
		{"CASE WHEN b0 THEN i0 WHEN TRUE THEN i1 WHEN b1 THEN 1 / 0 WHEN TRUE THEN i3 ELSE i2 END", "CASE WHEN b0 THEN i0 ELSE i1 END"},
		{"CASE WHEN b0 THEN NULL WHEN TRUE THEN 1 END", "CASE WHEN b0 THEN CAST(NULL AS INT) ELSE 1 END"}, {"CASE WHEN b0 THEN 1 WHEN TRUE THEN NULL END", "CASE WHEN b0 THEN 1 ELSE CAST(NULL AS INT) END"},
		{"CASE WHEN b0 THEN NULL WHEN TRUE THEN NULL ELSE 1 END", "CASE WHEN b0 THEN CAST(NULL AS INT) ELSE CAST(NULL AS INT) END"},
		{"CASE WHEN b0 THEN n1 WHEN TRUE THEN n2 WHEN b3 THEN DATE '2020-01-01' END", "CASE WHEN b0 THEN CAST(n1 AS DATE) ELSE CAST(n2 AS DATE) END"},
		{"CASE WHEN TRUE THEN i0 WHEN 1 / 0 = 1 THEN i1 END", "i0"}, {"CASE WHEN 1 / 0 = 1 THEN i0 WHEN TRUE THEN i1 ELSE i2 END", "CASE WHEN 1 / 0 = 1 THEN i0 ELSE i1 END"},
		{"CASE WHEN 1 < 2 THEN i0 ELSE i1 END", "i0"}, {"CASE WHEN 1 = NULL THEN i0 ELSE i1 END", "i1"}, {"CASE WHEN b0 AND FALSE THEN i0 ELSE i1 END", "i1"},
		{"CASE WHEN TRUE THEN 1 ELSE 1 / 0 END", "1"}, {"CASE WHEN TRUE THEN 1 / 0 ELSE 1 END", "1 / 0"}, {"CASE WHEN FALSE THEN 1 / 0 ELSE 1 END", "1"},
		{"CASE WHEN b0 THEN 1 + 1 ELSE 1 + NULL END", "CASE WHEN b0 THEN 2 ELSE CAST(NULL AS INT) END"},
		{"CASE WHEN b0 THEN CASE WHEN TRUE THEN i0 END ELSE CASE WHEN FALSE THEN i1 END END", "CASE WHEN b0 THEN i0 ELSE CAST(NULL AS INT) END"},
	})
}

// The fourth rule.
func TestFoldCoalesces(t *testing.T) {
	wantFolds(t, [][2]string{
		{"coalesce(i0)", "i0"}, {"coalesce(n0)", "n0"}, {"coalesce(i0, i1)", "coalesce(i0, i1)"}, {"coalesce(n0, i1)", "coalesce(n0, i1)"}, {"coalesce(i0, 1)", "coalesce(i0, 1)"},
		{"coalesce(NULL, i0)", "i0"}, {"coalesce(i0, NULL)", "i0"}, {"coalesce(NULL, n0, NULL)", "n0"}, {"coalesce(n0, CAST(NULL AS INT))", "CAST(n0 AS INT)"},
		{"coalesce(CAST(NULL AS INT), i0)", "i0"}, {"coalesce(i0, NULL, i1)", "coalesce(i0, i1)"}, {"coalesce(i0, NULL, n1)", "coalesce(i0, CAST(n1 AS INT))"},
		{"coalesce(n1, NULL, i0)", "coalesce(CAST(n1 AS INT), i0)"}, {"coalesce(n1, CAST(NULL AS INT), n2)", "coalesce(CAST(n1 AS INT), CAST(n2 AS INT))"},
		{"coalesce(1, i0)", "1"}, {"coalesce(NULL, 1, i0)", "1"}, {"coalesce(i0, 1, i1)", "coalesce(i0, 1)"}, {"coalesce(i0, 1, NULL, 2, i1)", "coalesce(i0, 1)"},
		{"coalesce(n0, 1, i1)", "coalesce(CAST(n0 AS INT), 1)"}, {"coalesce(n0, NULL, n1, 1)", "coalesce(CAST(n0 AS INT), CAST(n1 AS INT), 1)"}, {"coalesce(n0, 1)", "coalesce(n0, 1)"},
		{"coalesce(1, 1 / 0)", "1"}, {"coalesce(1 / 0, 1, i0)", "coalesce(1 / 0, 1)"}, {"coalesce(NULL, 1 / 0)", "1 / 0"}, {"coalesce(i0, 1 + 1, i1)", "coalesce(i0, 2)"},
		{"coalesce(coalesce(NULL, i0), NULL)", "i0"}, {"coalesce(1 + NULL, i0)", "i0"}, {"coalesce(FALSE, b0)", "FALSE"}, {"coalesce('', t0)", "''"},
		{"coalesce(n0, n1)", "coalesce(n0, n1)"}, {"coalesce(n0, NULL, n1)", "coalesce(n0, n1)"},
	})
}

// manyPairs is a CASE of which folding takes the first pair; each NULL behind it becomes a cast then.
func manyPairs(pairs, negations int) *branch {
	kids := []*branch{constOf(boolv(false)), constOf(intv(1))}
	for pair := 0; pair < pairs; pair++ {
		condition := columnOf(impl.Bool, 0, 0)
		if pair == 0 {
			for ; negations > 0; negations-- {
				condition = unOf(impl.OpNot, condition)
			}
		}
		kids = append(kids, condition, constOf(null))
	}
	return newBranch(impl.XNode{Op: impl.XCase}, kids...)
}

func TestFoldMaxItems(t *testing.T) {
	for _, c := range []struct {
		pairs, negations, size int
		fits                   bool
	}{{133, 0, 400, true}, {133, 1, 401, false}, {132, 3, 400, true}, {132, 4, 401, false}, {190, 0, 571, false}} {
		b := manyPairs(c.pairs, c.negations)
		e, folded := laid(b), laid(wantedFold(b))
		if len(folded.Nodes) != c.size || len(e.Nodes) > impl.MaxItems {
			t.Fatalf("%d nodes are folded to %d", len(e.Nodes), len(folded.Nodes))
		}
		if !c.fits {
			folded = e
		}
		wantFolded(t, e, folded)
	}
}

// An operand that folding has made longer than MaxItems is not safe, so that AND and OR stay.
func TestFoldGrownOperands(t *testing.T) {
	for _, c := range []struct {
		pairs, negations int
		safe             bool
	}{{1, 0, true}, {132, 2, true}, {132, 3, false}, {133, 0, false}, {150, 0, false}, {190, 0, false}} {
		for _, junction := range []struct {
			op     int
			strong bool
		}{{impl.OpAnd, false}, {impl.OpOr, true}} {
			first := unOf(impl.OpIsNull, manyPairs(c.pairs, c.negations))
			strong := constOf(boolv(junction.strong))
			e := laid(binOf(junction.op, first, strong))
			want := e
			if c.safe {
				want = laid(strong)
			}
			wantFolded(t, e, want)
			// Where the operand stays, the whole is too long when it is folded: nothing else in it is folded either.
			beside := binOf(impl.OpAdd, constOf(intv(1)), constOf(intv(1)))
			outer := newBranch(impl.XNode{Op: impl.XIn}, constOf(boolv(true)), upright(e), binOf(impl.OpEq, beside, columnOf(impl.Int, 0, 1)))
			if c.safe {
				wantFolded(t, laid(outer), laid(wantedFold(outer)))
			} else {
				wantFolded(t, laid(outer), laid(outer))
			}
			wantSameWork(t, e, [][]impl.Value{{boolv(true)}})
		}
	}
}

func TestFoldByChance(t *testing.T) {
	t.Parallel()
	g := exprGrower{grower: grower{&numberSource{state: 45}}, lists: manyLists()}
	changed := 0
	for round := 0; round < 12000; round++ {
		b := g.any(round % 7)
		e := laid(b)
		if len(e.Nodes) > impl.MaxItems {
			continue
		}
		want := laid(wantedFold(b))
		if len(want.Nodes) > impl.MaxItems {
			want = e
		}
		wantFolded(t, e, want)
		if !impl.ExprOK(want, g.lists) || want.Nodes[len(want.Nodes)-1].Kind != b.Kind {
			t.Fatalf("%s is folded to %s", impl.ExprText(e), impl.ExprText(want))
		}
		if !sameExpr(e, want) {
			changed++
		}
	}
	if changed < 4000 {
		t.Errorf("only %d were changed", changed)
	}
}

func TestFoldOfFaults(t *testing.T) {
	bad := []impl.Expr{
		{}, {Nodes: []impl.XNode{{Op: impl.XConst}, {Op: impl.XConst}}}, {Nodes: []impl.XNode{{Op: impl.XExists, Kind: impl.Bool}}},
		{Nodes: []impl.XNode{{Op: impl.XConst, Kind: impl.Int, Val: textv("a")}}}, {Nodes: []impl.XNode{{Op: impl.XConst, Kind: impl.Text, Val: textv("\xff")}}},
		laid(&branch{impl.XNode{Op: impl.XBin, A: impl.OpAdd, Kind: impl.Int}, []*branch{constOf(intv(1)), constOf(boolv(true))}}),
		laid(&branch{impl.XNode{Op: impl.XBin, A: impl.OpAdd, Kind: impl.Dec}, []*branch{constOf(intv(1)), constOf(intv(2))}}),
		laid(columnOf(6, 0, 0)), laid(columnOf(-1, 0, 0)), laid(columnOf(impl.Int, 8, 0)), laid(columnOf(impl.Int, 0, 32)),
	}
	for _, e := range bad {
		if got, code := impl.FoldExpr(e); len(got.Nodes) != 0 || code != impl.ErrBad {
			t.Errorf("%v: %v, %d", e, got, code)
		}
	}
}

func TestFoldSharesNothing(t *testing.T) {
	sources := []string{"i0", "i0 + (1 + 2)", "CASE WHEN b0 THEN i0 WHEN b1 THEN 1 / 0 ELSE i2 END", "coalesce(i0, i1, i2) IN (1, 2, i3)", "substr(t0, i1, i2) || (t3 || t4)"}
	exprs := []impl.Expr{laid(manyPairs(133, 1))}
	for _, src := range sources {
		exprs = append(exprs, laid(bound(t, src)))
	}
	for _, e := range exprs {
		kept := copyExpr(e)
		folded, _ := impl.FoldExpr(e)
		wantApart(t, impl.ExprText(e), kidsOfExpr(folded))
		clear(folded.Nodes)
		if !sameExpr(e, kept) {
			t.Errorf("%v was written into", kept)
		}
	}
}
