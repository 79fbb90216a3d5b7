package tests

import (
	"math"
	"slices"
	"testing"

	"loop.example/g00001/impl"
)

func wantEval(t *testing.T, src string, rows [][]impl.Value, want impl.Value, code int) {
	t.Helper()
	e := laid(bound(t, src))
	if got, gotCode := impl.EvalExpr(e, rows); got != want || gotCode != code {
		t.Errorf("%s with %v: %v, %d; want %v, %d", src, rows, got, gotCode, want, code)
	}
}

// evalCase is an expression without columns, and what it is worked out to.
type evalCase struct {
	src  string
	want impl.Value
	code int
}

func wantEvals(t *testing.T, cases []evalCase) {
	t.Helper()
	for _, c := range cases {
		wantEval(t, c.src, nil, c.want, c.code)
		// Rows that nothing asks for change nothing.
		wantEval(t, c.src, [][]impl.Value{{intv(7), null}, nil, {textv("a")}}, c.want, c.code)
	}
}

// Failures of three codes, as an Int, and (compared) as a Bool.
const (
	zeroFails = "(1 / 0)"
	castFails = "CAST('x' AS INT)"
	overFails = "(9223372036854775807 + 1)"
)

func TestEvalOfOperators(t *testing.T) {
	wantEvals(t, []evalCase{
		{"5", intv(5), 0}, {"NULL", null, 0}, {"'a'", textv("a"), 0}, {"DATE '1970-01-02'", datev(1), 0}, {"2.5", decv(25000), 0},
		{"1 + 2", intv(3), 0}, {"1 - 2.5", decv(-15000), 0}, {"'a' || 'b'", textv("ab"), 0}, {"1 < 2.5", boolv(true), 0}, {"NULL + 1", null, 0}, {"NULL = NULL", null, 0},
		{"DATE '1970-01-01' + 3", datev(3), 0}, {"NULL IS NOT DISTINCT FROM NULL", boolv(true), 0}, {"1 IS NOT DISTINCT FROM NULL", boolv(false), 0},
		{"-5", intv(-5), 0}, {"- NULL", null, 0}, {"NOT TRUE", boolv(false), 0}, {"NOT NULL", null, 0}, {"NULL IS NULL", boolv(true), 0}, {"5 IS NULL", boolv(false), 0},
		{zeroFails, null, impl.ErrZero}, {castFails, null, impl.ErrCast}, {overFails, null, impl.ErrOverflow},
		{zeroFails + " + " + castFails, null, impl.ErrZero}, {castFails + " + " + zeroFails, null, impl.ErrCast}, {"NULL + " + overFails, null, impl.ErrOverflow},
		{overFails + " * NULL", null, impl.ErrOverflow}, {"- " + castFails, null, impl.ErrCast}, {zeroFails + " IS NULL", null, impl.ErrZero},
		{zeroFails + " = " + castFails, null, impl.ErrZero}, {"NULL IS NOT DISTINCT FROM " + castFails, null, impl.ErrCast},
		{"- (- 9223372036854775807 - 1)", null, impl.ErrOverflow},
	})
}

func TestEvalOfTruths(t *testing.T) {
	fails, others := zeroFails+" = 1", castFails+" = 1"
	wantEvals(t, []evalCase{
		{"TRUE AND TRUE", boolv(true), 0}, {"TRUE AND FALSE", boolv(false), 0}, {"TRUE AND NULL", null, 0}, {"NULL AND TRUE", null, 0}, {"NULL AND FALSE", boolv(false), 0},
		{"NULL AND NULL", null, 0}, {"FALSE AND NULL", boolv(false), 0}, {"FALSE AND " + fails, boolv(false), 0}, {"TRUE AND " + fails, null, impl.ErrZero},
		{"NULL AND " + fails, null, impl.ErrZero}, {fails + " AND FALSE", null, impl.ErrZero}, {fails + " AND " + others, null, impl.ErrZero}, {others + " AND " + fails, null, impl.ErrCast},
		{"FALSE OR FALSE", boolv(false), 0}, {"FALSE OR TRUE", boolv(true), 0}, {"FALSE OR NULL", null, 0}, {"NULL OR FALSE", null, 0}, {"NULL OR TRUE", boolv(true), 0},
		{"NULL OR NULL", null, 0}, {"TRUE OR NULL", boolv(true), 0}, {"TRUE OR " + fails, boolv(true), 0}, {"FALSE OR " + fails, null, impl.ErrZero},
		{"NULL OR " + fails, null, impl.ErrZero}, {fails + " OR TRUE", null, impl.ErrZero}, {others + " OR " + fails, null, impl.ErrCast},
		{"FALSE AND " + fails + " OR TRUE", boolv(true), 0}, {"(TRUE OR " + fails + ") AND FALSE", boolv(false), 0},
		{"(FALSE AND " + fails + ") = (FALSE AND " + others + ")", boolv(true), 0},
	})
}

func TestEvalOfTests(t *testing.T) {
	wantEvals(t, []evalCase{
		{"5 IN (5)", boolv(true), 0}, {"5 IN (1, 5, 2)", boolv(true), 0}, {"5 IN (1, 2)", boolv(false), 0}, {"5 IN (1, NULL)", null, 0}, {"5 IN (NULL, 1)", null, 0},
		{"5 IN (NULL, 5)", boolv(true), 0}, {"5 IN (5, NULL)", boolv(true), 0}, {"NULL IN (1, 2)", null, 0}, {"NULL IN (NULL)", null, 0}, {"5 IN (5.0)", boolv(true), 0},
		{"5 NOT IN (5)", boolv(false), 0}, {"5 NOT IN (1, 2)", boolv(true), 0}, {"5 NOT IN (1, NULL)", null, 0}, {"5 NOT IN (NULL, 5)", boolv(false), 0}, {"NULL NOT IN (1)", null, 0},
		{"5 IN (5, " + zeroFails + ")", boolv(true), 0}, {"5 NOT IN (5, " + zeroFails + ")", boolv(false), 0}, {"5 IN (" + zeroFails + ", 5)", null, impl.ErrZero},
		{"5 IN (1, " + zeroFails + ", " + castFails + ")", null, impl.ErrZero}, {"5 IN (NULL, " + castFails + ")", null, impl.ErrCast}, {"NULL IN (1, " + castFails + ")", null, impl.ErrCast},
		{castFails + " IN (" + zeroFails + ")", null, impl.ErrCast}, {zeroFails + " NOT IN (1)", null, impl.ErrZero},
		{"'abc' LIKE 'a%'", boolv(true), 0}, {"'abc' LIKE 'b%'", boolv(false), 0}, {"'abc' NOT LIKE 'a%'", boolv(false), 0}, {"'abc' NOT LIKE 'b%'", boolv(true), 0},
		{"NULL LIKE 'a'", null, 0}, {"'a' NOT LIKE NULL", null, 0}, {"NULL LIKE CAST(" + zeroFails + " AS TEXT)", null, impl.ErrZero},
		{"CAST(" + castFails + " AS TEXT) NOT LIKE CAST(" + zeroFails + " AS TEXT)", null, impl.ErrCast},
		{"2 BETWEEN 1 AND 3", boolv(true), 0}, {"1 BETWEEN 1 AND 3", boolv(true), 0}, {"3 BETWEEN 1 AND 3", boolv(true), 0}, {"0 BETWEEN 1 AND 3", boolv(false), 0},
		{"4 BETWEEN 1 AND 3", boolv(false), 0}, {"2 BETWEEN 3 AND 1", boolv(false), 0}, {"2.5 BETWEEN 2 AND 3", boolv(true), 0}, {"NULL BETWEEN 1 AND 2", null, 0},
		{"5 BETWEEN NULL AND 9", null, 0}, {"5 BETWEEN NULL AND 1", boolv(false), 0}, {"5 BETWEEN 1 AND NULL", null, 0}, {"5 BETWEEN 9 AND NULL", boolv(false), 0},
		{"2 NOT BETWEEN 1 AND 3", boolv(false), 0}, {"4 NOT BETWEEN 1 AND 3", boolv(true), 0}, {"5 NOT BETWEEN 1 AND NULL", null, 0}, {"5 NOT BETWEEN 9 AND NULL", boolv(true), 0},
		{"1 BETWEEN 2 AND " + zeroFails, null, impl.ErrZero}, {"NULL BETWEEN " + castFails + " AND " + zeroFails, null, impl.ErrCast},
		{overFails + " BETWEEN " + castFails + " AND " + zeroFails, null, impl.ErrOverflow}, {"1 NOT BETWEEN 2 AND " + zeroFails, null, impl.ErrZero},
	})
}

func TestEvalOfChoices(t *testing.T) {
	fails := zeroFails + " = 1"
	wantEvals(t, []evalCase{
		{"CASE WHEN TRUE THEN 1 END", intv(1), 0}, {"CASE WHEN FALSE THEN 1 END", null, 0}, {"CASE WHEN NULL THEN 1 END", null, 0}, {"CASE WHEN FALSE THEN 1 ELSE 2 END", intv(2), 0},
		{"CASE WHEN NULL THEN 1 ELSE 2 END", intv(2), 0}, {"CASE WHEN FALSE THEN 1 WHEN TRUE THEN 2 WHEN TRUE THEN 3 ELSE 4 END", intv(2), 0},
		{"CASE WHEN FALSE THEN 1 WHEN NULL THEN 2 WHEN FALSE THEN 3 ELSE 4 END", intv(4), 0}, {"CASE WHEN TRUE THEN NULL ELSE 2 END", null, 0},
		{"CASE WHEN TRUE THEN 1 WHEN " + fails + " THEN 2 ELSE " + zeroFails + " END", intv(1), 0}, {"CASE WHEN FALSE THEN " + zeroFails + " ELSE 2 END", intv(2), 0},
		{"CASE WHEN NULL THEN " + zeroFails + " END", null, 0}, {"CASE WHEN " + fails + " THEN 1 ELSE 2 END", null, impl.ErrZero},
		{"CASE WHEN FALSE THEN 1 WHEN " + fails + " THEN " + castFails + " END", null, impl.ErrZero}, {"CASE WHEN TRUE THEN " + castFails + " ELSE " + zeroFails + " END", null, impl.ErrCast},
		{"CASE WHEN FALSE THEN " + castFails + " ELSE " + zeroFails + " END", null, impl.ErrZero},
		{"coalesce(1)", intv(1), 0}, {"coalesce(NULL)", null, 0}, {"coalesce(NULL, NULL)", null, 0}, {"coalesce(NULL, 2, 3)", intv(2), 0}, {"coalesce(1, " + zeroFails + ")", intv(1), 0},
		{"coalesce(NULL, " + zeroFails + ", 3)", null, impl.ErrZero}, {"coalesce(" + castFails + ", " + zeroFails + ")", null, impl.ErrCast}, {"coalesce(NULL, FALSE)", boolv(false), 0},
		{"coalesce(NULL, 0)", intv(0), 0}, {"coalesce('', 'a')", textv(""), 0},
	})
}

func TestEvalOfCastsAndCalls(t *testing.T) {
	wantEvals(t, []evalCase{
		{"CAST('12' AS INT)", intv(12), 0}, {"CAST(2.5 AS INT)", intv(3), 0}, {"CAST(5 AS TEXT)", textv("5"), 0}, {"CAST(NULL AS DATE)", null, 0}, {"CAST(5 AS INT)", intv(5), 0},
		{"CAST(9223372036854775807 AS DECIMAL)", null, impl.ErrOverflow}, {"CAST(" + zeroFails + " AS TEXT)", null, impl.ErrZero}, {"CAST('2021-02-29' AS DATE)", null, impl.ErrCast},
		{"abs(-5)", intv(5), 0}, {"length('aé')", intv(2), 0}, {"lower('Ab')", textv("ab"), 0}, {"upper('Ab')", textv("AB"), 0}, {"substr('abc', 2, 1)", textv("b"), 0},
		{"nullif(1, 1)", null, 0}, {"nullif(1, 2)", intv(1), 0}, {"nullif(1, NULL)", intv(1), 0}, {"nullif(NULL, 1)", null, 0}, {"year(DATE '2020-02-29')", intv(2020), 0},
		{"month(DATE '2020-02-29')", intv(2), 0}, {"day(DATE '2020-02-29')", intv(29), 0}, {"round(2.5)", decv(30000), 0}, {"trim(' a ')", textv("a"), 0}, {"least(2, 1)", intv(1), 0},
		{"greatest('a', 'b')", textv("b"), 0}, {"abs(NULL)", null, 0}, {"least(NULL, 1)", null, 0},
		{"abs(- 9223372036854775807 - 1)", null, impl.ErrOverflow}, {"substr('abc', 1, -1)", null, impl.ErrCast}, {"substr(NULL, " + zeroFails + ", " + castFails + ")", null, impl.ErrZero},
		{"least(" + castFails + ", " + zeroFails + ")", null, impl.ErrCast}, {"nullif(NULL, " + zeroFails + ")", null, impl.ErrZero},
	})
	e := laid(castOf(impl.Null, castOf(impl.Null, constOf(null))))
	if got, code := impl.EvalExpr(e, nil); got != null || code != impl.OK {
		t.Errorf("NULL cast to its own kind: %v, %d", got, code)
	}
}

func TestEvalOfColumns(t *testing.T) {
	one := func(values ...impl.Value) [][]impl.Value { return [][]impl.Value{values} }
	cases := []struct {
		src  string
		rows [][]impl.Value
		want impl.Value
		code int
	}{
		{"i0", one(intv(5)), intv(5), 0}, {"i0", one(null), null, 0}, {"i0", one(decv(5)), null, impl.ErrBad}, {"d0", one(intv(5)), null, impl.ErrBad},
		{"t0", one(textv("x")), textv("x"), 0}, {"b0", one(boolv(true)), boolv(true), 0}, {"y0", one(datev(9)), datev(9), 0}, {"y0", one(intv(9)), null, impl.ErrBad},
		{"n0", one(null), null, 0}, {"n0", one(intv(5)), null, impl.ErrBad}, {"i1", one(intv(1), intv(2)), intv(2), 0}, {"i2", one(intv(1), intv(2)), null, impl.ErrBad},
		{"i0", nil, null, impl.ErrBad}, {"i0", [][]impl.Value{nil}, null, impl.ErrBad}, {"r1.i0", one(intv(1)), null, impl.ErrBad},
		{"r1.i0", [][]impl.Value{{intv(1)}, {intv(2)}}, intv(2), 0}, {"r1.i0 - i0", [][]impl.Value{{intv(1)}, {intv(9)}}, intv(8), 0},
		{"r2.t0", [][]impl.Value{nil, nil, {textv("z")}}, textv("z"), 0},
		{"i0 + i0", one(intv(math.MaxInt)), null, impl.ErrOverflow}, {"i0 / i1", one(intv(1), intv(0)), null, impl.ErrZero}, {"i0 / i1", one(null, intv(0)), null, 0},
		// A column that is not there is found, also where nothing would ask for it.
		{"FALSE AND b0", nil, null, impl.ErrBad}, {"TRUE OR b0", one(intv(1)), null, impl.ErrBad}, {"5 IN (5, i0)", one(textv("a")), null, impl.ErrBad},
		{"CASE WHEN TRUE THEN 1 ELSE i3 END", one(intv(1)), null, impl.ErrBad}, {"coalesce(1, i0)", nil, null, impl.ErrBad}, {zeroFails + " + i0", nil, null, impl.ErrBad},
		{"FALSE AND b0", one(boolv(true)), boolv(false), 0}, {"CASE WHEN b0 THEN i1 ELSE 1 / 0 END", one(boolv(true), intv(4)), intv(4), 0},
		{"CASE WHEN b0 THEN i1 ELSE 1 / 0 END", one(null, intv(4)), null, impl.ErrZero}, {"i0 IN (i1, i2)", one(intv(1), null, intv(1)), boolv(true), 0},
		{"i0 IN (i1, i2)", one(intv(1), null, intv(2)), null, 0},
	}
	for _, c := range cases {
		wantEval(t, c.src, c.rows, c.want, c.code)
	}
	// A NULL is of every kind, but of none that there is not.
	for _, kind := range oddNumbers() {
		wantCode := impl.ErrBad
		if kind >= impl.Null && kind <= impl.Date {
			wantCode = impl.OK
		}
		if got, code := impl.EvalExpr(laid(columnOf(kind, 0, 0)), one(null)); got != null || code != wantCode {
			t.Errorf("NULL at kind %d: %v, %d", kind, got, code)
		}
	}
}

func TestEvalOfRows(t *testing.T) {
	e := laid(constOf(intv(5)))
	wide := func(count int) []impl.Value { return slices.Repeat([]impl.Value{intv(1)}, count) }
	good := [][][]impl.Value{nil, {nil}, make([][]impl.Value, impl.MaxUp), {wide(impl.MaxWide)}, {nil, wide(impl.MaxWide), {null}}}
	bad := [][][]impl.Value{make([][]impl.Value, impl.MaxUp+1), {wide(impl.MaxWide + 1)}, append(make([][]impl.Value, impl.MaxUp-1), wide(impl.MaxWide+1))}
	for _, v := range invalidValues() {
		bad = append(bad, [][]impl.Value{{v}}, [][]impl.Value{nil, {intv(1), v}})
	}
	for _, v := range validValues() {
		good = append(good, [][]impl.Value{{v}})
	}
	for _, rows := range good {
		if got, code := impl.EvalExpr(e, rows); got != intv(5) || code != impl.OK {
			t.Errorf("%v: %v, %d", rows, got, code)
		}
	}
	for _, rows := range bad {
		if got, code := impl.EvalExpr(e, rows); got != null || code != impl.ErrBad {
			t.Errorf("%v: %v, %d", rows, got, code)
		}
	}
	last := append(make([][]impl.Value, impl.MaxUp-1), append(wide(impl.MaxWide-1), textv("end")))
	if got, code := impl.EvalExpr(laid(columnOf(impl.Text, 7, 31)), last); got != textv("end") || code != impl.OK {
		t.Errorf("the last column of the last row: %v, %d", got, code)
	}
}

func TestEvalByChance(t *testing.T) {
	g := exprGrower{grower: grower{&numberSource{state: 44}}, lists: manyLists()}
	codes := map[int]int{}
	for round := 0; round < 12000; round++ {
		e := laid(g.any(round % 6))
		if len(e.Nodes) > impl.MaxItems {
			continue
		}
		rows := g.rows()
		wantEvalValidity(t, e, rows)
		_, code := impl.EvalExpr(e, rows)
		codes[code]++
	}
	for _, code := range []int{impl.OK, impl.ErrOverflow, impl.ErrZero, impl.ErrCast} {
		if codes[code] < 20 {
			t.Errorf("codes: %v", codes)
		}
	}
}
