package tests

import (
	"math"
	"math/big"
	"strings"
	"testing"

	"loop.example/g00001/impl"
)

func TestValueOK(t *testing.T) {
	for _, v := range validValues() {
		if !impl.ValueOK(v) {
			t.Errorf("%v is valid", v)
		}
	}
	for _, v := range invalidValues() {
		if impl.ValueOK(v) {
			t.Errorf("%v is not valid", v)
		}
	}
}

func TestWrongValuesAreBadFirst(t *testing.T) {
	for _, bad := range invalidValues() {
		for _, other := range []impl.Value{null, intv(1), textv("a"), boolv(true)} {
			_, one := impl.Compare(bad, other)
			_, two := impl.Compare(other, bad)
			_, three := impl.Binary(impl.OpAdd, bad, other)
			_, four := impl.Binary(impl.OpAnd, other, bad)
			_, five := impl.Like(bad, other)
			_, six := impl.Like(other, bad)
			for i, code := range []int{one, two, three, four, five, six} {
				if code != impl.ErrBad {
					t.Errorf("question %d of %v: code %d", i+1, bad, code)
				}
			}
		}
	}
}

// kindRows is the document's table of operators, row by row.
func kindRows() [][4]int {
	var rows [][4]int
	for op := impl.OpAdd; op <= impl.OpMod; op++ {
		rows = append(rows, [4]int{op, impl.Int, impl.Int, impl.Int}, [4]int{op, impl.Dec, impl.Dec, impl.Dec},
			[4]int{op, impl.Int, impl.Dec, impl.Dec}, [4]int{op, impl.Dec, impl.Int, impl.Dec})
	}
	rows = append(rows, [4]int{impl.OpAdd, impl.Date, impl.Int, impl.Date}, [4]int{impl.OpAdd, impl.Int, impl.Date, impl.Date},
		[4]int{impl.OpSub, impl.Date, impl.Int, impl.Date}, [4]int{impl.OpSub, impl.Date, impl.Date, impl.Int},
		[4]int{impl.OpCat, impl.Text, impl.Text, impl.Text},
		[4]int{impl.OpAnd, impl.Bool, impl.Bool, impl.Bool}, [4]int{impl.OpOr, impl.Bool, impl.Bool, impl.Bool})
	for op := impl.OpEq; op <= impl.OpSame; op++ {
		for kind := impl.Int; kind <= impl.Date; kind++ {
			rows = append(rows, [4]int{op, kind, kind, impl.Bool})
		}
		rows = append(rows, [4]int{op, impl.Int, impl.Dec, impl.Bool}, [4]int{op, impl.Dec, impl.Int, impl.Bool})
	}
	return rows
}

func TestOpKindOfTwo(t *testing.T) {
	var table [16][6][6]int
	for op := range table {
		for a := range table[op] {
			for b := range table[op][a] {
				table[op][a][b] = -1
			}
		}
	}
	for _, row := range kindRows() {
		table[row[0]][row[1]][row[2]] = row[3]
	}
	for op := impl.OpAdd; op <= impl.OpOr; op++ {
		for kind := impl.Int; kind <= impl.Date; kind++ {
			for in := impl.Date; in >= impl.Int; in-- {
				if got := table[op][in][kind]; got != -1 {
					table[op][impl.Null][kind] = got
				}
				if got := table[op][kind][in]; got != -1 {
					table[op][kind][impl.Null] = got
				}
			}
		}
		table[op][impl.Null][impl.Null] = impl.Bool
		if op <= impl.OpMod {
			table[op][impl.Null][impl.Null] = impl.Null
		}
	}
	table[impl.OpCat][impl.Null][impl.Null] = impl.Text
	for op := impl.OpAdd; op <= impl.OpOr; op++ {
		for a := range table[op] {
			for b, want := range table[op][a] {
				if got := impl.OpKind(op, a, b); got != want {
					t.Errorf("OpKind %d %d %d: %d, not %d", op, a, b, got, want)
				}
			}
		}
	}
}

func TestOpKindOfOneAndOfNone(t *testing.T) {
	wanted := map[int][6]int{
		impl.OpNot:    {impl.Bool, -1, -1, -1, impl.Bool, -1},
		impl.OpNeg:    {impl.Null, impl.Int, impl.Dec, -1, -1, -1},
		impl.OpIsNull: {impl.Bool, impl.Bool, impl.Bool, impl.Bool, impl.Bool, impl.Bool},
	}
	for op, kinds := range wanted {
		for a, want := range kinds {
			for _, b := range oddNumbers() {
				if got := impl.OpKind(op, a, b); got != want {
					t.Errorf("OpKind %d %d %d: %d, not %d", op, a, b, got, want)
				}
			}
		}
	}
	for _, odd := range []int{math.MinInt, -1, 6, math.MaxInt} {
		for op := impl.OpAdd; op <= impl.OpIsNull; op++ {
			if impl.OpKind(op, odd, impl.Int) != -1 || op <= impl.OpOr && impl.OpKind(op, impl.Null, odd) != -1 {
				t.Errorf("operator %d takes a kind %d", op, odd)
			}
		}
	}
	for _, op := range []int{math.MinInt, -1, 0, 19, math.MaxInt} {
		if impl.OpKind(op, impl.Int, impl.Int) != -1 || impl.OpKind(op, impl.Null, impl.Null) != -1 {
			t.Errorf("operator %d has a kind", op)
		}
	}
}

// A failure but that of kinds never comes of kinds, and a result has the kind that OpKind tells.
func TestBinaryGivesOpKind(t *testing.T) {
	for op := impl.OpAdd; op <= impl.OpOr; op++ {
		for _, a := range validValues() {
			for _, b := range validValues() {
				kind := impl.OpKind(op, a.Kind, b.Kind)
				v, code := impl.Binary(op, a, b)
				if (code == impl.ErrType) != (kind == -1) || code == impl.OK && v != null && v.Kind != kind {
					t.Fatalf("operator %d of %v and %v: %v %d, kind %d", op, a, b, v, code, kind)
				}
				settles := op == impl.OpSame || op == impl.OpAnd || op == impl.OpOr
				if kind != -1 && !settles && (a == null || b == null) && (v != null || code != impl.OK) {
					t.Fatalf("operator %d of %v and %v: %v %d", op, a, b, v, code)
				}
			}
		}
	}
}

func TestThreeTruths(t *testing.T) {
	no, yes := boolv(false), boolv(true)
	cases := []struct{ a, b, and, or, same impl.Value }{
		{no, no, no, no, yes}, {no, yes, no, yes, no}, {no, null, no, null, no},
		{yes, no, no, yes, no}, {yes, yes, yes, yes, yes}, {yes, null, null, yes, no},
		{null, no, no, null, no}, {null, yes, null, yes, no}, {null, null, null, null, yes},
	}
	for _, c := range cases {
		and, andCode := impl.Binary(impl.OpAnd, c.a, c.b)
		or, orCode := impl.Binary(impl.OpOr, c.a, c.b)
		same, sameCode := impl.Binary(impl.OpSame, c.a, c.b)
		if and != c.and || or != c.or || same != c.same || andCode+orCode+sameCode != impl.OK {
			t.Errorf("%v and %v: %v %v %v", c.a, c.b, and, or, same)
		}
	}
	for _, op := range []int{impl.OpAnd, impl.OpOr} {
		if v, code := impl.Binary(op, no, intv(0)); v != null || code != impl.ErrType {
			t.Errorf("operator %d of a Bool and an Int: %v %d", op, v, code)
		}
	}
}

func TestUnary(t *testing.T) {
	cases := []struct {
		op   int
		a    impl.Value
		want impl.Value
		code int
	}{
		{impl.OpNot, boolv(true), boolv(false), 0}, {impl.OpNot, boolv(false), boolv(true), 0}, {impl.OpNot, null, null, 0},
		{impl.OpNot, intv(0), null, impl.ErrType}, {impl.OpNot, textv("true"), null, impl.ErrType},
		{impl.OpNeg, intv(5), intv(-5), 0}, {impl.OpNeg, intv(math.MaxInt), intv(-math.MaxInt), 0}, {impl.OpNeg, intv(-math.MaxInt), intv(math.MaxInt), 0},
		{impl.OpNeg, intv(math.MinInt), null, impl.ErrOverflow}, {impl.OpNeg, intv(0), intv(0), 0},
		{impl.OpNeg, decv(impl.MaxDec), decv(-impl.MaxDec), 0}, {impl.OpNeg, decv(-1), decv(1), 0}, {impl.OpNeg, null, null, 0},
		{impl.OpNeg, datev(1), null, impl.ErrType}, {impl.OpNeg, boolv(true), null, impl.ErrType},
		{impl.OpIsNull, null, boolv(true), 0}, {impl.OpIsNull, textv(""), boolv(false), 0}, {impl.OpIsNull, datev(0), boolv(false), 0},
		{impl.OpOr, boolv(true), null, impl.ErrBad}, {19, null, null, impl.ErrBad}, {impl.OpIsNull, impl.Value{N: 1}, null, impl.ErrBad},
	}
	for i, c := range cases {
		if v, code := impl.Unary(c.op, c.a); v != c.want || code != c.code {
			t.Errorf("case %d: %v %d", i, v, code)
		}
	}
}

func checkInts(t *testing.T, a, b int) {
	t.Helper()
	x, y := big.NewInt(int64(a)), big.NewInt(int64(b))
	wanted := map[int]*big.Int{impl.OpAdd: new(big.Int).Add(x, y), impl.OpSub: new(big.Int).Sub(x, y), impl.OpMul: new(big.Int).Mul(x, y)}
	for op, n := range wanted {
		want, wantCode := null, impl.ErrOverflow
		if n.IsInt64() {
			want, wantCode = intv(int(n.Int64())), impl.OK
		}
		if v, code := impl.Binary(op, intv(a), intv(b)); v != want || code != wantCode {
			t.Fatalf("operator %d of %d and %d: %v %d", op, a, b, v, code)
		}
	}
}

func TestIntArithmetic(t *testing.T) {
	for _, a := range edgeInts() {
		for _, b := range edgeInts() {
			checkInts(t, a, b)
		}
	}
	source := &numberSource{state: 11}
	for range 20000 {
		checkInts(t, source.next(), source.next())
	}
}

// roundedUnits is a fraction in whole units, half a unit away from zero, as a Dec and a code.
func roundedUnits(x *big.Rat) (impl.Value, int) {
	twice := new(big.Rat).Mul(new(big.Rat).Abs(x), big.NewRat(2*impl.Scale, 1))
	n := new(big.Int).Quo(twice.Num(), twice.Denom())
	n.Add(n, big.NewInt(1)).Rsh(n, 1)
	if n.Cmp(big.NewInt(impl.MaxDec)) > 0 {
		return null, impl.ErrOverflow
	}
	return decv(int(n.Int64()) * x.Sign()), impl.OK
}

// wantedDec works out an operator with a Dec by fractions without bounds.
func wantedDec(op int, a, b impl.Value) (impl.Value, int) {
	for _, v := range []impl.Value{a, b} {
		if _, code := roundedUnits(exactly(v)); code != impl.OK {
			return null, code
		}
	}
	x, y, result := exactly(a), exactly(b), new(big.Rat)
	if op >= impl.OpDiv && y.Sign() == 0 {
		return null, impl.ErrZero
	}
	switch op {
	case impl.OpAdd:
		result.Add(x, y)
	case impl.OpSub:
		result.Sub(x, y)
	case impl.OpMul:
		result.Mul(x, y)
	case impl.OpDiv:
		result.Quo(x, y)
	case impl.OpMod:
		times := new(big.Rat).Quo(x, y)
		whole := new(big.Rat).SetInt(new(big.Int).Quo(times.Num(), times.Denom()))
		result.Sub(x, whole.Mul(whole, y))
	}
	return roundedUnits(result)
}

func checkDecs(t *testing.T, a, b impl.Value) {
	t.Helper()
	for op := impl.OpAdd; op <= impl.OpMod; op++ {
		want, wantCode := wantedDec(op, a, b)
		if v, code := impl.Binary(op, a, b); v != want || code != wantCode {
			t.Fatalf("operator %d of %v and %v: %v %d, not %v %d", op, a, b, v, code, want, wantCode)
		}
	}
}

func TestDecArithmetic(t *testing.T) {
	t.Parallel()
	decs := decValues()
	for _, a := range decs {
		for _, b := range decs {
			checkDecs(t, a, b)
		}
		for _, b := range intValues() {
			checkDecs(t, a, b)
			checkDecs(t, b, a)
		}
	}
	source := &numberSource{state: 3}
	for range 20000 {
		checkDecs(t, decv(source.nextDec()), decv(source.nextDec()))
		checkDecs(t, decv(source.nextDec()), intv(source.next()))
	}
	for a := -30; a <= 30; a++ {
		for b := -30; b <= 30; b++ {
			checkDecs(t, decv(a*2500), decv(b))
			checkDecs(t, decv(a), decv(b*5000))
		}
	}
}

// An Int too great for a Dec is told ahead of a division by zero.
func TestDecFaultsInOrder(t *testing.T) {
	if v, code := impl.Binary(impl.OpDiv, intv(math.MaxInt), decv(0)); v != null || code != impl.ErrOverflow {
		t.Errorf("%v %d", v, code)
	}
	if v, code := impl.Binary(impl.OpMod, decv(0), intv(math.MinInt)); v != null || code != impl.ErrOverflow {
		t.Errorf("%v %d", v, code)
	}
	if v, code := impl.Binary(impl.OpDiv, null, decv(0)); v != null || code != impl.OK {
		t.Errorf("%v %d", v, code)
	}
	if v, code := impl.Binary(impl.OpDiv, decv(1), intv(0)); v != null || code != impl.ErrZero {
		t.Errorf("%v %d", v, code)
	}
}

func TestDateArithmetic(t *testing.T) {
	for _, day := range dateValues() {
		for _, n := range edgeInts() {
			sum := new(big.Int).Add(big.NewInt(int64(day.N)), big.NewInt(int64(n)))
			less := new(big.Int).Sub(big.NewInt(int64(day.N)), big.NewInt(int64(n)))
			checkDay(t, sum, impl.OpAdd, day, intv(n))
			checkDay(t, sum, impl.OpAdd, intv(n), day)
			checkDay(t, less, impl.OpSub, day, intv(n))
		}
		for _, other := range dateValues() {
			if v, code := impl.Binary(impl.OpSub, day, other); v != intv(day.N-other.N) || code != impl.OK {
				t.Errorf("days between %v and %v: %v %d", other, day, v, code)
			}
		}
	}
}

func checkDay(t *testing.T, n *big.Int, op int, a, b impl.Value) {
	t.Helper()
	want, wantCode := null, impl.ErrOverflow
	if n.IsInt64() && impl.MinDate <= n.Int64() && n.Int64() <= impl.MaxDate {
		want, wantCode = datev(int(n.Int64())), impl.OK
	}
	if v, code := impl.Binary(op, a, b); v != want || code != wantCode {
		t.Errorf("operator %d of %v and %v: %v %d", op, a, b, v, code)
	}
}

func TestCat(t *testing.T) {
	long := strings.Repeat("水", impl.MaxChars-1)
	if v, code := impl.Binary(impl.OpCat, textv(long), textv("𝄞")); v != textv(long+"𝄞") || code != impl.OK {
		t.Errorf("%v %d", v, code)
	}
	if v, code := impl.Binary(impl.OpCat, textv("ab"), textv(long)); v != null || code != impl.ErrOverflow {
		t.Errorf("%v %d", v, code)
	}
	if v, code := impl.Binary(impl.OpCat, textv("é"), textv("")); v != textv("é") || code != impl.OK {
		t.Errorf("%v %d", v, code)
	}
	if v, code := impl.Binary(impl.OpCat, textv("a"), intv(1)); v != null || code != impl.ErrType {
		t.Errorf("%v %d", v, code)
	}
}
