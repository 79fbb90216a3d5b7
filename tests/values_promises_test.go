package tests

import (
	"math"
	"math/big"
	"slices"
	"strings"
	"testing"

	"loop.example/g00001/impl"
)

// checkAnswer holds an answer against what chapter 1 asks of every one: zeros beside a code, else a valid value.
func checkAnswer(t *testing.T, what string, v impl.Value, code int) {
	t.Helper()
	if code != impl.OK && v != null {
		t.Fatalf("%s: %v beside code %d", what, v, code)
	}
	if code == impl.OK && !impl.ValueOK(v) {
		t.Fatalf("%s: %v is not valid", what, v)
	}
}

func TestP1OperatorsTakeAnything(t *testing.T) {
	values := append(validValues(), invalidValues()...)
	for _, a := range values {
		for _, op := range oddNumbers() {
			v, code := impl.Unary(op, a)
			checkAnswer(t, "Unary", v, code)
			if (code == impl.ErrBad) != (op < impl.OpNot || op > impl.OpIsNull || !impl.ValueOK(a)) {
				t.Fatalf("Unary %d of %v: code %d", op, a, code)
			}
			v, code = impl.Cast(a, op)
			checkAnswer(t, "Cast", v, code)
			if (code == impl.ErrBad) != (op < impl.Null || op > impl.Date || !impl.ValueOK(a)) {
				t.Fatalf("Cast of %v to %d: code %d", a, op, code)
			}
		}
		if (impl.Show(a) == "?") != !impl.ValueOK(a) || impl.Plain(a) == "" && a != textv("") {
			t.Fatalf("texts of %v: %q %q", a, impl.Show(a), impl.Plain(a))
		}
	}
	for _, a := range values {
		for _, b := range values {
			valid := impl.ValueOK(a) && impl.ValueOK(b)
			for _, op := range oddNumbers() {
				v, code := impl.Binary(op, a, b)
				checkAnswer(t, "Binary", v, code)
				if (code == impl.ErrBad) != (op < impl.OpAdd || op > impl.OpOr || !valid) {
					t.Fatalf("Binary %d of %v and %v: code %d", op, a, b, code)
				}
			}
			v, code := impl.Like(a, b)
			checkAnswer(t, "Like", v, code)
			order, code := impl.Compare(a, b)
			if order < -1 || order > 1 || code != impl.OK && order != 0 || (code == impl.ErrBad) == valid {
				t.Fatalf("Compare %v and %v: %d %d", a, b, order, code)
			}
		}
	}
}

func TestP1KindsTakeAnything(t *testing.T) {
	for _, op := range oddNumbers() {
		for _, a := range oddNumbers() {
			for _, b := range oddNumbers() {
				if kind := impl.OpKind(op, a, b); kind < -1 || kind > impl.Date {
					t.Fatalf("OpKind %d %d %d: %d", op, a, b, kind)
				}
				if kind := impl.CallKind(op, []int{a, b}); kind < -1 || kind > impl.Date {
					t.Fatalf("CallKind %d %d %d: %d", op, a, b, kind)
				}
			}
			none := a < impl.Null || a > impl.Date || op < impl.Null || op > impl.Date
			if none && impl.CastKind(op, a) {
				t.Fatalf("CastKind %d %d", op, a)
			}
		}
		if impl.CallKind(op, nil) != -1 || impl.CallKind(op, make([]int, 100)) != -1 {
			t.Fatalf("CallKind %d of no and of many arguments", op)
		}
	}
}

// checkCall asks for a function and that its arguments are left alone.
func checkCall(t *testing.T, fn int, args []impl.Value) {
	t.Helper()
	kept := slices.Clone(args)
	v, code := impl.Call(fn, args)
	checkAnswer(t, "Call", v, code)
	if !slices.Equal(args, kept) {
		t.Fatalf("Call %d wrote into its arguments", fn)
	}
	bad := len(args) > impl.MaxArgs || slices.ContainsFunc(args, func(v impl.Value) bool { return !impl.ValueOK(v) })
	if (code == impl.ErrBad) != bad {
		t.Fatalf("Call %d of %v: code %d", fn, args, code)
	}
	var kinds []int
	for _, arg := range args {
		kinds = append(kinds, arg.Kind)
	}
	keptKinds := slices.Clone(kinds)
	kind := impl.CallKind(fn, kinds)
	if !slices.Equal(kinds, keptKinds) {
		t.Fatalf("CallKind %d wrote into its argument", fn)
	}
	if !bad && (code == impl.ErrType) != (kind == -1) {
		t.Fatalf("Call %d of %v: code %d, kind %d", fn, args, code, kind)
	}
	if code == impl.OK && v.Kind != impl.Null && v.Kind != kind {
		t.Fatalf("Call %d of %v: %v, kind %d", fn, args, v, kind)
	}
}

func TestP1CallsTakeAnything(t *testing.T) {
	t.Parallel()
	values := append(validValues(), invalidValues()...)
	few := []impl.Value{null, intv(math.MinInt), intv(1), decv(5000), textv("é"), boolv(true), datev(0), {Kind: 9}}
	for _, fn := range oddNumbers() {
		checkCall(t, fn, nil)
		for _, a := range values {
			checkCall(t, fn, []impl.Value{a})
			for _, b := range few {
				checkCall(t, fn, []impl.Value{a, b})
				checkCall(t, fn, []impl.Value{b, a})
				for _, c := range few {
					checkCall(t, fn, []impl.Value{a, b, c})
				}
			}
		}
		for count := 4; count <= impl.MaxArgs+2; count++ {
			checkCall(t, fn, slices.Repeat([]impl.Value{textv("a")}, count))
			checkCall(t, fn, make([]impl.Value, count))
		}
	}
	for _, n := range edgeInts() {
		for _, m := range edgeInts() {
			checkCall(t, impl.FnSubstr, []impl.Value{textv("aé水𝄞"), intv(n), intv(m)})
		}
	}
}

func TestP1DatesTakeAnything(t *testing.T) {
	for _, a := range edgeInts() {
		for _, b := range edgeInts() {
			for _, d := range []int{a, b, 1, math.MinInt, math.MaxInt} {
				n, code := impl.DateOf(a, b, d)
				if code != impl.OK && n != 0 {
					t.Fatalf("DateOf %d %d %d: %d %d", a, b, d, n, code)
				}
			}
		}
		y, m, d, code := impl.DateParts(a)
		if code != impl.OK && (y != 0 || m != 0 || d != 0) || (code == impl.OK) != impl.ValueOK(datev(a)) {
			t.Fatalf("DateParts %d: %d %d %d %d", a, y, m, d, code)
		}
	}
}

// A pattern of many % must not be tried in all ways: this one would never end then.
func TestP1LikeEnds(t *testing.T) {
	text := strings.Repeat("a", impl.MaxChars)
	if v, code := impl.Like(textv(text), textv(strings.Repeat("%a", 127)+"b")); v != boolv(false) || code != impl.OK {
		t.Errorf("%v %d", v, code)
	}
	if v, code := impl.Like(textv(text), textv(strings.Repeat("%a", 127))); v != boolv(true) || code != impl.OK {
		t.Errorf("%v %d", v, code)
	}
}

// exactly is a number as a fraction without bounds.
func exactly(v impl.Value) *big.Rat {
	if v.Kind == impl.Dec {
		return big.NewRat(int64(v.N), impl.Scale)
	}
	return big.NewRat(int64(v.N), 1)
}

func wantedOrder(a, b impl.Value) int {
	switch {
	case a.Kind == impl.Null && b.Kind == impl.Null:
		return 0
	case a.Kind == impl.Null:
		return -1
	case b.Kind == impl.Null:
		return 1
	case a.Kind == impl.Text:
		return slices.Compare([]rune(a.S), []rune(b.S))
	}
	return exactly(a).Cmp(exactly(b))
}

func families() [][]impl.Value {
	return [][]impl.Value{
		append(append(intValues(), decValues()...), null),
		append(textValues(), null),
		append(boolValues(), null),
		append(dateValues(), null),
	}
}

func TestP2CompareIsTheOrder(t *testing.T) {
	for _, list := range families() {
		for _, a := range list {
			for _, b := range list {
				order, code := impl.Compare(a, b)
				if code != impl.OK || order != wantedOrder(a, b) {
					t.Fatalf("%v and %v: %d %d", a, b, order, code)
				}
			}
		}
	}
}

func TestP2CompareObeysTheLaws(t *testing.T) {
	for _, list := range families() {
		for _, a := range list {
			for _, b := range list {
				ab, _ := impl.Compare(a, b)
				if ba, _ := impl.Compare(b, a); ab != -ba {
					t.Fatalf("%v and %v: %d, back %d", a, b, ab, ba)
				}
				if a.Kind == b.Kind && (ab == 0) != (a == b) {
					t.Fatalf("%v and %v: %d", a, b, ab)
				}
				for _, c := range list {
					bc, _ := impl.Compare(b, c)
					if ac, _ := impl.Compare(a, c); ab <= 0 && bc <= 0 && ac != min(ab, bc) {
						t.Fatalf("%v, %v, %v: %d %d %d", a, b, c, ab, bc, ac)
					}
				}
			}
		}
	}
}

func TestP2OperatorsAgreeWithCompare(t *testing.T) {
	for _, list := range families() {
		for _, a := range list {
			for _, b := range list {
				order, _ := impl.Compare(a, b)
				wanted := map[int]bool{
					impl.OpSame: order == 0, impl.OpEq: order == 0, impl.OpNe: order != 0,
					impl.OpLt: order < 0, impl.OpLe: order <= 0, impl.OpGt: order > 0, impl.OpGe: order >= 0,
				}
				for op, truth := range wanted {
					want := boolv(truth)
					if op != impl.OpSame && (a == null || b == null) {
						want = null
					}
					if v, code := impl.Binary(op, a, b); v != want || code != impl.OK {
						t.Fatalf("operator %d of %v and %v: %v %d", op, a, b, v, code)
					}
				}
			}
		}
	}
}

func TestP2KindsApart(t *testing.T) {
	for _, a := range validValues() {
		for _, b := range validValues() {
			numbers := a.Kind != b.Kind && a.Kind+b.Kind == impl.Int+impl.Dec && a != null && b != null
			together := a.Kind == b.Kind || a == null || b == null || numbers
			_, code := impl.Compare(a, b)
			if together != (code == impl.OK) || !together && code != impl.ErrType {
				t.Fatalf("Compare %v and %v: code %d", a, b, code)
			}
			for op := impl.OpEq; op <= impl.OpSame; op++ {
				if _, code := impl.Binary(op, a, b); together != (code == impl.OK) || !together && code != impl.ErrType {
					t.Fatalf("operator %d of %v and %v: code %d", op, a, b, code)
				}
			}
		}
	}
}

// checkThroughText casts to Text and back, and asks Plain for the text between.
func checkThroughText(t *testing.T, v impl.Value) {
	t.Helper()
	text, code := impl.Cast(v, impl.Text)
	if code != impl.OK || text.Kind != impl.Text || !impl.ValueOK(text) {
		t.Fatalf("%v to text: %v %d", v, text, code)
	}
	if impl.Plain(v) != text.S {
		t.Fatalf("%v: plain %q, text %q", v, impl.Plain(v), text.S)
	}
	if back, code := impl.Cast(text, v.Kind); back != v || code != impl.OK {
		t.Fatalf("%v through %q: %v %d", v, text.S, back, code)
	}
}

func TestP4ThroughTextAndBack(t *testing.T) {
	for _, v := range validValues() {
		if v.Kind != impl.Text && v.Kind != impl.Null {
			checkThroughText(t, v)
		}
	}
	source := &numberSource{}
	for range 20000 {
		checkThroughText(t, intv(source.next()))
		checkThroughText(t, decv(source.nextDec()))
	}
	for n := -3 * impl.Scale; n <= 3*impl.Scale; n++ {
		checkThroughText(t, decv(n))
	}
	for n := impl.MinDate; n <= impl.MaxDate; n += 97 {
		checkThroughText(t, datev(n))
	}
	for kind := impl.Null; kind <= impl.Date; kind++ {
		if v, code := impl.Cast(null, kind); v != null || code != impl.OK {
			t.Errorf("NULL to %d: %v %d", kind, v, code)
		}
	}
	if impl.Plain(null) != "NULL" {
		t.Errorf("NULL: %q", impl.Plain(null))
	}
}

func checkDivision(t *testing.T, a, b int) {
	t.Helper()
	quotient, code := impl.Binary(impl.OpDiv, intv(a), intv(b))
	rest, restCode := impl.Binary(impl.OpMod, intv(a), intv(b))
	switch {
	case b == 0:
		if code != impl.ErrZero || restCode != impl.ErrZero || quotient != null || rest != null {
			t.Fatalf("%d by 0: %v %d, %v %d", a, quotient, code, rest, restCode)
		}
		return
	case a == math.MinInt && b == -1:
		if code != impl.ErrOverflow || quotient != null || rest != intv(0) || restCode != impl.OK {
			t.Fatalf("the least by -1: %v %d, %v %d", quotient, code, rest, restCode)
		}
		return
	case code != impl.OK || restCode != impl.OK:
		t.Fatalf("%d by %d: codes %d %d", a, b, code, restCode)
	}
	again := new(big.Int).Mul(big.NewInt(int64(quotient.N)), big.NewInt(int64(b)))
	again.Add(again, big.NewInt(int64(rest.N)))
	if again.Cmp(big.NewInt(int64(a))) != 0 {
		t.Fatalf("%d by %d: %d and %d", a, b, quotient.N, rest.N)
	}
	size := new(big.Int).Abs(big.NewInt(int64(rest.N)))
	if size.Cmp(new(big.Int).Abs(big.NewInt(int64(b)))) >= 0 || rest.N != 0 && (rest.N < 0) != (a < 0) {
		t.Fatalf("%d by %d leaves %d", a, b, rest.N)
	}
}

func TestP5QuotientAndRemainder(t *testing.T) {
	for _, a := range edgeInts() {
		for _, b := range edgeInts() {
			checkDivision(t, a, b)
		}
	}
	source := &numberSource{state: 5}
	for range 20000 {
		checkDivision(t, source.next(), source.next())
	}
}

// nextDay is the calendar's rule, told apart from any counting of days.
func nextDay(y, m, d int) (int, int, int) {
	lengths := [...]int{31, 28, 31, 30, 31, 30, 31, 31, 30, 31, 30, 31}
	last := lengths[m-1]
	if m == 2 && (y%400 == 0 || y%4 == 0 && y%100 != 0) {
		last = 29
	}
	switch {
	case d < last:
		return y, m, d + 1
	case m < 12:
		return y, m + 1, 1
	}
	return y + 1, 1, 1
}

func TestP5AllDays(t *testing.T) {
	y, m, d := 1, 1, 1
	for n := impl.MinDate; n <= impl.MaxDate; n++ {
		year, month, day, code := impl.DateParts(n)
		if year != y || month != m || day != d || code != impl.OK {
			t.Fatalf("day %d: %d-%d-%d code %d, not %d-%d-%d", n, year, month, day, code, y, m, d)
		}
		if back, code := impl.DateOf(y, m, d); back != n || code != impl.OK {
			t.Fatalf("%d-%d-%d: %d code %d, not %d", y, m, d, back, code, n)
		}
		y, m, d = nextDay(y, m, d)
	}
	if y != 10000 || m != 1 || d != 1 {
		t.Fatalf("the days end ahead of %d-%d-%d", y, m, d)
	}
}

func TestP5NoSuchDay(t *testing.T) {
	days := [][3]int{
		{0, 1, 1}, {-1, 1, 1}, {10000, 1, 1}, {2020, 0, 1}, {2020, 13, 1}, {2020, 1, 0}, {2020, 1, 32}, {2020, 4, 31}, {2020, 6, 31}, {2020, 9, 31},
		{2020, 11, 31}, {2020, 2, 30}, {2021, 2, 29}, {1900, 2, 29}, {2100, 2, 29}, {2020, -1, 1}, {2020, 1, -1},
		{math.MinInt, 1, 1}, {math.MaxInt, 1, 1}, {2020, math.MaxInt, 1}, {2020, math.MinInt, 1}, {2020, 1, math.MaxInt}, {2020, 1, math.MinInt},
	}
	for _, day := range days {
		if n, code := impl.DateOf(day[0], day[1], day[2]); n != 0 || code != impl.ErrCast {
			t.Errorf("%v: %d %d", day, n, code)
		}
	}
	for _, n := range []int{impl.MinDate - 1, impl.MaxDate + 1, math.MinInt, math.MaxInt} {
		if y, m, d, code := impl.DateParts(n); y != 0 || m != 0 || d != 0 || code != impl.ErrCast {
			t.Errorf("%d: %d %d %d %d", n, y, m, d, code)
		}
	}
}
