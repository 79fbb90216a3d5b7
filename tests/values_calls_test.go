package tests

import (
	"math"
	"math/big"
	"slices"
	"strings"
	"testing"

	"loop.example/g00001/impl"
)

// likely tries a pattern in all ways; both are short.
func likely(text, pattern []rune) bool {
	if len(pattern) == 0 {
		return len(text) == 0
	}
	switch c := pattern[0]; {
	case c == '%':
		return likely(text, pattern[1:]) || len(text) > 0 && likely(text[1:], pattern)
	case len(text) == 0:
		return false
	case c == '_':
		return likely(text[1:], pattern[1:])
	case c == '\\' && len(pattern) > 1:
		return text[0] == pattern[1] && likely(text[1:], pattern[2:])
	}
	return text[0] == pattern[0] && likely(text[1:], pattern[1:])
}

// allTexts are the texts of some characters up to a length.
func allTexts(chars []string, length int) []string {
	list, last := []string{""}, []string{""}
	for range length {
		var next []string
		for _, s := range last {
			for _, c := range chars {
				next = append(next, s+c)
			}
		}
		list, last = append(list, next...), next
	}
	return list
}

func TestLikeInAllWays(t *testing.T) {
	texts := allTexts([]string{"a", "é", "%", "\\", "_"}, 4)
	patterns := allTexts([]string{"a", "é", "%", "\\", "_"}, 4)
	for _, s := range texts {
		for _, p := range patterns {
			if v, code := impl.Like(textv(s), textv(p)); v != boolv(likely([]rune(s), []rune(p))) || code != impl.OK {
				t.Fatalf("%q like %q: %v %d", s, p, v, code)
			}
		}
	}
	for _, s := range allTexts([]string{"a", "b"}, 8) {
		for _, p := range []string{"%ab%", "%a_b%", "a%b%a", "%aa%bb%", "_%_%_", "%a%a%a%b", "%ab"} {
			if v, _ := impl.Like(textv(s), textv(p)); v != boolv(likely([]rune(s), []rune(p))) {
				t.Fatalf("%q like %q: %v", s, p, v)
			}
		}
	}
}

func TestLikeFaults(t *testing.T) {
	cases := []struct {
		s, p, want impl.Value
		code       int
	}{
		{null, textv("%"), null, 0}, {textv("a"), null, null, 0}, {null, null, null, 0},
		{intv(1), textv("1"), null, impl.ErrType}, {textv("1"), intv(1), null, impl.ErrType}, {null, boolv(true), null, impl.ErrType}, {datev(0), null, null, impl.ErrType},
		{textv("\xff"), textv("%"), null, impl.ErrBad}, {intv(1), textv("\xff"), null, impl.ErrBad},
	}
	for i, c := range cases {
		if v, code := impl.Like(c.s, c.p); v != c.want || code != c.code {
			t.Errorf("case %d: %v %d", i, v, code)
		}
	}
}

// fixedKinds are the functions whose kinds are always the same: the result's, then the arguments'.
func fixedKinds() map[int][]int {
	return map[int][]int{
		impl.FnLength: {impl.Int, impl.Text}, impl.FnLower: {impl.Text, impl.Text}, impl.FnUpper: {impl.Text, impl.Text},
		impl.FnSubstr: {impl.Text, impl.Text, impl.Int, impl.Int}, impl.FnYear: {impl.Int, impl.Date}, impl.FnMonth: {impl.Int, impl.Date},
		impl.FnDay: {impl.Int, impl.Date}, impl.FnRound: {impl.Dec, impl.Dec}, impl.FnTrim: {impl.Text, impl.Text},
	}
}

func wantedCallKind(fn int, kinds []int) int {
	if slices.ContainsFunc(kinds, func(kind int) bool { return kind < impl.Null || kind > impl.Date }) {
		return -1
	}
	if row := fixedKinds()[fn]; row != nil {
		if len(kinds) != len(row)-1 {
			return -1
		}
		for i, kind := range kinds {
			if kind != impl.Null && kind != row[i+1] {
				return -1
			}
		}
		return row[0]
	}
	switch {
	case fn == impl.FnAbs && len(kinds) == 1 && kinds[0] <= impl.Dec:
		return kinds[0]
	case fn < impl.FnNullif || fn > impl.FnGreatest || len(kinds) != 2:
		return -1
	}
	a, b := kinds[0], kinds[1]
	together := a == b || a == impl.Null || b == impl.Null
	numbers := a+b == impl.Int+impl.Dec
	switch {
	case fn == impl.FnNullif && (together || numbers):
		return a
	case fn == impl.FnNullif || !together:
		return -1
	}
	return max(a, b)
}

func TestCallKind(t *testing.T) {
	lists := [][]int{nil}
	for a := -1; a <= 6; a++ {
		lists = append(lists, []int{a})
		for b := -1; b <= 6; b++ {
			lists = append(lists, []int{a, b})
			for c := -1; c <= 6; c++ {
				lists = append(lists, []int{a, b, c}, []int{a, b, c, a})
			}
		}
	}
	lists = append(lists, []int{math.MaxInt}, []int{math.MinInt, impl.Null}, make([]int, impl.MaxArgs+1))
	for _, fn := range oddNumbers() {
		for _, kinds := range lists {
			if got := impl.CallKind(fn, kinds); got != wantedCallKind(fn, kinds) {
				t.Errorf("CallKind %d of %v: %d, not %d", fn, kinds, got, wantedCallKind(fn, kinds))
			}
		}
	}
}

func TestCallFaultsInOrder(t *testing.T) {
	cases := []struct {
		fn   int
		args []impl.Value
		code int
	}{
		{impl.FnAbs, nil, impl.ErrType}, {0, nil, impl.ErrType}, {14, []impl.Value{intv(1)}, impl.ErrType}, {math.MinInt, nil, impl.ErrType},
		{impl.FnAbs, make([]impl.Value, impl.MaxArgs), impl.ErrType}, {impl.FnAbs, make([]impl.Value, impl.MaxArgs+1), impl.ErrBad},
		{99, []impl.Value{{Kind: 9}}, impl.ErrBad}, {impl.FnLength, []impl.Value{textv("\xff")}, impl.ErrBad}, {impl.FnLength, []impl.Value{intv(1)}, impl.ErrType},
		{impl.FnSubstr, []impl.Value{null, textv("a"), intv(-1)}, impl.ErrType}, {impl.FnSubstr, []impl.Value{textv("a"), intv(1), intv(-1)}, impl.ErrCast},
		{impl.FnSubstr, []impl.Value{textv("a"), null, intv(-1)}, impl.OK}, {impl.FnAbs, []impl.Value{intv(math.MinInt)}, impl.ErrOverflow},
		{impl.FnRound, []impl.Value{intv(1)}, impl.ErrType}, {impl.FnRound, []impl.Value{decv(impl.MaxDec)}, impl.ErrOverflow},
		{impl.FnLeast, []impl.Value{intv(1), decv(1)}, impl.ErrType}, {impl.FnNullif, []impl.Value{intv(1), textv("1")}, impl.ErrType},
	}
	for i, c := range cases {
		if v, code := impl.Call(c.fn, c.args); v != null || code != c.code {
			t.Errorf("case %d: %v %d", i, v, code)
		}
	}
}

func TestCalls(t *testing.T) {
	cases := []struct {
		fn   int
		args []impl.Value
		want impl.Value
	}{
		{impl.FnAbs, []impl.Value{intv(-math.MaxInt)}, intv(math.MaxInt)}, {impl.FnAbs, []impl.Value{decv(-impl.MaxDec)}, decv(impl.MaxDec)}, {impl.FnAbs, []impl.Value{intv(0)}, intv(0)},
		{impl.FnLength, []impl.Value{textv("")}, intv(0)}, {impl.FnLength, []impl.Value{textv(strings.Repeat("𝄞", impl.MaxChars))}, intv(impl.MaxChars)},
		{impl.FnLower, []impl.Value{textv("@AZ[`az{ÀÉŽ水")}, textv("@az[`az{ÀÉŽ水")}, {impl.FnUpper, []impl.Value{textv("@AZ[`az{àßž\ufffd")}, textv("@AZ[`AZ{àßž\ufffd")},
		{impl.FnNullif, []impl.Value{intv(2), decv(20000)}, null}, {impl.FnNullif, []impl.Value{decv(20001), intv(2)}, decv(20001)}, {impl.FnNullif, []impl.Value{null, intv(2)}, null},
		{impl.FnNullif, []impl.Value{textv("a"), null}, textv("a")}, {impl.FnNullif, []impl.Value{null, null}, null}, {impl.FnNullif, []impl.Value{boolv(true), boolv(true)}, null},
		{impl.FnYear, []impl.Value{datev(impl.MinDate)}, intv(1)}, {impl.FnMonth, []impl.Value{datev(18321)}, intv(2)}, {impl.FnDay, []impl.Value{datev(18321)}, intv(29)},
		{impl.FnYear, []impl.Value{datev(impl.MaxDate)}, intv(9999)}, {impl.FnMonth, []impl.Value{datev(impl.MaxDate)}, intv(12)}, {impl.FnDay, []impl.Value{datev(impl.MaxDate)}, intv(31)},
		{impl.FnRound, []impl.Value{decv(14999)}, decv(10000)}, {impl.FnRound, []impl.Value{decv(15000)}, decv(20000)}, {impl.FnRound, []impl.Value{decv(-15000)}, decv(-20000)},
		{impl.FnRound, []impl.Value{decv(-4999)}, decv(0)}, {impl.FnRound, []impl.Value{decv(impl.MaxDec - 5000)}, decv(impl.MaxDec - 9999)},
		{impl.FnTrim, []impl.Value{textv("   ")}, textv("")}, {impl.FnTrim, []impl.Value{textv(" \ta b\n\u00a0 ")}, textv("\ta b\n\u00a0")},
		{impl.FnLeast, []impl.Value{textv("é"), textv("z")}, textv("z")}, {impl.FnGreatest, []impl.Value{textv("é"), textv("z")}, textv("é")},
		{impl.FnLeast, []impl.Value{intv(math.MinInt), intv(math.MaxInt)}, intv(math.MinInt)}, {impl.FnGreatest, []impl.Value{boolv(false), boolv(true)}, boolv(true)},
		{impl.FnGreatest, []impl.Value{datev(1), datev(-1)}, datev(1)}, {impl.FnLeast, []impl.Value{decv(-1), decv(1)}, decv(-1)}, {impl.FnLeast, []impl.Value{intv(1), null}, null},
		{impl.FnGreatest, []impl.Value{null, null}, null}, {impl.FnAbs, []impl.Value{null}, null}, {impl.FnLength, []impl.Value{null}, null}, {impl.FnTrim, []impl.Value{null}, null},
	}
	for i, c := range cases {
		if v, code := impl.Call(c.fn, c.args); v != c.want || code != impl.OK {
			t.Errorf("case %d: %v %d", i, v, code)
		}
	}
}

// The ends of a piece are whole numbers without bounds.
func TestSubstr(t *testing.T) {
	text := []rune("aé水𝄞b")
	bounds := append(edgeInts(), -6, -5, -4, -3, -2, 2, 3, 4, 5, 6)
	for _, from := range bounds {
		for _, count := range bounds {
			end := new(big.Int).Add(big.NewInt(int64(from)), big.NewInt(int64(count)))
			want, wantCode := "", impl.OK
			for i, c := range text {
				if from <= i+1 && end.Cmp(big.NewInt(int64(i+1))) > 0 {
					want += string(c)
				}
			}
			wanted := textv(want)
			if count < 0 {
				wanted, wantCode = null, impl.ErrCast
			}
			args := []impl.Value{textv(string(text)), intv(from), intv(count)}
			if v, code := impl.Call(impl.FnSubstr, args); v != wanted || code != wantCode {
				t.Errorf("from %d, %d: %v %d", from, count, v, code)
			}
		}
	}
}
