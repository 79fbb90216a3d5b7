package tests

import (
	"math"
	"os"
	"runtime/debug"
	"slices"
	"strings"
	"testing"

	"loop.example/g00001/impl"
)

// TestMain lets garbage lie longer: the tests make many small things, and keep few.
func TestMain(m *testing.M) {
	debug.SetGCPercent(1000)
	os.Exit(m.Run())
}

var null = impl.Value{}

func intv(n int) impl.Value     { return impl.Value{Kind: impl.Int, N: n} }
func decv(n int) impl.Value     { return impl.Value{Kind: impl.Dec, N: n} }
func textv(s string) impl.Value { return impl.Value{Kind: impl.Text, S: s} }
func datev(n int) impl.Value    { return impl.Value{Kind: impl.Date, N: n} }

func boolv(b bool) impl.Value {
	if b {
		return impl.Value{Kind: impl.Bool, N: 1}
	}
	return impl.Value{Kind: impl.Bool}
}

// edgeInts stand around every bound that the document names for numbers.
func edgeInts() []int {
	around := []int{
		0, impl.Scale, -impl.Scale, impl.Scale / 2, -impl.Scale / 2,
		impl.MaxDec, -impl.MaxDec, impl.MaxDec / impl.Scale, -impl.MaxDec / impl.Scale,
		impl.MinDate, impl.MaxDate, impl.MaxDate - impl.MinDate, impl.MinDate - impl.MaxDate,
		math.MaxInt32, math.MinInt32, 3037000499, -3037000499, 4294967296,
	}
	list := []int{math.MaxInt, math.MaxInt - 1, math.MinInt, math.MinInt + 1, 7, -7, 12345678901, 15000, -15000, 14999}
	for _, n := range around {
		list = append(list, n-1, n, n+1)
	}
	return list
}

func inRange(list []int, least, most int) []int {
	var kept []int
	for _, n := range list {
		if least <= n && n <= most {
			kept = append(kept, n)
		}
	}
	return kept
}

func intValues() []impl.Value {
	var list []impl.Value
	for _, n := range edgeInts() {
		list = append(list, intv(n))
	}
	return list
}

func decValues() []impl.Value {
	var list []impl.Value
	for _, n := range inRange(edgeInts(), -impl.MaxDec, impl.MaxDec) {
		list = append(list, decv(n))
	}
	return list
}

func dateValues() []impl.Value {
	var list []impl.Value
	for _, n := range inRange(edgeInts(), impl.MinDate, impl.MaxDate) {
		list = append(list, datev(n))
	}
	return append(list, datev(18321), datev(11016))
}

// textValues hold characters of one to four bytes, both ends of each length, and the forms that casts read.
func textValues() []impl.Value {
	list := []string{
		"", " ", "  a b ", "a", "A", "ab", "b", "B", "z", "Z", "é", "É", "水", "𝄞", "\x00", "\x7f", "\u0080", "\u07ff", "\u0800", "\uffff", "\ufffd",
		"\U00010000", "\U0010ffff", "\ud7ff", "\ue000", "it's", "%", "_", "\\", "a\\%", "%a_", "'", "true", "false", "TRUE", "12", "-12", "1.5", "-0",
		"9223372036854775807", "-9223372036854775808", "9223372036854775808", "99999999999999.9999", "2020-02-29", "2021-02-29", "0001-01-01",
		strings.Repeat("a", impl.MaxChars), strings.Repeat("𝄞", impl.MaxChars), strings.Repeat("%a", 127),
	}
	var values []impl.Value
	for _, s := range list {
		values = append(values, textv(s))
	}
	return values
}

func boolValues() []impl.Value { return []impl.Value{boolv(false), boolv(true)} }

func validValues() []impl.Value {
	list := []impl.Value{null}
	list = append(list, intValues()...)
	list = append(list, decValues()...)
	list = append(list, textValues()...)
	list = append(list, boolValues()...)
	return append(list, dateValues()...)
}

func invalidValues() []impl.Value {
	list := []impl.Value{
		{N: 1}, {S: "x"}, {Kind: impl.Int, S: "1"}, {Kind: impl.Dec, S: "1"}, {Kind: impl.Text, N: 1, S: "a"}, {Kind: impl.Bool, S: "true"},
		{Kind: impl.Date, S: "2020-01-01"}, {Kind: -1}, {Kind: 6}, {Kind: math.MaxInt}, {Kind: math.MinInt},
		boolish(2), boolish(-1), decv(impl.MaxDec + 1), decv(-impl.MaxDec - 1), decv(math.MaxInt), decv(math.MinInt),
		datev(impl.MinDate - 1), datev(impl.MaxDate + 1), datev(math.MaxInt), datev(math.MinInt),
		textv(strings.Repeat("a", impl.MaxChars+1)), textv(strings.Repeat("𝄞", impl.MaxChars+1)),
	}
	for _, s := range badTexts() {
		list = append(list, textv(s))
	}
	return list
}

func boolish(n int) impl.Value { return impl.Value{Kind: impl.Bool, N: n} }

// badTexts are no UTF-8: lone and missing bytes, longer forms than needed, halves of pairs, beyond the last character.
func badTexts() []string {
	return []string{
		"\xff", "\x80", "a\xc3", "\xc3(", "\xe6\xb0", "\xf0\x9d\x84", "\xc0\x80", "\xc1\xbf", "\xe0\x80\x80", "\xe0\x9f\xbf", "\xf0\x80\x80\x80",
		"\xf0\x8f\xbf\xbf", "\xed\xa0\x80", "\xed\xbf\xbf", "\xf4\x90\x80\x80", "\xf8\x88\x80\x80\x80", "ok\xfe",
	}
}

// oddNumbers are handed in where an operator, a function or a kind is asked for.
func oddNumbers() []int {
	list := []int{math.MinInt, math.MinInt + 1, math.MaxInt - 1, math.MaxInt}
	for n := -3; n <= 24; n++ {
		list = append(list, n)
	}
	return list
}

// wantApart asks that no two lists share memory: what is written into one, or behind its end, is seen in no other.
func wantApart(t *testing.T, what string, lists [][]int) {
	t.Helper()
	want := cloned(lists)
	for i, list := range lists {
		_ = append(list, -1, -2, -3)
		for k := range list {
			list[k] = -5
		}
		for k := i + 1; k < len(lists); k++ {
			if !slices.Equal(lists[k], want[k]) {
				t.Fatalf("%s: list %d shares memory with list %d", what, k, i)
			}
		}
	}
}

func kidsOfExpr(e impl.Expr) [][]int {
	var lists [][]int
	for _, node := range e.Nodes {
		lists = append(lists, node.Kids)
	}
	return lists
}

// numberSource makes numbers of all sizes that are the same in every run.
type numberSource struct{ state uint64 }

func (s *numberSource) next() int {
	s.state = s.state*6364136223846793005 + 1442695040888963407
	mixed := (s.state ^ s.state>>29) * 0xbf58476d1ce4e5b9
	mixed ^= mixed >> 32
	shift := s.state >> 58
	return int(mixed) >> shift
}

func (s *numberSource) nextDec() int { return s.next() % (impl.MaxDec + 1) }
