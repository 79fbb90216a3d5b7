package tests

import (
	"math"
	"slices"
	"strings"
	"testing"

	"loop.example/g00001/impl"
)

// validTokens are tokens of every kind, at the edges of each.
func validTokens() []impl.Token {
	list := []impl.Token{
		tok(impl.TokWord, "a", 0), tok(impl.TokWord, "_", 7), tok(impl.TokWord, "select", -1), tok(impl.TokWord, "z9_", math.MinInt),
		tok(impl.TokWord, strings.Repeat("b", impl.MaxName), math.MaxInt), tok(impl.TokQuoted, "a", 1), tok(impl.TokQuoted, "Left Join", 0),
		tok(impl.TokQuoted, `"`, 0), tok(impl.TokQuoted, `a""b`, 0), tok(impl.TokQuoted, " ", 0), tok(impl.TokQuoted, "~'--", 0),
		tok(impl.TokQuoted, strings.Repeat(`"`, impl.MaxName), 0), tok(impl.TokInt, "0", 0), tok(impl.TokInt, "10", 0),
		tok(impl.TokInt, "9223372036854775807", 0), tok(impl.TokDec, "0.0", 0), tok(impl.TokDec, "0.0000", 0), tok(impl.TokDec, "10.50", 0),
		tok(impl.TokDec, "99999999999999.9999", 0), tok(impl.TokString, "", 0),
	}
	for _, v := range textValues() {
		list = append(list, tok(impl.TokString, v.S, 0))
	}
	for _, sign := range allSigns() {
		list = append(list, tok(impl.TokSign, sign, 0))
	}
	return list
}

func invalidTokens() []impl.Token {
	list := []impl.Token{
		tok(0, "a", 0), tok(7, "a", 0), tok(-1, "(", 0), tok(math.MaxInt, "a", 0), tok(math.MinInt, "1", 0), {},
		tok(impl.TokWord, "", 0), tok(impl.TokWord, "A", 0), tok(impl.TokWord, "aB", 0), tok(impl.TokWord, "9a", 0), tok(impl.TokWord, "a b", 0),
		tok(impl.TokWord, "a ", 0), tok(impl.TokWord, " a", 0), tok(impl.TokWord, "a--", 0), tok(impl.TokWord, "é", 0), tok(impl.TokWord, "a.b", 0),
		tok(impl.TokWord, "5", 0), tok(impl.TokWord, `"a"`, 0), tok(impl.TokWord, "a\n", 0), tok(impl.TokWord, strings.Repeat("b", impl.MaxName+1), 0),
		tok(impl.TokQuoted, "", 0), tok(impl.TokQuoted, "\x1f", 0), tok(impl.TokQuoted, "\x7f", 0), tok(impl.TokQuoted, "é", 0), tok(impl.TokQuoted, "a\nb", 0),
		tok(impl.TokQuoted, strings.Repeat(`"`, impl.MaxName+1), 0), tok(impl.TokQuoted, strings.Repeat("a", 9000), 0),
		tok(impl.TokInt, "", 0), tok(impl.TokInt, "00", 0), tok(impl.TokInt, "01", 0), tok(impl.TokInt, "-1", 0), tok(impl.TokInt, "+1", 0),
		tok(impl.TokInt, "1.0", 0), tok(impl.TokInt, "1.", 0), tok(impl.TokInt, "1a", 0), tok(impl.TokInt, "9223372036854775808", 0), tok(impl.TokInt, "a", 0),
		tok(impl.TokInt, "1 ", 0), tok(impl.TokDec, "", 0), tok(impl.TokDec, "1", 0), tok(impl.TokDec, "1.", 0), tok(impl.TokDec, ".5", 0),
		tok(impl.TokDec, "00.5", 0), tok(impl.TokDec, "01.5", 0), tok(impl.TokDec, "-1.5", 0), tok(impl.TokDec, "1.12345", 0), tok(impl.TokDec, "123456789012345.0", 0),
		tok(impl.TokDec, "1.5.5", 0), tok(impl.TokDec, "1.5x", 0),
		tok(impl.TokString, strings.Repeat("a", impl.MaxChars+1), 0), tok(impl.TokString, strings.Repeat("水", impl.MaxChars+1), 0), tok(impl.TokString, strings.Repeat("'", 5000), 0),
		tok(impl.TokSign, "", 0), tok(impl.TokSign, "!=", 0), tok(impl.TokSign, "!", 0), tok(impl.TokSign, "|", 0), tok(impl.TokSign, "==", 0),
		tok(impl.TokSign, "--", 0), tok(impl.TokSign, "( ", 0), tok(impl.TokSign, "<=>", 0), tok(impl.TokSign, "a", 0), tok(impl.TokSign, "?", 0), tok(impl.TokSign, "()", 0),
	}
	for _, bad := range badTexts() {
		list = append(list, tok(impl.TokString, bad, 0))
	}
	return list
}

func withoutPositions(list []impl.Token) []impl.Token {
	list = slices.Clone(list)
	for i := range list {
		list[i].Pos = 0
	}
	return list
}

// wantBack checks that Lex gives the tokens back, each where its text stands.
func wantBack(t *testing.T, list []impl.Token) {
	t.Helper()
	text, code := impl.Unlex(list)
	if code != impl.OK {
		t.Fatalf("Unlex(%v) = %d", list, code)
	}
	back, code, pos := impl.Lex(text)
	if code != impl.OK || pos != 0 || !sameTokens(withoutPositions(back), withoutPositions(list)) {
		t.Fatalf("Lex(%q) = %v, %d, %d; want %v", text, back, code, pos, list)
	}
	at := 0
	for i, found := range back {
		if found.Pos != at {
			t.Fatalf("%q: token %d stands at %d, told at %d", text, i, at, found.Pos)
		}
		own, _ := impl.Unlex(list[i : i+1])
		at += len(own) + 1
	}
}

func TestPromise6EachToken(t *testing.T) {
	wantBack(t, nil)
	for _, a := range validTokens() {
		wantBack(t, []impl.Token{a})
		for _, b := range validTokens() {
			wantBack(t, []impl.Token{a, b})
		}
	}
}

func TestPromise6ManyTokens(t *testing.T) {
	numbers, all := &numberSource{state: 66}, validTokens()
	for round := 0; round < 2000; round++ {
		var list []impl.Token
		for count := below(numbers, 8); count > 0; count-- {
			list = append(list, all[below(numbers, len(all))])
		}
		wantBack(t, list)
	}
	wantBack(t, slices.Repeat([]impl.Token{tok(impl.TokSign, "<=", 3), tok(impl.TokInt, "7", 4)}, impl.MaxTokens/2))
}

// What Lex has given are valid tokens, so that a text's tokens outlive its writing.
func TestPromise6OfTexts(t *testing.T) {
	numbers := &numberSource{state: 666}
	for round := 0; round < 20000; round++ {
		if list, code, _ := impl.Lex(randomSource(numbers, lexPieces(), 10)); code == impl.OK {
			wantBack(t, list)
		}
	}
}

func TestPromise1OfTokens(t *testing.T) {
	numbers := &numberSource{state: 1}
	for round := 0; round < 20000; round++ {
		bytes := make([]byte, below(numbers, 40))
		for i := range bytes {
			bytes[i] = byte(below(numbers, 256))
		}
		src := string(bytes)
		list, code, pos := impl.Lex(src)
		again, againCode, againPos := impl.Lex(src)
		if code != againCode || pos != againPos || !sameTokens(list, again) {
			t.Fatalf("Lex(%q) answers twice in two ways", src)
		}
		if code != impl.OK && len(list) != 0 || code == impl.OK && pos != 0 || pos < 0 || pos > len(src) {
			t.Fatalf("Lex(%q) = %v, %d, %d", src, list, code, pos)
		}
		impl.Reserved(src)
		impl.NameText(src)
	}
	for _, huge := range []string{strings.Repeat("\"", 1000000), strings.Repeat("'", 1000000), strings.Repeat("9", 1000000), strings.Repeat("\xff", 1000000)} {
		wantFault(t, huge, impl.ErrBig, 0)
		if impl.Reserved(huge) || impl.NameText(huge) != "?" {
			t.Errorf("a huge name that begins with %q", huge[0])
		}
		for kind := -1; kind < 8; kind++ {
			wantUnlexFault(t, []impl.Token{tok(kind, huge, 0)}, impl.ErrBad)
		}
	}
}

func TestPromise1UnlexWritesNothing(t *testing.T) {
	for _, list := range [][]impl.Token{validTokens(), invalidTokens()} {
		given := slices.Clone(list)
		impl.Unlex(given)
		if !sameTokens(given, list) {
			t.Errorf("Unlex wrote into its list")
		}
	}
	list, _, _ := impl.Lex("a b")
	list[0].Text = "changed"
	wantTokens(t, "a b", tok(impl.TokWord, "a", 0), tok(impl.TokWord, "b", 2))
}
