package tests

import (
	"slices"
	"strings"
	"testing"

	"loop.example/g00001/impl"
)

func wantUnlexFault(t *testing.T, list []impl.Token, code int) {
	t.Helper()
	if text, got := impl.Unlex(list); text != "" || got != code {
		t.Errorf("Unlex of %d tokens = %.40q, %d; want code %d", len(list), text, got, code)
	}
}

func TestUnlexText(t *testing.T) {
	for _, c := range []struct {
		list []impl.Token
		text string
	}{
		{nil, ""},
		{[]impl.Token{}, ""},
		{[]impl.Token{tok(impl.TokWord, "from", 5)}, "from"},
		{[]impl.Token{tok(impl.TokSign, "-", 0), tok(impl.TokSign, "-", 0)}, "- -"},
		{[]impl.Token{tok(impl.TokSign, "<", 0), tok(impl.TokSign, ">", 0), tok(impl.TokSign, "<>", 0)}, "< > <>"},
		{[]impl.Token{tok(impl.TokInt, "5", 9), tok(impl.TokWord, "a", 9)}, "5 a"},
		{[]impl.Token{tok(impl.TokInt, "5", 0), tok(impl.TokSign, ".", 0), tok(impl.TokInt, "5", 0)}, "5 . 5"},
		{[]impl.Token{tok(impl.TokQuoted, `"x"`, 0), tok(impl.TokQuoted, "it's", 0)}, `"""x""" "it's"`},
		{[]impl.Token{tok(impl.TokString, `"x"`, 0), tok(impl.TokString, "it's", 0), tok(impl.TokString, "", 0)}, `'"x"' 'it''s' ''`},
		{[]impl.Token{tok(impl.TokString, "a", 0), tok(impl.TokString, "b", 0)}, `'a' 'b'`},
		{[]impl.Token{tok(impl.TokDec, "0.50", 0)}, "0.50"},
	} {
		if text, code := impl.Unlex(c.list); text != c.text || code != impl.OK {
			t.Errorf("Unlex(%v) = %q, %d; want %q", c.list, text, code, c.text)
		}
	}
}

func TestUnlexInvalid(t *testing.T) {
	good := tok(impl.TokWord, "a", 0)
	for _, bad := range invalidTokens() {
		wantUnlexFault(t, []impl.Token{bad}, impl.ErrBad)
		wantUnlexFault(t, []impl.Token{good, bad}, impl.ErrBad)
		wantUnlexFault(t, []impl.Token{bad, good}, impl.ErrBad)
	}
}

func TestUnlexBounds(t *testing.T) {
	one := []impl.Token{tok(impl.TokInt, "1", 0)}
	if text, code := impl.Unlex(slices.Repeat(one, impl.MaxTokens)); code != impl.OK || len(text) != 2*impl.MaxTokens-1 {
		t.Errorf("MaxTokens tokens: %d bytes, %d", len(text), code)
	}
	wantUnlexFault(t, slices.Repeat(one, impl.MaxTokens+1), impl.ErrBad)

	// 32 times 249 and 31 spaces are 7999 bytes, less one for the last name.
	long := slices.Repeat([]impl.Token{tok(impl.TokString, strings.Repeat("s", 247), 0)}, 31)
	full := append(slices.Clone(long), tok(impl.TokString, strings.Repeat("s", 248), 0))
	if text, code := impl.Unlex(full); code != impl.OK || len(text) != impl.MaxSource {
		t.Errorf("MaxSource bytes: %d bytes, %d", len(text), code)
	}
	over := append(slices.Clone(long), tok(impl.TokString, strings.Repeat("s", 247)+"'", 0))
	wantUnlexFault(t, over, impl.ErrBig)
	wantUnlexFault(t, append(over, tok(impl.TokWord, "A", 0)), impl.ErrBad)
	wantUnlexFault(t, slices.Repeat(over, 63), impl.ErrBad)
}

// reservedWords stand here as the document lists them.
const reservedWords = `all and as asc avg begin between by boolean case cast check checkpoint commit count create cross date decimal default delete desc distinct drop else end except exists explain false first from group having in index inner insert
int into is join key last left like limit max min not null nulls offset on or order outer primary release rollback savepoint select serializable set snapshot sum table text then to true union unique update values when where`

func TestReserved(t *testing.T) {
	words := strings.Fields(reservedWords)
	if len(words) != 77 {
		t.Fatalf("%d words", len(words))
	}
	for _, word := range words {
		if !impl.Reserved(word) {
			t.Errorf("%s is reserved", word)
		}
		for _, other := range []string{strings.ToUpper(word), word + " ", " " + word, word[1:], word + "x", `"` + word + `"`} {
			if impl.Reserved(other) != slices.Contains(words, other) {
				t.Errorf("%q beside %q", other, word)
			}
		}
	}
	for _, word := range []string{"", " ", "name", "integer", "abs", "transaction", "and as", "int into", "using", "right", "full", "isnull", "primary key", "\xff"} {
		if impl.Reserved(word) {
			t.Errorf("%q is not reserved", word)
		}
	}
}

func TestNameText(t *testing.T) {
	longest := strings.Repeat("n", impl.MaxName)
	for name, want := range map[string]string{
		"a": "a", "_": "_", "a9_": "a9_", "names": "names", longest: longest, "A": `"A"`, "aB": `"aB"`, "9a": `"9a"`, "9": `"9"`, " ": `" "`, "a b": `"a b"`, "~": `"~"`,
		`"`: `""""`, `a""b`: `"a""""b"`, "a.b": `"a.b"`, "--": `"--"`, "it's": `"it's"`, "Select": `"Select"`, strings.ToUpper(longest): `"` + strings.ToUpper(longest) + `"`,
		strings.Repeat(`"`, impl.MaxName): `"` + strings.Repeat(`""`, impl.MaxName) + `"`, "1.5": `"1.5"`, "'s'": `"'s'"`, "(": `"("`,
		"": "?", longest + "n": "?", strings.ToUpper(longest) + "N": "?", "\x1f": "?", "\x7f": "?", "a\n": "?", "\x00": "?", "é": "?", "\xff": "?", "select\t": "?",
	} {
		if got := impl.NameText(name); got != want {
			t.Errorf("NameText(%q) = %s; want %s", name, got, want)
		}
	}
	for _, word := range strings.Fields(reservedWords) {
		if got := impl.NameText(word); got != `"`+word+`"` {
			t.Errorf("NameText(%q) = %s", word, got)
		}
	}
}

// A name's text is one token, whose Text is the name.
func TestNameTextIsRead(t *testing.T) {
	for b := 32; b <= 126; b++ {
		for _, name := range []string{string(rune(b)), "a" + string(rune(b)), string(rune(b)) + "a"} {
			list, code, _ := impl.Lex(impl.NameText(name))
			if code != impl.OK || len(list) != 1 || list[0].Text != name {
				t.Errorf("the text of the name %q is read as %v, %d", name, list, code)
			}
		}
	}
}

func TestTokenConstants(t *testing.T) {
	if impl.MaxSource != 8000 || impl.MaxTokens != 2000 || impl.MaxName != 30 {
		t.Errorf("bounds: %d %d %d", impl.MaxSource, impl.MaxTokens, impl.MaxName)
	}
	kinds := []int{impl.TokWord, impl.TokQuoted, impl.TokInt, impl.TokDec, impl.TokString, impl.TokSign}
	if !slices.Equal(kinds, []int{1, 2, 3, 4, 5, 6}) {
		t.Errorf("kinds: %v", kinds)
	}
}
