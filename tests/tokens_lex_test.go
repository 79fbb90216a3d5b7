package tests

import (
	"math/big"
	"regexp"
	"strings"
	"testing"
	"unicode/utf8"

	"loop.example/g00001/impl"
)

func tok(kind int, text string, pos int) impl.Token {
	return impl.Token{Kind: kind, Text: text, Pos: pos}
}

func sameTokens(a, b []impl.Token) bool {
	if len(a) != len(b) {
		return false
	}
	for i := range a {
		if a[i] != b[i] {
			return false
		}
	}
	return true
}

func wantTokens(t *testing.T, src string, want ...impl.Token) {
	t.Helper()
	list, code, pos := impl.Lex(src)
	if code != impl.OK || pos != 0 || !sameTokens(list, want) {
		t.Errorf("Lex(%.60q) = %v, %d, %d; want %v", src, list, code, pos, want)
	}
}

func wantFault(t *testing.T, src string, code, pos int) {
	t.Helper()
	list, gotCode, gotPos := impl.Lex(src)
	if len(list) != 0 || gotCode != code || gotPos != pos {
		t.Errorf("Lex(%.60q) = %d tokens, %d, %d; want code %d at %d", src, len(list), gotCode, gotPos, code, pos)
	}
}

func allSigns() []string {
	return []string{"<=", ">=", "<>", "||", "(", ")", ",", ".", ";", "+", "-", "*", "/", "%", "=", "<", ">"}
}

func TestLexBetweenTokens(t *testing.T) {
	wantTokens(t, "")
	wantTokens(t, " \t\r\n")
	wantTokens(t, "--")
	wantTokens(t, "-- no end ' \" ? \xff \x00")
	wantTokens(t, "--\n--\r--\n")
	wantTokens(t, "--a\rb\nc", tok(impl.TokWord, "c", 6))
	wantTokens(t, "a--b\n--c\n\td", tok(impl.TokWord, "a", 0), tok(impl.TokWord, "d", 10))
	wantTokens(t, "5--", tok(impl.TokInt, "5", 0))
	wantTokens(t, "5- -", tok(impl.TokInt, "5", 0), tok(impl.TokSign, "-", 1), tok(impl.TokSign, "-", 3))
	wantTokens(t, "---", []impl.Token{}...)
	for b := 0; b < 256; b++ {
		src := "x" + string([]byte{byte(b)})
		blank := strings.IndexByte(" \t\n\r", byte(b)) >= 0
		if list, code, _ := impl.Lex(src); blank != (code == impl.OK && len(list) == 1 && list[0].Text == "x") {
			t.Errorf("byte %d behind a word: %v %d", b, list, code)
		}
	}
}

func TestLexWords(t *testing.T) {
	wantTokens(t, "aZ_09zA", tok(impl.TokWord, "az_09za", 0))
	wantTokens(t, "_", tok(impl.TokWord, "_", 0))
	wantTokens(t, " SeLeCt", tok(impl.TokWord, "select", 1))
	wantTokens(t, "ABCDEFGHIJKLMNOPQRSTUVWXYZ", tok(impl.TokWord, "abcdefghijklmnopqrstuvwxyz", 0))
	wantTokens(t, "a.b", tok(impl.TokWord, "a", 0), tok(impl.TokSign, ".", 1), tok(impl.TokWord, "b", 2))
	longest := strings.Repeat("aB3", impl.MaxName/3)
	wantTokens(t, longest, tok(impl.TokWord, strings.ToLower(longest), 0))
	wantFault(t, longest+"x", impl.ErrBig, 0)
	wantFault(t, "  "+longest+"_ ?", impl.ErrBig, 2)
	wantFault(t, "aé", impl.ErrToken, 1)
}

func TestLexQuoted(t *testing.T) {
	wantTokens(t, `"a"`, tok(impl.TokQuoted, "a", 0))
	wantTokens(t, `"A b;--'c"d`, tok(impl.TokQuoted, "A b;--'c", 0), tok(impl.TokWord, "d", 10))
	wantTokens(t, `""""`, tok(impl.TokQuoted, `"`, 0))
	wantTokens(t, `"a""b"""`, tok(impl.TokQuoted, `a"b"`, 0))
	wantTokens(t, `"a" "b"`, tok(impl.TokQuoted, "a", 0), tok(impl.TokQuoted, "b", 4))
	wantTokens(t, `" ~"`, tok(impl.TokQuoted, " ~", 0))
	for _, src := range []string{`""`, `"`, `"a`, `"a""`, `"""`, `""a"`, "\"a\x1f\"", "\"\x7f\"", "\"é\"", "\"a\nb\"", "\"\x00\""} {
		wantFault(t, src, impl.ErrToken, 0)
		wantFault(t, "ab "+src, impl.ErrToken, 3)
	}
	longest := strings.Repeat(`""`, impl.MaxName)
	wantTokens(t, `"`+longest+`"`, tok(impl.TokQuoted, strings.Repeat(`"`, impl.MaxName), 0))
	wantFault(t, `"`+longest+`x"`, impl.ErrBig, 0)
	wantFault(t, `"`+longest+"x\n\"", impl.ErrToken, 0)
	wantFault(t, `"`+longest+"xyz", impl.ErrToken, 0)
}

func TestLexInts(t *testing.T) {
	noughts := strings.Repeat("0", 5000)
	for src, text := range map[string]string{
		"0": "0", "00": "0", "7": "7", "007": "7", "70": "70", "0070": "70", noughts: "0", noughts + "1": "1",
		"9223372036854775807": "9223372036854775807", noughts + "9223372036854775807": "9223372036854775807", "1000000000000000000": "1000000000000000000",
	} {
		wantTokens(t, src, tok(impl.TokInt, text, 0))
		wantTokens(t, src+".", tok(impl.TokInt, text, 0), tok(impl.TokSign, ".", len(src)))
		wantTokens(t, src+".a", tok(impl.TokInt, text, 0), tok(impl.TokSign, ".", len(src)), tok(impl.TokWord, "a", len(src)+1))
		wantTokens(t, src+". 5", tok(impl.TokInt, text, 0), tok(impl.TokSign, ".", len(src)), tok(impl.TokInt, "5", len(src)+2))
		wantFault(t, src+"_", impl.ErrToken, len(src))
		wantFault(t, " "+src+"e5", impl.ErrToken, len(src)+1)
	}
	for _, src := range []string{"9223372036854775808", "9300000000000000000", "10000000000000000000", "00018446744073709551617", strings.Repeat("9", 4000)} {
		wantFault(t, src, impl.ErrBig, 0)
		wantFault(t, "- "+src+"a", impl.ErrBig, 2)
		wantFault(t, src+".", impl.ErrBig, 0)
	}
}

func TestLexDecs(t *testing.T) {
	noughts := strings.Repeat("0", 3000)
	for src, text := range map[string]string{
		"0.0": "0.0", "00.50": "0.50", "1.0000": "1.0000", "99999999999999.9999": "99999999999999.9999", noughts + "12345678901234.5": "12345678901234.5",
		"10.01": "10.01", noughts + ".0": "0.0",
	} {
		wantTokens(t, src, tok(impl.TokDec, text, 0))
		wantTokens(t, src+".7", tok(impl.TokDec, text, 0), tok(impl.TokSign, ".", len(src)), tok(impl.TokInt, "7", len(src)+1))
		wantFault(t, src+"x", impl.ErrToken, len(src))
		wantFault(t, src+"_1", impl.ErrToken, len(src))
	}
	wantTokens(t, ".5", tok(impl.TokSign, ".", 0), tok(impl.TokInt, "5", 1))
	for _, src := range []string{"123456789012345.0", "0.00000", "1.12345", "99999999999999999999.5", "00100000000000000.1"} {
		wantFault(t, src, impl.ErrBig, 0)
		wantFault(t, " "+src+"a", impl.ErrBig, 1)
	}
}

func TestLexStrings(t *testing.T) {
	wantTokens(t, "''", tok(impl.TokString, "", 0))
	wantTokens(t, "''''", tok(impl.TokString, "'", 0))
	wantTokens(t, "'it''s'", tok(impl.TokString, "it's", 0))
	wantTokens(t, "'a' 'b'", tok(impl.TokString, "a", 0), tok(impl.TokString, "b", 4))
	wantTokens(t, "'A\n--\t\"\x00\x7f'x", tok(impl.TokString, "A\n--\t\"\x00\x7f", 0), tok(impl.TokWord, "x", 10))
	for _, src := range []string{"'", "'a", "'a''", "'''", "'a\n"} {
		wantFault(t, src, impl.ErrToken, 0)
		wantFault(t, "ab "+src, impl.ErrToken, 3)
	}
	for _, bad := range badTexts() {
		wantFault(t, ", '"+bad+"'", impl.ErrToken, 2)
		wantFault(t, "'"+strings.Repeat("b", impl.MaxChars+1)+bad+"'", impl.ErrToken, 0)
	}
	for _, char := range []string{"a", "é", "水", "𝄞"} {
		longest := strings.Repeat(char, impl.MaxChars)
		wantTokens(t, "'"+longest+"'", tok(impl.TokString, longest, 0))
		wantFault(t, "'"+longest+char+"'", impl.ErrBig, 0)
		wantFault(t, "'"+longest+char, impl.ErrToken, 0)
	}
	quotes := strings.Repeat("'", impl.MaxChars)
	wantTokens(t, "'"+quotes+quotes+"'", tok(impl.TokString, quotes, 0))
	wantFault(t, "'"+quotes+quotes+"'''", impl.ErrBig, 0)
}

func TestLexSigns(t *testing.T) {
	for _, sign := range allSigns() {
		wantTokens(t, sign, tok(impl.TokSign, sign, 0))
		wantTokens(t, "a"+sign+" b", tok(impl.TokWord, "a", 0), tok(impl.TokSign, sign, 1), tok(impl.TokWord, "b", len(sign)+2))
	}
	wantTokens(t, "!=", tok(impl.TokSign, "<>", 0))
	wantTokens(t, "<=>", tok(impl.TokSign, "<=", 0), tok(impl.TokSign, ">", 2))
	wantTokens(t, "<>=", tok(impl.TokSign, "<>", 0), tok(impl.TokSign, "=", 2))
	wantTokens(t, "><", tok(impl.TokSign, ">", 0), tok(impl.TokSign, "<", 1))
	wantTokens(t, "==", tok(impl.TokSign, "=", 0), tok(impl.TokSign, "=", 1))
	wantTokens(t, "<<=", tok(impl.TokSign, "<", 0), tok(impl.TokSign, "<=", 1))
	wantTokens(t, ">!=", tok(impl.TokSign, ">", 0), tok(impl.TokSign, "<>", 1))
	for _, src := range []string{"!", "|", "! =", "| |", "!!=", "|=", "?", "#", "$", "&", "@", "[", "]", "^", "`", "{", "}", "~", ":", "\\", "\x00", "\x0b", "\x0c", "\x7f", "\x80", "é", "\xff"} {
		wantFault(t, src, impl.ErrToken, 0)
		wantFault(t, "a "+src, impl.ErrToken, 2)
	}
	wantFault(t, "|||", impl.ErrToken, 2)
}

func TestLexFaultsFromTheLeft(t *testing.T) {
	wantFault(t, "? 'x", impl.ErrToken, 0)
	wantFault(t, "99999999999999999999 ?", impl.ErrBig, 0)
	wantFault(t, "a 1b 99999999999999999999", impl.ErrToken, 3)
	wantFault(t, "-- ?\n ?", impl.ErrToken, 6)
	wantFault(t, "'?' -- '\n \"\" '", impl.ErrToken, 10)
}

func TestLexMaxSource(t *testing.T) {
	full := strings.Repeat(" ", impl.MaxSource)
	wantTokens(t, full)
	wantTokens(t, full[1:]+"a", tok(impl.TokWord, "a", impl.MaxSource-1))
	wantFault(t, full[1:]+"?", impl.ErrToken, impl.MaxSource-1)
	wantFault(t, full+" ", impl.ErrBig, 0)
	wantFault(t, "?"+full, impl.ErrBig, 0)
	wantFault(t, full+"?", impl.ErrBig, 0)
}

func TestLexMaxTokens(t *testing.T) {
	full := strings.Repeat("a,", impl.MaxTokens/2)
	if list, code, _ := impl.Lex(full); code != impl.OK || len(list) != impl.MaxTokens {
		t.Fatalf("%d tokens: %d, %d", impl.MaxTokens, len(list), code)
	}
	if list, code, _ := impl.Lex(full + " --x"); code != impl.OK || len(list) != impl.MaxTokens {
		t.Errorf("a comment behind: %d, %d", len(list), code)
	}
	for _, more := range []string{"b", "?", "1a", "'x", "\"", "99999999999999999999", "\x80"} {
		wantFault(t, full+more, impl.ErrBig, len(full))
		wantFault(t, full+" --?\n"+more, impl.ErrBig, len(full)+5)
	}
	wantFault(t, "?"+full, impl.ErrToken, 0)
	wantFault(t, full[1:]+"1a", impl.ErrToken, len(full))
}

// plainLex is Lex once more, in patterns.
type plainLex struct {
	blank, word, quoted, number, text, sign *regexp.Regexp
}

func newPlainLex() plainLex {
	return plainLex{
		blank:  regexp.MustCompile(`^(?:[ \t\n\r]|--[^\n]*)+`),
		word:   regexp.MustCompile(`^[A-Za-z_][A-Za-z_0-9]*`),
		quoted: regexp.MustCompile(`(?s)^"(?:[^"]|"")*"`),
		number: regexp.MustCompile(`^[0-9]+(?:\.[0-9]+)?`),
		text:   regexp.MustCompile(`(?s)^'(?:[^']|'')*'`),
		sign:   regexp.MustCompile(`^(?:<=|>=|<>|!=|\|\||[(),.;+\-*/%=<>])`),
	}
}

func (p plainLex) lex(src string) ([]impl.Token, int, int) {
	if len(src) > impl.MaxSource {
		return nil, impl.ErrBig, 0
	}
	var list []impl.Token
	for at := 0; ; {
		at += len(p.blank.FindString(src[at:]))
		if at == len(src) {
			return list, impl.OK, 0
		}
		if len(list) == impl.MaxTokens {
			return nil, impl.ErrBig, at
		}
		found, size, code, fault := p.one(src[at:])
		if code != impl.OK {
			return nil, code, at + fault
		}
		found.Pos = at
		list = append(list, found)
		at += size
	}
}

// one reads the token at the beginning: the token, its bytes, a code and how far on the fault stands.
func (p plainLex) one(src string) (impl.Token, int, int, int) {
	if word := p.word.FindString(src); word != "" {
		return bounded(tok(impl.TokWord, strings.ToLower(word), 0), len(word), len(word) > impl.MaxName)
	}
	if name := ended(p.quoted, src); name != "" {
		text := strings.ReplaceAll(name[1:len(name)-1], `""`, `"`)
		if !regexp.MustCompile(`^[ -~]+$`).MatchString(text) {
			return impl.Token{}, 0, impl.ErrToken, 0
		}
		return bounded(tok(impl.TokQuoted, text, 0), len(name), len(text) > impl.MaxName)
	}
	if text := ended(p.text, src); text != "" {
		content := strings.ReplaceAll(text[1:len(text)-1], "''", "'")
		if !utf8.ValidString(content) {
			return impl.Token{}, 0, impl.ErrToken, 0
		}
		return bounded(tok(impl.TokString, content, 0), len(text), utf8.RuneCountInString(content) > impl.MaxChars)
	}
	if number := p.number.FindString(src); number != "" {
		return p.numeral(src, number)
	}
	if sign := p.sign.FindString(src); sign != "" {
		return tok(impl.TokSign, strings.ReplaceAll(sign, "!=", "<>"), 0), len(sign), impl.OK, 0
	}
	return impl.Token{}, 0, impl.ErrToken, 0
}

// ended finds a quoted piece, unless its last quote is half of a doubled one.
func ended(pattern *regexp.Regexp, src string) string {
	found := pattern.FindString(src)
	if found != "" && strings.HasPrefix(src[len(found):], src[:1]) {
		return ""
	}
	return found
}

func bounded(found impl.Token, size int, tooBig bool) (impl.Token, int, int, int) {
	if tooBig {
		return impl.Token{}, 0, impl.ErrBig, 0
	}
	return found, size, impl.OK, 0
}

func (p plainLex) numeral(src, number string) (impl.Token, int, int, int) {
	whole, behind, pointed := strings.Cut(number, ".")
	size, _ := new(big.Int).SetString(whole, 10)
	text, kind, tooBig := size.String(), impl.TokInt, !size.IsInt64()
	if pointed {
		tooBig = len(text) > 14 || len(behind) > 4
		text, kind = text+"."+behind, impl.TokDec
	}
	if !tooBig && p.word.MatchString(src[len(number):]) {
		return impl.Token{}, 0, impl.ErrToken, len(number)
	}
	return bounded(tok(kind, text, 0), len(number), tooBig)
}

// randomSource puts pieces together that begin, end and break tokens.
func randomSource(numbers *numberSource, pieces []string, most int) string {
	var src strings.Builder
	for count := below(numbers, most+1); count > 0; count-- {
		src.WriteString(pieces[below(numbers, len(pieces))])
	}
	return src.String()
}

// below gives a number from 0 on and less than bound.
func below(numbers *numberSource, bound int) int {
	numbers.next()
	return int(numbers.state >> 33 % uint64(bound))
}

func lexPieces() []string {
	list := []string{
		" ", "\t", "\r", "\n", "--", "a", "B", "_", "select", "\"", "\"\"", "'", "''", "0", "00", "7", "12345", "9223372036854775807", "99999999999999",
		".", ".5", "é", "水", "x y", "\"q\"", "'s'", "-", "!", "=", "<", ">", "|", "abcdefghijabcdefghijabcdefghi",
	}
	return append(list, allSigns()...)
}

func TestLexAgainstPatterns(t *testing.T) {
	numbers, plain := &numberSource{state: 6}, newPlainLex()
	wrong := append(lexPieces(), "?", "\x00", "\xff", "\xe6", "{")
	for round := 0; round < 40000; round++ {
		pieces := lexPieces()
		if round%4 == 0 {
			pieces = wrong
		}
		src := randomSource(numbers, pieces, 12)
		if !utf8.ValidString(src) {
			// A pattern cannot cut bytes that are no characters; whole bytes that begin nothing can still be told.
			src = strings.ToValidUTF8(src, "\x01")
		}
		list, code, pos := impl.Lex(src)
		wantList, wantCode, wantPos := plain.lex(src)
		if code != wantCode || pos != wantPos || !sameTokens(list, wantList) {
			t.Fatalf("Lex(%q) = %v, %d, %d; want %v, %d, %d", src, list, code, pos, wantList, wantCode, wantPos)
		}
	}
}
