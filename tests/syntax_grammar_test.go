package tests

import (
	"slices"
	"strings"
	"testing"
	"time"

	"loop.example/g00001/impl"
)

// grammarText is the document's grammar, with the signs of texts between quotes. Where its rules tell two choices that
// begin alike apart it has a rule of its own (squery: a query of which the first token is SELECT).
const grammarText = `
text      = statement [ ';' ]
statement = query | insert | update | delete | create | drop | begin | COMMIT | ROLLBACK [ TO name ] | SAVEPOINT name | RELEASE name | EXPLAIN query | CHECKPOINT
begin     = BEGIN [ SNAPSHOT | SERIALIZABLE ]
query     = body tail
squery    = select { ( UNION | EXCEPT ) [ ALL ] term } tail
tail      = [ ORDER BY key { ',' key } ] [ LIMIT int ] [ OFFSET int ]
body      = term { ( UNION | EXCEPT ) [ ALL ] term }
term      = select | '(' query ')'
select    = SELECT [ DISTINCT ] item { ',' item } [ FROM from { ',' from } ] [ WHERE e ] [ GROUP BY e { ',' e } ] [ HAVING e ]
item      = '*' | name '.' '*' | e [ [ AS ] name ]
from      = source { [ INNER ] JOIN source ON e | LEFT [ OUTER ] JOIN source ON e | CROSS JOIN source }
source    = name [ [ AS ] name ] | '(' query ')' [ AS ] name
key       = e [ ASC | DESC ] [ NULLS ( FIRST | LAST ) ]
e         = and { OR and }
and       = not { AND not }
not       = NOT not | test
test      = cat [ ( '=' | '<>' | '<' | '<=' | '>' | '>=' ) cat | IS [ NOT ] NULL | IS [ NOT ] DISTINCT FROM cat | [ NOT ] IN '(' ( squery | e { ',' e } ) ')' | [ NOT ] BETWEEN cat AND cat | [ NOT ] LIKE cat ]
cat       = sum { '||' sum }
sum       = mul { ( '+' | '-' ) mul }
mul       = neg { ( '*' | '/' | '%' ) neg }
neg       = '-' neg | atom
atom      = int | dec | string | NULL | TRUE | FALSE | DATE day | name [ '.' name ] | name '(' [ e { ',' e } ] ')' | agg | CASE [ e ] WHEN e THEN e { WHEN e THEN e } [ ELSE e ] END | CAST '(' e AS kind ')' | EXISTS '(' query ')' | '(' squery ')' | '(' e ')'
agg       = COUNT '(' '*' ')' | ( COUNT | SUM | AVG | MIN | MAX ) '(' [ DISTINCT ] e ')'
kind      = INT | DECIMAL | TEXT | BOOLEAN | DATE
insert    = INSERT INTO name [ '(' name { ',' name } ')' ] ( VALUES row { ',' row } | query )
row       = '(' value { ',' value } ')'
value     = e | DEFAULT
update    = UPDATE name SET name '=' value { ',' name '=' value } [ WHERE e ]
delete    = DELETE FROM name [ WHERE e ]
create    = CREATE TABLE name '(' element { ',' element } ')' | CREATE [ UNIQUE ] INDEX name ON name '(' name { ',' name } ')'
element   = name kind { NOT NULL | PRIMARY KEY | UNIQUE | DEFAULT neg | CHECK '(' e ')' } | PRIMARY KEY '(' name { ',' name } ')' | UNIQUE '(' name { ',' name } ')' | CHECK '(' e ')'
drop      = DROP ( TABLE | INDEX ) name
`

// grammar has the choices of each rule, each a list of rules and tokens.
type grammar struct {
	rules map[string][][]string
	empty map[string]bool
}

func newGrammar(text string) *grammar {
	g := &grammar{rules: map[string][][]string{}, empty: map[string]bool{}}
	for _, line := range strings.Split(strings.TrimSpace(text), "\n") {
		words := strings.Fields(line)
		g.define(words[0], words[2:])
	}
	for changed := true; changed; {
		changed = false
		for rule, choices := range g.rules {
			for _, choice := range choices {
				if !g.empty[rule] && !slices.ContainsFunc(choice, func(word string) bool { return !g.empty[word] }) {
					g.empty[rule], changed = true, true
				}
			}
		}
	}
	return g
}

// define makes rules of the groups in a rule's words, so that choices are plain lists.
func (g *grammar) define(rule string, words []string) {
	choice := []string{}
	for at := 0; at < len(words); at++ {
		switch word := words[at]; word {
		case "|":
			g.rules[rule] = append(g.rules[rule], choice)
			choice = []string{}
		case "(", "[", "{":
			end := at + groupEnd(words[at:])
			inner := "group" + number(len(g.rules)+1) + rule
			g.rules[inner] = nil
			g.define(inner, words[at+1:end])
			if word == "{" {
				for i := range g.rules[inner] {
					g.rules[inner][i] = append(g.rules[inner][i], inner)
				}
			}
			if word != "(" {
				g.rules[inner] = append(g.rules[inner], []string{})
			}
			choice = append(choice, inner)
			at = end
		default:
			choice = append(choice, word)
		}
	}
	g.rules[rule] = append(g.rules[rule], choice)
}

func groupEnd(words []string) int {
	open := 0
	for i, word := range words {
		switch word {
		case "(", "[", "{":
			open++
		case ")", "]", "}":
			open--
		}
		if open == 0 {
			return i
		}
	}
	panic("a group has no end")
}

// tokenIs tells whether a token stands for a word of the grammar.
func tokenIs(word string, token impl.Token) bool {
	switch word {
	case "name":
		return token.Kind == impl.TokQuoted || token.Kind == impl.TokWord && !slices.Contains(strings.Fields(reservedWords), token.Text)
	case "int":
		return token.Kind == impl.TokInt
	case "dec":
		return token.Kind == impl.TokDec
	case "string":
		return token.Kind == impl.TokString
	case "day":
		day, err := time.Parse(time.DateOnly, token.Text)
		return token.Kind == impl.TokString && err == nil && day.Year() > 0
	}
	if strings.HasPrefix(word, "'") {
		return token.Kind == impl.TokSign && token.Text == strings.Trim(word, "'")
	}
	return token.Kind == impl.TokWord && token.Text == strings.ToLower(word)
}

// partRead is a choice of a rule that is read up to a place, from a token on.
type partRead struct {
	rule             string
	choice, at, from int
}

// chart holds, behind each token, all that may be going on there.
type chart struct {
	*grammar
	sets [][]partRead
}

func newChart(g *grammar) *chart {
	c := &chart{grammar: g}
	c.open([]partRead{{rule: "text"}})
	return c
}

// open completes the set of what may go on.
func (c *chart) open(set []partRead) {
	seen := map[partRead]bool{}
	for _, part := range set {
		seen[part] = true
	}
	add := func(part partRead) {
		if !seen[part] {
			seen[part] = true
			set = append(set, part)
		}
	}
	here := len(c.sets)
	for i := 0; i < len(set); i++ {
		part := set[i]
		choice := c.rules[part.rule][part.choice]
		if part.at == len(choice) {
			back := set
			if part.from < here {
				back = c.sets[part.from]
			}
			for _, outer := range slices.Clone(back) {
				if words := c.rules[outer.rule][outer.choice]; outer.at < len(words) && words[outer.at] == part.rule {
					add(partRead{outer.rule, outer.choice, outer.at + 1, outer.from})
				}
			}
			continue
		}
		word := choice[part.at]
		for number := range c.rules[word] {
			add(partRead{word, number, 0, here})
		}
		if c.empty[word] {
			add(partRead{part.rule, part.choice, part.at + 1, part.from})
		}
	}
	c.sets = append(c.sets, set)
}

// step reads one more token, if it can stand there.
func (c *chart) step(token impl.Token) bool {
	var next []partRead
	for _, part := range c.sets[len(c.sets)-1] {
		words := c.rules[part.rule][part.choice]
		if part.at < len(words) && c.rules[words[part.at]] == nil && tokenIs(words[part.at], token) {
			next = append(next, partRead{part.rule, part.choice, part.at + 1, part.from})
		}
	}
	if len(next) == 0 {
		return false
	}
	c.open(next)
	return true
}

// expected are the words of the grammar that may come next.
func (c *chart) expected() []string {
	var list []string
	for _, part := range c.sets[len(c.sets)-1] {
		if words := c.rules[part.rule][part.choice]; part.at < len(words) && c.rules[words[part.at]] == nil {
			list = append(list, words[part.at])
		}
	}
	slices.Sort(list)
	return slices.Compact(list)
}

// ended tells whether the text may end here.
func (c *chart) ended() bool {
	return slices.ContainsFunc(c.sets[len(c.sets)-1], func(part partRead) bool {
		return part.rule == "text" && part.at == len(c.rules["text"][part.choice])
	})
}

// vocabulary is a token of each sort that the grammar tells apart.
func vocabulary() []string {
	list := append(strings.Fields(reservedWords), allSigns()...)
	return append(list, "a", `"B c"`, `"select"`, "7", "1.5", "'x'", "'2020-02-29'", "'2021-02-29'", "'0000-01-01'")
}

// TestParseFaultsOfEveryToken puts each sort of token behind each beginning of each case, and asks whether it can stand there.
func TestParseFaultsOfEveryToken(t *testing.T) {
	t.Parallel()
	g := newGrammar(grammarText)
	done := map[string]bool{}
	for _, c := range parseCases() {
		tokens, _, _ := impl.Lex(c.src + ";")
		line := newChart(g)
		for _, token := range tokens {
			before := c.src[:min(token.Pos, len(c.src))]
			if !done[before] {
				done[before] = true
				wantNext(t, before, line)
			}
			if !line.step(token) {
				t.Fatalf("%q: the grammar has no %v", c.src, token)
			}
		}
		wantNext(t, c.src+";", line)
	}
}

func wantNext(t *testing.T, before string, line *chart) {
	t.Helper()
	words := line.expected()
	for _, text := range vocabulary() {
		tokens, _, _ := impl.Lex(text)
		stands := slices.ContainsFunc(words, func(word string) bool { return tokenIs(word, tokens[0]) })
		src := before + " " + text
		tree, code, pos := impl.Parse(src + " ")
		at := len(before) + 1
		if refused := code == impl.ErrSyntax && pos == at; refused == stands || code != impl.OK && len(tree.Nodes) > 0 {
			t.Errorf("%q: %d, %d; can the last token stand there: %v", src, code, pos, stands)
		}
		if stands && code != impl.OK && (code != impl.ErrSyntax || pos != len(src)+1) {
			t.Errorf("%q ends too early: %d, %d", src, code, pos)
		}
	}
	if _, code, pos := impl.Parse(before); line.ended() != (code == impl.OK) || code != impl.OK && (code != impl.ErrSyntax || pos != len(before)) {
		t.Errorf("%q: %d, %d; may it end: %v", before, code, pos, line.ended())
	}
}

// disturb takes some tokens away, puts others in, or changes two.
func disturb(numbers *numberSource, tokens []string) []string {
	tokens = slices.Clone(tokens)
	words := vocabulary()
	for count := 1 + below(numbers, 2); count > 0 && len(tokens) > 0; count-- {
		at, word := below(numbers, len(tokens)), words[below(numbers, len(words))]
		switch below(numbers, 5) {
		case 0:
			tokens = slices.Delete(tokens, at, at+1)
		case 1:
			tokens = slices.Insert(tokens, at, word)
		case 2:
			tokens[at] = word
		case 3:
			other := below(numbers, len(tokens))
			tokens[at], tokens[other] = tokens[other], tokens[at]
		case 4:
			tokens = slices.Insert(tokens, at, tokens[below(numbers, len(tokens))])
		}
	}
	return tokens
}

func TestParseAgainstGrammar(t *testing.T) {
	t.Parallel()
	g := newGrammar(grammarText)
	numbers := &numberSource{state: 4}
	good := 0
	for round := 0; round < 1500; round++ {
		text, _ := normalText(grower{numbers}.statement(1 + round%3))
		list, code, _ := impl.Lex(text)
		if code != impl.OK || len(list) > 80 {
			continue
		}
		var tokens []string
		for i, token := range list {
			end := len(text)
			if i+1 < len(list) {
				end = list[i+1].Pos - 1
			}
			tokens = append(tokens, text[token.Pos:end])
		}
		if good += wantAsGrammar(t, g, strings.Join(disturb(numbers, tokens), " ")); t.Failed() {
			return
		}
	}
	if good < 50 {
		t.Errorf("only %d of the texts were statements", good)
	}
}

// wantAsGrammar asks for the fault that the grammar tells of; it counts a statement.
func wantAsGrammar(t *testing.T, g *grammar, src string) int {
	t.Helper()
	tokens, _, _ := impl.Lex(src)
	line := newChart(g)
	wantCode, wantPos := impl.OK, 0
	for _, token := range tokens {
		if !line.step(token) {
			wantCode, wantPos = impl.ErrSyntax, token.Pos
			break
		}
	}
	if wantCode == impl.OK && !line.ended() {
		wantCode, wantPos = impl.ErrSyntax, len(src)
	}
	if tree, code, pos := impl.Parse(src); code != wantCode || pos != wantPos || (code == impl.OK) != (len(tree.Nodes) > 0) {
		t.Errorf("Parse(%q) = %v, %d, %d; want %d, %d", src, tree, code, pos, wantCode, wantPos)
	}
	if wantCode == impl.OK {
		return 1
	}
	return 0
}
