package tests

import (
	"regexp"
	"slices"
	"strconv"
	"strings"

	"loop.example/g00001/impl"
)

// writer writes a plant's text, and the positions into its nodes. Plain is the normal form; else it takes every way of
// writing that the grammar leaves, by chance: letters, blanks, brackets, words that may be missing.
type writer struct {
	grower
	plain   bool
	text    strings.Builder
	pending []*plant
	count   int
}

// mark says that the next token is the plant's position.
func (w *writer) mark(p *plant) { w.pending = append(w.pending, p) }

// put writes tokens.
func (w *writer) put(tokens ...string) {
	for _, token := range tokens {
		switch {
		case w.plain && w.text.Len() > 0:
			w.text.WriteString(" ")
		case !w.plain:
			w.text.WriteString(w.blank(token))
		}
		for _, p := range w.pending {
			p.Pos = w.text.Len()
		}
		w.pending = nil
		w.text.WriteString(token)
		w.count++
	}
}

// blank is what may stand ahead of a token: nothing, if a bracket or comma is on one side.
func (w *writer) blank(token string) string {
	text := w.text.String()
	if text == "" || w.chance(2) && (strings.ContainsAny(token, "(),") || strings.ContainsAny(text[len(text)-1:], "(),")) {
		return ""
	}
	blanks := []string{" ", "  ", "\n", "\t", "\r\n", " --x'\n", " -- (\n "}
	return blanks[below(w.numberSource, len(blanks))]
}

// words writes words of the grammar.
func (w *writer) words(text string) {
	for _, word := range strings.Fields(text) {
		if !w.plain {
			word = w.letters(word)
		}
		w.put(word)
	}
}

func (w *writer) letters(word string) string {
	switch below(w.numberSource, 3) {
	case 0:
		return strings.ToLower(word)
	case 1:
		return word[:1] + strings.ToLower(word[1:])
	}
	return word
}

// maybe writes words that the grammar lets be missing; the normal form has them if it says so.
func (w *writer) maybe(words string, normal bool) {
	if w.plain && normal || !w.plain && w.chance(2) {
		w.words(words)
	}
}

func (w *writer) wordsIf(told bool, words string) {
	if told {
		w.words(words)
	}
}

var plainName = regexp.MustCompile(`^[a-z_][a-z_0-9]*$`)

func (w *writer) name(name string) {
	word := plainName.MatchString(name) && !slices.Contains(strings.Fields(reservedWords), name)
	switch {
	case !word || !w.plain && w.chance(4):
		w.put(`"` + strings.ReplaceAll(name, `"`, `""`) + `"`)
	case !w.plain && w.chance(3):
		w.put(strings.ToUpper(name))
	default:
		w.put(name)
	}
}

func (w *writer) literal(v impl.Value) {
	text := impl.Show(v)
	switch {
	case v.Kind == impl.Date:
		w.words("DATE")
		text = strings.TrimPrefix(text, "DATE ")
	case w.plain || v.Kind == impl.Text:
	case v.Kind == impl.Bool || v.Kind == impl.Null:
		text = w.letters(text)
	case w.chance(3):
		text = "00" + text
	case v.Kind == impl.Dec && len(text)-strings.Index(text, ".") < 5:
		text += "0"
	}
	w.put(text)
}

// list writes plants with commas between.
func (w *writer) list(list []*plant) {
	for i, p := range list {
		if i > 0 {
			w.put(",")
		}
		w.write(p)
	}
}

func (w *writer) inBrackets(list []*plant) {
	w.put("(")
	w.list(list)
	w.put(")")
}

// The rules of expressions, from the loosest to the tightest.
const (
	ruleE = iota
	ruleAnd
	ruleNot
	ruleTest
	ruleCat
	ruleSum
	ruleMul
	ruleNeg
	ruleAtom
)

// ruleOf is the tightest rule that gives an expression.
func ruleOf(p *plant) int {
	switch p.Op {
	case impl.NNot:
		return ruleNot
	case impl.NNeg:
		return ruleNeg
	case impl.NBin:
		return [...]int{0, ruleSum, ruleSum, ruleMul, ruleMul, ruleMul, ruleCat, ruleTest, ruleTest, ruleTest, ruleTest, ruleTest, ruleTest, 0, ruleAnd, ruleE}[p.N]
	case impl.NIs, impl.NSame, impl.NIn, impl.NInQuery, impl.NBetween, impl.NLike:
		return ruleTest
	}
	return ruleAtom
}

// operand writes an expression where a rule stands.
func (w *writer) operand(p *plant, rule int) {
	if w.plain {
		rule = ruleAtom
	}
	if ruleOf(p) < rule || !w.plain && w.chance(12) {
		w.inBrackets([]*plant{p})
		return
	}
	w.write(p)
}

func (w *writer) write(p *plant) {
	switch {
	case p.Op <= impl.NScalar:
		w.expression(p)
	case p.Op <= impl.NJoin:
		w.query(p)
	default:
		w.statement(p)
	}
}

func (w *writer) expression(p *plant) {
	if !w.plain && w.chance(30) {
		w.put("(")
		defer w.put(")")
	}
	switch p.Op {
	case impl.NBin, impl.NIs, impl.NSame, impl.NIn, impl.NInQuery, impl.NBetween, impl.NLike:
		w.test(p)
		return
	}
	w.mark(p)
	switch p.Op {
	case impl.NLit:
		w.literal(p.Val)
	case impl.NCol:
		w.qualified(p.Qual)
		w.name(p.Name)
	case impl.NNot:
		w.words("NOT")
		w.operand(p.kids[0], ruleNot)
	case impl.NNeg:
		w.put("-")
		w.operand(p.kids[0], ruleNeg)
	case impl.NCase:
		w.caseOf(p)
	case impl.NCast:
		w.words("CAST (")
		w.write(p.kids[0])
		w.words("AS " + kindNames[p.N] + " )")
	case impl.NCall:
		w.name(p.Name)
		w.inBrackets(p.kids)
	case impl.NAgg:
		w.words([]string{"", "COUNT ( *", "COUNT (", "SUM (", "AVG (", "MIN (", "MAX ("}[p.N])
		w.wordsIf(p.M == 1, "DISTINCT")
		w.list(p.kids)
		w.put(")")
	case impl.NExists:
		w.words("EXISTS")
		w.inBrackets(p.kids)
	case impl.NScalar:
		w.inBrackets(p.kids)
	}
}

var kindNames = []string{"", "INT", "DECIMAL", "TEXT", "BOOLEAN", "DATE"}

func (w *writer) qualified(qual string) {
	if qual != "" {
		w.name(qual)
		w.put(".")
	}
}

// test writes the operations whose position stands between their operands.
func (w *writer) test(p *plant) {
	first, second := ruleCat, ruleCat
	if rule := ruleOf(p); p.Op == impl.NBin && rule != ruleTest {
		first, second = rule, rule+1
	}
	w.operand(p.kids[0], first)
	w.mark(p)
	not := p.N == 1
	switch p.Op {
	case impl.NBin:
		sign := strings.Fields("- + - * / % || = <> < <= > >= - AND OR")[p.N]
		if sign == "<>" && !w.plain && w.chance(2) {
			sign = "!="
		}
		w.words(sign)
		w.operand(p.kids[1], second)
	case impl.NIs, impl.NSame:
		w.words("IS")
		w.wordsIf(not, "NOT")
		if p.Op == impl.NIs {
			w.words("NULL")
			return
		}
		w.words("DISTINCT FROM")
		w.operand(p.kids[1], second)
	case impl.NIn, impl.NInQuery:
		w.wordsIf(not, "NOT")
		w.words("IN")
		w.inBrackets(p.kids[1:])
	case impl.NBetween:
		w.wordsIf(not, "NOT")
		w.words("BETWEEN")
		w.operand(p.kids[1], second)
		w.words("AND")
		w.operand(p.kids[2], second)
	case impl.NLike:
		w.wordsIf(not, "NOT")
		w.words("LIKE")
		w.operand(p.kids[1], second)
	}
}

func (w *writer) caseOf(p *plant) {
	w.words("CASE")
	kids := p.kids
	if p.M == 1 {
		w.write(kids[0])
		kids = kids[1:]
	}
	for ; len(kids) > p.N; kids = kids[2:] {
		w.words("WHEN")
		w.write(kids[0])
		w.words("THEN")
		w.write(kids[1])
	}
	if p.N == 1 {
		w.words("ELSE")
		w.write(kids[0])
	}
	w.words("END")
}

// term writes a select, or a query in brackets.
func (w *writer) term(p *plant) {
	if p.Op == impl.NQuery {
		w.inBrackets([]*plant{p})
		return
	}
	w.write(p)
}

func (w *writer) query(p *plant) {
	if p.Op != impl.NSetOp && p.Op != impl.NJoin {
		w.mark(p)
	}
	switch p.Op {
	case impl.NStar:
		w.qualified(p.Qual)
		w.put("*")
	case impl.NItem:
		w.write(p.kids[0])
		w.other(p.Name)
	case impl.NItems:
		w.list(p.kids)
	case impl.NFrom, impl.NWhere, impl.NGroup, impl.NHaving, impl.NOrder:
		w.words(map[int]string{impl.NFrom: "FROM", impl.NWhere: "WHERE", impl.NGroup: "GROUP BY", impl.NHaving: "HAVING", impl.NOrder: "ORDER BY"}[p.Op])
		w.list(p.kids)
	case impl.NSelect:
		w.words("SELECT")
		w.wordsIf(p.N == 1, "DISTINCT")
		for _, kid := range p.kids {
			w.write(kid)
		}
	case impl.NSetOp:
		w.term(p.kids[0])
		w.mark(p)
		w.words([]string{"", "UNION", "EXCEPT"}[p.N])
		w.wordsIf(p.M == 1, "ALL")
		w.term(p.kids[1])
	case impl.NQuery:
		w.term(p.kids[0])
		for _, kid := range p.kids[1:] {
			w.write(kid)
		}
	case impl.NKey:
		w.write(p.kids[0])
		w.wordsIf(p.N == 1, "DESC")
		if p.N == 0 {
			w.maybe("ASC", false)
		}
		w.words([]string{"", "NULLS FIRST", "NULLS LAST"}[p.M])
	case impl.NLimit:
		if p.N >= 0 {
			w.words("LIMIT " + strconv.Itoa(p.N))
		}
		if p.M >= 0 {
			w.words("OFFSET " + strconv.Itoa(p.M))
		}
	default:
		w.source(p)
	}
}

// other writes AS and a name, if there is one.
func (w *writer) other(name string) {
	if name != "" {
		w.maybe("AS", true)
		w.name(name)
	}
}

func (w *writer) source(p *plant) {
	switch p.Op {
	case impl.NTable:
		w.name(p.Name)
		w.other(p.Qual)
	case impl.NDerived:
		w.inBrackets(p.kids)
		w.other(p.Name)
	case impl.NJoin:
		w.write(p.kids[0])
		w.mark(p)
		switch p.N {
		case impl.JoinInner:
			w.maybe("INNER", false)
		case impl.JoinLeft:
			w.words("LEFT")
			w.maybe("OUTER", false)
		case impl.JoinCross:
			w.words("CROSS")
		}
		w.words("JOIN")
		w.write(p.kids[1])
		if p.N != impl.JoinCross {
			w.words("ON")
			w.write(p.kids[2])
		}
	}
}

func (w *writer) statement(p *plant) {
	w.mark(p)
	switch p.Op {
	case impl.NInsert:
		w.words("INSERT INTO")
		w.name(p.Name)
		for _, kid := range p.kids {
			w.write(kid)
		}
	case impl.NNames, impl.NRow:
		w.inBrackets(p.kids)
	case impl.NName:
		w.name(p.Name)
	case impl.NValues:
		w.words("VALUES")
		w.list(p.kids)
	case impl.NDefault:
		w.words("DEFAULT")
	case impl.NUpdate:
		w.words("UPDATE")
		w.name(p.Name)
		w.words("SET")
		sets := slices.DeleteFunc(slices.Clone(p.kids), func(kid *plant) bool { return kid.Op == impl.NWhere })
		w.list(sets)
		w.list(p.kids[len(sets):])
	case impl.NSet:
		w.name(p.Name)
		w.put("=")
		w.write(p.kids[0])
	case impl.NDelete:
		w.words("DELETE FROM")
		w.name(p.Name)
		w.list(p.kids)
	case impl.NColumn:
		w.column(p)
	case impl.NDefaultIs:
		w.words("DEFAULT")
		if w.plain && p.kids[0].Op == impl.NNeg {
			w.write(p.kids[0])
			return
		}
		w.operand(p.kids[0], ruleNeg)
	case impl.NCheck, impl.NKeyOf, impl.NUnique:
		w.words(map[int]string{impl.NCheck: "CHECK", impl.NKeyOf: "PRIMARY KEY", impl.NUnique: "UNIQUE"}[p.Op])
		w.inBrackets(p.kids)
	default:
		w.whole(p)
	}
}

// column writes a column's words; those that the tree keeps in M may come anywhere, and more than once.
func (w *writer) column(p *plant) {
	w.name(p.Name)
	w.words(kindNames[p.N])
	var loose []string
	for i, words := range []string{"NOT NULL", "PRIMARY KEY", "UNIQUE"} {
		if p.M>>i&1 == 1 {
			loose = append(loose, words)
		}
	}
	if w.plain {
		w.words(strings.Join(loose, " "))
		for _, kid := range p.kids {
			w.write(kid)
		}
		return
	}
	left, kids := slices.Clone(loose), p.kids
	for len(left) > 0 || len(kids) > 0 {
		switch {
		case len(left) > 0 && w.chance(2):
			at := below(w.numberSource, len(left))
			w.words(left[at])
			left = slices.Delete(left, at, at+1)
		case len(loose) > 0 && w.chance(6):
			w.words(loose[below(w.numberSource, len(loose))])
		case len(kids) > 0:
			w.write(kids[0])
			kids = kids[1:]
		}
	}
}

// whole writes the statements that stand in no others.
func (w *writer) whole(p *plant) {
	words := map[int]string{
		impl.NCreateTable: "CREATE TABLE", impl.NDropTable: "DROP TABLE", impl.NDropIndex: "DROP INDEX", impl.NCommit: "COMMIT",
		impl.NRollback: "ROLLBACK", impl.NSavepoint: "SAVEPOINT", impl.NRelease: "RELEASE", impl.NExplain: "EXPLAIN", impl.NCheckpoint: "CHECKPOINT",
		impl.NCreateIndex: []string{"CREATE INDEX", "CREATE UNIQUE INDEX"}[p.N&1], impl.NBegin: []string{"BEGIN", "BEGIN SNAPSHOT", "BEGIN SERIALIZABLE"}[p.N],
	}
	w.words(words[p.Op])
	if p.Op == impl.NRollback && p.Name != "" {
		w.words("TO")
	}
	if p.Name != "" {
		w.name(p.Name)
	}
	if p.Op == impl.NCreateIndex {
		w.words("ON")
		w.name(p.Qual)
	}
	switch p.Op {
	case impl.NCreateTable, impl.NCreateIndex:
		w.inBrackets(p.kids)
	case impl.NExplain:
		w.list(p.kids)
	}
}

// normalText is the text that Print has to give, and how many tokens it has.
func normalText(root *plant) (string, int) {
	w := writer{plain: true}
	w.write(root)
	return w.text.String(), w.count
}

// looseText is one of the texts that Parse reads as the plant; it sets the positions.
func looseText(numbers *numberSource, root *plant) string {
	w := writer{grower: grower{numbers}}
	w.write(root)
	if w.chance(3) {
		w.put(";")
	}
	return w.text.String()
}
