package tests

import (
	"fmt"
	"slices"
	"strings"

	"loop.example/g00001/impl"
)

// innGrower makes operations for an engine by chance, each with a look at what the reference has by then.
type innGrower struct {
	grower
	*inn
	sessions int
	begins   []string
	long     int   // about how many statements a transaction has
	machine  int   // one of so many operations is about the machine
	defining int   // one of so many statements is a definition
	odd      int   // one of so many statements is any query or change, or has a fault
	saves    int   // one of so many statements of a transaction is about a savepoint
	plain    bool  // no statement's answer hangs on an order of rows that is left open
	fill     int   // so many INSERTs stand ahead of all else
	steps    []int // how many steps each operation has taken
}

func newInnGrower(number int, met *tally) *innGrower {
	g := grower{&numberSource{state: uint64(number)}}
	return &innGrower{
		grower: g, inn: newInn(met), sessions: g.pick(1, 2, 3, 4, 4), long: g.pick(2, 4, 8, 20),
		begins:  [][]string{{"begin"}, {"begin serializable"}, {"begin", "begin snapshot", "begin serializable", "begin serializable"}}[below(g.numberSource, 3)],
		machine: g.pick(10, 40, 1000), defining: g.pick(4, 12, 60), odd: g.pick(4, 10, 40), saves: g.pick(3, 8, 1000), fill: g.pick(0, 3, 10),
	}
}

func (g grower) word(of ...string) string { return of[below(g.numberSource, len(of))] }

func statementOp(session int, text string) impl.EngineOp {
	return impl.EngineOp{Kind: impl.EStatement, Session: session, Text: text}
}

// tablePool are tables with and without keys, of all kinds of columns; each name comes more than once.
func tablePool() []string {
	return []string{
		"create table a (id int primary key, v int, s text unique)",
		"create table b (k int, x int)",
		"create table c (p int, q text, n decimal, primary key (q, p), unique (n, p), check (n is null or n > 0))",
		"create table d (f boolean, g date, h decimal default 1.5, i text not null default 'i', j int unique)",
		"create table a (id text primary key check (id <> 'c'), v int unique, w int)",
		"create table e (t text, u text, v int)",
		"create table b (k date, x decimal, primary key (k))",
	}
}

// beginning opens the engine and defines some tables.
func (g *innGrower) beginning() []impl.EngineOp {
	ops := []impl.EngineOp{{Kind: impl.EOpen}}
	pool := tablePool()[:4]
	for range g.pick(1, 1, 2, 4) {
		at := below(g.numberSource, len(pool))
		ops = append(ops, statementOp(1, pool[at]))
		pool = slices.Delete(pool, at, at+1)
	}
	for range g.fill {
		ops = append(ops, statementOp(1, ""))
	}
	return ops
}

// grownRun are operations with what the reference answers.
func (g *innGrower) grownRun(size int) ([]impl.EngineOp, []impl.EngineObs) {
	var want []impl.EngineObs
	ops := g.beginning()
	for i := 0; i < size; i++ {
		if i >= len(ops) {
			ops = append(ops, g.op())
		}
		if ops[i].Kind == impl.EStatement && ops[i].Text == "" {
			ops[i].Text = g.insertOfValues(g.anyTable())
		}
		before := g.m.writes + g.m.syncs
		want = append(want, g.answer(ops[i]))
		g.steps = append(g.steps, g.m.writes+g.m.syncs-before)
	}
	return ops[:len(want)], want
}

func (g *innGrower) op() impl.EngineOp {
	if g.m.state == "down" && !g.chance(4) {
		return impl.EngineOp{Kind: impl.EOpen}
	}
	if g.chance(g.machine) {
		return g.machineOp()
	}
	session := 1 + below(g.numberSource, g.sessions)
	return statementOp(session, g.statementOf(session))
}

func (g *innGrower) machineOp() impl.EngineOp {
	var choices []int
	for range g.pick(0, 1, 4, 40) {
		choices = append(choices, g.pick(0, 8, below(g.numberSource, 9), -1-below(g.numberSource, 9), 8))
	}
	switch below(g.numberSource, 5) {
	case 0:
		return impl.EngineOp{Kind: impl.ECrash, Choices: choices}
	case 1:
		return impl.EngineOp{Kind: impl.EOpen}
	}
	return impl.EngineOp{Kind: impl.EArm, N: g.pick(0, 1, 2, 3, 5, 9, 20, -1), Choices: choices}
}

// statementOf is what a session says: of itself, of the schema, or of rows.
func (g *innGrower) statementOf(session int) string {
	guest := g.guests[session]
	switch {
	case guest == nil && g.chance(3):
		return g.word(g.begins...)
	case guest != nil && g.chance(g.long):
		return g.word("commit", "commit", "commit", "commit", "rollback")
	case guest != nil && g.chance(g.saves):
		return g.pointText(guest)
	case g.chance(40):
		return g.word("commit", "rollback", g.begins[0], "savepoint p", "rollback to p", "release q", "checkpoint", "checkpoint", " ", ";", "select", "'", "drop view v")
	case g.chance(g.defining) && (len(g.guests) == 0 || g.chance(8)) || len(g.schema.Tables) == 0:
		return g.definitionText()
	case g.chance(g.odd):
		return g.oddText()
	case g.chance(3):
		return g.question()
	case g.chance(30):
		return "explain " + g.question()
	}
	return g.changeText()
}

func (g *innGrower) pointText(guest *stay) string {
	if len(guest.points) == 0 && !g.chance(6) || g.chance(3) {
		return "savepoint " + g.word("p", "p", "q", `"odd one"`)
	}
	name := g.word("p", "q")
	if len(guest.points) > 0 && !g.chance(6) {
		name = impl.NameText(guest.points[below(g.numberSource, len(guest.points))].name)
	}
	return g.word("rollback to ", "rollback to ", "release ") + name
}

func (g *innGrower) anyTable() impl.Table {
	return g.schema.Tables[below(g.numberSource, len(g.schema.Tables))]
}

func (g *innGrower) anyColumn(table impl.Table) impl.Column {
	return table.Cols[below(g.numberSource, len(table.Cols))]
}

func (g *innGrower) definitionText() string {
	switch {
	case len(g.schema.Tables) == 0 || g.chance(3):
		return g.word(tablePool()...)
	case g.chance(6):
		return "drop table " + impl.NameText(g.anyTable().Name)
	case g.chance(4) && len(g.schema.Indexes) > 0:
		return "drop index " + impl.NameText(g.schema.Indexes[below(g.numberSource, len(g.schema.Indexes))].Name)
	case g.chance(6):
		return g.printed(newCatalogGrower(g.numberSource, nil).definition(g.schema))
	}
	table := g.anyTable()
	cols := impl.NameText(g.anyColumn(table).Name)
	if g.chance(2) {
		cols += ", " + impl.NameText(g.anyColumn(table).Name)
	}
	return fmt.Sprintf("create %sindex %s on %s (%s)", g.word("", "unique "), g.word("i", "j", "k", "l"), impl.NameText(table.Name), cols)
}

func (g *innGrower) printed(p *plant) string {
	text, _ := impl.Print(planted(p))
	return text
}

// oddText is any query or change, which may have a fault.
func (g *innGrower) oddText() string {
	q := newQueryGrower(g.numberSource, g.schema, below(g.numberSource, 3))
	statement := q.change()
	if g.chance(2) && !g.plain {
		statement = q.query(q.kinds(1, 3), false)
	}
	if g.chance(6) {
		q.spoilStatement(statement)
	}
	return g.printed(statement)
}

// literal is a value for a column, one of a few most often.
func (g *innGrower) literalFor(column impl.Column) string {
	if g.chance(10) && (!column.NotNull || g.chance(5)) {
		return "null"
	}
	if g.chance(15) {
		v := exprGrower{grower: g.grower}.valueOf(column.Kind)
		if v.N != -9223372036854775808 {
			return impl.Show(v)
		}
	}
	switch column.Kind {
	case impl.Int:
		return fmt.Sprint(below(g.numberSource, 6))
	case impl.Dec:
		return g.word("0.5", "1", "2.25", "3.0", "7")
	case impl.Text:
		return g.word("'a'", "'b'", "'c'", "'d'", "'"+strings.Repeat("long ", g.pick(1, 15, 40))+"'")
	case impl.Bool:
		return g.word("true", "false")
	}
	return fmt.Sprintf("date '2020-01-0%d'", 1+below(g.numberSource, 5))
}

// condition of rows of a table, which is named in it.
func (g *innGrower) conditionOn(table impl.Table) string {
	column := g.anyColumn(table)
	name := impl.NameText(table.Name) + "." + impl.NameText(column.Name)
	switch below(g.numberSource, 8) {
	case 0:
		return name + g.word(" is null", " is not null")
	case 1:
		other := g.anyTable()
		return fmt.Sprintf("%sexists (select 1 from %s z where z.%s = %s)", g.word("", "not "), impl.NameText(other.Name), impl.NameText(g.sameKind(other, column.Kind).Name), name)
	case 2:
		other := g.anyTable()
		return fmt.Sprintf("%s in (select %s from %s)", name, impl.NameText(g.sameKind(other, column.Kind).Name), impl.NameText(other.Name))
	case 3:
		return fmt.Sprintf("%s between %s and %s", name, g.literalFor(column), g.literalFor(column))
	}
	return name + g.word(" = ", " = ", " <> ", " < ", " >= ") + g.literalFor(column)
}

// sameKind is a column of a kind, if there is one.
func (g *innGrower) sameKind(table impl.Table, kind int) impl.Column {
	for range 5 {
		if column := g.anyColumn(table); column.Kind == kind {
			return column
		}
	}
	return g.anyColumn(table)
}

func (g *innGrower) question() string {
	table := g.anyTable()
	name, column := impl.NameText(table.Name), impl.NameText(g.anyColumn(table).Name)
	switch below(g.numberSource, 7) {
	case 0:
		return "select count(*), min(" + column + "), max(" + column + ") from " + name
	case 1:
		return "select " + column + ", count(*) from " + name + " group by " + column
	case 2:
		other := g.anyTable()
		link := g.anyColumn(table)
		return fmt.Sprintf("select x.*, y.%s from %s x%s %s y on x.%s = y.%s", impl.NameText(g.anyColumn(other).Name), name, g.word(" join", " left join"),
			impl.NameText(other.Name), impl.NameText(link.Name), impl.NameText(g.sameKind(other, link.Kind).Name))
	case 3:
		if g.plain {
			return "select distinct " + column + " from " + name
		}
		return "select * from " + name + " order by " + column + g.word("", " desc", " limit 3", " desc limit 2 offset 1")
	}
	return "select * from " + name + g.word("", " where "+g.conditionOn(table))
}

func (g *innGrower) changeText() string {
	table := g.anyTable()
	name := impl.NameText(table.Name)
	where := ""
	if !g.chance(6) {
		where = " where " + g.conditionOn(table)
	}
	switch below(g.numberSource, 8) {
	case 0:
		return "delete from " + name + where
	case 1, 2, 3:
		column := g.anyColumn(table)
		value := g.literalFor(column)
		if column.Kind == impl.Int && g.chance(2) {
			value = impl.NameText(column.Name) + g.word(" + 1", " - 1", " * 2", " / 0")
		}
		return fmt.Sprintf("update %s set %s = %s%s", name, impl.NameText(column.Name), value, where)
	case 4:
		return g.insertOfQuery(table)
	}
	return g.insertOfValues(table)
}

func (g *innGrower) insertOfQuery(table impl.Table) string {
	source := g.anyTable()
	var items []string
	for _, column := range table.Cols {
		item := impl.NameText(g.sameKind(source, column.Kind).Name)
		if g.chance(3) {
			item = g.literalFor(column)
		}
		items = append(items, item)
	}
	name := impl.NameText(source.Name)
	return fmt.Sprintf("insert into %s select %s from %s%s", impl.NameText(table.Name), strings.Join(items, ", "), name, g.word("", " where "+g.conditionOn(source)))
}

func (g *innGrower) insertOfValues(table impl.Table) string {
	cols, names := table.Cols, ""
	if g.chance(4) {
		cols = cols[:1+below(g.numberSource, len(cols))]
		var list []string
		for _, column := range cols {
			list = append(list, impl.NameText(column.Name))
		}
		names = " (" + strings.Join(list, ", ") + ")"
	}
	var rows []string
	for range g.pick(1, 1, 1, 2, 3, 12) {
		var list []string
		for _, column := range cols {
			if value := g.literalFor(column); g.chance(12) {
				list = append(list, "default")
			} else {
				list = append(list, value)
			}
		}
		rows = append(rows, "("+strings.Join(list, ", ")+")")
	}
	return "insert into " + impl.NameText(table.Name) + names + " values " + strings.Join(rows, ", ")
}
