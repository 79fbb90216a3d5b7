package tests

import (
	"fmt"
	"math"
	"slices"
	"strings"
	"testing"

	"loop.example/g00001/impl"
)

func TestCatalogConstants(t *testing.T) {
	if impl.MaxTables != 16 || impl.MaxCols != 12 || impl.MaxKeys != 6 || impl.MaxChecks != 6 || impl.MaxIndexes != 24 || impl.MaxIds != 1000000 {
		t.Errorf("bounds: %d, %d, %d, %d, %d, %d", impl.MaxTables, impl.MaxCols, impl.MaxKeys, impl.MaxChecks, impl.MaxIndexes, impl.MaxIds)
	}
}

// fullSchema has all that a schema can have, and numbers that are free.
func fullSchema(t *testing.T) impl.Schema {
	t.Helper()
	return defined(t, "create table gone (a int)", "create table t (id int primary key, a text default 'x' check (a <> ''), d decimal not null, unique (a, id), unique (d), check (id + 1 > 2))",
		"create unique index i on t (a, id)", "create table u (b boolean, y date default date '2020-01-01', id int)", "create index j on u (y)", "create index k on t (d)", "drop table gone", "create table v (a int)", "drop table v")
}

func wantSchemaValidity(t *testing.T, what string, s impl.Schema, want bool) {
	t.Helper()
	kept := copySchema(s)
	if got := impl.SchemaOK(s); got != want || wantedSchemaOK(s) != want {
		t.Errorf("%s: valid is %v, by the reference %v; want %v", what, got, wantedSchemaOK(s), want)
	}
	if want {
		return
	}
	drop := parsed(t, "   drop table t")
	if got, code, pos := impl.Define(s, drop); !sameSchema(got, impl.Schema{}) || code != impl.ErrBad || pos != 0 {
		t.Errorf("%s: defined to %v, %d, %d", what, got, code, pos)
	}
	if code := impl.CheckRow(s, 0, []impl.Value{intv(5), textv("x"), decv(1)}); code != impl.ErrBad {
		t.Errorf("%s: a row is %d", what, code)
	}
	if !sameSchema(s, kept) {
		t.Errorf("%s: an argument was written into", what)
	}
}

// change is a way of changing a schema.
type change struct {
	what string
	make func(s *impl.Schema)
}

func wantChanges(t *testing.T, want bool, list []change) {
	t.Helper()
	for _, c := range list {
		s := fullSchema(t)
		c.make(&s)
		wantSchemaValidity(t, c.what, s, want)
	}
}

func TestSchemaOKOfNone(t *testing.T) {
	for next, want := range map[int]bool{1: true, 2: true, 500: true, impl.MaxIds: true, 0: false, -1: false, impl.MaxIds + 1: false, math.MaxInt: false, math.MinInt: false} {
		wantSchemaValidity(t, fmt.Sprint("no tables, Next ", next), impl.Schema{Next: next}, want)
	}
	wantSchemaValidity(t, "empty lists", impl.Schema{Tables: []impl.Table{}, Indexes: []impl.Index{}, Next: 1}, true)
	wantSchemaValidity(t, "nothing", impl.Schema{}, false)
	wantSchemaValidity(t, "empty tables", impl.Schema{Tables: make([]impl.Table, 1), Next: 5}, false)
	wantSchemaValidity(t, "far too many tables", impl.Schema{Tables: make([]impl.Table, 100000), Indexes: make([]impl.Index, 100000), Next: 5}, false)
}

// What may be otherwise in a valid schema.
func TestSchemaOKLetsBe(t *testing.T) {
	wantChanges(t, true, []change{
		{"nothing", func(s *impl.Schema) {}}, {"a greater Next", func(s *impl.Schema) { s.Next = impl.MaxIds }}, {"the least Next", func(s *impl.Schema) { s.Next = 7 }},
		{"tables in another order", func(s *impl.Schema) { slices.Reverse(s.Tables) }}, {"indexes in another order", func(s *impl.Schema) { slices.Reverse(s.Indexes) }},
		{"a number that is free", func(s *impl.Schema) { s.Tables[0].Id = 1 }}, {"an index's number below its table's", func(s *impl.Schema) { s.Indexes[1].Id = 1 }}, {"another free number", func(s *impl.Schema) { s.Indexes[0].Id = 7 }},
		{"numbers exchanged", func(s *impl.Schema) { s.Tables[0].Id, s.Indexes[2].Id = s.Indexes[2].Id, s.Tables[0].Id }},
		{"no indexes", func(s *impl.Schema) { s.Indexes = nil }}, {"an index less", func(s *impl.Schema) { s.Indexes = s.Indexes[1:] }}, {"a table without indexes less", func(s *impl.Schema) { s.Tables, s.Indexes = s.Tables[:1], s.Indexes[:1] }},
		{"nil for empty", func(s *impl.Schema) { s.Tables[1].Primary, s.Tables[1].Uniques, s.Tables[1].Checks = nil, nil, nil }},
		{"empty for nil", func(s *impl.Schema) {
			s.Tables[1].Primary, s.Tables[1].Uniques, s.Tables[1].Checks = []int{}, [][]int{}, []impl.Expr{}
			s.Tables[0].Checks[0].Nodes[0].Kids = []int{}
		}},
	})
}

func TestSchemaOKOfNumbersAndNames(t *testing.T) {
	wantChanges(t, false, []change{
		{"Next 0", func(s *impl.Schema) { s.Next = 0 }}, {"Next is taken", func(s *impl.Schema) { s.Next = 6 }}, {"Next is in the past", func(s *impl.Schema) { s.Next = 1 }}, {"Next too great", func(s *impl.Schema) { s.Next = impl.MaxIds + 1 }},
		{"a table's number 0", func(s *impl.Schema) { s.Tables[0].Id = 0 }}, {"a table's number below 0", func(s *impl.Schema) { s.Tables[0].Id = -1 }}, {"a table's number is Next", func(s *impl.Schema) { s.Tables[1].Id = s.Next }},
		{"a table's number beyond Next", func(s *impl.Schema) { s.Tables[1].Id = math.MaxInt }}, {"the least number", func(s *impl.Schema) { s.Tables[0].Id = math.MinInt }}, {"an index's number 0", func(s *impl.Schema) { s.Indexes[0].Id = 0 }},
		{"an index's number is Next", func(s *impl.Schema) { s.Indexes[2].Id = s.Next }}, {"two tables of one number", func(s *impl.Schema) { s.Tables[0].Id = s.Tables[1].Id }},
		{"two indexes of one number", func(s *impl.Schema) { s.Indexes[0].Id = s.Indexes[2].Id }}, {"a table and an index of one number", func(s *impl.Schema) { s.Indexes[0].Id = s.Tables[1].Id }},
		{"a table twice", func(s *impl.Schema) { s.Tables = append(s.Tables, s.Tables[0]) }}, {"an index twice", func(s *impl.Schema) { s.Indexes = append(s.Indexes, s.Indexes[0]) }},
		{"a table's name twice", func(s *impl.Schema) {
			more := s.Tables[0]
			more.Id = 1
			s.Tables = append(s.Tables, more)
		}},
		{"an index's name twice", func(s *impl.Schema) {
			more := s.Indexes[0]
			more.Id = 1
			s.Indexes = append(s.Indexes, more)
		}},
		{"a table that is not there", func(s *impl.Schema) { s.Tables = s.Tables[1:] }},
	})
}

func TestSchemaOKAtEveryFieldOfATable(t *testing.T) {
	table := func(make func(x *impl.Table)) func(s *impl.Schema) {
		return func(s *impl.Schema) { make(&s.Tables[0]) }
	}
	node := func(make func(x *impl.XNode)) func(s *impl.Schema) {
		return func(s *impl.Schema) { nodes := s.Tables[0].Checks[0].Nodes; make(&nodes[len(nodes)-1]) }
	}
	wantChanges(t, false, []change{
		{"name", table(func(x *impl.Table) { x.Name = "w" })}, {"no name", table(func(x *impl.Table) { x.Name = "" })}, {"a name in other letters", table(func(x *impl.Table) { x.Name = "T" })},
		{"a column more", table(func(x *impl.Table) { x.Cols = append(x.Cols, impl.Column{Name: "z", Kind: 1}) })}, {"a column less", table(func(x *impl.Table) { x.Cols = x.Cols[:2] })}, {"no columns", table(func(x *impl.Table) { x.Cols = nil })},
		{"columns in another order", table(func(x *impl.Table) { x.Cols[1], x.Cols[2] = x.Cols[2], x.Cols[1] })}, {"a column's name", table(func(x *impl.Table) { x.Cols[0].Name = "Id" })}, {"a column's kind", table(func(x *impl.Table) { x.Cols[2].Kind = impl.Int })},
		{"no kind", table(func(x *impl.Table) { x.Cols[2].Kind = 9 })}, {"NOT NULL", table(func(x *impl.Table) { x.Cols[1].NotNull = true })}, {"NULL in a key", table(func(x *impl.Table) { x.Cols[0].NotNull = false })},
		{"not NOT NULL", table(func(x *impl.Table) { x.Cols[2].NotNull = false })}, {"a default more", table(func(x *impl.Table) { x.Cols[0].HasDefault = true })}, {"a default less", table(func(x *impl.Table) { x.Cols[1].HasDefault = false })},
		{"a default's value", table(func(x *impl.Table) { x.Cols[1].Default = textv("y") })}, {"no default's value", table(func(x *impl.Table) { x.Cols[1].Default = null })}, {"a value without default", table(func(x *impl.Table) { x.Cols[0].Default = intv(1) })},
		{"a default that is no value", table(func(x *impl.Table) { x.Cols[1].Default = textv("\xff") })},
		{"no key", table(func(x *impl.Table) { x.Primary = nil })}, {"another key", table(func(x *impl.Table) { x.Primary[0] = 1 })}, {"a longer key", table(func(x *impl.Table) { x.Primary = append(x.Primary, 1) })}, {"a key of no column", table(func(x *impl.Table) { x.Primary[0] = -1 })},
		{"a unique key less", table(func(x *impl.Table) { x.Uniques = x.Uniques[:1] })}, {"a unique key more", table(func(x *impl.Table) { x.Uniques = append(x.Uniques, []int{0}) })}, {"an empty key more", table(func(x *impl.Table) { x.Uniques = append(x.Uniques, nil) })},
		{"unique keys in another order", table(func(x *impl.Table) { slices.Reverse(x.Uniques) })}, {"a unique key's columns", table(func(x *impl.Table) { slices.Reverse(x.Uniques[0]) })},
		{"a condition less", table(func(x *impl.Table) { x.Checks = x.Checks[:1] })}, {"a condition more", table(func(x *impl.Table) { x.Checks = append(x.Checks, x.Checks[0]) })}, {"an empty condition more", table(func(x *impl.Table) { x.Checks = append(x.Checks, impl.Expr{}) })},
		{"conditions in another order", table(func(x *impl.Table) { slices.Reverse(x.Checks) })}, {"a condition that is empty", table(func(x *impl.Table) { x.Checks[0] = impl.Expr{} })},
		{"a node's operation", node(func(x *impl.XNode) { x.Op = impl.XIn })}, {"a node's Kind", node(func(x *impl.XNode) { x.Kind = 0 })}, {"a node's A", node(func(x *impl.XNode) { x.A = impl.OpEq })}, {"a node's B", node(func(x *impl.XNode) { x.B = 1 })},
		{"a node's value", node(func(x *impl.XNode) { x.Val = intv(1) })}, {"a node's kids", node(func(x *impl.XNode) { x.Kids[0] = 1 })}, {"a kid more", node(func(x *impl.XNode) { x.Kids = append(x.Kids, 0) })},
	})
}

func TestSchemaOKOfTexts(t *testing.T) {
	table := func(text string) func(s *impl.Schema) { return func(s *impl.Schema) { s.Tables[1].Text = text } }
	index := func(text string) func(s *impl.Schema) { return func(s *impl.Schema) { s.Indexes[1].Text = text } }
	good := fullSchema(t)
	wantChanges(t, true, []change{{"its text", table(good.Tables[1].Text)}, {"an index's text", index(good.Indexes[1].Text)}})
	text := "CREATE TABLE u ( b BOOLEAN , y DATE DEFAULT DATE '2020-01-01' , id INT )"
	if good.Tables[1].Text != text || good.Indexes[1].Text != "CREATE INDEX j ON u ( y )" {
		t.Fatalf("%v", good)
	}
	var list []change
	for _, wrong := range []string{
		"", " ", text + " ", " " + text, text + " ;", text + ";", strings.ToLower(text), strings.Replace(text, " , ", ", ", 1), strings.Replace(text, "id", `"id"`, 1), text + " -- u", strings.Replace(text, "INT", "INT NOT NULL", 1), "\xff", "CREATE TABLE u (",
		strings.Replace(text, " u ", " w ", 1), strings.Replace(text, "b BOOLEAN", "b BOOLEAN , b BOOLEAN", 1), strings.Replace(text, "id INT", "id TEXT", 1), strings.Replace(text, "01-01", "01-02", 1), "CREATE INDEX j ON u ( y )", "DROP TABLE u", "DROP INDEX j",
		"SELECT 1", "COMMIT", good.Tables[0].Text, text + strings.Repeat(" ", 9000), strings.Replace(text, "id INT", "id INT CHECK ( z )", 1),
	} {
		list = append(list, change{"a table's text: " + wrong, table(wrong)})
	}
	for _, wrong := range []string{
		"", "create index j on u (y)", "CREATE INDEX j ON u ( y ) ", "CREATE UNIQUE INDEX j ON u ( y )", "CREATE INDEX j ON u ( b )", "CREATE INDEX j ON t ( a )", "CREATE INDEX j2 ON u ( y )", "CREATE INDEX j ON u ( y , y )", "CREATE INDEX j ON u ( y , b )",
		"CREATE INDEX j ON nowhere ( y )", "CREATE INDEX j ON u ( z )", good.Indexes[0].Text, text, "CREATE TABLE j ( y INT )", "DROP INDEX j", "DROP TABLE u", "SELECT 1", "CREATE INDEX", "\x00",
	} {
		list = append(list, change{"an index's text: " + wrong, index(wrong)})
	}
	wantChanges(t, false, list)
}

func TestSchemaOKAtEveryFieldOfAnIndex(t *testing.T) {
	index := func(make func(x *impl.Index)) func(s *impl.Schema) {
		return func(s *impl.Schema) { make(&s.Indexes[0]) }
	}
	wantChanges(t, false, []change{
		{"name", index(func(x *impl.Index) { x.Name = "l" })}, {"no name", index(func(x *impl.Index) { x.Name = "" })}, {"table", index(func(x *impl.Index) { x.Table = "u" })}, {"no table", index(func(x *impl.Index) { x.Table = "" })},
		{"a table that is not there", index(func(x *impl.Index) { x.Table = "gone" })}, {"unique", index(func(x *impl.Index) { x.Unique = false })}, {"columns in another order", index(func(x *impl.Index) { slices.Reverse(x.Cols) })},
		{"a column less", index(func(x *impl.Index) { x.Cols = x.Cols[:1] })}, {"a column more", index(func(x *impl.Index) { x.Cols = append(x.Cols, 2) })}, {"no columns", index(func(x *impl.Index) { x.Cols = nil })},
		{"a column that is not there", index(func(x *impl.Index) { x.Cols[0] = 99 })}, {"another text", index(func(x *impl.Index) { x.Text += " " })},
		{"an index whose table was changed", func(s *impl.Schema) {
			// The table is what its text gives, but no index of it is any more.
			s.Tables[1] = definedOn(t, impl.Schema{Next: 4}, "create table u (b boolean, id int, y date)").Tables[0]
		}},
	})
}

func TestSchemaOKMaxTablesAndIndexes(t *testing.T) {
	s := impl.Schema{Next: 100}
	add := func(i int) {
		made := definedOn(t, impl.Schema{Next: i + 1}, fmt.Sprintf("create table t%d (a int)", i))
		s.Tables = append(s.Tables, made.Tables[0])
	}
	for i := range impl.MaxTables {
		add(i)
	}
	for i := range impl.MaxIndexes {
		s.Indexes = append(s.Indexes, impl.Index{Name: fmt.Sprint("i", i), Table: "t3", Id: 50 + i, Cols: []int{0}, Text: fmt.Sprintf("CREATE INDEX i%d ON t3 ( a )", i)})
	}
	wantSchemaValidity(t, "MaxTables and MaxIndexes", s, true)
	more := copySchema(s)
	more.Indexes = append(more.Indexes, impl.Index{Name: "j", Table: "t3", Id: 90, Cols: []int{0}, Text: "CREATE INDEX j ON t3 ( a )"})
	wantSchemaValidity(t, "an index more", more, false)
	more.Indexes = more.Indexes[1:]
	wantSchemaValidity(t, "as many indexes", more, true)
	add(impl.MaxTables)
	wantSchemaValidity(t, "a table more", s, false)
}

// A schema can be defined again from its Texts, each with the number that it has.
func TestSchemaFromTexts(t *testing.T) {
	g := newCatalogGrower(&numberSource{state: 55}, nil)
	for round := 0; round < 60; round++ {
		s := grownSchema(g, 14)
		again := impl.Schema{Next: 1}
		tables, indexes := s.Tables, s.Indexes
		for len(tables)+len(indexes) > 0 {
			var text string
			if len(indexes) == 0 || len(tables) > 0 && tables[0].Id < indexes[0].Id {
				again.Next, text, tables = tables[0].Id, tables[0].Text, tables[1:]
			} else {
				again.Next, text, indexes = indexes[0].Id, indexes[0].Text, indexes[1:]
			}
			again = definedOn(t, again, text)
		}
		again.Next = s.Next
		if !sameSchema(again, s) {
			t.Fatalf("%v\nis defined again as %v", s, again)
		}
	}
}

func wantRowCodes(t *testing.T, s impl.Schema, table, code int, rows ...[]impl.Value) {
	t.Helper()
	for _, row := range rows {
		kept := slices.Clone(row)
		if got := impl.CheckRow(s, table, row); got != code || wantedRowCode(s, table, row) != code || !slices.Equal(row, kept) {
			t.Errorf("%v: %d; want %d", row, got, code)
		}
	}
}

func TestCheckRowCodes(t *testing.T) {
	s := defined(t, "create table other (a int)", "create table t (id int primary key, a text check (a <> ''), b int not null check (10 / b > 1), d decimal check (d > id), y date, e boolean)", "create table third (a int check (null))")
	v := func(id, a, b, d impl.Value) []impl.Value { return []impl.Value{id, a, b, d, null, null} }
	one, x, two := intv(1), textv("x"), intv(2)
	wantRowCodes(t, s, 1, impl.OK, v(one, x, two, decv(25000)), v(one, null, two, null), []impl.Value{one, x, two, null, datev(0), boolv(true)}, v(one, null, two, decv(10001)))
	wantRowCodes(t, s, 1, impl.ErrNull, v(null, x, two, null), v(one, x, null, null), v(null, textv(""), intv(0), decv(0)), v(one, textv(""), null, decv(0)))
	wantRowCodes(t, s, 1, impl.ErrCheck, v(one, textv(""), two, null), v(one, x, intv(9), null), v(one, x, intv(-2), null), v(one, x, two, decv(10000)), v(one, textv(""), intv(0), null), v(one, null, two, decv(-5)))
	wantRowCodes(t, s, 1, impl.ErrZero, v(one, x, intv(0), null), v(one, null, intv(0), decv(-5)))
	wantRowCodes(t, s, 1, impl.ErrBad, nil, v(one, x, two, null)[:5], append(v(one, x, two, null), null), v(x, x, two, null), v(one, one, two, null), v(one, x, decv(20000), null), v(one, x, two, two), v(boolv(true), x, two, null),
		v(null, x, textv("2"), null), v(null, one, null, null), v(null, textv("\xff"), null, null), v(impl.Value{Kind: impl.Int, S: "1"}, x, two, null), v(one, x, two, decv(impl.MaxDec+1)), v(impl.Value{N: 1}, x, two, null),
		[]impl.Value{one, x, two, null, intv(0), null}, []impl.Value{one, x, two, null, null, boolish(2)}, []impl.Value{one, x, two, null, datev(impl.MaxDate + 1), null})
	for _, table := range []int{-1, 3, math.MaxInt, math.MinInt} {
		wantRowCodes(t, s, table, impl.ErrBad, v(one, x, two, null), []impl.Value{one}, nil)
	}
	wantRowCodes(t, s, 0, impl.OK, []impl.Value{one}, []impl.Value{null})
	wantRowCodes(t, s, 2, impl.OK, []impl.Value{one}, []impl.Value{null})
	wantRowCodes(t, s, 0, impl.ErrBad, nil, []impl.Value{x}, make([]impl.Value, 100000))
}

// Conditions come in their order, those of columns and of the table, and the first that fails or is false gives the code.
func TestCheckRowInOrder(t *testing.T) {
	rows := func(n int) []impl.Value { return []impl.Value{intv(n), null} }
	for elements, code := range map[string]int{
		"a int check (1 / a = 1) check (a > 1), b int": impl.ErrZero, "a int check (a > 1) check (1 / a = 1), b int": impl.ErrCheck, "check (a > 1), a int check (1 / a = 1), b int": impl.ErrCheck,
		"a int check (1 / a = 1), check (a > 1), b int": impl.ErrZero, "a int check (b > a) check (null), b int check (cast(cast(a as text) || 'x' as int) = 1)": impl.ErrCast,
		"a int check (a = 0 or 1 / a = 1), b int": impl.OK, "a int check (a <> 0 and 1 / a = 1), b int": impl.ErrCheck, "a int check (b = 1), b int": impl.OK, "a int, b int not null check (1 / 0 = 1)": impl.ErrNull,
		"a int check (9223372036854775807 + 1 > a), b int": impl.ErrOverflow, "a int check (false), b int": impl.ErrCheck, "a int check (true), b int": impl.OK, "a int check (b), b boolean": impl.OK,
	} {
		wantRowCodes(t, defined(t, "create table t ("+elements+")"), 0, code, rows(0))
	}
	// A unique key asks nothing of one row.
	wantRowCodes(t, defined(t, "create table t (a int unique, b int, unique (b, a))", "create unique index i on t (b)"), 0, impl.OK, rows(1), []impl.Value{null, null})
}
