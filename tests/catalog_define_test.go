package tests

import (
	"fmt"
	"math"
	"slices"
	"strings"
	"testing"

	"loop.example/g00001/impl"
)

// definedOn is the schema behind some definitions.
func definedOn(t *testing.T, s impl.Schema, texts ...string) impl.Schema {
	t.Helper()
	for _, text := range texts {
		tree := parsed(t, text)
		next, code, pos := impl.Define(s, tree)
		if code != impl.OK || pos != 0 {
			t.Fatalf("%s: %d, %d", text, code, pos)
		}
		wantDefined(t, s, tree)
		s = next
	}
	return s
}

func defined(t *testing.T, texts ...string) impl.Schema {
	t.Helper()
	return definedOn(t, impl.Schema{Next: 1}, texts...)
}

// markedPlace is a text somewhat behind its beginning, without its mark ^, and the place of that; 0 without a mark.
func markedPlace(text string) (string, int) {
	before, behind, found := strings.Cut("  "+text, "^")
	if !found {
		return before, 0
	}
	return before + behind, len(before)
}

// wantDefineFaults asks for a code at the place that is marked by ^; without a mark at 0, where the root does not stand.
func wantDefineFaults(t *testing.T, s impl.Schema, code int, marked ...string) {
	t.Helper()
	for _, text := range marked {
		src, place := markedPlace(text)
		tree := parsed(t, src)
		got, gotCode, pos := impl.Define(s, tree)
		if gotCode != code || pos != place || !sameSchema(got, impl.Schema{}) {
			t.Errorf("%s: %v, %d, %d; want %d, %d", text, got, gotCode, pos, code, place)
		}
		wantDefined(t, s, tree)
	}
}

// inTable are elements as CREATE TABLE x has them.
func inTable(elements ...string) []string {
	var list []string
	for _, text := range elements {
		list = append(list, "create table x ("+text+")")
	}
	return list
}

func wantTableFaults(t *testing.T, code int, marked ...string) {
	t.Helper()
	wantDefineFaults(t, impl.Schema{Next: 1}, code, inTable(marked...)...)
}

// tableOf is the table x of some elements.
func tableOf(t *testing.T, elements string) impl.Table {
	t.Helper()
	s := defined(t, inTable(elements)...)
	return s.Tables[0]
}

func TestDefineTable(t *testing.T) {
	s := defined(t, `create table "My T" (Id int, a text unique default 'x' not null check (a <> '') primary key, d decimal default -2 unique not null not null, b boolean check ("My T".b), y date, unique (y, id),
		check (id > 1 or "d" < 2.5), unique (b))`)
	want := impl.Table{
		Name: "My T", Id: 1, Primary: []int{1}, Uniques: [][]int{{1}, {2}, {4, 0}, {3}},
		Cols: []impl.Column{
			{Name: "id", Kind: impl.Int}, {Name: "a", Kind: impl.Text, NotNull: true, HasDefault: true, Default: textv("x")}, {Name: "d", Kind: impl.Dec, NotNull: true, HasDefault: true, Default: decv(-20000)},
			{Name: "b", Kind: impl.Bool}, {Name: "y", Kind: impl.Date},
		},
		Checks: []impl.Expr{laid(bound(t, "t1 <> ''")), laid(bound(t, "b3")), laid(bound(t, "i0 > 1 or d2 < 2.5"))},
		Text: `CREATE TABLE "My T" ( id INT , a TEXT NOT NULL PRIMARY KEY UNIQUE DEFAULT 'x' CHECK ( a <> '' ) , d DECIMAL NOT NULL UNIQUE DEFAULT - 2 , b BOOLEAN CHECK ( "My T" . b ) , y DATE , ` +
			`UNIQUE ( y , id ) , CHECK ( ( id > 1 ) OR ( d < 2.5 ) ) , UNIQUE ( b ) )`,
	}
	if len(s.Tables) != 1 || !sameTable(s.Tables[0], want) || s.Next != 2 || len(s.Indexes) > 0 {
		t.Errorf("%v\nnot %v", s, want)
	}
}

func TestDefinePrimaryKeys(t *testing.T) {
	for _, elements := range []string{"a int, b int, c int, primary key (c, a)", "primary key (c, a), a int not null, b int, c int"} {
		x := tableOf(t, elements)
		if !slices.Equal(x.Primary, []int{2, 0}) || !x.Cols[0].NotNull || x.Cols[1].NotNull || !x.Cols[2].NotNull || len(x.Uniques) > 0 {
			t.Errorf("%s: %v", elements, x)
		}
	}
	// A key and a unique key of the same column stand beside each other, and so do keys that are said twice.
	x := tableOf(t, "b int, a int unique primary key, unique (a), unique (a), unique (b, a)")
	if !slices.Equal(x.Primary, []int{1}) || !slices.EqualFunc(x.Uniques, [][]int{{1}, {1}, {1}, {0, 1}}, slices.Equal) {
		t.Errorf("%v", x)
	}
	if x := tableOf(t, "a int default null primary key"); !x.Cols[0].NotNull || !x.Cols[0].HasDefault || x.Cols[0].Default != null {
		t.Errorf("%v", x)
	}
}

func TestDefineDefaults(t *testing.T) {
	for text, want := range map[string]impl.Value{
		"int default 1": intv(1), "int default -1": intv(-1), "int default (1 + 2 * 3)": intv(7), "int default null": null, "int default cast(null as text)": null, "int default (1 + null)": null,
		"int default cast('12' as int)": intv(12), "decimal default 3": decv(30000), "decimal default 2.5": decv(25000), "decimal default - (1 + 1)": decv(-20000), "decimal default 99999999999999": decv(999999999999990000),
		"decimal default null": null, "text default 'it''s'": textv("it's"), "text default upper('a')": textv("A"), "text default cast(1 as text)": textv("1"), "boolean default true": boolv(true),
		"boolean default (1 = 2)": boolv(false), "boolean default (null is null)": boolv(true), "date default date '1970-01-02'": datev(1), "date default (date '1970-01-02' + 1)": datev(2),
		"int default case when true then 1 else 1 / 0 end": intv(1), "decimal default coalesce(null, 1, 2.5)": decv(10000), "date default nullif(date '1970-01-02', date '1970-01-02')": null,
	} {
		if x := tableOf(t, "a "+text); !x.Cols[0].HasDefault || x.Cols[0].Default != want || x.Cols[0].NotNull {
			t.Errorf("%s: %v", text, x.Cols[0])
		}
	}
	if x := tableOf(t, "a int"); x.Cols[0].HasDefault {
		t.Errorf("a default that nobody said")
	}
}

// The first rule: columns and what stands behind DEFAULT.
func TestDefineColumnFaults(t *testing.T) {
	wantTableFaults(t, impl.ErrExists, "a int, ^a int", "a int, b int, ^a text", "a int, ^a int default 'x'", "a int, ^a int, a int, b int default 'x'", `a int, ^"a" int`, "a int default 1 ^default 2", "a int default 1 check (nope) ^default 1",
		"a int default 1 ^default 'x'", "a int default 1 ^default nope", "a int default 1 ^default 2 default 3, a int", "a int default 1 ^default (1 / 0)")
	wantTableFaults(t, impl.ErrType, "a int ^default 'x'", "a int ^default 1.5", "a int ^default true", "a text ^default 1", "a boolean ^default 'true'", "a date ^default '2020-01-01'", "a decimal ^default '1'", "a boolean ^default 1",
		"a int default ('x' ^+ 1)", "a int default ^cast(1 as date)", "a int ^default date '2020-01-01'", "a int ^default 'x' default 1", "a int ^default 'x', a int")
	wantTableFaults(t, impl.ErrZero, "a int ^default (1 / 0)", "a int ^default (1 % 0)", "a text ^default (1 / 0)", "a int ^default (1 / 0) default 2")
	wantTableFaults(t, impl.ErrCast, "a date ^default cast('x' as date)", "a text ^default substr('a', 1, -1)", "b int, a int ^default cast('1.5' as int)")
	wantTableFaults(t, impl.ErrOverflow, "a int ^default (9223372036854775807 + 1)", "a decimal ^default 100000000000000", "a decimal ^default - 9223372036854775807", "a date ^default (date '9999-12-31' + 1)")
	wantTableFaults(t, impl.ErrColumn, "a int default ^b", "a int default ^a", "b int, a int default (1 + ^b)", "a int default ^x.a", "a int default ^nope(1)")
	wantTableFaults(t, impl.ErrGroup, "a int default ^count(*)", "a int default ^(select 1)", "a boolean default ^exists (select 1)", "a boolean default (1 ^in (select 1))")
	wantTableFaults(t, impl.ErrWidth, "a int default ^abs()", "a int default ^coalesce()")
}

// The second rule: keys.
func TestDefineKeyFaults(t *testing.T) {
	wantTableFaults(t, impl.ErrExists, "a int primary key, ^b int primary key", "a int primary key, b int, ^primary key (b)", "primary key (b), a int, ^b int primary key", "a int, primary key (a), ^primary key (a)",
		"a int primary key, ^b int primary key unique", "a int primary key, ^b int unique primary key, unique (z)", "a int primary key, b int, ^primary key (b, a)")
	wantTableFaults(t, impl.ErrColumn, "a int, primary key (^z)", "primary key (^z), a int", "a int, unique (^z)", "unique (a, ^z), a int", `a int, unique (^"A")`, "a int, unique (a, ^y, z)", "a int, unique (^z, a, a)", "a int, primary key (^x)")
	wantTableFaults(t, impl.ErrMany, "a int, primary key (a, ^a)", "a int, b int, unique (a, b, ^a)", "a int, unique (a, ^a, z)", "a int, b int, unique (b, ^b, a, a)")
	// Of a list its names come ahead of the question whether there may be one more.
	wantTableFaults(t, impl.ErrColumn, "a int primary key, primary key (^z)", "a int, primary key (a), primary key (a, ^z)")
	wantTableFaults(t, impl.ErrMany, "a int primary key, primary key (a, ^a)")
	// One element behind the other.
	wantTableFaults(t, impl.ErrColumn, "a int, unique (^z), primary key (y)", "a int, primary key (^y), unique (z)", "a int primary key, unique (^z), primary key (a)")
	wantTableFaults(t, impl.ErrExists, "a int primary key, ^primary key (a), unique (z)", "a int primary key, ^b int primary key, primary key (z)")
}

// The third rule: conditions.
func TestDefineCheckFaults(t *testing.T) {
	wantTableFaults(t, impl.ErrType, "a int, ^check (a)", "a int ^check (a + 1)", "a int, ^check ('x')", "a int check (a ^= 'x')", "^check (a), a int check ('x')", "a int ^check ('x'), check (a)", "a date ^check (a)")
	wantTableFaults(t, impl.ErrColumn, "a int, check (^z)", "a int check (^y.a = 1)", "check (^z), a int check (y)", "a int check (^y), check (z)", "a int, check (^z > count(*))", `a int check (^"A" = 1)`, "a int check (a in (1, ^z))")
	wantTableFaults(t, impl.ErrGroup, "a int, check (^count(*) = 1)", "a int check (a ^in (select z))", "a int, check (^exists (select z))", "a int, check (a = ^(select 1))", "a int check (^sum(a) = 1), check (z)")
	wantTableFaults(t, impl.ErrWidth, "a int, check (^abs() = 1)")
	wantTableFaults(t, impl.ErrBig, "a int, check (a ^in ("+repeated("1", 399, ", ")+"))", "a int check (a ^in ("+repeated("1", 399, ", ")+")), check (z)")
	x := tableOf(t, "check (b > a and x.b = x.a), a int check (null), b int check (a in ("+repeated("1", 398, ", ")+"))")
	if len(x.Checks) != 3 || impl.ExprText(x.Checks[0]) != "((#1 > #0) AND (#1 = #0))" || impl.ExprText(x.Checks[1]) != "NULL" || len(x.Checks[2].Nodes) != 400 {
		t.Errorf("%v", x)
	}
	// A condition is not worked out here.
	if x := tableOf(t, "a int check (1 / 0 = 1) check (false)"); impl.ExprText(x.Checks[0]) != "((1 / 0) = 1)" || impl.ExprText(x.Checks[1]) != "FALSE" {
		t.Errorf("%v", x)
	}
}

// The rules are gone through one behind the other, each over all elements.
func TestDefineRulesInOrder(t *testing.T) {
	wantTableFaults(t, impl.ErrExists, "unique (z), a int, ^a int", "a int, ^a int, unique (z)", "a int primary key, primary key (a), ^a int", "check (z), a int, ^a int", "a int, ^a int, check (z)", "a int check (a), ^a int")
	wantTableFaults(t, impl.ErrType, "primary key (z), a int ^default 'x'", "a int ^default 'x', primary key (z)", "a int check (z) ^default 'x'", "a int ^default 'x' check (z)", "check (z), unique (z), a int ^default 'x'")
	wantTableFaults(t, impl.ErrColumn, "a int check (a), unique (^z)", "unique (^z), a int check (a)", "check (1), a int, primary key (^z)", "a int, primary key (^z), check (1)", "a int, unique (^y), check (z)")
	wantTableFaults(t, impl.ErrMany, "a int check (a), primary key (a, ^a)", "primary key (a, ^a), a int check (a)")
	wantTableFaults(t, impl.ErrExists, "a int check (z) primary key, ^primary key (a)", "a int primary key, ^b int primary key check (z)")
	// No column at all is found behind the first rule.
	wantDefineFaults(t, impl.Schema{Next: 1}, impl.ErrColumn, "^create table x (check (1 = 1))", "^create table x (check (z), unique (z, z), primary key (y))", "^create table x (primary key (a), primary key (a))", "^create table x (check (1))")
	// What is wrong with the whole comes ahead of all that.
	s := defined(t, "create table x (a int)")
	wantDefineFaults(t, s, impl.ErrExists, "^create table x (a int, a int)", "^create table x (check (z))", `^create table "x" (b int default 'x')`)
}

func TestDefineNames(t *testing.T) {
	// Names are alike if their bytes are; tables and indexes have names of their own.
	s := defined(t, "create table t (a int, \"A\" int, \"a \" int)", "create table \"T\" (a int)", "create table \"t \" (a int)", "create index t on t (a)", "create index \"T\" on \"T\" (a)", "create table i (i int)", "create index i on i (i)")
	if len(s.Tables) != 4 || len(s.Indexes) != 3 || s.Next != 8 || s.Indexes[1].Table != "T" || !slices.Equal(s.Indexes[1].Cols, []int{0}) {
		t.Errorf("%v", s)
	}
	wantDefineFaults(t, s, impl.ErrExists, "^create table T (a int)", "^create index T on t (a)", "^create table I (a int)")
	wantDefineFaults(t, s, impl.ErrTable, `^drop table "I"`, `^drop index "t "`, `^create index j on "I" (i)`)
	name := strings.Repeat("n", impl.MaxName)
	if s := defined(t, "create table "+name+" ("+name+" int check ("+name+"."+name+" > 1))", "create index "+name+" on "+name+" ("+name+")"); s.Tables[0].Cols[0].Name != name || s.Indexes[0].Name != name {
		t.Errorf("%v", s)
	}
}

func TestDefineIndexes(t *testing.T) {
	s := defined(t, "create table t (a int, b text, c date)", "create index i on t (c, a)", "create unique index j on t (b)")
	want := []impl.Index{
		{Name: "i", Table: "t", Id: 2, Cols: []int{2, 0}, Text: "CREATE INDEX i ON t ( c , a )"}, {Name: "j", Table: "t", Id: 3, Cols: []int{1}, Unique: true, Text: "CREATE UNIQUE INDEX j ON t ( b )"},
	}
	if !slices.EqualFunc(s.Indexes, want, sameIndex) || s.Next != 4 {
		t.Errorf("%v", s)
	}
	wantDefineFaults(t, s, impl.ErrExists, "^create index i on t (a)", "^create unique index j on nowhere (z)", "^create index i on t (z, z)")
	wantDefineFaults(t, s, impl.ErrTable, "^create index k on nowhere (a)", "^create index t on i (z)")
	wantDefineFaults(t, s, impl.ErrColumn, "create index k on t (^z)", "create index k on t (a, ^z, a)", `create unique index k on t (^"B")`, "create index k on t (^z, a, a)")
	wantDefineFaults(t, s, impl.ErrMany, "create index k on t (a, ^a)", "create index k on t (a, b, ^a, z)", "create unique index k on t (c, b, ^b, c)")
}

func TestDefineDrops(t *testing.T) {
	s := defined(t, "create table t (a int)", "create index i on t (a)", "create table u (a int)", "create index j on u (a)", "create index k on t (a)", "create table v (a int)")
	less := definedOn(t, s, "drop table t")
	if len(less.Tables) != 2 || less.Tables[0].Id != 3 || less.Tables[1].Id != 6 || len(less.Indexes) != 1 || less.Indexes[0].Id != 4 || less.Next != 7 {
		t.Errorf("DROP TABLE t: %v", less)
	}
	less = definedOn(t, s, "drop index i")
	if len(less.Tables) != 3 || len(less.Indexes) != 2 || less.Indexes[0].Name != "j" || less.Indexes[1].Name != "k" || less.Next != 7 {
		t.Errorf("DROP INDEX i: %v", less)
	}
	less = definedOn(t, s, "drop table v")
	if len(less.Tables) != 2 || len(less.Indexes) != 3 || less.Next != 7 {
		t.Errorf("DROP TABLE v: %v", less)
	}
	less = definedOn(t, s, "drop table u", "drop table t", "drop table v")
	if !sameSchema(less, impl.Schema{Next: 7}) {
		t.Errorf("all are dropped: %v", less)
	}
	// A name is free again, but not a number.
	again := definedOn(t, s, "drop table t", "create table t (b text)", "create index i on t (b)")
	if again.Tables[2].Id != 7 || again.Tables[2].Name != "t" || again.Indexes[1].Id != 8 {
		t.Errorf("created again: %v", again)
	}
	wantDefineFaults(t, s, impl.ErrTable, "^drop table i", "^drop index t", "^drop table nope", "^drop index nope", "^drop index u")
	wantDefineFaults(t, impl.Schema{Next: 1}, impl.ErrTable, "^drop table t", "^drop index i")
}

// elements are texts with a number in them, with commas between.
func elements(count int, form string) string {
	var list []string
	for i := range count {
		list = append(list, strings.ReplaceAll(form, "%", fmt.Sprint(i)))
	}
	return strings.Join(list, ", ")
}

func TestDefineMaxCols(t *testing.T) {
	if x := tableOf(t, elements(impl.MaxCols, "c% int")); len(x.Cols) != 12 {
		t.Errorf("%d columns", len(x.Cols))
	}
	wantTableFaults(t, impl.ErrBig, elements(impl.MaxCols, "c% int")+", ^d int", elements(impl.MaxCols, "c% int")+", ^d int default 'x', c1 int", "unique (z), "+elements(impl.MaxCols, "c% int")+", check (z), ^d int, e int")
	wantTableFaults(t, impl.ErrExists, elements(impl.MaxCols, "c% int")+", ^c3 int")
}

func TestDefineMaxKeys(t *testing.T) {
	if x := tableOf(t, "a int unique primary key, b int unique, "+elements(impl.MaxKeys-2, "c% int unique")+", d int"); len(x.Uniques) != 6 || len(x.Primary) != 1 {
		t.Errorf("%v", x)
	}
	if x := tableOf(t, "a int, primary key (a), "+elements(impl.MaxKeys, "unique (a)")); len(x.Uniques) != 6 {
		t.Errorf("%v", x)
	}
	six := elements(impl.MaxKeys, "c% int unique")
	s := impl.Schema{Next: 1}
	wantDefineFaults(t, s, impl.ErrBig, "^create table x ("+six+", d int unique)", "^create table x ("+six+", unique (c1))", "^create table x ("+six+", d int primary key unique)", "^create table x (unique (c1), "+six+", unique (z))",
		"^create table x ("+six+", unique (c1), d int primary key, primary key (d))")
	wantTableFaults(t, impl.ErrColumn, six+", unique (^z)")
	wantTableFaults(t, impl.ErrMany, six+", unique (c1, ^c1)")
	// Of a column with both PRIMARY KEY comes first.
	wantTableFaults(t, impl.ErrExists, "a int primary key, "+six+", ^d int unique primary key", "a int primary key, "+six+", ^d int primary key unique")
}

func TestDefineMaxChecks(t *testing.T) {
	if x := tableOf(t, "a int check (a > 1) check (a > 2), "+elements(impl.MaxChecks-2, "check (a > %)")); len(x.Checks) != 6 {
		t.Errorf("%v", x)
	}
	six := "a int, " + elements(impl.MaxChecks, "check (a > %)")
	wantTableFaults(t, impl.ErrBig, six+", ^check (a = 1)", six+", ^check (z)", six+", ^check (a)", six+", b int ^check (b = 1) check (z)", "a int "+repeated("check (a = 1)", 6, " ")+" ^check (z), check (z)",
		"check (a = 1), a int "+repeated("check (a = 1)", 5, " ")+" ^check (count(*) = 1)")
	wantTableFaults(t, impl.ErrColumn, "check (^z), "+six)
}

func TestDefineMaxTables(t *testing.T) {
	s := impl.Schema{Next: 1}
	for i := range impl.MaxTables {
		s = definedOn(t, s, fmt.Sprintf("create table t%d (a int)", i))
	}
	if len(s.Tables) != 16 || s.Next != 17 {
		t.Fatalf("%d tables, %d", len(s.Tables), s.Next)
	}
	wantDefineFaults(t, s, impl.ErrBig, "^create table u (a int)", "^create table u (a int, a int)", "^create table u (check (z))")
	wantDefineFaults(t, s, impl.ErrExists, "^create table t3 (a int)")
	if s = definedOn(t, s, "create index i on t3 (a)", "drop table t5", "create table u (a int)"); len(s.Tables) != 16 || s.Next != 19 {
		t.Errorf("%d tables, %d", len(s.Tables), s.Next)
	}
}

func TestDefineMaxIndexes(t *testing.T) {
	s := defined(t, "create table t (a int)", "create table u (a int)")
	for i := range impl.MaxIndexes {
		s = definedOn(t, s, fmt.Sprintf("create index i%d on %s (a)", i, []string{"t", "u"}[i%2]))
	}
	if len(s.Indexes) != 24 {
		t.Fatalf("%d indexes", len(s.Indexes))
	}
	wantDefineFaults(t, s, impl.ErrBig, "^create index j on t (a)", "^create index j on nowhere (a)", "^create index j on t (z)")
	wantDefineFaults(t, s, impl.ErrExists, "^create index i3 on nowhere (a)")
	if s = definedOn(t, s, "create table v (a int)", "drop table t", "create index j on u (a)"); len(s.Indexes) != 13 || len(s.Tables) != 2 {
		t.Errorf("%v", s)
	}
}

func TestDefineMaxIds(t *testing.T) {
	last := impl.Schema{Next: impl.MaxIds - 1}
	for text, behind := range map[string]string{"create table t (a int)": "create index i on t (a)", "create table u (a int)": "create table v (a int)"} {
		s := definedOn(t, last, text)
		if s.Tables[0].Id != 999999 || s.Next != impl.MaxIds {
			t.Errorf("%v", s)
		}
		wantDefineFaults(t, s, impl.ErrBig, "^"+behind, "^create table w (a int, a int)", "^create index j on nowhere (a)")
		wantDefineFaults(t, s, impl.ErrExists, "^"+text)
		wantDefineFaults(t, s, impl.ErrTable, "^drop index j")
		if less := definedOn(t, s, "drop table "+s.Tables[0].Name); !sameSchema(less, impl.Schema{Next: impl.MaxIds}) {
			t.Errorf("%v", less)
		}
	}
}

// A statement whose normal form is too long is refused at 0, ahead of all else that is wrong with it.
func TestDefineTooLong(t *testing.T) {
	s := defined(t, "create table t (a int)")
	long := "check (a in (" + repeated("-1+1", 380, ", ") + "))"
	wantDefineFaults(t, s, impl.ErrBig, "create table x (a int, "+long+")", "create table t (a int, a int, "+long+")", "create table x ("+long+")")
	// So is one of too many bytes.
	wide := repeated("'"+strings.Repeat("é", 255)+"'", 15, ",") + repeated(",1", 120, "")
	wantDefineFaults(t, s, impl.ErrBig, "create table t (a text check (a in ("+wide+")), a int)")
	// A normal form of just MaxTokens tokens has its table. The two signs make it two tokens longer than the source.
	for tokens, code := range map[int]int{impl.MaxTokens - 2: impl.OK, impl.MaxTokens - 1: impl.ErrBig} {
		got, gotCode, pos := impl.Define(s, parsed(t, manyTokens(t, tokens)))
		if gotCode != code || pos != 0 || code == impl.OK && len(strings.Fields(got.Tables[1].Text)) != impl.MaxTokens {
			t.Errorf("%d tokens: %d, %d", tokens, gotCode, pos)
		}
	}
}

// manyTokens is a CREATE TABLE of so many tokens, with two signs in it, one behind the other.
func manyTokens(t *testing.T, count int) string {
	t.Helper()
	list := repeated("1", 390, ", ")
	for rest := range 300 {
		for _, word := range []string{"", "unique"} {
			text := "create table x (a int " + word + " check (a in (" + list + ")) check (a in (" + list + ")), check (a in (- - 1" + repeated(", 1", rest, "") + ")))"
			if tokens, _, _ := impl.Lex(text); len(tokens) == count {
				return text
			}
		}
	}
	t.Fatalf("no text of %d tokens", count)
	return ""
}

func TestDefineBad(t *testing.T) {
	s := defined(t, "create table t (a int)", "create index i on t (a)")
	wantDefineFaults(t, s, impl.ErrBad, "select 1", "insert into t values (1)", "update t set a = 1", "delete from t", "begin", "commit", "rollback", "savepoint a", "release a", "explain select 1", "checkpoint")
	wantBad := func(what string, s impl.Schema, tree impl.Tree) {
		t.Helper()
		if got, code, pos := impl.Define(s, tree); !sameSchema(got, impl.Schema{}) || code != impl.ErrBad || pos != 0 {
			t.Errorf("%s: %v, %d, %d", what, got, code, pos)
		}
	}
	drop := parsed(t, "  drop table t")
	create := parsed(t, "  create table t (a int, a int)")
	wantBad("no tree", s, impl.Tree{})
	spoilt := copyTree(create)
	spoilt.Nodes[0].N = 6
	wantBad("a tree that is not valid", s, spoilt)
	wantBad("a column alone", s, impl.Tree{Nodes: create.Nodes[:1]})
	for _, next := range []int{0, -1, 2, impl.MaxIds + 1, math.MaxInt, math.MinInt} {
		wrong := copySchema(s)
		wrong.Next = next
		wantBad("Next", wrong, drop)
		wantBad("Next, and a fault behind it", wrong, create)
	}
	wrong := copySchema(s)
	wrong.Tables[0].Text = "CREATE TABLE t ( b INT )"
	wantBad("a table of another text", wrong, drop)
	wantBad("a schema and a tree", wrong, impl.Tree{})
}

func TestDefineOddPositions(t *testing.T) {
	for _, pos := range []int{-7, 0, math.MinInt, math.MaxInt} {
		tree := parsed(t, "create table t (a int, a int)")
		tree.Nodes[1].Pos = pos
		if _, code, got := impl.Define(impl.Schema{Next: 1}, tree); code != impl.ErrExists || got != pos {
			t.Errorf("position %d: %d, %d", pos, code, got)
		}
	}
}

// numberLists are all lists of numbers in a schema.
func numberLists(s impl.Schema) [][]int {
	var lists [][]int
	for _, table := range s.Tables {
		lists = append(lists, table.Primary)
		lists = append(lists, table.Uniques...)
		for _, check := range table.Checks {
			lists = append(lists, kidsOfExpr(check)...)
		}
	}
	for _, index := range s.Indexes {
		lists = append(lists, index.Cols)
	}
	return lists
}

func TestDefineSharesNothing(t *testing.T) {
	s := defined(t, "create table t (a int primary key unique check (a in (1, 2, 3)), b int unique check (a + b > 1), unique (b, a))", "create index i on t (b, a)")
	for _, text := range []string{"create table u (a int unique primary key check (a in (1, 2)), b int)", "create unique index j on t (a, b)", "drop index i", "create table v (a int)"} {
		kept := copySchema(s)
		more, _, _ := impl.Define(s, parsed(t, text))
		wantApart(t, text, numberLists(more))
		for i := range more.Tables {
			clear(more.Tables[i].Cols)
			clear(more.Tables[i].Uniques)
			clear(more.Tables[i].Checks)
		}
		clear(more.Tables)
		clear(more.Indexes)
		if !sameSchema(s, kept) {
			t.Fatalf("%s: the answer shares memory with its argument", text)
		}
	}
}
