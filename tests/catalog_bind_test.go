package tests

import (
	"math"
	"slices"
	"strings"
	"testing"

	"loop.example/g00001/impl"
)

// someCols have each kind, names that stand twice, alone or with their Qual, and one without Qual.
func someCols() []impl.ColName {
	return []impl.ColName{
		{Qual: "x", Name: "a", Kind: impl.Int}, {Qual: "q", Name: "a", Kind: impl.Int}, {Qual: "q", Name: "s", Kind: impl.Text}, {Qual: "q", Name: "b", Kind: impl.Bool},
		{Qual: "q", Name: "d", Kind: impl.Dec}, {Qual: "q", Name: "y", Kind: impl.Date}, {Qual: "q", Name: "n", Kind: impl.Null}, {Name: "z", Kind: impl.Int},
		{Qual: "x", Name: "i", Kind: impl.Int}, {Qual: "w", Name: "twice", Kind: impl.Int}, {Qual: "w", Name: "twice", Kind: impl.Text}, {Qual: "q", Name: "Big", Kind: impl.Bool},
		{Qual: "", Name: "e", Kind: impl.Int}, {Qual: "v", Name: "e", Kind: impl.Int},
	}
}

func kindsOfCols(cols []impl.ColName) [][]int {
	var kinds []int
	for _, column := range cols {
		kinds = append(kinds, column.Kind)
	}
	return [][]int{kinds}
}

// firstItem is the expression of the first item of a SELECT.
func firstItem(t *testing.T, tree impl.Tree) int {
	t.Helper()
	at := len(tree.Nodes) - 1
	for _, op := range []int{impl.NQuery, impl.NSelect, impl.NItems, impl.NItem} {
		if tree.Nodes[at].Op != op {
			t.Fatalf("%v has no item", tree)
		}
		at = tree.Nodes[at].Kids[0]
	}
	return at
}

func wantBind(t *testing.T, src, told string) {
	t.Helper()
	tree := parsed(t, "select "+src)
	e, code, pos := impl.BindPlain(tree, firstItem(t, tree), someCols())
	if code != impl.OK || pos != 0 || impl.ExprText(e) != told || !impl.ExprOK(e, kindsOfCols(someCols())) {
		t.Errorf("%s: %s, %d, %d; want %s", src, impl.ExprText(e), code, pos, told)
	}
}

func wantBinds(t *testing.T, pairs [][2]string) {
	t.Helper()
	for _, pair := range pairs {
		wantBind(t, pair[0], pair[1])
	}
}

// wantBindFaults asks for a code at the place that is marked by ^.
func wantBindFaults(t *testing.T, code int, marked ...string) {
	t.Helper()
	for _, text := range marked {
		before, behind, found := strings.Cut("select "+text, "^")
		if !found {
			t.Fatalf("%q has no mark", text)
		}
		tree := parsed(t, before+behind)
		e, got, pos := impl.BindPlain(tree, firstItem(t, tree), someCols())
		if got != code || pos != len(before) || len(e.Nodes) > 0 {
			t.Errorf("%s: %s, %d, %d; want %d, %d", text, impl.ExprText(e), got, pos, code, len(before))
		}
	}
}

func TestBindEachForm(t *testing.T) {
	wantBinds(t, [][2]string{
		{"5", "5"}, {"2.50", "2.5"}, {"'it''s'", "'it''s'"}, {"NULL", "NULL"}, {"true", "TRUE"}, {"DATE '2020-02-29'", "DATE '2020-02-29'"},
		{"q.a", "#1"}, {"x.a", "#0"}, {"s", "#2"}, {"q.s", "#2"}, {"z", "#7"}, {"n", "#6"}, {`"Big"`, "#11"}, {"v.e", "#13"},
		{"not b", "(NOT #3)"}, {"not n", "(NOT #6)"}, {"-i", "(- #8)"}, {"- -1", "(- (- 1))"}, {"-n", "(- #6)"}, {"-d", "(- #4)"},
		{"i + 1", "(#8 + 1)"}, {"i - d", "(#8 - #4)"}, {"i * 2", "(#8 * 2)"}, {"i / 2", "(#8 / 2)"}, {"i % 2", "(#8 % 2)"}, {"s || 'x'", "(#2 || 'x')"}, {"y + 1", "(#5 + 1)"}, {"y - y", "(#5 - #5)"},
		{"i = 1", "(#8 = 1)"}, {"i <> d", "(#8 <> #4)"}, {"i < 1", "(#8 < 1)"}, {"i <= 1", "(#8 <= 1)"}, {"i > 1", "(#8 > 1)"}, {"i >= null", "(#8 >= NULL)"},
		{"b and b", "(#3 AND #3)"}, {"b or null", "(#3 OR NULL)"}, {"null + null", "(NULL + NULL)"},
		{"s is null", "(#2 IS NULL)"}, {"s is not null", "(NOT (#2 IS NULL))"}, {"i is distinct from 1.5", "(NOT (#8 IS 1.5))"}, {"i is not distinct from null", "(#8 IS NULL)"},
		{"i in (1, 2.5, null)", "(#8 IN (1, 2.5, NULL))"}, {"i not in (d)", "(#8 NOT IN (#4))"}, {"n in ('a', 1)", "(#6 IN ('a', 1))"}, {"s like 'a%'", "(#2 LIKE 'a%')"}, {"s not like n", "(#2 NOT LIKE #6)"},
		{"i between 1 and d", "(#8 BETWEEN 1 AND #4)"}, {"y not between y and null", "(#5 NOT BETWEEN #5 AND NULL)"},
		{"cast(s as int)", "CAST(#2 AS INT)"}, {"cast(n as date)", "CAST(#6 AS DATE)"}, {"cast(i as decimal)", "CAST(#8 AS DECIMAL)"}, {"cast(y as text)", "CAST(#5 AS TEXT)"}, {"cast(s as boolean)", "CAST(#2 AS BOOLEAN)"},
		{"abs(i)", "abs(#8)"}, {"length(s)", "length(#2)"}, {"lower(s)", "lower(#2)"}, {"UPPER(s)", "upper(#2)"}, {"substr(s, 1, i)", "substr(#2, 1, #8)"}, {"nullif(i, 2.5)", "nullif(#8, 2.5)"},
		{"year(y)", "year(#5)"}, {"month(y)", "month(#5)"}, {"day(n)", "day(#6)"}, {"round(d)", "round(#4)"}, {"trim(s)", "trim(#2)"}, {"least(i, 1)", "least(#8, 1)"}, {"greatest(s, null)", "greatest(#2, NULL)"},
		{"coalesce(i)", "coalesce(#8)"}, {"coalesce(null, s, 'x')", "coalesce(NULL, #2, 'x')"}, {"coalesce(null)", "coalesce(NULL)"}, {`"coalesce"(1)`, "coalesce(1)"},
		{"case when b then 1 end", "CASE WHEN #3 THEN 1 END"}, {"case when n then null else null end", "CASE WHEN #6 THEN NULL ELSE NULL END"},
		{"case when b then 's' when i > 1 then s else null end", "CASE WHEN #3 THEN 's' WHEN (#8 > 1) THEN #2 ELSE NULL END"},
		{"(i + 1) * 2", "((#8 + 1) * 2)"}, {"i + 1 * 2", "(#8 + (1 * 2))"}, {"not (i = 1 and s is null)", "(NOT ((#8 = 1) AND (#2 IS NULL)))"},
	})
}

// The operand of a CASE stands in each of its conditions.
func TestBindCasesWithOperand(t *testing.T) {
	wantBinds(t, [][2]string{
		{"case i when 1 then 's' end", "CASE WHEN (#8 = 1) THEN 's' END"},
		{"case i + 1 when 1 then 's' when d then 't' else s end", "CASE WHEN ((#8 + 1) = 1) THEN 's' WHEN ((#8 + 1) = #4) THEN 't' ELSE #2 END"},
		{"case b when i = 1 then 1 else 2 end", "CASE WHEN (#3 = (#8 = 1)) THEN 1 ELSE 2 END"}, {"case null when 1 then 1 when 's' then 2 end", "CASE WHEN (NULL = 1) THEN 1 WHEN (NULL = 's') THEN 2 END"},
		{"case case i when 1 then 2 end when 3 then 4 when 5 then 6 end", "CASE WHEN (CASE WHEN (#8 = 1) THEN 2 END = 3) THEN 4 WHEN (CASE WHEN (#8 = 1) THEN 2 END = 5) THEN 6 END"},
	})
	wantBindFaults(t, impl.ErrType, "^case i when 's' then 1 end", "^case i when 1 then 1 when true then 2 end", "^case s when b then 1 end", "^case b when 1 then 1 end", "1 + ^case y when 1 then 1 end")
}

func TestBindIntsAmongDecs(t *testing.T) {
	wantBinds(t, [][2]string{
		{"case when b then 1 else 2.5 end", "CASE WHEN #3 THEN CAST(1 AS DECIMAL) ELSE 2.5 END"}, {"case when b then 1 else 2 end", "CASE WHEN #3 THEN 1 ELSE 2 END"},
		{"case when b then d when b then null when b then i else i + 1 end", "CASE WHEN #3 THEN #4 WHEN #3 THEN NULL WHEN #3 THEN CAST(#8 AS DECIMAL) ELSE CAST((#8 + 1) AS DECIMAL) END"},
		{"case i when 2.5 then 1 when 3 then n end", "CASE WHEN (#8 = 2.5) THEN 1 WHEN (#8 = 3) THEN #6 END"}, {"case when b then 1.5 else null end", "CASE WHEN #3 THEN 1.5 ELSE NULL END"},
		{"case d when 1 then 1 when 2.5 then 2.5 end", "CASE WHEN (#4 = 1) THEN CAST(1 AS DECIMAL) WHEN (#4 = 2.5) THEN 2.5 END"},
		{"coalesce(i, 2.5)", "coalesce(CAST(#8 AS DECIMAL), 2.5)"}, {"coalesce(null, d, 1, n, 2)", "coalesce(NULL, #4, CAST(1 AS DECIMAL), #6, CAST(2 AS DECIMAL))"}, {"coalesce(i, null, 1)", "coalesce(#8, NULL, 1)"},
		{"least(i, 2.5)", "least(CAST(#8 AS DECIMAL), 2.5)"}, {"greatest(2.5, i)", "greatest(2.5, CAST(#8 AS DECIMAL))"}, {"least(d, d)", "least(#4, #4)"}, {"greatest(i, i)", "greatest(#8, #8)"},
		{"least(null, d)", "least(NULL, #4)"}, {"greatest(i, null)", "greatest(#8, NULL)"}, {"nullif(d, i)", "nullif(#4, #8)"}, {"i in (d, 1)", "(#8 IN (#4, 1))"},
		{"coalesce(coalesce(i, 1), d)", "coalesce(CAST(coalesce(#8, 1) AS DECIMAL), #4)"},
	})
	wantBindFaults(t, impl.ErrType,
		"^case when b then 1 when b then 2.5 else 's' end", "^coalesce(1, 2.5, 's')", "^coalesce(y, 1, 2.5)", "^least(1, 's')", "^greatest(d, b)", "^least(y, 1)", "^round(1)", "^case when b then b else d end",
	)
}

func TestBindNames(t *testing.T) {
	wantBindFaults(t, impl.ErrColumn, "^nope", "^x.nope", "^nope.a", "^x.s", "^q.z", `^"A"`, "^big", `^x."a "`, `^"q.a"`, "1 + ^nope", "^nope(1)", `^"ABS"(1)`, `^"Coalesce"(1)`, "^count_(1)", "^nope()")
	wantBindFaults(t, impl.ErrMany, "^a", "^twice", "^w.twice", "^e", "z + ^a")
	// A column that has no Qual is meant by its name alone.
	wantBind(t, "z", "#7")
	tree := parsed(t, "select q.a, a")
	for _, c := range []struct {
		cols []impl.ColName
		code int
	}{
		{nil, impl.ErrColumn}, {[]impl.ColName{{Qual: "q", Name: "a"}}, 0}, {[]impl.ColName{{Qual: "q", Name: "a", Kind: 1}, {Qual: "q", Name: "a", Kind: 1}}, impl.ErrMany},
		{[]impl.ColName{{Name: "a", Kind: 1}}, impl.ErrColumn}, {[]impl.ColName{{Qual: "a", Name: "q", Kind: 1}}, impl.ErrColumn}, {[]impl.ColName{{Qual: "Q", Name: "a", Kind: 1}, {Qual: "q", Name: "a", Kind: 3}}, 0},
	} {
		e, code, pos := impl.BindPlain(tree, firstItem(t, tree), c.cols)
		if code != c.code || code != impl.OK && (pos != 7 || len(e.Nodes) > 0) || code == impl.OK && (pos != 0 || !impl.ExprOK(e, kindsOfCols(c.cols))) {
			t.Errorf("%v: %v, %d, %d", c.cols, e, code, pos)
		}
	}
}

func TestBindWidths(t *testing.T) {
	wantBindFaults(t, impl.ErrWidth,
		"^coalesce()", "^abs()", "^abs(1, 2)", "^length()", "^lower(s, s)", "^upper()", "^substr(s, 1)", "^substr(s, 1, 2, 3)", "^nullif(1)", "^nullif(1, 2, 3)", "^year()", "^month(y, y)", "^day()", "^round(d, 1)",
		"^trim()", "^trim(s, s)", "^least(1)", "^greatest(1, 2, 3)", "^least()", "1 + ^abs()", "^abs('a', 's')", "^least(1, 2, 's')",
	)
}

func TestBindKinds(t *testing.T) {
	wantBindFaults(t, impl.ErrType,
		"s ^+ 1", "b ^- b", "s ^* s", "y ^/ 1", "b ^% 1", "1 ^|| 's'", "y ^+ y", "1 ^- y", "i ^= s", "b ^<> 1", "s ^< 1", "y ^<= 1", "b ^> s", "y ^>= s", "b ^and 1", "1 ^or b", "s ^and s",
		"^not 1", "^not s", "^- s", "^- b", "^- y", "i ^is distinct from 's'", "b ^is not distinct from 1", "i ^in (1, 's')", "s ^not in (1)", "i ^in (n, b)", "1 ^like 's'", "s ^not like 1", "s ^like b",
		"i ^between 1 and 's'", "i ^between 's' and 1", "s ^not between 's' and b", "^cast(i as date)", "^cast(i as boolean)", "^cast(b as int)", "^cast(y as decimal)", "^cast(d as boolean)", "^cast(d as date)", "^cast(y as boolean)",
		"^abs(s)", "^length(1)", "^substr(s, 's', 1)", "^substr(1, 1, 1)", "^nullif(1, 's')", "^year(1)", "^trim(1)", "^coalesce(1, 's')", "^case when 1 then 2 end", "^case when b then 1 when s then 2 end",
		"^case when b then 1 else 's' end", "^case when b then 1 when b then 's' end",
	)
}

// What is in a query is not looked at; what is beside it, and the argument of an aggregate, comes first.
func TestBindQueriesAndAggregates(t *testing.T) {
	wantBindFaults(t, impl.ErrGroup,
		"^count(*)", "^count(i)", "^sum(i)", "^sum(s)", "^avg(distinct d)", "^min(s)", "^max(y) + 'x'", "1 + ^count(*)", "sum(^count(*))", "^exists (select nope from nowhere)", "^exists ((select 1))", "^(select nope)", "i ^in (select nope)",
		"i ^not in (select 1, 2)", "not ^exists (select a)", "coalesce(1, ^(select 1), nope)", "^(select count(*)) + nope", "i ^in (select nope) and nope", "s ^in (select 1 from t where count(*) = 1)",
	)
	wantBindFaults(t, impl.ErrColumn, "sum(^nope)", "^nope in (select 1)", "^nope + count(*)", "count(distinct abs(^nope))")
	wantBindFaults(t, impl.ErrType, "max(s ^+ 1)", "(s ^+ 1) in (select 1)")
	// An expression within a query can be bound itself.
	tree := parsed(t, "select exists (select 1 where q.a = abs(x.a))")
	for at, node := range tree.Nodes {
		if node.Op == impl.NBin {
			if e, code, pos := impl.BindPlain(tree, at, someCols()); impl.ExprText(e) != "(#1 = abs(#0))" || code != 0 || pos != 0 {
				t.Errorf("within a query: %v, %d, %d", e, code, pos)
			}
		}
	}
}

// The first fault is that of the first node in the tree's order: kids are ahead of what they are in.
func TestBindFirstFault(t *testing.T) {
	wantBindFaults(t, impl.ErrColumn, "^nope + a", "abs(^nope, 1)", "unknown(^nope)", "s + ^nope", "not (1 + ^nope)", "coalesce(^nope, count(*))", "case ^nope when a then s + 1 end", "^nope in (a, s + 1)", "^nope() + a")
	wantBindFaults(t, impl.ErrMany, "^a + nope", "abs(^a, nope)", "1 || ^a", "i between ^a and nope")
	wantBindFaults(t, impl.ErrType, "(s ^+ 1) || nope", "s ^+ 1 + nope", "(s ^+ 1) = count(*)", "coalesce(^- s, nope)", "case when b then s ^+ 1 else nope end", "unknown(1 ^+ s)")
	wantBindFaults(t, impl.ErrGroup, "^count(*) + nope", "abs(^count(*), 1)", "s + ^count(*)")
	wantBindFaults(t, impl.ErrWidth, "^abs() + nope", "unknown(^least(1))", "coalesce(^coalesce(), nope)")
}

// repeated is a text so many times, with a mark between.
func repeated(text string, count int, mark string) string {
	return strings.Join(slices.Repeat([]string{text}, count), mark)
}

func wantBindSize(t *testing.T, src string, nodes int) {
	t.Helper()
	tree := parsed(t, "select "+src)
	e, code, pos := impl.BindPlain(tree, firstItem(t, tree), someCols())
	if code != impl.OK || pos != 0 || len(e.Nodes) != nodes || !impl.ExprOK(e, kindsOfCols(someCols())) {
		t.Errorf("%.40s: %d nodes, %d, %d; want %d", src, len(e.Nodes), code, pos, nodes)
	}
}

func TestBindMaxItems(t *testing.T) {
	wantBindSize(t, "i in ("+repeated("z", 398, ", ")+")", 400)
	wantBindFaults(t, impl.ErrBig, "i ^in ("+repeated("z", 399, ", ")+")", "i ^in ("+repeated("z", 900, ", ")+")")
	// The operand stands in each of 66 conditions.
	pairs := repeated(" when 1 then 1", 66, "")
	wantBindSize(t, "case i + i"+pairs+" else i + i end", 400)
	wantBindFaults(t, impl.ErrBig, "^case i + i"+pairs+" else - (i + i) end", "^case (case i when 1 then 2 when 2 then 3 end)"+repeated(" when 1 then 1", 40, "")+" end")
	// A CASE in a CASE in a CASE would double each time.
	deep := "i"
	for range 20 {
		deep = "case " + deep + " when 1 then 1 when 2 then 2 end"
	}
	tree := parsed(t, "select "+deep)
	if e, code, _ := impl.BindPlain(tree, firstItem(t, tree), someCols()); code != impl.ErrBig || len(e.Nodes) > 0 {
		t.Errorf("cases in cases: %d nodes, %d", len(e.Nodes), code)
	}
	// Casts count.
	wantBindSize(t, "coalesce(2.5, "+repeated("1", 199, ", ")+")", 400)
	wantBindFaults(t, impl.ErrBig, "^coalesce(2.5, "+repeated("1", 199, ", ")+", null)")
	wantBindSize(t, "coalesce("+repeated("1", 399, ", ")+")", 400)
	// So do both nodes of IS NOT NULL and IS DISTINCT FROM.
	list := func(count int) string { return "(i in (" + repeated("z", count-2, ", ") + "))" }
	wantBindSize(t, list(398)+" is not null", 400)
	wantBindFaults(t, impl.ErrBig, list(399)+" ^is not null")
	wantBindSize(t, list(399)+" is null", 400)
	wantBindSize(t, list(397)+" is distinct from b", 400)
	wantBindFaults(t, impl.ErrBig, list(398)+" ^is distinct from b", "not ("+list(399)+" ^is not distinct from b) and nope")
	wantBindSize(t, list(398)+" is not distinct from b", 400)
}

func TestBindTypesAheadOfSize(t *testing.T) {
	wantBindFaults(t, impl.ErrType, "s ^in ("+repeated("z", 399, ", ")+")", "^coalesce('s', "+repeated("1", 400, ", ")+")", "^case s"+repeated(" when 1 then 1", 300, "")+" end")
	wantBindFaults(t, impl.ErrWidth, "^abs("+repeated("z", 500, ", ")+")")
	wantBindFaults(t, impl.ErrColumn, "^unknown("+repeated("z", 500, ", ")+")", "i in ("+repeated("z", 500, ", ")+", ^nope)")
	wantBindFaults(t, impl.ErrGroup, "^count(i in ("+repeated("z", 398, ", ")+"))", "(i in ("+repeated("z", 398, ", ")+")) ^in (select 1)")
}

func TestBindBad(t *testing.T) {
	tree := parsed(t, "select i + abs(z), case i when 1 then 2 end a from t join u on b where exists (select 1) and i in (select 1) group by i having count(*) = (select 2) order by 1 limit 3")
	wantBad := func(what string, tree impl.Tree, node int, cols []impl.ColName) {
		t.Helper()
		if e, code, pos := impl.BindPlain(tree, node, cols); len(e.Nodes) > 0 || code != impl.ErrBad || pos != 0 {
			t.Errorf("%s: %v, %d, %d", what, e, code, pos)
		}
	}
	for at, node := range tree.Nodes {
		if node.Op <= impl.NScalar {
			if _, code, _ := impl.BindPlain(tree, at, someCols()); code == impl.ErrBad {
				t.Errorf("operation %d is bad", node.Op)
			}
			continue
		}
		wantBad("an operation that is no expression", tree, at, someCols())
	}
	item := firstItem(t, tree)
	for _, node := range []int{-1, len(tree.Nodes), math.MinInt, math.MaxInt} {
		wantBad("no such node", tree, node, someCols())
	}
	for _, kind := range []int{-1, 6, math.MinInt, math.MaxInt} {
		wantBad("no kind", tree, item, append(someCols(), impl.ColName{Name: "k", Kind: kind}))
	}
	wantBad("no nodes", impl.Tree{}, 0, someCols())
	spoilt := copyTree(tree)
	spoilt.Nodes[len(spoilt.Nodes)-1].N = 1
	wantBad("a root that is not valid", spoilt, item, someCols())
	wantBad("an expression alone", impl.Tree{Nodes: []impl.Node{{Op: impl.NLit}}}, 0, nil)
	wide := append(someCols(), make([]impl.ColName, impl.MaxWide-len(someCols()))...)
	if e, code, _ := impl.BindPlain(tree, item, wide); code != impl.OK || impl.ExprText(e) != "(#8 + abs(#7))" {
		t.Errorf("MaxWide columns: %v, %d", e, code)
	}
	wantBad("too many columns", tree, item, append(wide, impl.ColName{}))
	wantBad("far too many columns", tree, item, make([]impl.ColName, 1000000))
}

// Positions are told as they stand, whatever they are.
func TestBindOddPositions(t *testing.T) {
	tree := parsed(t, "select nope")
	for _, pos := range []int{-1, 0, math.MinInt, math.MaxInt} {
		tree.Nodes[0].Pos = pos
		if _, code, got := impl.BindPlain(tree, 0, nil); code != impl.ErrColumn || got != pos {
			t.Errorf("position %d: %d, %d", pos, code, got)
		}
	}
}

func TestBindSharesNothing(t *testing.T) {
	tree := parsed(t, "select case abs(i) when 1 then 2 when 2 then 3 end in (1, 2, coalesce(z, i, 3))")
	cols := someCols()
	keptTree, keptCols := copyTree(tree), slices.Clone(cols)
	e, _, _ := impl.BindPlain(tree, firstItem(t, tree), cols)
	wantApart(t, "an operand that stands twice", kidsOfExpr(e))
	if !sameTree(tree, keptTree) || !slices.Equal(cols, keptCols) {
		t.Errorf("an argument was written into")
	}
}
