package tests

import (
	"strconv"
	"strings"
	"testing"

	"loop.example/g00001/impl"
)

// parseCase is a text and its tree, as dump writes it.
type parseCase struct{ src, want string }

// parseCases have every rule of the grammar, every operation, and the choices that begin alike.
func parseCases() []parseCase {
	return []parseCase{
		{`select 1`,
			`Query@0(Select@0(Items@7(Item@7(Lit@7 1))))`},
		{`SELECT DISTINCT *, t.*, a b, a AS "B", t . a`,
			`Query@0(Select@0 n1(Items@16(Star@16, Star@19 q:t, Item@24 :b(Col@24 :a), Item@29 :B(Col@29 :a), Item@39(Col@39 q:t :a))))`},
		{`select 1 from t, u x, v as y, (select 2) z, (select 3) as w`,
			`Query@0(Select@0(Items@7(Item@7(Lit@7 1)), From@9(Table@14 :t, Table@17 q:x :u, Table@22 q:y :v, Derived@30 :z(Query@31(Select@31(Items@38(Item@38(Lit@38 2))))), Derived@44 :w(Query@45(Select@45(Items@52(Item@52(Lit@52 3))))))))`},
		{`select 1 from t join u on a inner join v w on b left join x on c left outer join y on d cross join z, s`,
			`Query@0(Select@0(Items@7(Item@7(Lit@7 1)), From@9(Join@88 n3(Join@65 n2(Join@48 n2(Join@28 n1(Join@16 n1(Table@14 :t, Table@21 :u, Col@26 :a), Table@39 q:w :v, Col@46 :b), Table@58 :x, Col@63 :c), Table@81 :y, Col@86 :d), Table@99 :z), Table@102 :s)))`},
		{`select 1 from (select 2) a cross join (select 3) b`,
			`Query@0(Select@0(Items@7(Item@7(Lit@7 1)), From@9(Join@27 n3(Derived@14 :a(Query@15(Select@15(Items@22(Item@22(Lit@22 2))))), Derived@38 :b(Query@39(Select@39(Items@46(Item@46(Lit@46 3)))))))))`},
		{`select 1 where a group by b, c + 1 having d`,
			`Query@0(Select@0(Items@7(Item@7(Lit@7 1)), Where@9(Col@15 :a), Group@17(Col@26 :b, Bin@31 n1(Col@29 :c, Lit@33 1)), Having@35(Col@42 :d)))`},
		{`select 1 order by a, b asc, c desc nulls first, d nulls last limit 5 offset 6`,
			`Query@0(Select@0(Items@7(Item@7(Lit@7 1))), Order@9(Key@18(Col@18 :a), Key@21(Col@21 :b), Key@28 n1 m1(Col@28 :c), Key@48 m2(Col@48 :d)), Limit@61 n5 m6)`},
		{`select 1 limit 0`,
			`Query@0(Select@0(Items@7(Item@7(Lit@7 1))), Limit@9 m-1)`},
		{`select 1 offset 9223372036854775807`,
			`Query@0(Select@0(Items@7(Item@7(Lit@7 1))), Limit@9 n-1 m9223372036854775807)`},
		{`select 1 union select 2 except all select 3 union all select 4`,
			`Query@0(SetOp@44 n1 m1(SetOp@24 n2 m1(SetOp@9 n1(Select@0(Items@7(Item@7(Lit@7 1))), Select@15(Items@22(Item@22(Lit@22 2)))), Select@35(Items@42(Item@42(Lit@42 3)))), Select@54(Items@61(Item@61(Lit@61 4)))))`},
		{`(select 1)`,
			`Query@0(Query@1(Select@1(Items@8(Item@8(Lit@8 1)))))`},
		{`((select 1) order by a) limit 2`,
			`Query@0(Query@1(Query@2(Select@2(Items@9(Item@9(Lit@9 1)))), Order@12(Key@21(Col@21 :a))), Limit@24 n2 m-1)`},
		{`(select 1 limit 1) except (select 2 union select 3)`,
			`Query@0(SetOp@19 n2(Query@1(Select@1(Items@8(Item@8(Lit@8 1))), Limit@10 n1 m-1), Query@27(SetOp@36 n1(Select@27(Items@34(Item@34(Lit@34 2))), Select@42(Items@49(Item@49(Lit@49 3)))))))`},
		{`select 1 union (select 2) order by a`,
			`Query@0(SetOp@9 n1(Select@0(Items@7(Item@7(Lit@7 1))), Query@16(Select@16(Items@23(Item@23(Lit@23 2))))), Order@26(Key@35(Col@35 :a)))`},
		{`select a or b or c and d and not not e`,
			`Query@0(Select@0(Items@7(Item@7(Bin@14 n15(Bin@9 n15(Col@7 :a, Col@12 :b), Bin@25 n14(Bin@19 n14(Col@17 :c, Col@23 :d), Not@29(Not@33(Col@37 :e))))))))`},
		{`select a = b, a <> b, a != b, a < b, a <= b, a > b, a >= b`,
			`Query@0(Select@0(Items@7(Item@7(Bin@9 n7(Col@7 :a, Col@11 :b)), Item@14(Bin@16 n8(Col@14 :a, Col@19 :b)), Item@22(Bin@24 n8(Col@22 :a, Col@27 :b)), Item@30(Bin@32 n9(Col@30 :a, Col@34 :b)), Item@37(Bin@39 n10(Col@37 :a, Col@42 :b)), Item@45(Bin@47 n11(Col@45 :a, Col@49 :b)), Item@52(Bin@54 n12(Col@52 :a, Col@57 :b)))))`},
		{`select a is null, a is not null`,
			`Query@0(Select@0(Items@7(Item@7(Is@9(Col@7 :a)), Item@18(Is@20 n1(Col@18 :a)))))`},
		{`select a is distinct from b || c, a is not distinct from - b`,
			`Query@0(Select@0(Items@7(Item@7(Same@9(Col@7 :a, Bin@28 n6(Col@26 :b, Col@31 :c))), Item@34(Same@36 n1(Col@34 :a, Neg@57(Col@59 :b))))))`},
		{`select a in (1), a not in (1, (2), b)`,
			`Query@0(Select@0(Items@7(Item@7(In@9(Col@7 :a, Lit@13 1)), Item@17(In@19 n1(Col@17 :a, Lit@27 1, Lit@31 2, Col@35 :b)))))`},
		{`select a in (select 1), a not in (select 2 union (select 3))`,
			`Query@0(Select@0(Items@7(Item@7(InQuery@9(Col@7 :a, Query@13(Select@13(Items@20(Item@20(Lit@20 1)))))), Item@24(InQuery@26 n1(Col@24 :a, Query@34(SetOp@43 n1(Select@34(Items@41(Item@41(Lit@41 2))), Query@50(Select@50(Items@57(Item@57(Lit@57 3)))))))))))`},
		{`select a in ((select 1)), a in ((select 1), 2)`,
			`Query@0(Select@0(Items@7(Item@7(In@9(Col@7 :a, Scalar@13(Query@14(Select@14(Items@21(Item@21(Lit@21 1))))))), Item@26(In@28(Col@26 :a, Scalar@32(Query@33(Select@33(Items@40(Item@40(Lit@40 1))))), Lit@44 2)))))`},
		{`select a between b and c and d, a not between 1 + 2 and 3`,
			`Query@0(Select@0(Items@7(Item@7(Bin@25 n14(Between@9(Col@7 :a, Col@17 :b, Col@23 :c), Col@29 :d)), Item@32(Between@34 n1(Col@32 :a, Bin@48 n1(Lit@46 1, Lit@50 2), Lit@56 3)))))`},
		{`select a like b, a not like b || c`,
			`Query@0(Select@0(Items@7(Item@7(Like@9(Col@7 :a, Col@14 :b)), Item@17(Like@19 n1(Col@17 :a, Bin@30 n6(Col@28 :b, Col@33 :c))))))`},
		{`select a || b || c`,
			`Query@0(Select@0(Items@7(Item@7(Bin@14 n6(Bin@9 n6(Col@7 :a, Col@12 :b), Col@17 :c)))))`},
		{`select a + b - c * d / e % f`,
			`Query@0(Select@0(Items@7(Item@7(Bin@13 n2(Bin@9 n1(Col@7 :a, Col@11 :b), Bin@25 n5(Bin@21 n4(Bin@17 n3(Col@15 :c, Col@19 :d), Col@23 :e), Col@27 :f))))))`},
		{`select - - a * - b`,
			`Query@0(Select@0(Items@7(Item@7(Bin@13 n3(Neg@7(Neg@9(Col@11 :a)), Neg@15(Col@17 :b))))))`},
		{`select -1 + -2.50`,
			`Query@0(Select@0(Items@7(Item@7(Bin@10 n1(Neg@7(Lit@8 1), Neg@12(Lit@13 2.5))))))`},
		{`select 1, 007, 9223372036854775807, 1.5, 0.0, 99999999999999.9999, 'it''s', '', null, true, false, date '2020-02-29'`,
			`Query@0(Select@0(Items@7(Item@7(Lit@7 1), Item@10(Lit@10 7), Item@15(Lit@15 9223372036854775807), Item@36(Lit@36 1.5), Item@41(Lit@41 0.0), Item@46(Lit@46 99999999999999.9999), Item@67(Lit@67 'it''s'), Item@76(Lit@76 ''), Item@80(Lit@80 NULL), Item@86(Lit@86 TRUE), Item@92(Lit@92 FALSE), Item@99(Lit@99 DATE '2020-02-29'))))`},
		{`select "a"."B c", "select", x."from"`,
			`Query@0(Select@0(Items@7(Item@7(Col@7 q:a :B c), Item@18(Col@18 :select), Item@28(Col@28 q:x :from))))`},
		{`select f(), f(a), "F g"(a, b + 1, (select 2))`,
			`Query@0(Select@0(Items@7(Item@7(Call@7 :f), Item@12(Call@12 :f(Col@14 :a)), Item@18(Call@18 :F g(Col@24 :a, Bin@29 n1(Col@27 :b, Lit@31 1), Scalar@34(Query@35(Select@35(Items@42(Item@42(Lit@42 2))))))))))`},
		{`select count(*), count(a), count(distinct a), sum(a), avg(b), min(c), max(distinct d or e)`,
			`Query@0(Select@0(Items@7(Item@7(Agg@7 n1), Item@17(Agg@17 n2(Col@23 :a)), Item@27(Agg@27 n2 m1(Col@42 :a)), Item@46(Agg@46 n3(Col@50 :a)), Item@54(Agg@54 n4(Col@58 :b)), Item@62(Agg@62 n5(Col@66 :c)), Item@70(Agg@70 n6 m1(Bin@85 n15(Col@83 :d, Col@88 :e))))))`},
		{`select case when a then b end, case a when b then c when d then e else f end, case when a then b else c end`,
			`Query@0(Select@0(Items@7(Item@7(Case@7(Col@17 :a, Col@24 :b)), Item@31(Case@31 n1 m1(Col@36 :a, Col@43 :b, Col@50 :c, Col@57 :d, Col@64 :e, Col@71 :f)), Item@78(Case@78 n1(Col@88 :a, Col@95 :b, Col@102 :c)))))`},
		{`select case when a then b when c then d end, case a when b then c end`,
			`Query@0(Select@0(Items@7(Item@7(Case@7(Col@17 :a, Col@24 :b, Col@31 :c, Col@38 :d)), Item@45(Case@45 m1(Col@50 :a, Col@57 :b, Col@64 :c)))))`},
		{`select cast(a as int), cast(b as decimal), cast(c as text), cast(d as boolean), cast(e as date)`,
			`Query@0(Select@0(Items@7(Item@7(Cast@7 n1(Col@12 :a)), Item@23(Cast@23 n2(Col@28 :b)), Item@43(Cast@43 n3(Col@48 :c)), Item@60(Cast@60 n4(Col@65 :d)), Item@80(Cast@80 n5(Col@85 :e)))))`},
		{`select exists(select 1), exists((select 2) union select 3)`,
			`Query@0(Select@0(Items@7(Item@7(Exists@7(Query@14(Select@14(Items@21(Item@21(Lit@21 1)))))), Item@25(Exists@25(Query@32(SetOp@43 n1(Query@33(Select@33(Items@40(Item@40(Lit@40 2)))), Select@49(Items@56(Item@56(Lit@56 3))))))))))`},
		{`select (select 1), ((select 2)), (((3))), (a + b) * c`,
			`Query@0(Select@0(Items@7(Item@7(Scalar@7(Query@8(Select@8(Items@15(Item@15(Lit@15 1)))))), Item@19(Scalar@20(Query@21(Select@21(Items@28(Item@28(Lit@28 2)))))), Item@33(Lit@36 3), Item@42(Bin@50 n3(Bin@45 n1(Col@43 :a, Col@47 :b), Col@52 :c)))))`},
		{`select not (a = b), not a = b`,
			`Query@0(Select@0(Items@7(Item@7(Not@7(Bin@14 n7(Col@12 :a, Col@16 :b))), Item@20(Not@20(Bin@26 n7(Col@24 :a, Col@28 :b))))))`},
		{`select (a) x, ((b))`,
			`Query@0(Select@0(Items@7(Item@7 :x(Col@8 :a), Item@14(Col@16 :b))))`},
		{`insert into t values (1, default, a or b), (default)`,
			`Insert@0 :t(Values@14(Row@21(Lit@22 1, Default@25, Bin@36 n15(Col@34 :a, Col@39 :b)), Row@43(Default@44)))`},
		{`insert into t (a, "B") values (1)`,
			`Insert@0 :t(Names@14(Name@15 :a, Name@18 :B), Values@23(Row@30(Lit@31 1)))`},
		{`insert into t select 1`,
			`Insert@0 :t(Query@14(Select@14(Items@21(Item@21(Lit@21 1)))))`},
		{`insert into t (select 1)`,
			`Insert@0 :t(Query@14(Query@15(Select@15(Items@22(Item@22(Lit@22 1))))))`},
		{`insert into t ((select 1)) `,
			`Insert@0 :t(Query@14(Query@15(Query@16(Select@16(Items@23(Item@23(Lit@23 1)))))))`},
		{`insert into t (select 1) union select 2`,
			`Insert@0 :t(Query@14(SetOp@25 n1(Query@15(Select@15(Items@22(Item@22(Lit@22 1)))), Select@31(Items@38(Item@38(Lit@38 2))))))`},
		{`insert into t (a) (select 1)`,
			`Insert@0 :t(Names@14(Name@15 :a), Query@18(Query@19(Select@19(Items@26(Item@26(Lit@26 1))))))`},
		{`insert into t (a) select 1 limit 1`,
			`Insert@0 :t(Names@14(Name@15 :a), Query@18(Select@18(Items@25(Item@25(Lit@25 1))), Limit@27 n1 m-1))`},
		{`update t set a = 1, b = default, c = d = e where f`,
			`Update@0 :t(Set@13 :a(Lit@17 1), Set@20 :b(Default@24), Set@33 :c(Bin@39 n7(Col@37 :d, Col@41 :e)), Where@43(Col@49 :f))`},
		{`update t set a = not b`,
			`Update@0 :t(Set@13 :a(Not@17(Col@21 :b)))`},
		{`delete from t`,
			`Delete@0 :t`},
		{`delete from "T" where a`,
			`Delete@0 :T(Where@16(Col@22 :a))`},
		{`create table t (a int)`,
			`CreateTable@0 :t(Column@16 n1 :a)`},
		{`create table t (a int not null primary key unique, b decimal unique unique not null, c text default - 1 check (a), d boolean check (b) default (c or d) primary key, e date default date '0001-01-01')`,
			`CreateTable@0 :t(Column@16 n1 m7 :a, Column@51 n2 m5 :b, Column@85 n3 :c(DefaultIs@92(Neg@100(Lit@102 1)), Check@104(Col@111 :a)), Column@115 n4 m2 :d(Check@125(Col@132 :b), DefaultIs@135(Bin@146 n15(Col@144 :c, Col@149 :d))), Column@165 n5 :e(DefaultIs@172(Lit@180 DATE '0001-01-01')))`},
		{`create table t (primary key (a), unique (b, c), check (a > 1), b int)`,
			`CreateTable@0 :t(KeyOf@16(Name@29 :a), Unique@33(Name@41 :b, Name@44 :c), Check@48(Bin@57 n11(Col@55 :a, Lit@59 1)), Column@63 n1 :b)`},
		{`create index i on t (a)`,
			`CreateIndex@0 q:t :i(Name@21 :a)`},
		{`create unique index "I" on "T" (a, b)`,
			`CreateIndex@0 n1 q:T :I(Name@32 :a, Name@35 :b)`},
		{`drop table t`,
			`DropTable@0 :t`},
		{`drop index "order"`,
			`DropIndex@0 :order`},
		{`begin`,
			`Begin@0`},
		{`begin snapshot`,
			`Begin@0 n1`},
		{`begin serializable`,
			`Begin@0 n2`},
		{`commit`,
			`Commit@0`},
		{`rollback`,
			`Rollback@0`},
		{`rollback to a`,
			`Rollback@0 :a`},
		{`savepoint a`,
			`Savepoint@0 :a`},
		{`release "A"`,
			`Release@0 :A`},
		{`explain select 1`,
			`Explain@0(Query@8(Select@8(Items@15(Item@15(Lit@15 1)))))`},
		{`explain (select 1) limit 1`,
			`Explain@0(Query@8(Query@9(Select@9(Items@16(Item@16(Lit@16 1)))), Limit@19 n1 m-1))`},
		{`checkpoint`,
			`Checkpoint@0`},
	}
}

// opNames are the operations by their numbers, as the document lists them.
var opNames = map[int]string{
	1: "Lit", 2: "Col", 3: "Not", 4: "Neg", 5: "Bin", 6: "Is", 7: "Same", 8: "In", 9: "InQuery", 10: "Between", 11: "Like", 12: "Case", 13: "Cast",
	14: "Call", 15: "Agg", 16: "Exists", 17: "Scalar", 18: "Star", 19: "Item", 20: "Items", 21: "From", 22: "Where", 23: "Group", 24: "Having",
	25: "Select", 26: "SetOp", 27: "Query", 28: "Order", 29: "Key", 30: "Limit", 31: "Table", 32: "Derived", 33: "Join", 40: "Insert", 41: "Names",
	42: "Name", 43: "Values", 44: "Row", 45: "Default", 46: "Update", 47: "Set", 48: "Delete", 49: "CreateTable", 50: "Column", 51: "DefaultIs",
	52: "Check", 53: "KeyOf", 54: "Unique", 55: "CreateIndex", 56: "DropTable", 57: "DropIndex", 58: "Begin", 59: "Commit", 60: "Rollback",
	61: "Savepoint", 62: "Release", 63: "Explain", 64: "Checkpoint",
}

// dump writes a tree on one line: of each node operation, position, then the fields that are not zero, then its kids.
func dump(tree impl.Tree) string {
	var text strings.Builder
	var write func(at int)
	write = func(at int) {
		node := tree.Nodes[at]
		text.WriteString(opNames[node.Op] + "@" + strconv.Itoa(node.Pos))
		for _, field := range []struct{ name, text string }{{"n", number(node.N)}, {"m", number(node.M)}, {"q:", node.Qual}, {":", node.Name}} {
			if field.text != "" {
				text.WriteString(" " + field.name + field.text)
			}
		}
		if node.Op == impl.NLit || node.Val != null {
			text.WriteString(" " + impl.Show(node.Val))
		}
		if len(node.Kids) > 0 {
			text.WriteString("(")
			for i, kid := range node.Kids {
				if i > 0 {
					text.WriteString(", ")
				}
				write(kid)
			}
			text.WriteString(")")
		}
	}
	if len(tree.Nodes) > 0 {
		write(len(tree.Nodes) - 1)
	}
	return text.String()
}

func number(n int) string {
	if n == 0 {
		return ""
	}
	return strconv.Itoa(n)
}

// standing tells whether the nodes stand in the one order, going down from the root.
func standing(tree impl.Tree) bool {
	ok := len(tree.Nodes) > 0
	var first func(at int) int
	// first is the first of the nodes that are in one, with that one itself.
	first = func(at int) int {
		next := at - 1
		for k := len(tree.Nodes[at].Kids) - 1; k >= 0 && ok; k-- {
			kid := tree.Nodes[at].Kids[k]
			ok = kid == next && kid >= 0
			if ok {
				next = first(kid) - 1
			}
		}
		return next + 1
	}
	return ok && first(len(tree.Nodes)-1) == 0 && ok
}

func wantTree(t *testing.T, src, want string) {
	t.Helper()
	tree, code, pos := impl.Parse(src)
	if got := dump(tree); code != impl.OK || pos != 0 || got != want || !standing(tree) {
		t.Errorf("Parse(%q):\n %s, %d, %d\nwant\n %s", src, got, code, pos, want)
	}
}

func TestParseRules(t *testing.T) {
	for _, c := range parseCases() {
		wantTree(t, c.src, c.want)
		wantTree(t, c.src+";", c.want)
		wantTree(t, c.src+" ;\n-- end", c.want)
	}
}

func TestParseHasEveryOperation(t *testing.T) {
	seen := map[int]bool{}
	for _, c := range parseCases() {
		tree, _, _ := impl.Parse(c.src)
		for _, node := range tree.Nodes {
			seen[node.Op] = true
		}
	}
	for op, name := range opNames {
		if !seen[op] {
			t.Errorf("no case has a N%s", name)
		}
	}
	if len(seen) != len(opNames) || len(opNames) != 58 {
		t.Errorf("%d operations of %d", len(seen), len(opNames))
	}
}

// TestParseLetters asks for words and names in any letters, and quoted words as names wherever a word of the grammar might be meant.
func TestParseLetters(t *testing.T) {
	wantTree(t, "SeLeCt A", "Query@0(Select@0(Items@7(Item@7(Col@7 :a))))")
	wantTree(t, `select "date" "from" from "left" "join" join "on" on "not"`,
		"Query@0(Select@0(Items@7(Item@7 :from(Col@7 :date)), From@21(Join@40 n1(Table@26 q:join :left, Table@45 :on, Col@53 :not))))")
	wantTree(t, `select "select"("distinct") "union"`, "Query@0(Select@0(Items@7(Item@7 :union(Call@7 :select(Col@16 :distinct)))))")
	wantTree(t, `select ("select")`, "Query@0(Select@0(Items@7(Item@7(Col@8 :select))))")
	wantTree(t, `select a in ("select")`, "Query@0(Select@0(Items@7(Item@7(In@9(Col@7 :a, Col@13 :select)))))")
	wantTree(t, `insert into t ("select") select "values"`, "Insert@0 :t(Names@14(Name@15 :select), Query@25(Select@25(Items@32(Item@32(Col@32 :values)))))")
	wantTree(t, `update "set" set "set" = "default"`, "Update@0 :set(Set@17 :set(Col@25 :default))")
	wantTree(t, `create table "table" ("primary" int, "check" date)`, "CreateTable@0 :table(Column@22 n1 :primary, Column@37 n5 :check)")
	wantTree(t, `rollback to "to"`, "Rollback@0 :to")
	wantTree(t, `select "a".*, "COUNT"`, "Query@0(Select@0(Items@7(Star@7 q:a, Item@14(Col@14 :COUNT))))")
}

func TestSyntaxConstants(t *testing.T) {
	if impl.MaxNodes != 6000 || impl.MaxDepth != 100 {
		t.Errorf("bounds %d, %d", impl.MaxNodes, impl.MaxDepth)
	}
	for name, pair := range map[string][2]int{
		"AggAll": {impl.AggAll, 1}, "AggCount": {impl.AggCount, 2}, "AggSum": {impl.AggSum, 3}, "AggAvg": {impl.AggAvg, 4}, "AggMin": {impl.AggMin, 5},
		"AggMax": {impl.AggMax, 6}, "SetUnion": {impl.SetUnion, 1}, "SetExcept": {impl.SetExcept, 2}, "JoinInner": {impl.JoinInner, 1},
		"JoinLeft": {impl.JoinLeft, 2}, "JoinCross": {impl.JoinCross, 3}, "NLit": {impl.NLit, 1}, "NScalar": {impl.NScalar, 17}, "NJoin": {impl.NJoin, 33},
		"NInsert": {impl.NInsert, 40}, "NUnique": {impl.NUnique, 54}, "NCheckpoint": {impl.NCheckpoint, 64},
	} {
		if pair[0] != pair[1] {
			t.Errorf("%s is %d", name, pair[0])
		}
	}
}
