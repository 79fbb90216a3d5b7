package tests

import (
	"strings"
	"testing"

	"loop.example/g00001/impl"
)

func wantParseFault(t *testing.T, src string, wantCode, wantPos int) {
	t.Helper()
	if tree, code, pos := impl.Parse(src); code != wantCode || pos != wantPos || len(tree.Nodes) > 0 {
		t.Errorf("Parse(%q) = %v, %d, %d; want %d, %d", src, tree, code, pos, wantCode, wantPos)
	}
}

// wantMisplaced asks for the fault of the token behind the mark ^; a mark at the end is the text's that ends too early.
func wantMisplaced(t *testing.T, marked ...string) {
	t.Helper()
	for _, text := range marked {
		before, behind, found := strings.Cut(text, "^")
		if !found {
			t.Fatalf("%q has no mark", text)
		}
		wantParseFault(t, before+behind, impl.ErrSyntax, len(before))
	}
}

func TestParseMisplacedInStatements(t *testing.T) {
	wantMisplaced(t,
		"^", " \t^", "-- all\n^", "^;", "^a", "^'select'", `^"select" 1`, "^with a", "^table t", "^1", "^)", "^values (1)",
		"select 1 ^select 2", "select 1; ^select 2", "select 1;^;", "commit ^1", "commit ^work", "commit;^;",
		"begin ^commit", "begin ^a", "begin snapshot ^serializable", "rollback ^a", "rollback to^", "rollback to ^to", "savepoint ^1", "savepoint^", "release ^(",
		"explain^", "explain ^insert into t values (1)", "explain ^explain select 1", "explain ^commit", "checkpoint ^a", "drop^", "drop ^t", "drop table ^table", "drop ^view a",
		"drop index a^, b",
	)
}

func TestParseMisplacedInQueries(t *testing.T) {
	wantMisplaced(t,
		"select^", "select ^from t", "select ^, a", "select a, ^from t", "select ^all a", "select distinct ^distinct a", "select * ^a", "select t.* ^a", "select t.* ^as a",
		"select t.^1", "select a . * ^+ 1", "select 1 + a . ^*", "select (a . ^*)", "select a.b^.c", "select a.b^(c)", "select a as ^from", "select a as ^1", "select a b ^c",
		"select a as b ^c", "select a b ^. c", "select a ^'b'", "select 1 ^2", "select (1 ^2)",
		"select a from^", "select a from ^)", "select a from (^", "select a from t ^.a", "select a from t a^.b", "select a from t as ^left", "select a from (^t)",
		"select a from (^a join b on c) d", "select a from (select 1)^, t", "select a from (select 1)^", "select a from (select 1) ^where b", "select a from (select 1) as ^(",
		"select a from t^(", "select a from t join u ^where a", "select a from t join u ^, v", "select a from t cross join u ^on a", "select a from t inner ^u",
		"select a from t left ^inner join u on a", "select a from t ^outer join u", "select a from t left outer ^u", "select a from t right ^on b", "select a from t join (^t)",
		"select a from t where^", "select a from t where b ^where c", "select a from t group ^a", "select a group by ^having b", "select a having b ^group by c",
		"select a where b ^from t", "select a order ^a", "select a order by ^limit 1", "select a order by a ^b", "select a order by a asc ^desc", "select a order by a nulls ^a",
		"select a order by a nulls first ^last", "select a order by a nulls first ^desc", "select a limit ^-1", "select a limit ^1.5", "select a limit ^'1'", "select a limit ^a",
		"select a limit 1 ^limit 2", "select a offset 1 ^limit 2", "select a limit 1 offset^", "select a limit 1 ^order by a", "select a limit 1 ^+ 1", "select a limit 1^, 2",
		"select 1 union ^union select 2", "select 1 union all ^all select 2", "select 1 union ^distinct select 2", "select 1 order by 1 ^union select 2",
		"select 1 limit 1 ^union select 2", "select 1 union ^values (1)", "(select 1^", "((select 1)^", "(select 1) ^a", "(^1)", "(^)", "((^a))", "select 1 intersect ^select 2",
	)
}

func TestParseMisplacedInExpressions(t *testing.T) {
	wantMisplaced(t,
		"select a or^", "select a or ^or b", "select a and ^or b", "select not^", "select a not ^b", "select a not ^null", "select a not^", "select a not ^not in (1)",
		"select a = ^not b", "select 1 + ^not a", "select - ^not a", "select a = b ^= c", "select a < b ^> c", "select a is null ^is null", "select a is null ^= b",
		"select a in (1) ^in (2)", "select a like b ^like c", "select a between b and c ^between d and e", "select a = ^= b", "select a < ^> b", "select a is ^a",
		"select a is not ^true", "select a is^", "select a is not^", "select a is not ^not null", "select a is distinct ^a", "select a is not distinct from^",
		"select a in ^1", "select a in^", "select a in (^)", "select a in (^", "select a in (1^", "select a in (1, ^)", "select a in (1 ^2)", "select a in (select 1 ^2)",
		"select a in ((select 1) ^union select 2)", "select a in (1, ^select 2)", "select a not in ^select 1", "select a in (1, (select 2)^",
		"select a between ^and b", "select a between b ^, c", "select a between b and^", "select a between b ^or c", "select a between b ^= c and d", "select a like^",
		"select a like b escape ^c", "select a || ^|| b", "select a + ^* b", "select a * ^/ b", "select ^+ a", "select a % ^% b", "select a -^",
	)
}

func TestParseMisplacedInAtoms(t *testing.T) {
	wantMisplaced(t,
		"select (^", "select (^)", "select (a^", "select (a^, b)", "select ((select 1) ^union select 2)", "select (select 1^", "select ((select 1)^",
		"select f(^", "select f(a^", "select f(a,^", "select f(a, ^)", "select f(^*)", "select f(^distinct a)", "select f(^select 1)", "select f ^'1'",
		"select date ^2020", "select date^", "select date ^a", "select date ^'x'", "select date ^'2021-02-29'", "select date ^'2020-2-3'", "select date ^' 2020-01-01'",
		"select date ^'0000-01-01'", "select date ^('2020-01-01')", "select date ^\"2020-01-01\"",
		"select case^", "select case ^end", "select case a ^end", "select case a ^then b end", "select case when ^then b end", "select case when a ^end", "select case when a then ^end",
		"select case when a then b^", "select case when a then b else ^end", "select case when a then b else c ^when d then e end", "select case a when b then c else d ^else e end",
		"select case when a ^when b then c end", "select case when a then b ^then c end",
		"select cast ^a", "select cast(^)", "select cast(a^)", "select cast(a as ^)", "select cast(a as ^varchar)", "select cast(a as ^null)", "select cast(a as int^", "select cast(a as int^, b)",
		"select cast(a ^int)", `select cast(a as ^"int")`, "select exists^", "select exists ^select 1", "select exists (^1)", "select exists (^a)", "select exists (select 1^", "select exists ((^1))",
		"select count^", "select count ^a", "select count(^)", "select count(distinct ^*)", "select count(distinct^", "select count(*^", "select count(* ^+ 1)", "select count(a^, b)",
		"select count(distinct ^distinct a)", "select sum(^*)", "select avg(^)", "select min^", "select max(a^", "select count ^. a", "select count^.*",
		"select ^default", "select ^by", "select ^key",
	)
}

func TestParseMisplacedInChanges(t *testing.T) {
	wantMisplaced(t,
		"insert ^t", "insert into^", "insert into ^values (1)", "insert into t^", "insert into t ^default values", "insert into t (^)", "insert into t (^", "insert into t (^values (1))",
		"insert into t (^1)", "insert into t (a^", "insert into t (a ^b) values (1)", "insert into t (a, ^) values (1)", "insert into t (a)^", "insert into t (a) ^a", "insert into t (a) (^b) values (1)",
		"insert into t values^", "insert into t values ^1", "insert into t values (^)", "insert into t values (1^", "insert into t values (1),^", "insert into t values (1) ^(2)",
		"insert into t values (1, ^)", "insert into t values (default ^+ 1)", "insert into t values (^select 1)", "insert into t values (1) ^select 2", "insert into t ((^a)) values (1)",
		"insert into t (select 1) ^values (1)", "insert into t ((select 1)^", "insert into t(a^.b) values (1)", "insert into t ^as a values (1)", "insert into t^.a values (1)",
		"update ^set a = 1", "update t ^a set b = 1", "update t set^", "update t set ^where a", "update t set a ^1", "update t set a ^< 1", "update t set a = ^", "update t set a = 1 ^b = 2",
		"update t set a = 1, ^where b", "update t set a^.b = 1", "update t set a = default ^+ 1", "update t set a = 1 where^", "update t set ^(a) = 1", "update t set a = 1 ^from u",
		"delete ^t", "delete from^", "delete from t ^a", "delete from t where^", "delete from ^(t)", "delete from t^, u",
	)
}

func TestParseMisplacedInDefinitions(t *testing.T) {
	wantMisplaced(t,
		"create^", "create ^view a", "create table^", "create table t^", "create table t ^a int", "create table t (^)", "create table t (a^)", "create table t (a ^b)", "create table t (a int^",
		"create table t (a int, ^)", "create table t (a int) ^a", "create table t (a int ^int)", "create table t (a int not ^unique)", "create table t (a int ^null)", "create table t (a int primary ^)",
		"create table t (a int ^key)", "create table t (a int unique ^(a))", "create table t (a int default^", "create table t (a int default ^)", "create table t (a int default 1 ^+ 1)",
		"create table t (a int default a ^= b)", "create table t (a int default ^not b)", "create table t (a int default ^default)", "create table t (a int default 1 ^is null)",
		"create table t (a int check ^a)", "create table t (a int check (^))", "create table t (a int check (a^, b))", "create table t (a int check (^select 1))",
		"create table t (primary ^(a))", "create table t (primary key ^a)", "create table t (primary key (^))", "create table t (primary key (a ^int))", "create table t (primary key (a)^",
		"create table t (primary key (a) ^unique)", "create table t (unique ^a)", "create table t (unique (^1))", "create table t (check ^a > 1)", "create table t (check (a) ^not null)",
		"create table t (^int a)", "create table t (^key int)", "create table t ^select 1", "create table t^.a (b int)", "create unique ^table t (a int)", "create unique ^unique index i on t (a)",
		"create index ^on t (a)", "create index i ^t (a)", "create index i on^", "create index i on t^", "create index i on t ^a", "create index i on t (^)", "create index i on t (a ^+ b)",
		"create index i on t (a ^desc)", "create index i on t (a, ^)", "create index i on t (a) ^where b",
	)
}

func TestParseFaultsOfLexFirst(t *testing.T) {
	wantParseFault(t, "select 'a", impl.ErrToken, 7)
	wantParseFault(t, "select from ?", impl.ErrToken, 12)
	wantParseFault(t, ") ) 1a", impl.ErrToken, 5)
	wantParseFault(t, "; select 99999999999999999999", impl.ErrBig, 9)
	wantParseFault(t, strings.Repeat("- ", 150)+"?", impl.ErrToken, 300)
	wantParseFault(t, "a"+strings.Repeat(" ", impl.MaxSource), impl.ErrBig, 0)
	wantParseFault(t, strings.Repeat("a ", impl.MaxTokens)+" b", impl.ErrBig, 2*impl.MaxTokens+1)
	wantParseFault(t, strings.Repeat("a ", impl.MaxTokens), impl.ErrSyntax, 0)
	full := "select 1" + strings.Repeat(" ", impl.MaxSource-8)
	wantTree(t, full, "Query@0(Select@0(Items@7(Item@7(Lit@7 1))))")
	wantParseFault(t, full+" ", impl.ErrBig, 0)
	many := "select 1" + strings.Repeat(",1", impl.MaxTokens/2-1)
	if tree, code, _ := impl.Parse(many); code != impl.OK || len(tree.Nodes) != impl.MaxTokens+3 {
		t.Errorf("%d tokens: %d nodes, %d", impl.MaxTokens, len(tree.Nodes), code)
	}
	wantParseFault(t, many+";", impl.ErrBig, len(many))
}

// nested is a text of which a node stands in all others: the root, the select, its items, the item, then the operators.
func nested(operators int) string { return "select " + strings.Repeat("- ", operators) + "1" }

func TestParseDepth(t *testing.T) {
	const most = impl.MaxDepth - 5
	tree, code, _ := impl.Parse(nested(most))
	if code != impl.OK || len(tree.Nodes) != impl.MaxDepth {
		t.Errorf("%d nodes in one another: %d, %d", impl.MaxDepth, len(tree.Nodes), code)
	}
	wantParseFault(t, nested(most+1), impl.ErrDeep, len(nested(most+1))-1)
	wantParseFault(t, nested(most+3), impl.ErrDeep, len(nested(most+3))-1)
	// The first in the list is that of the first branch which goes so far, its deepest node ahead of the others.
	wantParseFault(t, nested(most-1)+" + "+nested(most)[7:], impl.ErrDeep, len(nested(most-1))+2+len(nested(most))-7)
	wantParseFault(t, nested(most)+" + "+nested(most)[7:], impl.ErrDeep, len(nested(most))-1)
	// The operator that comes last stands outermost.
	wantParseFault(t, "select 2"+strings.Repeat(" + 1", most+1), impl.ErrDeep, 7)
	wantTree(t, "select "+strings.Repeat("(", 900)+"a"+strings.Repeat(")", 900), "Query@0(Select@0(Items@7(Item@7(Col@907 :a))))")
	wantParseFault(t, strings.Repeat("(", 97)+"select 1"+strings.Repeat(")", 97), impl.ErrDeep, 104)
	wantParseFault(t, "select 1"+strings.Repeat(" union select 1", 96), impl.ErrDeep, 7)
	// A node that is not the deepest, but the first in the list that is too deep.
	wantParseFault(t, "select "+strings.Repeat("- ", most)+"f(a, - b)", impl.ErrDeep, 7+2*most+2)
}

func TestParseSyntaxAheadOfDepth(t *testing.T) {
	wantParseFault(t, nested(500)+" 2", impl.ErrSyntax, len(nested(500))+1)
	wantParseFault(t, nested(500)+" +", impl.ErrSyntax, len(nested(500))+2)
	wantParseFault(t, nested(1997), impl.ErrDeep, len(nested(1997))-1)
	wantParseFault(t, strings.Repeat("(", 2000), impl.ErrSyntax, 2000)
	wantParseFault(t, "select "+strings.Repeat("(", 1999), impl.ErrSyntax, 2006)
	wantParseFault(t, "select "+strings.Repeat("not ", 1900), impl.ErrSyntax, 7+4*1900)
	wantParseFault(t, "select "+strings.Repeat("f(", 999), impl.ErrSyntax, 7+2*999)
	wantParseFault(t, strings.Repeat("select (", 999), impl.ErrSyntax, 8*999)
	wantParseFault(t, "select "+strings.Repeat("case ", 1500), impl.ErrSyntax, 7+5*1500)
}
