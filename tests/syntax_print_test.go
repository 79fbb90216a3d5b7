package tests

import (
	"strings"
	"testing"

	"loop.example/g00001/impl"
)

func wantPrinted(t *testing.T, src, want string) {
	t.Helper()
	tree, code, pos := impl.Parse(src)
	if code != impl.OK {
		t.Errorf("Parse(%q): %d, %d", src, code, pos)
		return
	}
	if got, code := impl.Print(tree); code != impl.OK || got != want {
		t.Errorf("%q is printed as\n %q, %d; want\n %q", src, got, code, want)
	}
}

func TestPrintQueries(t *testing.T) {
	for src, want := range map[string]string{
		"select *, t.*, \"T\".*, a b, a as \"B\"":                     `SELECT * , t . * , "T" . * , a AS b , a AS "B"`,
		"select distinct a":                                           "SELECT DISTINCT a",
		"select 1 from t, u x, v as y, (select 2) z, (select 3) as w": "SELECT 1 FROM t , u AS x , v AS y , ( SELECT 2 ) AS z , ( SELECT 3 ) AS w",
		"select 1 from t join u on a inner join v on b left join x on c left outer join y on d = e": "SELECT 1 FROM t JOIN u ON a JOIN v ON b LEFT JOIN x ON c LEFT JOIN y ON d = e",
		"select 1 from t cross join u x, v":                                                      "SELECT 1 FROM t CROSS JOIN u AS x , v",
		"select a where not b group by a, c or d having e and f":                                 "SELECT a WHERE NOT b GROUP BY a , c OR d HAVING e AND f",
		"select a order by a asc, - b desc, c nulls first, d desc nulls last, e asc nulls first": "SELECT a ORDER BY a , - b DESC , c NULLS FIRST , d DESC NULLS LAST , e NULLS FIRST",
		"select a limit 007": "SELECT a LIMIT 7", "select a offset 0": "SELECT a OFFSET 0", "select a limit 0 offset 9223372036854775807": "SELECT a LIMIT 0 OFFSET 9223372036854775807",
		"select 1 union select 2 union all select 3 except select 4 except all select 5": "SELECT 1 UNION SELECT 2 UNION ALL SELECT 3 EXCEPT SELECT 4 EXCEPT ALL SELECT 5",
		"select 1 union (select 2 union select 3)":                                       "SELECT 1 UNION ( SELECT 2 UNION SELECT 3 )",
		"(select 1 union select 2) union select 3":                                       "( SELECT 1 UNION SELECT 2 ) UNION SELECT 3",
		"(((select 1)) limit 1)":                                                         "( ( ( SELECT 1 ) ) LIMIT 1 )",
		"select exists((select 1)), (select 2), ((select 3))":                            "SELECT EXISTS ( ( SELECT 1 ) ) , ( SELECT 2 ) , ( SELECT 3 )",
		"explain(select 1)order by a":                                                    "EXPLAIN ( SELECT 1 ) ORDER BY a",
	} {
		wantPrinted(t, src, want)
	}
}

func TestPrintExpressions(t *testing.T) {
	for src, want := range map[string]string{
		"007":                 "7",
		"1.50":                "1.5",
		"2.0":                 "2.0",
		"'it''s'":             "'it''s'",
		"null":                "NULL",
		"True":                "TRUE",
		"false":               "FALSE",
		"date'2020-02-29'":    "DATE '2020-02-29'",
		"A . \"B\"":           `a . "B"`,
		"a!=b":                "a <> b",
		"a||b":                "a || b",
		"f()":                 "f ( )",
		"f(a,-b,c or d)":      "f ( a , - b , c OR d )",
		`"SUM"(a)`:            `"SUM" ( a )`,
		`"sum"(a)`:            `"sum" ( a )`,
		"count(*)":            "COUNT ( * )",
		"count(distinct a+b)": "COUNT ( DISTINCT a + b )",
		"sum(a)":              "SUM ( a )",
		"avg(not a)":          "AVG ( NOT a )",
		"min(distinct a)":     "MIN ( DISTINCT a )",
		"max(a)":              "MAX ( a )",
		"count(a)":            "COUNT ( a )",
		"cast(a+b as int)":    "CAST ( a + b AS INT )",
		"cast(a as decimal)":  "CAST ( a AS DECIMAL )",
		"cast(a as text)":     "CAST ( a AS TEXT )",
		"cast(a as boolean)":  "CAST ( a AS BOOLEAN )",
		"cast(a as date)":     "CAST ( a AS DATE )",
		"case when a=b then -c when d then e end":        "CASE WHEN a = b THEN - c WHEN d THEN e END",
		"case not a when b or c then d else e and f end": "CASE NOT a WHEN b OR c THEN d ELSE e AND f END",
		"a in(1)":                               "a IN ( 1 )",
		"a not in(b=c,(select 1),not d)":        "a NOT IN ( b = c , ( SELECT 1 ) , NOT d )",
		"a in((select 1))":                      "a IN ( ( SELECT 1 ) )",
		"a in(select 1)":                        "a IN ( SELECT 1 )",
		"a not in(select 1 order by b limit 1)": "a NOT IN ( SELECT 1 ORDER BY b LIMIT 1 )",
		"a is null":                             "a IS NULL",
		"a is not null":                         "a IS NOT NULL",
		"a is distinct from b":                  "a IS DISTINCT FROM b",
		"a is not distinct from b":              "a IS NOT DISTINCT FROM b",
		"a between b and c":                     "a BETWEEN b AND c",
		"a not between b and c":                 "a NOT BETWEEN b AND c",
		"a like b":                              "a LIKE b",
		"a not like b":                          "a NOT LIKE b",
		"not not a":                             "NOT ( NOT a )",
		"- - a":                                 "- ( - a )",
		"-1":                                    "- 1",
		"a-b-c":                                 "( a - b ) - c",
		"a-(b-c)":                               "a - ( b - c )",
		"a+b*c":                                 "a + ( b * c )",
		"a or b and c=d||e":                     "a OR ( b AND ( c = ( d || e ) ) )",
		"((a))":                                 "a",
	} {
		wantPrinted(t, "select "+src, "SELECT "+want)
	}
	for n, sign := range strings.Fields("+ - * / % || = <> < <= > >= and or") {
		wantPrinted(t, "select a "+sign+" b", "SELECT a "+strings.Fields("+ - * / % || = <> < <= > >= AND OR")[n]+" b")
	}
}

func TestPrintStatements(t *testing.T) {
	for src, want := range map[string]string{
		"insert into t values(1,default,a or b),(default)":        "INSERT INTO t VALUES ( 1 , DEFAULT , a OR b ) , ( DEFAULT )",
		`insert into "T"(a,"B")values(1)`:                         `INSERT INTO "T" ( a , "B" ) VALUES ( 1 )`,
		"insert into t select 1":                                  "INSERT INTO t SELECT 1",
		"insert into t(select 1)":                                 "INSERT INTO t ( SELECT 1 )",
		"insert into t((select 1))":                               "INSERT INTO t ( ( SELECT 1 ) )",
		"insert into t(a)(select 1)union select 2":                "INSERT INTO t ( a ) ( SELECT 1 ) UNION SELECT 2",
		"update t set a=1,b=default,c=d=e":                        "UPDATE t SET a = 1 , b = DEFAULT , c = d = e",
		`update t set "A"=not b where c or d`:                     `UPDATE t SET "A" = NOT b WHERE c OR d`,
		"delete from t":                                           "DELETE FROM t",
		"delete from t where not a":                               "DELETE FROM t WHERE NOT a",
		"create table t(a int,b decimal,c text,d boolean)":        "CREATE TABLE t ( a INT , b DECIMAL , c TEXT , d BOOLEAN )",
		"create table t(a date unique primary key not null)":      "CREATE TABLE t ( a DATE NOT NULL PRIMARY KEY UNIQUE )",
		"create table t(a int primary key, b int unique)":         "CREATE TABLE t ( a INT PRIMARY KEY , b INT UNIQUE )",
		"create table t(a int not null not null)":                 "CREATE TABLE t ( a INT NOT NULL )",
		"create table t(a int check(a or b)default 1 unique)":     "CREATE TABLE t ( a INT UNIQUE CHECK ( a OR b ) DEFAULT 1 )",
		"create table t(check(not a),unique(a,b),primary key(c))": "CREATE TABLE t ( CHECK ( NOT a ) , UNIQUE ( a , b ) , PRIMARY KEY ( c ) )",
		"create index i on t(a)":                                  "CREATE INDEX i ON t ( a )",
		`create unique index "I" on t(a,b)`:                       `CREATE UNIQUE INDEX "I" ON t ( a , b )`,
		"drop table t":                                            "DROP TABLE t",
		`drop index "by"`:                                         `DROP INDEX "by"`,
		"begin;":                                                  "BEGIN",
		"begin snapshot":                                          "BEGIN SNAPSHOT",
		"begin serializable":                                      "BEGIN SERIALIZABLE",
		"commit":                                                  "COMMIT",
		"rollback":                                                "ROLLBACK",
		"rollback to A":                                           "ROLLBACK TO a",
		"savepoint a":                                             "SAVEPOINT a",
		"release a":                                               "RELEASE a",
		"checkpoint":                                              "CHECKPOINT",
	} {
		wantPrinted(t, src, want)
	}
}

// inside are expressions of every operation: those that stand in brackets where they are operands, and those that don't.
func inside() (operators, others []string) {
	operators = []string{
		"NOT a", "- a", "a + b", "a || b", "a = b", "a AND b", "a OR b", "a IS NULL", "a IS NOT DISTINCT FROM b", "a IN ( b )", "a NOT IN ( SELECT 1 )", "a BETWEEN b AND c",
		"a LIKE b",
	}
	others = []string{
		"1", "a", "a . b", "NULL", "'x'", "DATE '2020-02-29'", "CASE WHEN a THEN b END", "CAST ( a AS INT )", "f ( )", "f ( a , b )", "COUNT ( * )", "SUM ( a )", "EXISTS ( SELECT 1 )",
		"( SELECT 1 )",
	}
	return operators, others
}

func TestPrintBrackets(t *testing.T) {
	operators, others := inside()
	bracketing := []string{
		"SELECT NOT @", "SELECT - @", "SELECT @ + x", "SELECT x * @", "SELECT @ || x", "SELECT x = @", "SELECT @ AND x", "SELECT x OR @", "SELECT @ IS NULL", "SELECT @ IS NOT NULL",
		"SELECT @ IS DISTINCT FROM x", "SELECT x IS NOT DISTINCT FROM @", "SELECT @ IN ( x )", "SELECT @ NOT IN ( SELECT 1 )", "SELECT @ BETWEEN x AND y", "SELECT x BETWEEN @ AND y",
		"SELECT x NOT BETWEEN y AND @", "SELECT @ LIKE x", "SELECT x NOT LIKE @",
	}
	plain := []string{
		"SELECT @", "SELECT @ AS x", "SELECT x IN ( @ )", "SELECT x IN ( y , @ , z )", "SELECT CASE @ WHEN x THEN y END", "SELECT CASE WHEN @ THEN x END", "SELECT CASE WHEN x THEN @ ELSE y END",
		"SELECT CASE WHEN x THEN y ELSE @ END", "SELECT CAST ( @ AS TEXT )", "SELECT f ( @ )", "SELECT f ( x , @ )", "SELECT MAX ( @ )", "SELECT COUNT ( DISTINCT @ )",
		"SELECT x FROM t JOIN u ON @", "SELECT x FROM t LEFT JOIN u ON @ , v", "SELECT x WHERE @", "SELECT x GROUP BY @ , y", "SELECT x HAVING @", "SELECT x ORDER BY @ DESC , @",
		"INSERT INTO t VALUES ( @ , @ )", "UPDATE t SET x = @", "DELETE FROM t WHERE @", "CREATE TABLE t ( a INT CHECK ( @ ) )", "CREATE TABLE t ( CHECK ( @ ) )",
	}
	for _, e := range append(operators, others...) {
		for _, around := range plain {
			wantPrinted(t, strings.ReplaceAll(around, "@", "( ( "+e+" ) )"), strings.ReplaceAll(around, "@", e))
		}
	}
	for _, around := range bracketing {
		for _, e := range operators {
			want := strings.ReplaceAll(around, "@", "( "+e+" )")
			wantPrinted(t, strings.ReplaceAll(want, "( ", "("), want)
			wantPrinted(t, strings.ReplaceAll(around, "@", "(( "+e+" ))"), want)
		}
		for _, e := range others {
			want := strings.ReplaceAll(around, "@", e)
			wantPrinted(t, want, want)
			wantPrinted(t, strings.ReplaceAll(around, "@", "( "+e+" )"), want)
		}
	}
}

func TestPrintBracketsOfDefault(t *testing.T) {
	operators, others := inside()
	for _, e := range append(operators, others...) {
		want := "( " + e + " )"
		for _, other := range append(others, "- a") {
			if e == other {
				want = e
			}
		}
		wantPrinted(t, "CREATE TABLE t ( a INT DEFAULT ( "+e+" ) CHECK ( b ) )", "CREATE TABLE t ( a INT DEFAULT "+want+" CHECK ( b ) )")
	}
	wantPrinted(t, "create table t (a int default - - 1)", "CREATE TABLE t ( a INT DEFAULT - ( - 1 ) )")
	wantPrinted(t, "create table t (a int default -(b + 1))", "CREATE TABLE t ( a INT DEFAULT - ( b + 1 ) )")
}

// wantBound asks for a tree that may just be printed, or not any more.
func wantBound(t *testing.T, tree impl.Tree, tokens, bytes int) {
	t.Helper()
	text, code := impl.Print(tree)
	if tokens > impl.MaxTokens || bytes > impl.MaxSource {
		if code != impl.ErrBig || text != "" {
			t.Errorf("%d tokens, %d bytes: %d bytes, %d", tokens, bytes, len(text), code)
		}
		return
	}
	if list, _, _ := impl.Lex(text); code != impl.OK || len(list) != tokens || len(text) != bytes {
		t.Errorf("%d tokens, %d bytes: %d tokens, %d bytes, %d", tokens, bytes, len(list), len(text), code)
	}
}

func parsed(t *testing.T, src string) impl.Tree {
	t.Helper()
	tree, code, pos := impl.Parse(src)
	if code != impl.OK {
		t.Fatalf("Parse of %d bytes: %d, %d", len(src), code, pos)
	}
	return tree
}

func TestPrintMaxTokens(t *testing.T) {
	for _, count := range []int{1, 400, 999, 1000} {
		wantBound(t, parsed(t, "select 1"+strings.Repeat(",1", count-1)), 2*count, 4*count+4)
		wantBound(t, stars(count+1), 2*count+2, 4*count+8)
	}
	// The normal form has words and brackets that the text did without.
	for rest := 990; rest < 998; rest++ {
		wantBound(t, parsed(t, "select 1 a"+strings.Repeat(",1", rest)), 4+2*rest, 13+4*rest)
		wantBound(t, parsed(t, "select 1+1+1"+strings.Repeat(",1", rest)), 8+2*rest, 20+4*rest)
		wantBound(t, parsed(t, "select -(-1)"+strings.Repeat(",1", rest)), 6+2*rest, 16+4*rest)
	}
	wantBound(t, parsed(t, "select 1 a"+strings.Repeat(",1", 998)), 2000, 13+4*998)
	// DATE and its string are two tokens.
	for rest := 990; rest < 1002; rest++ {
		date := newPlant(impl.Node{Op: impl.NItem}, newPlant(impl.Node{Op: impl.NLit, Val: datev(0)}))
		items := newPlant(impl.Node{Op: impl.NItems}, date)
		for range rest {
			items.kids = append(items.kids, newPlant(impl.Node{Op: impl.NStar}))
		}
		wantBound(t, planted(newPlant(impl.Node{Op: impl.NQuery}, newPlant(impl.Node{Op: impl.NSelect}, items))), 3+2*rest, 24+4*rest)
	}
}

func TestPrintMaxSource(t *testing.T) {
	long := "'" + strings.Repeat("b", 245) + "'"
	for last := 0; last < 250; last++ {
		tree := parsed(t, "select"+strings.Repeat(long+",", 31)+"'"+strings.Repeat("c", last)+"'")
		wantBound(t, tree, 64, 7+31*250+2+last)
	}
	// Bytes count, not characters, and those of doubled quotes too.
	quotes, wide := "'"+strings.Repeat("''", 255)+"'", "'"+strings.Repeat("𝄞", 255)+"'"
	for last := range 48 {
		tree := parsed(t, "select"+strings.Repeat(quotes+",", 15)+long+",'"+strings.Repeat("c", last)+"'")
		wantBound(t, tree, 34, 7+15*515+250+2+last)
	}
	for last := range 80 {
		tree := parsed(t, "select"+strings.Repeat(wide+",", 7)+strings.Repeat(long+",", 3)+"'"+strings.Repeat("c", last)+"'")
		wantBound(t, tree, 22, 7+7*1025+3*250+2+last)
	}
}

// TestPrintOfTooMuch asks for trees that are valid, and far too great to be written.
func TestPrintOfTooMuch(t *testing.T) {
	items := newPlant(impl.Node{Op: impl.NItems})
	for range (impl.MaxNodes - 3) / 2 {
		lit := newPlant(impl.Node{Op: impl.NLit, Val: textv(strings.Repeat("'", impl.MaxChars))})
		items.kids = append(items.kids, newPlant(impl.Node{Op: impl.NItem, Name: strings.Repeat(`"`, impl.MaxName)}, lit))
	}
	tree := planted(newPlant(impl.Node{Op: impl.NQuery}, newPlant(impl.Node{Op: impl.NSelect}, items)))
	if text, code := impl.Print(tree); !impl.TreeOK(tree) || text != "" || code != impl.ErrBig {
		t.Errorf("%d bytes, %d", len(text), code)
	}
}

func TestPrintLiterals(t *testing.T) {
	for _, v := range validValues() {
		item := newPlant(impl.Node{Op: impl.NItem}, newPlant(impl.Node{Op: impl.NLit, Val: v}))
		tree := planted(newPlant(impl.Node{Op: impl.NQuery}, newPlant(impl.Node{Op: impl.NSelect}, newPlant(impl.Node{Op: impl.NItems}, item))))
		text, code := impl.Print(tree)
		if (v.Kind == impl.Int || v.Kind == impl.Dec) && v.N < 0 {
			if text != "" || code != impl.ErrBad {
				t.Errorf("Print of %v: %q, %d", v, text, code)
			}
			continue
		}
		if code != impl.OK || text != "SELECT "+impl.Show(v) {
			t.Errorf("Print of %v: %q, %d", v, text, code)
		}
		if again, code, _ := impl.Parse(text); code != impl.OK || again.Nodes[0].Val != v {
			t.Errorf("Parse(%q) = %v, %d", text, again, code)
		}
	}
}
