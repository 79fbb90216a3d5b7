package tests

import (
	"testing"

	"loop.example/g00001/impl"
)

// wantChangePlans asks for changes of one kind: text and plan, as shortPlan tells it.
func wantChangePlans(t *testing.T, kind int, pairs [][2]string) {
	t.Helper()
	s := house(t)
	for _, pair := range pairs {
		tree := parsed(t, pair[0])
		change, code, pos := impl.BindChange(s, tree)
		name := tree.Nodes[len(tree.Nodes)-1].Name
		if code != impl.OK || pos != 0 || change.Kind != kind || change.Table != s.Tables[tableNamed(s, name)].Id || shortPlan(change.Plan) != pair[1] {
			t.Errorf("%s: %d, %d, %d, %d, %s; want %s", pair[0], code, pos, change.Kind, change.Table, shortPlan(change.Plan), pair[1])
		}
		wantStatement(t, s, tree)
	}
}

func TestPlanInserts(t *testing.T) {
	wantChangePlans(t, impl.ChInsert, [][2]string{
		{"insert into t values (1, 2, 'x', 2.5, true, date '2020-01-31')", "values a1 {1; 2; 'x'; 2.5; TRUE; DATE '2020-01-31'} :iitdby"},
		{"insert into t values (1, null, null, null, null, null), (2, 3, 'y', 4, false, default)", "values a2 {1; CAST(NULL AS INT); CAST(NULL AS TEXT); CAST(NULL AS DECIMAL); CAST(NULL AS BOOLEAN); CAST(NULL AS DATE); 2; 3; 'y'; CAST(4 AS DECIMAL); FALSE; CAST(NULL AS DATE)} :iitdby"},
		{"insert into u values (default, default, default, default, default, default)", "values a1 {CAST(NULL AS INT); 1.5; 'q'; 7; CAST(NULL AS BOOLEAN); CAST(NULL AS DATE)} :idtiby"},
		{"insert into u (y) values ('z')", "values a1 {CAST(NULL AS INT); 1.5; 'z'; 7; CAST(NULL AS BOOLEAN); CAST(NULL AS DATE)} :idtiby"},
		{"insert into u (v, id) values (date '1970-01-02', 1 + 1), (default, cast(null as int))", "values a2 {(1 + 1); 1.5; 'q'; 7; CAST(NULL AS BOOLEAN); DATE '1970-01-02'; CAST(NULL AS INT); 1.5; 'q'; 7; CAST(NULL AS BOOLEAN); CAST(NULL AS DATE)} :idtiby"},
		{`insert into u (x, id) values ((select max(a) from t), (select count(*) from "k 1")), (1, null)`, "K | project <0 : | group <1 all(-1) :i | project <2 {#0} :i | T | project <4 {#1} :i | group <5 max(0) :i | project <6 {#0} :i | values a2 {(@3); CAST((@7) AS DECIMAL); 'q'; 7; CAST(NULL AS BOOLEAN); CAST(NULL AS DATE); CAST(NULL AS INT); CAST(1 AS DECIMAL); 'q'; 7; CAST(NULL AS BOOLEAN); CAST(NULL AS DATE)} :idtiby"},
		{`insert into "k 1" values ((select k from "k 1" where k = (select max(k) from "k 1")))`, "K | K | project <1 {#0} :i | group <2 max(0) :i | project <3 {#0} :i | filter <0 {(#0 = (@4))} :i | project <5 {#0} :i | values a1 {(@6)} :i"},
		{`insert into "k 1" (k) values (1), (-1), (default)`, "values a3 {1; (- 1); CAST(NULL AS INT)} :i"},
		{"insert into t select id, a, 'x', a, null, e from t", "T | project <0 {#0; #1; 'x'; #1; NULL; #5} :iitiny | project <1 {#0; #1; #2; CAST(#3 AS DECIMAL); CAST(#4 AS BOOLEAN); #5} :iitdby"},
		{"insert into u (a, id) select 1, null", "V | project <0 {1; NULL} :in | project <1 {CAST(#1 AS INT); 1.5; 'q'; #0; CAST(NULL AS BOOLEAN); CAST(NULL AS DATE)} :idtiby"},
		{"insert into u (x, y) (select id, b from t order by 1 limit 1)", "T | project <0 {#0; #2} :it | sort <1 s0 :it | limit <2 a1 :it | project <3 {CAST(NULL AS INT); CAST(#0 AS DECIMAL); #1; 7; CAST(NULL AS BOOLEAN); CAST(NULL AS DATE)} :idtiby"},
		{`insert into "k 1" select k from "k 1" union select 2`, "K | project <0 {#0} :i | V | project <2 {2} :i | union <1 >3 :i | project <4 {#0} :i"},
		{"insert into u (x) select null", "V | project <0 {NULL} :n | project <1 {CAST(NULL AS INT); CAST(#0 AS DECIMAL); 'q'; 7; CAST(NULL AS BOOLEAN); CAST(NULL AS DATE)} :idtiby"},
		{"insert into u (v, w, a, y, x, id) select * from (select e, d, a, b, c, id from t) as p", "T | project <0 {#5; #4; #1; #2; #3; #0} :ybitdi | project <1 {#0; #1; #2; #3; #4; #5} :ybitdi | project <2 {#5; #4; #3; #2; #1; #0} :idtiby"},
	})
}

func TestPlanUpdates(t *testing.T) {
	wantChangePlans(t, impl.ChUpdate, [][2]string{
		{"update t set a = a + 1", "T | project <0 {#0; #1; #2; #3; #4; #5; #0; (#1 + 1); #2; #3; #4; #5} :iitdbyiitdby"},
		{"update t set a = a + 1 where id = 3", "T | filter <0 {(#0 = 3)} :iitdby | project <1 {#0; #1; #2; #3; #4; #5; #0; (#1 + 1); #2; #3; #4; #5} :iitdbyiitdby"},
		{"update t set c = 1, b = null, a = default, d = a > 1, e = e + 1 where t.d and null", "T | filter <0 {(#4 AND NULL)} :iitdby | project <1 {#0; #1; #2; #3; #4; #5; #0; CAST(NULL AS INT); CAST(NULL AS TEXT); CAST(1 AS DECIMAL); (#1 > 1); (#5 + 1)} :iitdbyiitdby"},
		{"update u set x = default, y = default, a = default, id = default where x > 1", "U | filter <0 {(#1 > 1)} :idtiby | project <1 {#0; #1; #2; #3; #4; #5; CAST(NULL AS INT); 1.5; 'q'; 7; #4; #5} :idtibyidtiby"},
		{`update "k 1" set k = (select max(k) from "k 1" as z where z.k = "k 1".k) where exists (select 1 where k = 1)`, "K | V | filter <1 {(1#0 = 1)} : | project <2 {1} :i | filter <0 {EXISTS(@3)} :i | K | filter <5 {(#0 = 1#0)} :i | project <6 {#0} :i | group <7 max(0) :i | project <8 {#0} :i | project <4 {#0; (@9)} :ii"},
		{"update t set id = id", "T | project <0 {#0; #1; #2; #3; #4; #5; #0; #1; #2; #3; #4; #5} :iitdbyiitdby"},
		{"update t set c = (select null), a = case (select a) when 1 then 2 when 2 then 3 end", "T | V | project <1 {1#1} :i | V | project <3 {1#1} :i | V | project <5 {NULL} :n | project <0 {#0; #1; #2; #3; #4; #5; #0; CASE WHEN ((@2) = 1) THEN 2 WHEN ((@4) = 2) THEN 3 END; #2; CAST((@6) AS DECIMAL); #4; #5} :iitdbyiitdby"},
	})
}

func TestPlanDeletes(t *testing.T) {
	wantChangePlans(t, impl.ChDelete, [][2]string{
		{"delete from t", "T"},
		{"delete from t where d", "T | filter <0 {#4} :iitdby"},
		{"delete from t where null", "T | filter <0 {NULL} :iitdby"},
		{"delete from u where u.id in (select t.id from t where t.a = u.a) and u.w", "U | T | filter <1 {(#1 = 1#3)} :iitdby | project <2 {#0} :i | filter <0 {((#0 IN @3) AND #4)} :idtiby"},
	})
}

func TestInsertFaults(t *testing.T) {
	wantFaults(t, impl.ErrColumn, "insert into t (^z) values (1)", "insert into t (id, ^z, id) values (zz)", `insert into "k 1" values (^k)`, "insert into t (id) values (^t.id)", "insert into t (id) values (1), (^id)", "insert into t (id, a) values (1, ^zz), (1)",
		"insert into t (^z, id, id) select nope", `insert into t (^"ID") values (1)`, "insert into t (id) select ^zz, 1", "insert into t (id) values ((select ^zz, 1))", "insert into t (id, b) values (^zz, 1)")
	wantFaults(t, impl.ErrMany, "insert into t (id, ^id) values (1, 2)", "insert into t (id, a, b, ^a, id, z) select zz", `insert into "k 1" select ^k from "k 1", "k 1" as p`)
	wantFaults(t, impl.ErrWidth, "insert into t values ^(1)", "insert into t values ^(1, 2, 'x', 2.5, true, null, null)", "insert into t (id) values ^(zz, 1)", "insert into t (id) values (1), ^(1, 2), (zz)", "insert into t (id, a) values ^(default)", "insert into t ^select 1",
		"insert into t (id) ^select 1, 2", "insert into t (id) ^(select 'x', 2)", "insert into t (id) ^select * from t", "insert into t (id, b) values (1, 'x'), (2, default), ^(3)")
	wantFaults(t, impl.ErrType, "insert into t (id) values (^'x')", "insert into t (a) values (^1.5)", "insert into t (b) values (^1)", "insert into t (c) values (^'1')", "insert into t (d) values (^1)", "insert into t (e) values (^'2020-01-01')", "insert into t (b) values (^true)",
		"insert into t (id, b) values (1, 'x'), (1 + 1 ^= 2, zz)", "insert into t (id) values (^(select 'x'))", "insert into t (id) ^select 'x'", "insert into t (id, b) ^select 1, 2", "insert into t (a) ^select 1.5", "insert into t (c, b, a) ^select 1, null, date '2020-01-01'",
		"insert into t (id, a) values (^'x', zz)", "insert into t (id) values (^'x'), (1, 2)")
}

func TestInsertRowsBound(t *testing.T) {
	s := house(t)
	wantBoundOn(t, s, 1, `insert into "k 1" values `+listed(impl.MaxInsert, "(1)"))
	wantFaultsOn(t, s, impl.ErrBig, `insert into "k 1" values `+listed(impl.MaxInsert, "(1)")+", ^(1)", `insert into "k 1" values `+listed(impl.MaxInsert, "(default)")+", ^(zz, 1), (yy)")
	wantFaultsOn(t, s, impl.ErrColumn, `insert into "k 1" values `+listed(impl.MaxInsert-1, "(1)")+", (^zz), (1)")
	wantFaultsOn(t, s, impl.ErrWidth, `insert into "k 1" values `+listed(impl.MaxInsert-1, "(1)")+", ^(1, 1), (1)")
}

func TestUpdateFaults(t *testing.T) {
	wantFaults(t, impl.ErrColumn, "update t set ^z = 1", "update t set ^z = zz", "update t set a = ^zz", "update t set a = ^zz, a = 1", "update t set a = ^u.a", "update t set a = 1, ^z = 'x' where yy", "update t set a = 1 where ^zz", "update t set a = ^zz where yy", "update t set a = (select ^zz from t as x)",
		"update t set b = 'x', ^y = default")
	wantFaults(t, impl.ErrMany, "update t set a = 1, ^a = zz", "update t set a = 1, b = 'x', ^a = 2, z = 1", "update t set a = default, ^a = default where zz", "update t set a = (select ^a from t as x, t as y)")
	wantFaults(t, impl.ErrType, "update t set b = ^1", "update t set a = ^'x', z = 1", "update t set a = ^1.5", "update t set c = ^'x'", "update t set d = ^1", "update t set e = ^1", "update t set e = e ^- e", "update t set a = a ^> 1", "update t set a = ^d where zz", "update t set a = 1 where ^1")
	wantFaults(t, impl.ErrWidth, "update t set a = ^(select 1, 2)", "update t set a = ^abs()")
}

func TestDeleteFaults(t *testing.T) {
	wantFaults(t, impl.ErrColumn, "delete from t where ^zz", "delete from t where ^u.id = 1", "delete from t where exists (select ^zz)")
	wantFaults(t, impl.ErrType, "delete from t where ^b", "delete from t where ^1.5", "delete from t where b ^+ 1")
	wantFaults(t, impl.ErrTable, "delete from t where exists (select 1 from ^nope)")
}
