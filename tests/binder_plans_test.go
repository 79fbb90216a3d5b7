package tests

import (
	"fmt"
	"strings"
	"testing"

	"loop.example/g00001/impl"
)

// toldPlanNode tells all fields that are not zero: operation, <L, >R, the table, A, B, expressions, keys, aggregates, sorts, kinds.
func toldPlanNode(n impl.PNode) string {
	text := strings.Fields("? scan values filter project join group distinct sort limit union except")[n.Op]
	for _, field := range []struct {
		mark         string
		value, blank int
	}{{"<", n.L, -1}, {">", n.R, -1}, {"t", n.Table, 0}, {"a", n.A, 0}, {"b", n.B, 0}} {
		if field.value != field.blank {
			text += fmt.Sprintf(" %s%d", field.mark, field.value)
		}
	}
	for i, e := range n.Exprs {
		text += []string{" {", "; "}[min(i, 1)] + impl.ExprText(e)
	}
	if len(n.Exprs) > 0 {
		text += "}"
	}
	for _, key := range n.Keys {
		text += fmt.Sprintf(" k%d", key)
	}
	for _, agg := range n.Aggs {
		text += fmt.Sprintf(" %s(%d)%s", strings.Fields("? all count sum avg min max")[agg.Fn], agg.Col, marked(agg.Distinct, "d"))
	}
	for _, sort := range n.Sorts {
		text += fmt.Sprintf(" s%d%s%s", sort.Col, marked(sort.Desc, "d"), marked(sort.First, "f"))
	}
	text += " :"
	for _, kind := range n.Kinds {
		text += kindLetters[kind : kind+1]
	}
	return text
}

func marked(is bool, mark string) string {
	if is {
		return mark
	}
	return ""
}

// shortPlan tells a plan's nodes; T, U and K are scans of the tables of the house, V is the one row without columns.
func shortPlan(p impl.Plan) string {
	list := toldPlan(p)
	for i, node := range list {
		if short, there := map[string]string{"scan t1 :iitdby": "T", "scan t3 :idtiby": "U", "scan t4 :i": "K", "values a1 :": "V"}[node]; there {
			list[i] = short
		}
	}
	return strings.Join(list, " | ")
}

type planCase struct{ text, names, plan string }

func wantPlans(t *testing.T, cases []planCase) {
	t.Helper()
	s := house(t)
	for _, c := range cases {
		tree := parsed(t, c.text)
		p, names, code, pos := impl.Bind(s, tree)
		if code != impl.OK || pos != 0 || strings.Join(names, ",") != c.names || shortPlan(p) != c.plan {
			t.Errorf("%s: %d, %d, %s, %s; want %s, %s", c.text, code, pos, names, shortPlan(p), c.names, c.plan)
		}
		wantStatement(t, s, tree)
	}
}

func TestPlanOperations(t *testing.T) {
	wantPlans(t, []planCase{
		{"select a from t", "a", "T | project <0 {#1} :i"},
		{"select u.a from u", "a", "U | project <0 {#3} :i"},
		{"select 1", "column1", "V | project <0 {1} :i"},
		{"explain select a from t", "a", "T | project <0 {#1} :i"},
		{"select a from t where d", "a", "T | filter <0 {#4} :iitdby | project <1 {#1} :i"},
		{"select a from t where null", "a", "T | filter <0 {NULL} :iitdby | project <1 {#1} :i"},
		{"select distinct b, d from t", "b,d", "T | project <0 {#2; #4} :tb | distinct <1 :tb"},
		{"select a from t limit 0", "a", "T | project <0 {#1} :i | limit <1 :i"},
		{"select a from t offset 7", "a", "T | project <0 {#1} :i | limit <1 a-1 b7 :i"},
		{"select a from t limit 9223372036854775807 offset 0", "a", "T | project <0 {#1} :i | limit <1 a9223372036854775807 :i"},
		{"select a from t order by a limit 5 offset 6", "a", "T | project <0 {#1} :i | sort <1 s0 :i | limit <2 a5 b6 :i"},
		{"select a from t order by b limit 5 offset 6", "a", "T | project <0 {#1; #2} :it | sort <1 s1 :it | project <2 {#0} :i | limit <3 a5 b6 :i"},
		{"select distinct a from t order by 1 desc limit 2", "a", "T | project <0 {#1} :i | distinct <1 :i | sort <2 s0df :i | limit <3 a2 :i"},
		{"(select a from t order by b limit 1) order by a", "a", "T | project <0 {#1; #2} :it | sort <1 s1 :it | project <2 {#0} :i | limit <3 a1 :i | sort <4 s0 :i"},
		{"((select a from t)) limit 1", "a", "T | project <0 {#1} :i | limit <1 a1 :i"},
	})
}

func TestPlanJoins(t *testing.T) {
	wantPlans(t, []planCase{
		{"select * from t join u on t.id = u.id", "id,a,b,c,d,e,id,x,y,a,w,v", "T | U | join <0 >1 a1 {(#0 = #6)} :iitdbyidtiby | project <2 {#0; #1; #2; #3; #4; #5; #6; #7; #8; #9; #10; #11} :iitdbyidtiby"},
		{`select * from t left outer join "k 1" on id = k`, "id,a,b,c,d,e,k", "T | K | join <0 >1 a2 {(#0 = #6)} :iitdbyi | project <2 {#0; #1; #2; #3; #4; #5; #6} :iitdbyi"},
		{`select k from "k 1" cross join (select 1 as one) as d`, "k", "K | V | project <1 {1} :i | join <0 >2 a1 {TRUE} :ii | project <3 {#0} :i"},
		{`select 1 from "k 1" as x, "k 1" as y, "k 1" as z`, "column1", "K | K | join <0 >1 a1 {TRUE} :ii | K | join <2 >3 a1 {TRUE} :iii | project <4 {1} :i"},
		{`select x.k from "k 1" as x join "k 1" as y on x.k = y.k, "k 1" as z left join (select 2) q on null`, "k", "K | K | join <0 >1 a1 {(#0 = #1)} :ii | K | V | project <4 {2} :i | join <3 >5 a2 {NULL} :ii | join <2 >6 a1 {TRUE} :iiii | project <7 {#0} :i"},
		{`select 1 from "k 1" x left join "k 1" y on x.k = y.k join "k 1" z on x.k = z.k and y.k > 1`, "column1", "K | K | join <0 >1 a2 {(#0 = #1)} :ii | K | join <2 >3 a1 {((#0 = #2) AND (#1 > 1))} :iii | project <4 {1} :i"},
		{`select 1 from (select 1) a, (select k from "k 1") b`, "column1", "V | project <0 {1} :i | K | project <2 {#0} :i | join <1 >3 a1 {TRUE} :ii | project <4 {1} :i"},
	})
}

func TestPlanSetOperations(t *testing.T) {
	wantPlans(t, []planCase{
		{"select id from t union select a from u", "id", "T | project <0 {#0} :i | U | project <2 {#3} :i | union <1 >3 :i"},
		{"select id from t union all select x from u", "id", "T | project <0 {#0} :i | project <1 {CAST(#0 AS DECIMAL)} :d | U | project <3 {#1} :d | union <2 >4 a1 :d"},
		{"select x from u union select id from t", "x", "U | project <0 {#1} :d | T | project <2 {#0} :i | project <3 {CAST(#0 AS DECIMAL)} :d | union <1 >4 :d"},
		{"select null, 1 except select 'x', null", "column1,column2", "V | project <0 {NULL; 1} :ni | project <1 {CAST(#0 AS TEXT); #1} :ti | V | project <3 {'x'; NULL} :tn | project <4 {#0; CAST(#1 AS INT)} :ti | except <2 >5 :ti"},
		{"select id from t except all select a from u", "id", "T | project <0 {#0} :i | U | project <2 {#3} :i | except <1 >3 a1 :i"},
		{"select c from t except select null", "c", "T | project <0 {#3} :d | V | project <2 {NULL} :n | project <3 {CAST(#0 AS DECIMAL)} :d | except <1 >4 :d"},
		{"select 1 union select 2 union all select 3", "column1", "V | project <0 {1} :i | V | project <2 {2} :i | union <1 >3 :i | V | project <5 {3} :i | union <4 >6 a1 :i"},
		{"select 1 union (select 2.5 except select null)", "column1", "V | project <0 {1} :i | project <1 {CAST(#0 AS DECIMAL)} :d | V | project <3 {2.5} :d | V | project <5 {NULL} :n | project <6 {CAST(#0 AS DECIMAL)} :d | except <4 >7 :d | union <2 >8 :d"},
		{"(select 1 union select 2) order by 1", "column1", "V | project <0 {1} :i | V | project <2 {2} :i | union <1 >3 :i | sort <4 s0 :i"},
		{"select null union select null", "column1", "V | project <0 {NULL} :n | V | project <2 {NULL} :n | union <1 >3 :n"},
		{"select 1, 'a', null, 2.5, null union all select 2.5, null, true, 1, null", "column1,column2,column3,column4,column5", "V | project <0 {1; 'a'; NULL; 2.5; NULL} :itndn | project <1 {CAST(#0 AS DECIMAL); #1; CAST(#2 AS BOOLEAN); #3; #4} :dtbdn | V | project <3 {2.5; NULL; TRUE; 1; NULL} :dnbin | project <4 {#0; CAST(#1 AS TEXT); #2; CAST(#3 AS DECIMAL); #4} :dtbdn | union <2 >5 a1 :dtbdn"},
		{`(select a from t order by b) except (select k from "k 1" limit 1)`, "a", "T | project <0 {#1; #2} :it | sort <1 s1 :it | project <2 {#0} :i | K | project <4 {#0} :i | limit <5 a1 :i | except <3 >6 :i"},
	})
}

// A name means a column of the nearest level that has one; a derived table sees the levels around its SELECT.
func TestPlanLevels(t *testing.T) {
	wantPlans(t, []planCase{
		{"select (select b from t where t.id = u.id) from u", "column1", "U | T | filter <1 {(#0 = 1#0)} :iitdby | project <2 {#2} :t | project <0 {(@3)} :t"},
		{`select id from t where exists (select 1 from u where exists (select 1 from "k 1" where k = u.id and k = t.id and a = 3))`, "id", "T | U | K | filter <2 {(((#0 = 1#0) AND (#0 = 2#0)) AND (1#3 = 3))} :i | project <3 {1} :i | filter <1 {EXISTS(@4)} :idtiby | project <5 {1} :i | filter <0 {EXISTS(@6)} :iitdby | project <7 {#0} :i"},
		{`select a from t as x where x.a = (select max(x.k) from "k 1" as x where x.k = id)`, "a", "T | K | filter <1 {(#0 = 1#0)} :i | project <2 {#0} :i | group <3 max(0) :i | project <4 {#0} :i | filter <0 {(#1 = (@5))} :iitdby | project <6 {#1} :i"},
		{"select a from t where a = (select a from u where t.a = u.a)", "a", "T | U | filter <1 {(1#1 = #3)} :idtiby | project <2 {#3} :i | filter <0 {(#1 = (@3))} :iitdby | project <4 {#1} :i"},
		{"select a from t where (select b) = (select (select b))", "a", "T | V | project <1 {1#2} :t | V | V | project <4 {2#2} :t | project <3 {(@5)} :t | filter <0 {((@2) = (@6))} :iitdby | project <7 {#1} :i"},
		{"select id from (select id, a from t where d) as p where p.a = id", "id", "T | filter <0 {#4} :iitdby | project <1 {#0; #1} :ii | filter <2 {(#1 = #0)} :ii | project <3 {#0} :i"},
		{`select (select p.id from (select t.id from "k 1") as p) from t`, "column1", "T | K | project <1 {1#0} :i | project <2 {#0} :i | project <0 {(@3)} :i"},
		{`select (select p.k from (select k from "k 1" where k = t.id) as p join u on p.k = t.a and t.d) from t`, "column1", "T | K | filter <1 {(#0 = 1#0)} :i | project <2 {#0} :i | U | join <3 >4 a1 {((#0 = 1#1) AND 1#4)} :iidtiby | project <5 {#0} :i | project <0 {(@6)} :i"},
		{"select (select p.column1 from (select t.a + 1) as p) from t", "column1", "T | V | project <1 {(1#1 + 1)} :i | project <2 {#0} :i | project <0 {(@3)} :i"},
		{`select (select 1 from "k 1" as p join (select t.a as z) as q on p.k = q.z) from t`, "column1", "T | K | V | project <2 {1#1} :i | join <1 >3 a1 {(#0 = #1)} :ii | project <4 {1} :i | project <0 {(@5)} :i"},
		{"select t.a from u as t", "a", "U | project <0 {#3} :i"},
	})
}

// The plans that expressions name stand ahead of the node, in the order of the expressions and their nodes; one in the operand of a CASE stands there for each WHEN.
func TestPlanQueriesInExpressions(t *testing.T) {
	wantPlans(t, []planCase{
		{"select exists (select 1, 2 from u where a = t.a), id in (select x from u), id not in (select null), (select 'x') from t", "column1,column2,column3,column4", "T | U | filter <1 {(#3 = 1#1)} :idtiby | project <2 {1; 2} :ii | U | project <4 {#1} :d | V | project <6 {NULL} :n | V | project <8 {'x'} :t | project <0 {EXISTS(@3); (#0 IN @5); (#0 NOT IN @7); (@9)} :bbbt"},
		{`select 1 from t join u on t.id in (select k from "k 1" where k = x and k = t.a)`, "column1", "T | U | K | filter <2 {((#0 = 1#7) AND (#0 = 1#1))} :i | project <3 {#0} :i | join <0 >1 a1 {(#0 IN @4)} :iitdbyidtiby | project <5 {1} :i"},
		{`select id from t group by (select max(k) from "k 1" where k = t.id), id`, "id", "T | K | filter <1 {(#0 = 1#0)} :i | project <2 {#0} :i | group <3 max(0) :i | project <4 {#0} :i | project <0 {(@5); #0} :ii | group <6 k0 k1 :ii | project <7 {#1} :i"},
		{`select id from t order by (select k from "k 1" where k = a), exists (select 1)`, "id", "T | K | filter <1 {(#0 = 1#1)} :i | project <2 {#0} :i | V | project <4 {1} :i | project <0 {#0; (@3); EXISTS(@5)} :iib | sort <6 s1 s2 :iib | project <7 {#0} :i"},
		{`select sum((select k from "k 1" where k = a)) from t`, "column1", "T | K | filter <1 {(#0 = 1#1)} :i | project <2 {#0} :i | project <0 {(@3)} :i | group <4 sum(0) :i | project <5 {#0} :i"},
		{`select (select x from u), (select k from "k 1") in (select id from t), exists (select 1) from t where (select d from t) and exists (select 2)`, "column1,column2,column3", "T | T | project <1 {#4} :b | V | project <3 {2} :i | filter <0 {((@2) AND EXISTS(@4))} :iitdby | U | project <6 {#1} :d | K | project <8 {#0} :i | T | project <10 {#0} :i | V | project <12 {1} :i | project <5 {(@7); ((@9) IN @11); EXISTS(@13)} :dbb"},
		{`select case (select k from "k 1") when 1 then 'a' when (select 2) then 'b' end from t`, "column1", "T | K | project <1 {#0} :i | K | project <3 {#0} :i | V | project <5 {2} :i | project <0 {CASE WHEN ((@2) = 1) THEN 'a' WHEN ((@4) = (@6)) THEN 'b' END} :t"},
		{"select coalesce((select 1), (select 2.5)), (select 1) + (select 2) from t", "column1,column2", "T | V | project <1 {1} :i | V | project <3 {2.5} :d | V | project <5 {1} :i | V | project <7 {2} :i | project <0 {coalesce(CAST((@2) AS DECIMAL), (@4)); ((@6) + (@8))} :di"},
		{"select not exists (select 1), - (select 1), (select 1) is null, (select 1) between (select 2) and (select 3)", "column1,column2,column3,column4", "V | V | project <1 {1} :i | V | project <3 {1} :i | V | project <5 {1} :i | V | project <7 {1} :i | V | project <9 {2} :i | V | project <11 {3} :i | project <0 {(NOT EXISTS(@2)); (- (@4)); ((@6) IS NULL); ((@8) BETWEEN (@10) AND (@12))} :bibb"},
		{"select null in (select b from t), 1 in (select null), (1 + 1) not in (select c from t), (1 in (select 2)) in (select d from t)", "column1,column2,column3,column4", "V | T | project <1 {#2} :t | V | project <3 {NULL} :n | T | project <5 {#3} :d | V | project <7 {2} :i | T | project <9 {#4} :b | project <0 {(NULL IN @2); (1 IN @4); ((1 + 1) NOT IN @6); ((1 IN @8) IN @10)} :bbbb"},
	})
}

func TestPlanStarsAndNames(t *testing.T) {
	wantPlans(t, []planCase{
		{"select t.*, *, u.y from t, u", "id,a,b,c,d,e,id,a,b,c,d,e,id,x,y,a,w,v,y", "T | U | join <0 >1 a1 {TRUE} :iitdbyidtiby | project <2 {#0; #1; #2; #3; #4; #5; #0; #1; #2; #3; #4; #5; #6; #7; #8; #9; #10; #11; #8} :iitdbyiitdbyidtibyt"},
		{"select *, 1, t.* from t", "id,a,b,c,d,e,column7,id,a,b,c,d,e", "T | project <0 {#0; #1; #2; #3; #4; #5; 1; #0; #1; #2; #3; #4; #5} :iitdbyiiitdby"},
		{"select x.* from t as x, t", "id,a,b,c,d,e", "T | T | join <0 >1 a1 {TRUE} :iitdbyiitdby | project <2 {#0; #1; #2; #3; #4; #5} :iitdby"},
		{`select id as a, a as id, a, 1, 2 as two, num, "Odd", (id) from (select id, a, 1 as num, 2 as "Odd" from t) d`, "a,id,a,column4,two,num,Odd,id", "T | project <0 {#0; #1; 1; 2} :iiii | project <1 {#0; #1; #1; 1; 2; #2; #3; #0} :iiiiiiii"},
		{"select column1, column2 from (select 1, 2) as d order by column2", "column1,column2", "V | project <0 {1; 2} :ii | project <1 {#0; #1} :ii | sort <2 s1 :ii"},
		{"select d.* from (select count(*), a from t group by a) as d", "column1,a", "T | project <0 {#1} :i | group <1 k0 all(-1) :ii | project <2 {#1; #0} :ii | project <3 {#0; #1} :ii"},
		{`select t.a, 1 as "select" from t`, "a,select", "T | project <0 {#1; 1} :ii"},
	})
}

func TestPlanOrders(t *testing.T) {
	wantPlans(t, []planCase{
		{"select a, b as x from t order by x, a desc, 1 nulls first, 2 desc nulls last, id nulls last, t.b desc nulls first", "a,x", "T | project <0 {#1; #2; #0; #2} :itit | sort <1 s1 s0df s0f s1d s2 s3df :itit | project <2 {#0; #1} :it"},
		{"select a as id from t order by id, t.id", "id", "T | project <0 {#1; #0} :ii | sort <1 s0 s1 :ii | project <2 {#0} :i"},
		{"select a from t order by -1, 2.5, 'x', null", "a", "T | project <0 {#1; (- 1); 2.5; 'x'; NULL} :iidtn | sort <1 s1 s2 s3 s4 :iidtn | project <2 {#0} :i"},
		{"select a from t order by a nulls first, a nulls last, a desc nulls first, a desc nulls last, a, a desc", "a", "T | project <0 {#1} :i | sort <1 s0f s0 s0df s0d s0 s0df :i"},
		{"select a from t order by a + 0, a + 0", "a", "T | project <0 {#1; (#1 + 0); (#1 + 0)} :iii | sort <1 s1 s2 :iii | project <2 {#0} :i"},
		{"select 1 as a union select 2 order by a desc, 1", "a", "V | project <0 {1} :i | V | project <2 {2} :i | union <1 >3 :i | sort <4 s0df s0 :i"},
		{"select distinct a as z, b from t order by z, 2", "z,b", "T | project <0 {#1; #2} :it | distinct <1 :it | sort <2 s0 s1 :it"},
		{"select a from t order by b, 1, c", "a", "T | project <0 {#1; #2; #3} :itd | sort <1 s1 s0 s2 :itd | project <2 {#0} :i"},
		{"select 1 + 1 order by column1", "column1", "V | project <0 {(1 + 1)} :i | sort <1 s0 :i"},
	})
}
