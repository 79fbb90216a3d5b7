package tests

import "testing"

func TestPlanGroups(t *testing.T) {
	wantPlans(t, []planCase{
		{"select count(*) from t", "column1", "T | project <0 : | group <1 all(-1) :i | project <2 {#0} :i"},
		{"select a, sum(c), avg(distinct a), min(b), max(e), count(d), count(distinct null), count(*), sum(a) from t group by a, b", "a,column2,column3,column4,column5,column6,column7,column8,column9", "T | project <0 {#1; #2; #3; #1; #2; #5; #4; NULL; #1} :itditybni | group <1 k0 k1 sum(2) avg(3)d min(4) max(5) count(6) count(7)d all(-1) sum(8) :itddtyiiii | project <2 {#0; #2; #3; #4; #5; #6; #7; #8; #9} :iddtyiiii"},
		{"select a from t group by a", "a", "T | project <0 {#1} :i | group <1 k0 :i | project <2 {#0} :i"},
		{"select t.a from t group by a", "a", "T | project <0 {#1} :i | group <1 k0 :i | project <2 {#0} :i"},
		{"select 1 from t group by a", "column1", "T | project <0 {#1} :i | group <1 k0 :i | project <2 {1} :i"},
		{"select 1 from t having count(*) > 1", "column1", "T | project <0 : | group <1 all(-1) :i | filter <2 {(#0 > 1)} :i | project <3 {1} :i"},
		{"select 1 from t having null", "column1", "T | project <0 : | group <1 : | filter <2 {NULL} : | project <3 {1} :i"},
		{"select 1 having true", "column1", "V | project <0 : | group <1 : | filter <2 {TRUE} : | project <3 {1} :i"},
		{"select sum(1)", "column1", "V | project <0 {1} :i | group <1 sum(0) :i | project <2 {#0} :i"},
		{"select 1 from t order by count(*)", "column1", "T | project <0 : | group <1 all(-1) :i | project <2 {1; #0} :ii | sort <3 s1 :ii | project <4 {#0} :i"},
		{"select distinct count(*) from t group by a", "column1", "T | project <0 {#1} :i | group <1 k0 all(-1) :ii | project <2 {#1} :i | distinct <3 :i"},
		{"select min(d), max(null + 1), sum(null + 1.5), count(null), min(e), max(b), avg(c), sum(distinct a), count(distinct a) from t", "column1,column2,column3,column4,column5,column6,column7,column8,column9", "T | project <0 {#4; (NULL + 1); (NULL + 1.5); NULL; #5; #2; #3; #1; #1} :bidnytdii | group <1 min(0) max(1) sum(2) count(3) min(4) max(5) avg(6) sum(7)d count(8)d :bidiytdii | project <2 {#0; #1; #2; #3; #4; #5; #6; #7; #8} :bidiytdii"},
		{"select a from t group by a order by count(*), a + 1, a", "a", "T | project <0 {#1} :i | group <1 k0 all(-1) :ii | project <2 {#0; #1; (#0 + 1)} :iii | sort <3 s1 s2 s0 :iii | project <4 {#0} :i"},
		{"select x from (select 1 as x) d group by x, x + 1 having x + 1 = 2", "x", "V | project <0 {1} :i | project <1 {#0; (#0 + 1)} :ii | group <2 k0 k1 :ii | filter <3 {(#1 = 2)} :ii | project <4 {#0} :i"},
		{"select t.a, u.a from t, u group by t.a, u.a", "a,a", "T | U | join <0 >1 a1 {TRUE} :iitdbyidtiby | project <2 {#1; #9} :ii | group <3 k0 k1 :ii | project <4 {#0; #1} :ii"},
	})
}

func TestPlanNodesLikeKeys(t *testing.T) {
	wantPlans(t, []planCase{
		{"select a + 1 from t group by a + 1", "column1", "T | project <0 {(#1 + 1)} :i | group <1 k0 :i | project <2 {#0} :i"},
		{"select a + 1 + 1, (a + 1) * 2 from t group by a + 1", "column1,column2", "T | project <0 {(#1 + 1)} :i | group <1 k0 :i | project <2 {(#0 + 1); (#0 * 2)} :ii"},
		{"select a, b from t group by b, a, b", "a,b", "T | project <0 {#2; #1; #2} :tit | group <1 k0 k1 k2 :tit | project <2 {#1; #0} :it"},
		{"select a + 1, a + 1 from t group by a, a + 1", "column1,column2", "T | project <0 {#1; (#1 + 1)} :ii | group <1 k0 k1 :ii | project <2 {#1; #1} :ii"},
		{"select 1 + a from t group by a, 1", "column1", "T | project <0 {#1; 1} :ii | group <1 k0 k1 :ii | project <2 {(#1 + #0)} :i"},
		{"select null, 2 from t group by null", "column1,column2", "T | project <0 {NULL} :n | group <1 k0 :n | project <2 {#0; 2} :ni"},
		{"select b from t group by b, t.a having t.a = 1", "b", "T | project <0 {#2; #1} :ti | group <1 k0 k1 :ti | filter <2 {(#1 = 1)} :ti | project <3 {#0} :t"},
		{"select case a when 1 then 2 when 3 then 4 end, case count(*) when 1 then 2 when 3 then 4 end from t group by a", "column1,column2", "T | project <0 {#1} :i | group <1 k0 all(-1) :ii | project <2 {CASE WHEN (#0 = 1) THEN 2 WHEN (#0 = 3) THEN 4 END; CASE WHEN (#1 = 1) THEN 2 WHEN (#1 = 3) THEN 4 END} :ii"},
		{"select case a when 1 then 2 end, case when a = 1 then 2 end from t group by case a when 1 then 2 end", "column1,column2", "T | project <0 {CASE WHEN (#1 = 1) THEN 2 END} :i | group <1 k0 :i | project <2 {#0; #0} :ii"},
		{"select a is distinct from 1, not a is not distinct from 1, a is not distinct from 1 from t group by not a is not distinct from 1, a", "column1,column2,column3", "T | project <0 {(NOT (#1 IS 1)); #1} :bi | group <1 k0 k1 :bi | project <2 {#0; #0; (#1 IS 1)} :bbb"},
		{"select coalesce(a, 2.5) from t group by coalesce(a, 2.5)", "column1", "T | project <0 {coalesce(CAST(#1 AS DECIMAL), 2.5)} :d | group <1 k0 :d | project <2 {#0} :d"},
		{"select upper(b) || 'x', length(upper(b)) from t group by upper(b)", "column1,column2", "T | project <0 {upper(#2)} :t | group <1 k0 :t | project <2 {(#0 || 'x'); length(#0)} :ti"},
		{"select sum(a + 1), a + 1 from t group by a + 1", "column1,column2", "T | project <0 {(#1 + 1); (#1 + 1)} :ii | group <1 k0 sum(1) :ii | project <2 {#1; #0} :ii"},
	})
}

// What has a query in it is like no key.
func TestPlanQueriesAreLikeNoKey(t *testing.T) {
	wantPlans(t, []planCase{
		{"select (select 1) from t group by (select 1)", "column1", "T | V | project <1 {1} :i | project <0 {(@2)} :i | group <3 k0 :i | V | project <5 {1} :i | project <4 {(@6)} :i"},
		{"select a in (select 1), exists (select 1) from t group by a in (select 1), exists (select 1), a", "column1,column2",
			"T | V | project <1 {1} :i | V | project <3 {1} :i | project <0 {(#1 IN @2); EXISTS(@4); #1} :bbi | group <5 k0 k1 k2 :bbi | V | project <7 {1} :i | V | project <9 {1} :i | project <6 {(#2 IN @8); EXISTS(@10)} :bb"},
	})
}

// HAVING is bound first, then the items, then the keys of the order.
func TestPlanOrderOfAggregates(t *testing.T) {
	wantPlans(t, []planCase{
		{"select sum(a), a from t group by a having sum(c) > min(c) and a > 1 order by max(a), sum(a)", "column1,a", "T | project <0 {#1; #3; #3; #1; #1; #1} :iddiii | group <1 k0 sum(1) min(2) sum(3) max(4) sum(5) :iddiii | filter <2 {((#1 > #2) AND (#0 > 1))} :iddiii | project <3 {#3; #0; #4; #5} :iiii | sort <4 s2 s3 :iiii | project <5 {#0; #1} :ii"},
		{"select count(*), count(*), max(a) + min(a), case when max(b) = 'x' then min(b) else max(b) end from t order by 1, avg(a)", "column1,column2,column3,column4", "T | project <0 {#1; #1; #2; #2; #2; #1} :iittti | group <1 all(-1) all(-1) max(0) min(1) max(2) min(3) max(4) avg(5) :iiiitttd | project <2 {#0; #1; (#2 + #3); CASE WHEN (#4 = 'x') THEN #5 ELSE #6 END; #7} :iiitd | sort <3 s0 s4 :iiitd | project <4 {#0; #1; #2; #3} :iiit"},
		{"select coalesce(max(a), min(a)) from t having sum(a) between min(c) and max(c)", "column1", "T | project <0 {#1; #3; #3; #1; #1} :iddii | group <1 sum(0) min(1) max(2) max(3) min(4) :iddii | filter <2 {(#0 BETWEEN #1 AND #2)} :iddii | project <3 {coalesce(#3, #4)} :i"},
	})
}

// What a query in a group sees of its rows are the columns that are keys; an aggregate is that of the SELECT in which it stands.
func TestPlanQueriesInGroups(t *testing.T) {
	wantPlans(t, []planCase{
		{`select (select k + a from "k 1" where k = t.a) from t group by a`, "column1", "T | project <0 {#1} :i | group <1 k0 :i | K | filter <3 {(#0 = 1#0)} :i | project <4 {(#0 + 1#0)} :i | project <2 {(@5)} :i"},
		{`select (select sum(k + a) from "k 1" group by k, t.a having k = t.a) from t group by a`, "column1", "T | project <0 {#1} :i | group <1 k0 :i | K | project <3 {#0; 1#0; (#0 + 1#0)} :iii | group <4 k0 k1 sum(2) :iii | filter <5 {(#0 = #1)} :iii | project <6 {#2} :i | project <2 {(@7)} :i"},
		{`select sum(a) in (select k from "k 1" where k = t.a) from t group by t.a`, "column1", "T | project <0 {#1; #1} :ii | group <1 k0 sum(1) :ii | K | filter <3 {(#0 = 1#0)} :i | project <4 {#0} :i | project <2 {(#1 IN @5)} :b"},
		{`select (select count(*) from "k 1") from t`, "column1", "T | K | project <1 : | group <2 all(-1) :i | project <3 {#0} :i | project <0 {(@4)} :i"},
		{`select count(*), (select count(*) from "k 1") from t`, "column1,column2", "T | project <0 : | group <1 all(-1) :i | K | project <3 : | group <4 all(-1) :i | project <5 {#0} :i | project <2 {#0; (@6)} :ii"},
		{"select id from t where id in (select count(*) from u where u.a = t.a)", "id", "T | U | filter <1 {(#3 = 1#1)} :idtiby | project <2 : | group <3 all(-1) :i | project <4 {#0} :i | filter <0 {(#0 IN @5)} :iitdby | project <6 {#0} :i"},
		{`select (select a from "k 1" where exists (select 1 from u where u.a = t.a)) from t group by a`, "column1", "T | project <0 {#1} :i | group <1 k0 :i | K | U | filter <4 {(#3 = 2#0)} :idtiby | project <5 {1} :i | filter <3 {EXISTS(@6)} :i | project <7 {1#0} :i | project <2 {(@8)} :i"},
		{"select (select b from u where u.id = t.a) from t group by c, a, b, a having exists (select t.b, t.c)", "column1", "T | project <0 {#3; #1; #2; #1} :diti | group <1 k0 k1 k2 k3 :diti | V | project <3 {1#2; 1#0} :td | filter <2 {EXISTS(@4)} :diti | U | filter <6 {(#0 = 1#1)} :idtiby | project <7 {1#2} :t | project <5 {(@8)} :t"},
		{`select max((select k from "k 1" where k = t.id)), (select max(a) from "k 1") from t group by a`, "column1,column2", "T | K | filter <1 {(#0 = 1#0)} :i | project <2 {#0} :i | project <0 {#1; (@3)} :ii | group <4 k0 max(1) :ii | K | project <6 {1#0} :i | group <7 max(0) :i | project <8 {#0} :i | project <5 {#1; (@9)} :ii"},
		{`select (select (select max(b)) from "k 1" group by k) from t group by b`, "column1", "T | project <0 {#2} :t | group <1 k0 :t | K | project <3 {#0} :i | group <4 k0 :i | V | project <6 {2#0} :t | group <7 max(0) :t | project <8 {#0} :t | project <5 {(@9)} :t | project <2 {(@10)} :t"},
		{`select 1 from t group by a order by (select a), (select count(*) from "k 1" where k = a)`, "column1", "T | project <0 {#1} :i | group <1 k0 :i | V | project <3 {1#0} :i | K | filter <5 {(#0 = 1#0)} :i | project <6 : | group <7 all(-1) :i | project <8 {#0} :i | project <2 {1; (@4); (@9)} :iii | sort <10 s1 s2 :iii | project <11 {#0} :i"},
		{`select (select max(p.k) from "k 1" as p join "k 1" as q on p.k = a) from t group by a`, "column1", "T | project <0 {#1} :i | group <1 k0 :i | K | K | join <3 >4 a1 {(#0 = 1#0)} :ii | project <5 {#0} :i | group <6 max(0) :i | project <7 {#0} :i | project <2 {(@8)} :i"},
	})
}
