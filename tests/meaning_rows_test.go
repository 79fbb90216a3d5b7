package tests

import (
	"strings"
	"testing"

	"loop.example/g00001/impl"
)

// filled is the state behind some INSERTs, UPDATEs and DELETEs.
func filled(t *testing.T, s impl.Schema, st impl.State, texts ...string) impl.State {
	t.Helper()
	for _, text := range texts {
		change, code, pos := impl.BindChange(s, parsed(t, text))
		if code != impl.OK {
			t.Fatalf("%s: %d, %d", text, code, pos)
		}
		rows, code := impl.Meaning(s, st, change.Plan)
		next, applied := impl.ApplyRows(s, st, change.Kind, change.Table, rows)
		if code != impl.OK || applied != impl.OK {
			t.Fatalf("%s: %d, %d", text, code, applied)
		}
		st = next
	}
	return st
}

// villa is the house with something in it; "k 1" is empty.
func villa(t *testing.T) (impl.Schema, impl.State) {
	t.Helper()
	s := house(t)
	return s, filled(t, s, emptyState(s),
		"insert into t values (1, 10, 'x', 1.5, true, date '1970-01-01'), (2, null, 'y', null, false, date '1970-01-02'), (3, 10, null, 2.5, null, null), (4, 20, 'x', 1.5, true, null)",
		"insert into u values (1, 1.5, 'q', 10, true, null), (1, 2.5, 'r', 10, false, null), (null, 0.5, 'q', null, null, null), (9, null, 's', 20, true, null)")
}

// toldRows tells values with commas between, and a semicolon behind each row.
func toldRows(rows [][]impl.Value) string {
	var text strings.Builder
	for _, row := range rows {
		var list []string
		for _, v := range row {
			list = append(list, impl.Plain(v))
		}
		text.WriteString(strings.Join(list, ",") + ";")
	}
	return text.String()
}

// answerCase is a query of the villa, its rows, its code, and its work.
type answerCase struct {
	text, rows string
	code, work int
}

func wantAnswers(t *testing.T, cases []answerCase) {
	t.Helper()
	s, st := villa(t)
	for _, c := range cases {
		p, _, code, pos := impl.Bind(s, parsed(t, c.text))
		if code != impl.OK {
			t.Errorf("%s: %d, %d", c.text, code, pos)
			continue
		}
		rows, code := impl.Meaning(s, st, p)
		if toldRows(rows) != c.rows || code != c.code {
			t.Errorf("%s: %s, %d; want %s, %d", c.text, toldRows(rows), code, c.rows, c.code)
		}
		wantMeaning(t, s, st, p)
		wantWork(t, s, st, p, c.code, c.work)
	}
}

// filler is a plan without columns that gives no row, of just so much work.
func filler(work int) *shrub {
	made := &shrub{PNode: impl.PNode{Op: impl.PValues}}
	for rest := work - 1; rest > 0; {
		if rest < 4 {
			made = sameRows(made, impl.PNode{Op: impl.PDistinct})
			rest--
			continue
		}
		// A join of so many rows without columns that are no pairs, and the union with it.
		left, right := min(100, (rest-3)/101-1), 100
		if left < 0 {
			left, right = 0, rest-4
		}
		join := &shrub{PNode: impl.PNode{Op: impl.PJoin, A: impl.JoinInner}, l: blankRows(left), r: blankRows(right), exprs: []*branch{constOf(boolv(false))}}
		made = &shrub{PNode: impl.PNode{Op: impl.PUnion, A: 1}, l: made, r: join}
		rest -= (left+1)*(right+1) + 3
	}
	return made
}

func blankRows(count int) *shrub { return &shrub{PNode: impl.PNode{Op: impl.PValues, A: count}} }

// behindFiller is the union of a filler with a plan of which no row and no column is taken: its work is 3 more than that of both.
func behindFiller(work int, p impl.Plan) impl.Plan {
	var behind impl.Plan
	for _, n := range physBehindFiller(work, nodeByNode(p)).Nodes {
		behind.Nodes = append(behind.Nodes, asPlan(n, ofOperation(n.Op)))
	}
	return behind
}

// wantWork asks how much work a plan is that ends with a code: just so much is left for it of MaxWork, and then one less.
func wantWork(t *testing.T, s impl.Schema, st impl.State, p impl.Plan, code, work int) {
	t.Helper()
	ahead := impl.MaxWork - 3 - work
	for extra, want := range []int{code, impl.ErrFuel} {
		if rows, got := impl.Meaning(s, st, behindFiller(ahead+extra, p)); got != want || len(rows) > 0 {
			t.Errorf("%q with a work of %d ahead: %d; want %d", toldPlan(p), ahead+extra, got, want)
		}
	}
	wantPhysWork(t, s, st, nodeByNode(p), code, work)
}

func TestMeaningJoins(t *testing.T) {
	wantAnswers(t, []answerCase{
		{"select t.id, u.x from t join u on t.a = u.a", "1,1.5;1,2.5;3,1.5;3,2.5;4,NULL;", impl.OK, 38},
		{"select t.id, u.x from t left join u on t.a = u.a", "1,1.5;1,2.5;2,NULL;3,1.5;3,2.5;4,NULL;", impl.OK, 40},
		{"select t.id, u.y from t left join u on t.id = u.id and u.w", "1,q;2,NULL;3,NULL;4,NULL;", impl.OK, 36},
		{`select t.id, k from t left join "k 1" on true`, "1,NULL;2,NULL;3,NULL;4,NULL;", impl.OK, 16},
		{`select t.id, k from t join "k 1" on true`, "", impl.OK, 8},
		{`select k, id from "k 1" left join t on true`, "", impl.OK, 8},
		{"select t.id, u.id from t join u on null", "", impl.OK, 28},
		{"select t.id, u.id from t left join u on null", "1,NULL;2,NULL;3,NULL;4,NULL;", impl.OK, 36},
		{"select t.id, v.id from t join t as v on t.a = v.a", "1,1;1,3;3,1;3,3;4,4;", impl.OK, 38},
		{"select count(*) from t, u", "16;", impl.OK, 64},
		{"select a.id, b.id, c.id from t as a left join t as b on b.a = a.id left join u as c on c.id = b.id where a.id < 3", "1,NULL,NULL;2,NULL,NULL;", impl.OK, 63},
	})
}

func TestMeaningRows(t *testing.T) {
	wantAnswers(t, []answerCase{
		{"select * from t", "1,10,x,1.5,true,1970-01-01;2,NULL,y,NULL,false,1970-01-02;3,10,NULL,2.5,NULL,NULL;4,20,x,1.5,true,NULL;", impl.OK, 10},
		{"select id from u", "1;1;NULL;9;", impl.OK, 10},
		{`select k from "k 1"`, "", impl.OK, 2},
		{"select 1, 'a', null", "1,a,NULL;", impl.OK, 4},
		{"select id from t where a = 10", "1;3;", impl.OK, 11},
		{"select id from t where a <> 10", "4;", impl.OK, 9},
		{"select id from t where null", "", impl.OK, 7},
		{"select id from t where d", "1;4;", impl.OK, 11},
		{"select id from t where not d", "2;", impl.OK, 9},
		{"select id from t where d is null", "3;", impl.OK, 9},
		{"select id, a + 1, b || b from t", "1,11,xx;2,NULL,yy;3,11,NULL;4,21,xx;", impl.OK, 10},
	})
}

func TestMeaningGroups(t *testing.T) {
	wantAnswers(t, []answerCase{
		{"select a, count(*), count(a), count(b), count(distinct b), count(distinct a) from t group by a", "10,2,2,1,1,1;NULL,1,0,1,1,0;20,1,1,1,1,1;", impl.OK, 18},
		{"select b, sum(a), avg(a), min(a), max(a), sum(distinct a), avg(distinct a) from t group by b", "x,30,15,10,20,30,15;y,NULL,NULL,NULL,NULL,NULL,NULL;NULL,10,10,10,10,10,10;", impl.OK, 18},
		{"select d, sum(c), avg(c), min(c), max(c), sum(distinct c), avg(distinct c) from t group by d", "true,3,1.5,1.5,1.5,1.5,1.5;false,NULL,NULL,NULL,NULL,NULL,NULL;NULL,2.5,2.5,2.5,2.5,2.5,2.5;", impl.OK, 18},
		{"select min(b), max(b), min(d), max(d), min(e), max(e), count(e) from t", "x,y,false,true,1970-01-01,1970-01-02,2;", impl.OK, 14},
		{"select count(*), count(a), sum(a), avg(a), min(a), max(a) from t where false", "0,0,NULL,NULL,NULL,NULL;", impl.OK, 11},
		{"select count(*) from t where false group by a", "", impl.OK, 9},
		{"select 1 from t where false having true", "1;", impl.OK, 13},
		{`select count(*), sum(k), min(k) from "k 1"`, "0,NULL,NULL;", impl.OK, 6},
		{"select 7 from t group by a", "7;7;7;", impl.OK, 18},
		{"select a from t group by a having count(*) > 1", "10;", impl.OK, 18},
		{"select a, b, count(*) from t group by b, a", "10,x,1;NULL,y,1;10,NULL,1;20,x,1;", impl.OK, 20},
		{"select a + 0 from t group by a + 0, d order by 1", "10;10;20;NULL;", impl.OK, 25},
		{"select count(distinct x), count(distinct y) from u", "3,3;", impl.OK, 14},
		{"select a is null, count(*) from t group by a is null", "false,3;true,1;", impl.OK, 16},
		{"select max(distinct a), min(distinct a), count(distinct d) from t", "20,10,2;", impl.OK, 14},
	})
}

func TestMeaningDoubles(t *testing.T) {
	wantAnswers(t, []answerCase{
		{"select distinct a from t", "10;NULL;20;", impl.OK, 14},
		{"select distinct a, b from t", "10,x;NULL,y;10,NULL;20,x;", impl.OK, 15},
		{"select distinct b, c from t", "x,1.5;y,NULL;NULL,2.5;", impl.OK, 14},
		{"select distinct null from t", "NULL;", impl.OK, 12},
		{`select distinct k from "k 1"`, "", impl.OK, 3},
		{"select a from t union all select a from u", "10;NULL;10;20;10;10;NULL;20;", impl.OK, 29},
		{"select a from t union select a from u", "10;NULL;20;", impl.OK, 24},
		{"select null union select a from t", "NULL;10;20;", impl.OK, 20},
		{"select a from t except select a from u where a = 10", "NULL;20;", impl.OK, 24},
		{"select a from t except all select a from u where a = 10", "NULL;20;", impl.OK, 24},
		{"select a from u except all select a from t", "", impl.OK, 21},
		{"select a from u except select a from t", "", impl.OK, 21},
		{"select a from t except select null", "10;20;", impl.OK, 19},
		{"select a from t except all select null", "10;10;20;", impl.OK, 20},
		{`select k from "k 1" union select a from t`, "10;NULL;20;", impl.OK, 16},
		{`select a from t except all select k from "k 1"`, "10;NULL;10;20;", impl.OK, 17},
		{`select k from "k 1" except all select a from t`, "", impl.OK, 13},
		{"select x from u except select id from t", "1.5;2.5;0.5;NULL;", impl.OK, 30},
		{"select b from t union select y from u", "x;y;NULL;q;r;s;", impl.OK, 27},
		{"(select a from t union all select a from t) except all select a from t", "10;NULL;10;20;", impl.OK, 44},
		{"select a from t except all (select a from t union all select a from t)", "", impl.OK, 40},
		{"select a from t except all select 10", "NULL;10;20;", impl.OK, 18},
		{"select a from t except select 10", "NULL;20;", impl.OK, 17},
	})
}

func TestMeaningOrders(t *testing.T) {
	wantAnswers(t, []answerCase{
		{"select id from t order by a", "1;3;4;2;", impl.OK, 20},
		{"select id from t order by a desc", "2;4;1;3;", impl.OK, 20},
		{"select id from t order by a nulls first", "2;1;3;4;", impl.OK, 20},
		{"select id from t order by a desc nulls last", "4;1;3;2;", impl.OK, 20},
		{"select id from t order by a desc nulls first", "2;4;1;3;", impl.OK, 20},
		{"select id from t order by b desc, id desc", "3;2;4;1;", impl.OK, 20},
		{"select id from t order by c, d, id", "1;4;3;2;", impl.OK, 20},
		{"select id from t order by d desc nulls last, a desc nulls last", "4;1;2;3;", impl.OK, 20},
		{"select id from t order by null", "1;2;3;4;", impl.OK, 20},
		{"select id, b from t order by b", "1,x;4,x;2,y;3,NULL;", impl.OK, 15},
		{"select x from u order by 1", "0.5;1.5;2.5;NULL;", impl.OK, 15},
		{"select y from u order by y desc", "s;r;q;q;", impl.OK, 15},
		{"select v, id from u order by v, id nulls first", "NULL,NULL;NULL,1;NULL,1;NULL,9;", impl.OK, 15},
		{"select id from t limit 2", "1;2;", impl.OK, 13},
		{"select id from t limit 0", "", impl.OK, 11},
		{"select id from t offset 3", "4;", impl.OK, 12},
		{"select id from t limit 2 offset 1", "2;3;", impl.OK, 13},
		{"select id from t limit 9 offset 4", "", impl.OK, 11},
		{"select id from t limit 9223372036854775807 offset 9223372036854775807", "", impl.OK, 11},
		{"select id from t order by id desc limit 1", "4;", impl.OK, 17},
		{`select k from "k 1" order by k limit 1`, "", impl.OK, 4},
	})
}

func TestMeaningPlansInExpressions(t *testing.T) {
	wantAnswers(t, []answerCase{
		{"select id, exists (select 1 from u where u.a = t.a) from t", "1,true;2,false;3,true;4,true;", impl.OK, 48},
		{"select id from t where exists (select 1 from u where u.id = t.id)", "1;", impl.OK, 41},
		{"select id from t where not exists (select 1 from u where u.id = t.id)", "2;3;4;", impl.OK, 45},
		{"select id, (select count(*) from u where u.a = t.a) from t", "1,2;2,0;3,2;4,1;", impl.OK, 64},
		{"select id, (select x from u where u.id = t.id and u.w) from t", "1,1.5;2,NULL;3,NULL;4,NULL;", impl.OK, 40},
		{`select (select k from "k 1")`, "NULL;", impl.OK, 6},
		{"select id, a in (select a from u) from t", "1,true;2,NULL;3,true;4,true;", impl.OK, 50},
		{"select id, a not in (select a from u) from t", "1,false;2,NULL;3,false;4,false;", impl.OK, 50},
		{"select id, id in (select id from u where id is not null) from t", "1,true;2,false;3,false;4,false;", impl.OK, 62},
		{"select id, id not in (select id from u where id is not null) from t", "1,false;2,true;3,true;4,true;", impl.OK, 62},
		{`select id, a in (select k from "k 1"), a not in (select k from "k 1") from t`, "1,false,true;2,false,true;3,false,true;4,false,true;", impl.OK, 26},
		{`select null in (select 1), null in (select k from "k 1"), 1 in (select null), 1 not in (select null)`, "NULL,false,NULL,NULL;", impl.OK, 18},
		{"select 1 in (select 1.0), 1.5 in (select id from t), 2 in (select c * 2 - 1 from t where c is not null)", "true,false,true;", impl.OK, 31},
		{"select id from t where (select max(x) from u where u.a = t.a and exists (select 1 from t as v where v.id = u.id and v.a = t.a)) > 1", "1;3;", impl.OK, 155},
		{"select (select t.id + u.id + p.n from (select 5 as n) as p) from t, u where t.id = 1", "7;7;NULL;15;", impl.OK, 77},
		{"select 1 from t where a in (select a from u where t.id = u.id and t.d)", "1;", impl.OK, 41},
		{`select exists (select 1 from t where false), exists (select k from "k 1"), exists (select null)`, "false,false,true;", impl.OK, 17},
		{"select false and 1 / 0 = 1, true or exists (select 1 / 0), coalesce(1, (select id from t)), case when true then 1 else (select id from t) end", "false,true,1,1;", impl.OK, 4},
	})
}

// TestMeaningFailures asks for the work of what fails, too: a node that fails gives no rows, so that those of the others are no work.
func TestMeaningFailures(t *testing.T) {
	wantAnswers(t, []answerCase{
		{"select 1 / (id - 2) from t", "", impl.ErrZero, 6},
		{"select id from t where 1 / (id - 2) > 0", "", impl.ErrZero, 7},
		{"select cast(b as int) from t", "", impl.ErrCast, 6},
		{"select 1 / (id - 2), cast(b as int) from t", "", impl.ErrZero, 6},
		{"select cast(b as int), 1 / (id - 2) from t", "", impl.ErrCast, 6},
		{"select case id when 1 then cast('x' as int) when 2 then 1 / 0 when 3 then 9223372036854775807 + id else (select id from t) end from t", "", impl.ErrOverflow, 16},
		{"select case id when 1 then (select id from t) when 2 then cast('x' as int) else 1 end from t", "", impl.ErrCast, 16},
		{"select (select id from t)", "", impl.ErrRows, 13},
		{"select 1 from t join u on 1 / (t.id - 2) > 0", "", impl.ErrZero, 28},
		{"select 1 from t left join u on 1 / (t.id - 2) > 0", "", impl.ErrZero, 28},
		{"select 1 from (select cast(b as int) as z from t) as p join (select 1 / 0 as y) as q on true", "", impl.ErrCast, 8},
		{"select 1 from t join (select 1 / 0 as y) as q on cast(b as int) = 1", "", impl.ErrZero, 10},
		{"select 1 from (select 1 as x) as p join (select cast('x' as int) as y) as q on 1 / 0 = 1", "", impl.ErrCast, 9},
		{"select 1 / 0 from (select cast(b as int) as z from t) as p", "", impl.ErrCast, 7},
		{"select 1 / 0 from t where false", "", impl.OK, 7},
		{"select cast(b as int) from t union select 1 / 0", "", impl.ErrCast, 7},
		{"select id from t union all select cast(b as int) from t", "", impl.ErrCast, 17},
		{"select cast(b as int) from t except select 1 / 0", "", impl.ErrCast, 7},
		{"select id from t except select 1 / 0", "", impl.ErrZero, 14},
		{"select id in (select cast(b as int) from t) from t", "", impl.ErrCast, 30},
		{"select 1 / 0 in (select id from t)", "", impl.ErrZero, 3},
		{"select exists (select 1 / 0 from t)", "", impl.ErrZero, 9},
		{"select exists (select 1 / 0 from t where false)", "false;", impl.OK, 11},
		{"select (select 1 / 0)", "", impl.ErrZero, 6},
		{"select 1 from t where false and (select id from t) = 1", "", impl.OK, 7},
		{"select 1 from t order by 1 / 0", "", impl.ErrZero, 8},
		{"select 1 / 0 from t limit 0", "", impl.ErrZero, 7},
		{"select distinct 1 / (id - 4) from t", "", impl.ErrZero, 7},
		{"select max(1 / 0) from t where false", "NULL;", impl.OK, 11},
		{"select max(1 / (id - 1)) from t", "", impl.ErrZero, 8},
		{"select 1 from t group by cast(b as int), 1 / (id - 3)", "", impl.ErrZero, 8},
		{"select 1 from t having 1 / 0 = 1", "", impl.ErrZero, 14},
	})
}

func TestMeaningSums(t *testing.T) {
	wantAnswers(t, []answerCase{
		{"select sum(9223372036854775807) from t", "", impl.ErrOverflow, 12},
		{"select id, sum(9223372036854775807) from t group by id", "1,9223372036854775807;2,9223372036854775807;3,9223372036854775807;4,9223372036854775807;", impl.OK, 20},
		{"select a, sum(9223372036854775807) from t group by a", "", impl.ErrOverflow, 12},
		{"select a, sum(9223372036854775807) from t where id > 2 group by a", "10,9223372036854775807;20,9223372036854775807;", impl.OK, 17},
		{"select sum(z) from (select 9223372036854775807 as z union all select 9223372036854775807 union all select -9223372036854775807 union all select -5) as p", "9223372036854775802;", impl.OK, 37},
		{"select sum(z) from (select -9223372036854775807 as z union all select -9223372036854775807 union all select 9223372036854775806) as p", "-9223372036854775808;", impl.OK, 27},
		{"select sum(z) from (select -9223372036854775807 as z union all select -1) as p", "-9223372036854775808;", impl.OK, 18},
		{"select sum(z) from (select -9223372036854775807 as z union all select -2) as p", "", impl.ErrOverflow, 16},
		{"select sum(z) from (select 9223372036854775807 as z union all select 1) as p", "", impl.ErrOverflow, 16},
		{"select sum(z) from (select 99999999999999.9999 as z union all select 0.0001) as p", "", impl.ErrOverflow, 16},
		{"select sum(z) from (select 99999999999999.9999 as z union all select 0.0001 union all select -0.0001) as p", "99999999999999.9999;", impl.OK, 27},
		{"select sum(z) from (select -99999999999999.9999 as z union all select -0.0001) as p", "", impl.ErrOverflow, 16},
		{"select sum(99999999999999.9999) from t, t as v", "", impl.ErrOverflow, 62},
		{"select sum(case when t.id < 3 then 99999999999999.9999 else -99999999999999.9999 end) from t, t as v", "0;", impl.OK, 64},
		{"select avg(z) from (select 99999999999999 as z) as p", "99999999999999;", impl.OK, 10},
		{"select avg(z) from (select 100000000000000 as z) as p", "", impl.ErrOverflow, 8},
		{"select avg(z) from (select -100000000000000 as z union all select 1) as p", "", impl.ErrOverflow, 16},
		{"select avg(99999999999999.9999) from t, t as v", "99999999999999.9999;", impl.OK, 64},
		{"select avg(-99999999999999.9999) from t, t as v", "-99999999999999.9999;", impl.OK, 64},
		{"select avg(z) from (select 0.0001 as z union all select 0.0002) as p", "0.0002;", impl.OK, 18},
		{"select avg(z) from (select -0.0001 as z union all select -0.0002) as p", "-0.0002;", impl.OK, 18},
		{"select avg(z) from (select 0.0001 as z union all select 0.0001 union all select 0.0002) as p", "0.0001;", impl.OK, 27},
		{"select avg(z) from (select -0.0001 as z) as p", "-0.0001;", impl.OK, 10},
		{"select avg(z) from (select -0.0001 as z union all select -0.0001) as p", "-0.0001;", impl.OK, 18},
		{"select avg(z) from (select -0.0001 as z union all select 0.0000) as p", "-0.0001;", impl.OK, 18},
		{"select avg(z) from (select 0.0001 as z union all select 0.0000 union all select 0.0000) as p", "0;", impl.OK, 27},
		{"select avg(z) from (select 0.0002 as z union all select 0.0001 union all select 0.0002) as p", "0.0002;", impl.OK, 27},
		{"select avg(z) from (select -0.0001 as z union all select 0.0001) as p", "0;", impl.OK, 18},
		{"select avg(z) from (select 1 as z union all select 2 union all select 2) as p", "1.6667;", impl.OK, 27},
		{"select avg(id), avg(distinct a) from t", "2.5,15;", impl.OK, 14},
		{"select sum(z), avg(z) from (select 9223372036854775807 as z union all select 1) as p", "", impl.ErrOverflow, 16},
		{"select sum(z), count(*) from (select 5 as z union all select null) as p", "5,2;", impl.OK, 20},
	})
}
