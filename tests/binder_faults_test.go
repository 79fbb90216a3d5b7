package tests

import (
	"strings"
	"testing"

	"loop.example/g00001/impl"
)

// wantFaultsOn asks for a code at the place that is marked by ^; without a mark at 0, where the root does not stand.
func wantFaultsOn(t *testing.T, s impl.Schema, code int, texts ...string) {
	t.Helper()
	for _, text := range texts {
		src, place := markedPlace(text)
		tree := parsed(t, src)
		p, names, gotCode, pos := impl.Bind(s, tree)
		if gotCode == impl.ErrBad {
			var change impl.Change
			change, gotCode, pos = impl.BindChange(s, tree)
			p = change.Plan
			if change.Kind != 0 || change.Table != 0 {
				t.Errorf("%s: %v beside a code", text, change)
			}
		}
		if gotCode != code || pos != place || len(p.Nodes) > 0 || len(names) > 0 {
			t.Errorf("%.300s: %d, %d, %d nodes, %v; want %d, %d", text, gotCode, pos, len(p.Nodes), names, code, place)
		}
		wantStatement(t, s, tree)
	}
}

func wantFaults(t *testing.T, code int, texts ...string) {
	t.Helper()
	wantFaultsOn(t, house(t), code, texts...)
}

// wantBoundOn asks that there is no fault, and how many nodes the plan has, if that is said.
func wantBoundOn(t *testing.T, s impl.Schema, nodes int, texts ...string) {
	t.Helper()
	for _, text := range texts {
		tree := parsed(t, text)
		p, _, code, pos := impl.Bind(s, tree)
		if code == impl.ErrBad {
			var change impl.Change
			change, code, pos = impl.BindChange(s, tree)
			p = change.Plan
		}
		if code != impl.OK || pos != 0 || len(p.Nodes) == 0 || nodes > 0 && len(p.Nodes) != nodes {
			t.Errorf("%.300s: %d, %d, %d nodes", text, code, pos, len(p.Nodes))
		}
		wantStatement(t, s, tree)
	}
}

func TestFaultNoTable(t *testing.T) {
	wantFaults(t, impl.ErrTable, "select * from ^nope", "select * from t, ^nope", "select * from t join ^nope on zz", "select 1 where exists (select 1 from ^nope)", "select 1 from (select 1 from ^nope) as p", `select 1 from ^"T"`,
		"select 1 from ^gone", "select 1 union select 1 from ^nope", "select 1 from t cross join ^nope as t", "select x.a from t as x, ^x", "explain select 1 from ^nope",
		"^insert into nope values (1)", "^update nope set a = 1", "^delete from nope", `^delete from "T" where zz`, "^insert into gone select zz")
}

func TestFaultNoColumn(t *testing.T) {
	wantFaults(t, impl.ErrColumn, "select ^z from t", "select ^u.a from t", "select ^t.a from t as x", "select ^nope(1) from t", "select 1 from t where ^z", "select ^x.* from t", "select ^*", "select ^t.* from t as x", `select ^"A" from t`,
		"select a as z from t where ^z = 1", "select a as z from t group by ^z", "select a as z from t having ^z = 1", "select a as z from t order by ^z + 1", "select ^column1 from t", "select 1 as z, ^z",
		"select 1 from t join u on ^k = 1", `select 1 from t, u join "k 1" on ^t.a = k`, `select 1 from u join "k 1" on ^t.a = k, t`, "select 1 from t, (select ^t.a) as p", "select 1 from t join (select 1 where ^t.d) as p on true",
		"select (select 1 from (select ^y from t) as p) from t", "select 1 from (select a from t) as p where ^t.a = 1", "select 1 from (select a from t) as p where ^b = 'x'", "select 1 where exists (select ^q.a from t)", "select * from t where exists (select 1) and ^z")
	wantFaults(t, impl.ErrColumn, "select a from t order by ^3", "select a from t order by ^0", "select a from t order by ^2", "select a from t order by ^9223372036854775807", "select a from t order by 1, ^2", "select a from t order by ^z", "select a from t order by -^z",
		"select * from t order by ^7", "select distinct a from t order by ^b", "select distinct a from t order by a ^+ 1", "select distinct a from t order by ^t.a", "select distinct 1 from t order by ^count(*), a + zz", "select a from t union select 1 order by ^t.a",
		"select a from t union select 1 order by a ^+ 1", "(select a from t) order by ^t.a", "(select a from t) order by ^b", "(select a from t) order by ^count(*)", "select 1 as a union select 2 as b order by ^b", "select 1 union select 2 order by ^2.5", "select distinct 1 order by ^'x'")
}

func TestFaultSeveral(t *testing.T) {
	wantFaults(t, impl.ErrMany, "select ^a from t, u", "select t.id, ^id from t, u", "select ^t.a from t, t", "select 1 from t join u on ^a = 1", "select ^t.a from t as t cross join u as t", "select (select ^a from u, u as z) from t",
		"select 1 from (select 1 as x, 2 as x) as p where ^x = 1", "select ^p.x from (select 1 as x, 2 as x) as p", "select a, a from t order by ^a", "select a as x, b as x from t order by 1, ^x", "select 1 as x, 2 as x union select 3, 4 order by ^x",
		"select distinct a, b as a from t order by ^a", "select *, a from t order by ^a", "select 1 from t, u group by ^a", "select t.a from t, u group by t.a having ^a = 1", "select (select ^a) from t, u group by t.a, u.a", "select column2, 1 from (select 1, 2) as p order by ^column2")
}

func TestFaultKinds(t *testing.T) {
	wantFaults(t, impl.ErrType, "select 1 from t where ^a", "select 1 from t where a ^+ 1", "select 1 from t join u on ^t.a", "select 1 from t left join u on ^'x'", "select 1 from t having ^max(a)", "select a ^+ 'x' from t", "select ^case when 1 then 2 end",
		"select ^sum(b) from t", "select ^avg(d) from t", "select ^sum(null)", "select ^avg(null)", "select ^min(null)", "select ^max(null)", "select ^sum(distinct e) from t", "select a from t group by a having ^sum(b) > 1", "select a from t group by a order by ^sum(b)",
		"select 1 ^in (select 'x')", "select b ^not in (select a from t) from t", "select 1 from t where ^(select a)", "select (select 'x') ^+ 1", "select exists (select 1) ^+ 1", "select (1 in (select 1)) ^> 1", "select count(*) ^|| 'x' from t", "select avg(a) ^|| 'x' from t",
		"select 1 ^union select 'x'", "select 1, 2 ^union select 1, 'x'", "select 1, 'x' ^union all select 'x', 1", "select 1 ^except select true", "select date '2020-01-01' ^except all select 1", "select 1.5 ^union select 'x'", "select 1 union select 2 ^union select 'x'",
		"select null union select 'x' ^union select 1", "update t set a = 1 where ^a", "delete from t where ^b", "delete from t where ^(select 1)")
}

func TestFaultGroups(t *testing.T) {
	wantFaults(t, impl.ErrGroup, "select ^b from t group by a", "select a from t where ^sum(a) > 1", "select 1 from t join u on ^count(*) > 1", "select 1 from t group by ^count(*)", "select 1 from t group by a + ^max(a)",
		"select sum(^sum(a)) from t", "select sum(1 + ^count(*)) from t", "select ^* from t group by a", "select ^t.* from t having true", "select count(*), ^* from t", "select ^a, count(*) from t", "select ^a from t having true", "select ^a from t order by count(*)",
		"select a from t group by a order by ^b", "select count(*) from t having ^a = 1", "select a + 1 + ^b from t group by a + 1", "select ^a from t group by a + 1", "select 1 + ^a from t group by a + 1", "select count(*) + ^a from t group by b", "select distinct ^a from t order by count(*)",
		"select 1 from t where exists (select 1 where ^count(*) = 1)", "select ^b from t, (select 1) as p group by a", "select case when a = 1 then ^b end from t group by a", "select distinct ^a from t order by a + max(a)", "select case ^a when 1 then 2 end from t group by a = 1")
	wantFaults(t, impl.ErrGroup, "select (select ^t.b from u) from t group by a", "select (select 1 from u where u.id = ^t.id) from t group by a", `select (select ^a from "k 1") from t group by a + 1`, "select exists (select 1 from u where exists (select ^b)) from t group by a",
		"select (select max(^b)) from t group by a", "select count(*), (select 1 from u join u as z on u.id = ^t.a) from t", "select 1 from t group by a having (select ^b) = 'x'", "select 1 from t group by a order by (select ^b)", "select max(a) in (select ^t.a) from t",
		"select (select p.z from (select ^c as z) as p) from t group by b")
	// A key that is no column, or one of a level around, lets no column of the SELECT's level be seen.
	wantFaults(t, impl.ErrGroup, "select ^id from t group by 1", "select (select ^id) from t group by 1", "select (select ^id) from t group by null, -id", "select (select (select ^u.a) from u group by t.c) from t", "select (select ^u.a from u group by t.c) from t",
		"select (select ^id) from t group by (select id)", "select (select max(k) from \"k 1\" where k = ^id) from t group by (select max(k) from \"k 1\" where k = id)")
	wantFaults(t, impl.ErrGroup, "update t set a = ^count(*)", "update t set a = 1 where ^max(a) = 1", "delete from t where ^count(*) > 1", `insert into "k 1" values (^sum(1))`)
}

func TestFaultWidths(t *testing.T) {
	wantFaults(t, impl.ErrWidth, "select ^(select a, b from t)", "select ^(select * from t)", "select 1 ^in (select 1, 2)", "select 1 from t where (a ^not in (select 1, 2)) is null", "select ^abs()", "select ^coalesce()", "select ^least((select 1))",
		"select 1 ^union select 1, 2", "select 1, 2 ^except select 'x'", "select * from t ^union all select a from t", "select 1 union select 2 ^union select 3, 4")
}

// TestFaultsInOrder puts a fault at each two parts of a SELECT, which are said in the order in which they are bound.
func TestFaultsInOrder(t *testing.T) {
	places := []string{"FIRST", "SECOND", "ON", "THIRD", "WHERE", "KEY1", "KEY2", "HAVING", "ITEM1", "ITEM2", "SORT1", "SORT2"}
	form := "select ITEM1 as i, ITEM2 as k from FIRST as p join SECOND as q on ON, THIRD as r where WHERE group by KEY1, KEY2 having HAVING order by SORT1, SORT2"
	sound := map[string]string{"FIRST": "t", "SECOND": "u", "THIRD": "t", "ON": "true", "WHERE": "true", "HAVING": "true"}
	for i, first := range places {
		for k := i; k < len(places); k++ {
			marked := form
			for m, place := range places {
				text, there := sound[place]
				if !there {
					text = "1"
				}
				if m == i || m == k {
					text = "zz"
				}
				if m == i {
					text = "^" + text
				}
				marked = strings.Replace(marked, place, text, 1)
			}
			code := impl.ErrColumn
			if sound[first] == "t" || sound[first] == "u" {
				code = impl.ErrTable
			}
			wantFaults(t, code, marked)
		}
	}
}

func TestFaultsInOrderOfOtherParts(t *testing.T) {
	wantFaults(t, impl.ErrColumn, "select ^z union select y, 1", "select 1 union select ^y, 1 order by 3", "select ^z in (select y)", "select 1 in (select ^y, 2)", "select (select ^z, 1) + 'x'", "select (select 1 from t where ^z), y", "select exists (select 1, ^y), z",
		"select 1 from t join (select ^z) as p on y join nope on x", "select a from t order by ^5, z", "select a from t order by ^z, 5", "select sum(^z), a from t", "select sum(b + ^z), a from t", "select 1 from t group by ^z having sum(sum(a)) > 1")
	wantFaults(t, impl.ErrType, "select 1 ^in (select 'x'), z", "select b ^+ 1, z from t", "select 1 ^union select 'x' order by 2", "select 1 from t where ^a group by z", "select 1 from t join u on ^t.a where z", "select 1 from t having ^1 order by z", "select ^sum(b), z from t", "select ^sum(b) + z from t")
	wantFaults(t, impl.ErrWidth, "select 'x' ^in (select 1, 2)", "select 1 ^union select 'x', 2 order by 3", "select ^(select 1, 2) + 'x', z", "select ^(select 1, 2) + z")
	wantFaults(t, impl.ErrGroup, "select ^a, z from t having true", "select sum(^count(*)) + 'x', z from t", "select ^b, sum(b) from t")
	wantFaults(t, impl.ErrTable, "select z from ^nope, zip", "select 1 from t join ^nope on zz", "select z from (select 1 from ^nope) as p")
	wantFaults(t, impl.ErrColumn, "select 1 from t, (select ^z) as p, nope", "select ^a0.*, * from t group by a", "select 1, ^x.* from t group by a", "select ^* having true")
}

// levelled nests SELECTs in conditions, each of which opens a level; the innermost has a FROM of its own.
func levelled(levels int, from string) string {
	return strings.Repeat("select 1 where exists (", levels-1) + "select 1 " + from + strings.Repeat(")", levels-1)
}

// levelledAt marks the innermost SELECT.
func levelledAt(levels int, from string) string {
	return strings.Repeat("select 1 where exists (", levels-1) + "^select 1 " + from + strings.Repeat(")", levels-1)
}

func TestLevelsBounds(t *testing.T) {
	s := house(t)
	wantBoundOn(t, s, 0, levelled(impl.MaxUp, ""), levelled(impl.MaxUp, "from t join u on t.id = u.id"), levelled(impl.MaxUp, "from t where a = 1 group by a having a > 1 order by a + 1"),
		// A derived table opens its level beside that of its SELECT.
		levelled(impl.MaxUp, "from (select 1 from (select 1) as p) as q"), levelled(impl.MaxUp, "from (select 1 from t join u on t.id = u.id) as q"), strings.Repeat("select * from (", 20)+"select 1 as x"+strings.Repeat(") as p", 20),
		"select 1 union "+levelled(impl.MaxUp, ""), "("+levelled(impl.MaxUp, "")+")", "select 1 from t join u on exists ("+levelled(impl.MaxUp-1, "")+")", `insert into "k 1" values ((`+levelled(impl.MaxUp, "")+"))",
		`insert into "k 1" `+levelled(impl.MaxUp, ""), "update t set a = ("+levelled(impl.MaxUp-1, "")+")", "delete from t where exists ("+levelled(impl.MaxUp-1, "")+")")
	wantFaultsOn(t, s, impl.ErrDeep, levelledAt(impl.MaxUp+1, ""), levelledAt(impl.MaxUp+1, "from t, u"), levelledAt(impl.MaxUp+1, "from t cross join u"), levelled(impl.MaxUp+1, "from t ^join u on zz"), levelled(impl.MaxUp+1, "from t ^left join u on true"),
		levelled(impl.MaxUp+1, "from t cross join u ^join t as z on true"), levelled(impl.MaxUp+1, "from (^select 1) as p"), levelled(impl.MaxUp+1, "from (select 1 from t ^join u on true) as p"), levelledAt(impl.MaxUp+1, "where zz"),
		levelledAt(impl.MaxUp+1, "from t where zz order by 5"), levelled(impl.MaxUp, "where exists (^select 1)"), "select 1 from t join u on exists ("+levelledAt(impl.MaxUp, "")+")",
		`insert into "k 1" values ((`+levelledAt(impl.MaxUp+1, "")+"))", "update t set a = ("+levelledAt(impl.MaxUp, "")+")", "delete from t where exists ("+levelledAt(impl.MaxUp, "")+")",
		levelled(impl.MaxUp, "where exists (^select zz from t where zz)"), "select 1 from (select 1 where exists ("+levelledAt(impl.MaxUp, "")+")) as p")
	// What FROM has in it comes ahead of the level.
	wantFaultsOn(t, s, impl.ErrTable, levelled(impl.MaxUp+1, "from ^nope"), levelled(impl.MaxUp+1, "from t join ^nope on true"))
}

// wideHouse has tables of twelve columns and of eight.
func wideHouse(t *testing.T) impl.Schema {
	t.Helper()
	return defined(t, "create table m ("+elements(12, "c%d int")+")", "create table n ("+elements(8, "c%d int")+")", "create table k (k int)")
}

// listed repeats a text with commas between.
func listed(count int, text string) string { return repeated(text, count, ", ") }

func TestColumnsBounds(t *testing.T) {
	s := wideHouse(t)
	thirtyTwo := "m as a, m as b, n as c"
	wantBoundOn(t, s, 0, "select 1 from "+thirtyTwo, "select * from "+thirtyTwo, "select 1 from m as a join m as b on true left join n as c on true", "select 1 from m as a cross join m as b cross join n as c", "select 1 from (select * from "+thirtyTwo+") as p",
		"select "+listed(32, "1"), "select "+listed(31, "1")+" order by 1 + 1", "select "+listed(32, "count(*)"), "select "+listed(31, "count(*)")+" from k group by k", "select 1 from k group by "+listed(32, "k"),
		"select 1 having count(*) + count(*) > 1 order by "+listed(30, "max(1)"), "select sum(k) from k group by "+listed(31, "k"), "select distinct "+listed(32, "1")+" order by 32", "insert into m select "+listed(12, "1"))
	wantFaultsOn(t, s, impl.ErrBig, "select 1 from "+thirtyTwo+", ^k", "select 1 from "+thirtyTwo+" ^join k on true", "select 1 from "+thirtyTwo+", ^(select 1) as p", "select 1 from m as a cross join m as b ^cross join m as c join k on zz",
		"select 1 from m as a join m as b on true ^left join m as c on zz", "select 1 from "+thirtyTwo+", ^k as y, k as z", "select 1 from (select * from "+thirtyTwo+") as p, ^k",
		"select 1 from m as a, m as b, ^m as c, nope", "select zz from m as a, m as b, ^m as c", "select 1 from m as a, m as b, k as c ^join m as d on true", "select 1 from m as a cross join m as b ^join m as c on zz")
	wantFaultsOn(t, s, impl.ErrBig, "^select "+listed(33, "1"), "^select *, 1 from "+thirtyTwo, "^select "+listed(32, "1")+" order by 1 + 1", "^select "+listed(33, "count(*)"), "^select "+listed(32, "count(*)")+" from k group by k", "^select 1 from k group by "+listed(33, "k"),
		"^select count(*) from k group by "+listed(32, "k"), "^select 1 having count(*) > 1 order by "+listed(32, "max(1)"), "select 1 union ^select "+listed(33, "1"), "select exists (^select "+listed(33, "1")+"), zz", "^select "+listed(33, "1")+" order by 33",
		"select 1 from (^select "+listed(33, "1")+") as p", "insert into k ^select "+listed(33, "1")+" order by 33", "^select *, * from m, n")
	// Columns of a SELECT are counted behind the keys of its query.
	wantFaultsOn(t, s, impl.ErrColumn, "select "+listed(33, "1")+" order by ^34", "select "+listed(33, "1")+" order by ^zz", "select "+listed(33, "count(*)")+" order by 1, ^zz")
}

// unions are plans of three nodes a SELECT, but for the first, which has two.
func unions(count int, last string) string {
	return strings.Repeat("select 1 union all ", count-1) + last
}

func TestPlanBounds(t *testing.T) {
	s := house(t)
	wantBoundOn(t, s, impl.MaxPlan, unions(67, "select 1"), "explain "+unions(67, "select 1"))
	wantBoundOn(t, s, impl.MaxPlan-1, unions(66, "select 1")+" order by 1 limit 1")
	wantFaultsOn(t, s, impl.ErrBig, unions(67, "select 1")+" limit 1", unions(68, "select 1"), "explain "+unions(67, "select 1")+" order by 1", unions(90, "select 1"), `insert into "k 1" `+unions(67, "select 1"), "delete from t where exists ("+unions(67, "select 1")+")",
		"update t set a = ("+unions(67, "select 1")+")", `insert into "k 1" values ((`+unions(67, "select 1")+"))")
	wantBoundOn(t, s, impl.MaxPlan, `insert into "k 1" (`+unions(66, "select 1")+") order by 1 limit 1")
	// It is asked for at last.
	wantFaultsOn(t, s, impl.ErrColumn, unions(80, "select ^zz"), unions(80, "select 1")+" order by ^2")
	wantFaultsOn(t, s, impl.ErrWidth, "insert into t ^"+unions(80, "select 1"))
}

// The plan in the operand of a CASE stands there for each WHEN, so that plans in one another multiply.
func TestPlansThatMultiply(t *testing.T) {
	s := house(t)
	whens := func(count int) string { return strings.Repeat(" when 1 then 2", count) }
	wantBoundOn(t, s, 2+2*99, "select case (select 1)"+whens(99)+" end")
	wantBoundOn(t, s, 2+5*(2+7*2), "select case (select case (select 1)"+whens(7)+" end)"+whens(5)+" end")
	wantFaultsOn(t, s, impl.ErrBig, "select case (select 1)"+whens(99)+" end limit 1", "select case (select case (select 1)"+whens(49)+" end)"+whens(2)+" end limit 1")
	deep := "1"
	for range impl.MaxUp {
		deep = "case (select " + deep + ")" + whens(30) + " end"
	}
	wantFaultsOn(t, s, impl.ErrDeep, "select "+strings.Replace(deep, "(select 1)", "(^select 1)", 1))
	wantFaultsOn(t, s, impl.ErrBig, "select "+strings.Replace(deep, "(select 1)", "(1)", 1))
}

// sum adds up 200 times what stands in a text; of columns it has 399 nodes.
func sum(text string) string {
	return repeated("("+repeated(text, 20, " + ")+")", 10, " + ")
}

func TestExpressionBounds(t *testing.T) {
	s := house(t)
	whens := func(count int) string { return strings.Repeat(" when 1 then 2", count) }
	wantBoundOn(t, s, 0, "select - ("+sum("a")+") from t", "select ("+sum("a")+") in (select 1) from t", "select 1 in ("+listed(398, "a")+") from t", "select case (select a)"+whens(99)+" end from t",
		"update t set a = - ("+sum("a")+")", "update t set c = "+sum("a"), "select "+repeated("max(a)", 32, " + ")+" from t")
	wantFaultsOn(t, s, impl.ErrBig, "select "+sum("a")+" ^+ a from t", "select - ("+sum("a")+") ^in (select 1), zz from t", "select 1 ^in ("+listed(399, "a")+") from t",
		"select ^case (select a)"+whens(100)+" end from t", "select 1 from t where - ("+sum("a")+") ^> 1", "update t set a = ^- - ("+sum("a")+")")
	// The cast to the column's kind is a node, too.
	wantFaultsOn(t, s, impl.ErrBig, "update t set c = ^- ("+sum("a")+")", "insert into t (id, c) values (1, ^- ("+sum("1")+"))")
}

// In a group what is like a key is one node.
func TestExpressionBoundsInGroups(t *testing.T) {
	s := house(t)
	wantBoundOn(t, s, 0, "select - ("+sum("(a + 1)")+") from t group by a + 1", "select - ("+sum("a")+") from t group by - ("+sum("a")+")")
	wantFaultsOn(t, s, impl.ErrBig, "select "+sum("(a + 1)")+" ^+ a from t group by a + 1, a", "select 1 from t group by a, "+sum("a")+" ^+ a")
}
