package tests

import "testing"

func TestSeeksByPrimaryKey(t *testing.T) {
	wantChoices(t, farmStats(), []choiceCase{
		{"filtered(t, i0 = 2)", "seek table 1 index 0 [=] 2 1:3"},
		{"filtered(t, 2 = i0)", "seek table 1 index 0 [=] 2 1:3"},
		{"filtered(t, i0 > 2)", "seek table 1 index 0 [>] 2 33:35"},
		{"filtered(t, i0 >= 2)", "seek table 1 index 0 [>=] 2 33:35"},
		{"filtered(t, i0 < 2)", "seek table 1 index 0 [<] 2 33:35"},
		{"filtered(t, i0 <= 2)", "seek table 1 index 0 [<=] 2 33:35"},
		{"filtered(t, 2 < i0)", "seek table 1 index 0 [>] 2 33:35"},
		{"filtered(t, 2 <= i0)", "seek table 1 index 0 [>=] 2 33:35"},
		{"filtered(t, 2 > i0)", "seek table 1 index 0 [<] 2 33:35"},
		{"filtered(t, 2 >= i0)", "seek table 1 index 0 [<=] 2 33:35"},
		{"filtered(t, i0 > 2 and i0 < 5)", "seek table 1 index 0 [> <] 2 5 11:13"},
		{"filtered(t, i0 < 5 and i0 >= 2)", "seek table 1 index 0 [>= <] 2 5 11:13"},
		{"filtered(t, i0 <= 5 and 2 < i0)", "seek table 1 index 0 [> <=] 2 5 11:13"},
		{"filtered(t, 5 >= i0 and 2 <= i0)", "seek table 1 index 0 [>= <=] 2 5 11:13"},
		// The first that fits; what is equal goes ahead of bounds.
		{"filtered(t, i0 = 2 and i0 = 3)", "filter (#0 = 3) 1:4; -seek table 1 index 0 [=] 2 1:3"},
		{"filtered(t, i0 > 2 and i0 = 3)", "filter (#0 > 2) 1:4; -seek table 1 index 0 [=] 3 1:3"},
		{"filtered(t, i0 > 2 and i0 >= 3 and i0 < 7 and i0 <= 8)", "filter ((#0 >= 3) AND (#0 <= 8)) 1:24; -seek table 1 index 0 [> <] 2 7 11:13"},
		{"filtered(t, 3 <= i0 and i0 > 2 and 8 >= i0 and i0 < 7)", "filter ((#0 > 2) AND (#0 < 7)) 1:24; -seek table 1 index 0 [>= <=] 3 8 11:13"},
		// No such conjuncts.
		{"filtered(t, i0 <> 2)", "filter (#0 <> 2) 50:200; -scan table 1 100:100"},
		{"filtered(t, i0 between 2 and 5)", "filter (#0 BETWEEN 2 AND 5) 33:200; -scan table 1 100:100"},
		{"filtered(t, i0 is not distinct from 2)", "filter (#0 IS 2) 50:200; -scan table 1 100:100"},
		{"filtered(t, i0 in (2))", "filter (#0 IN (2)) 50:200; -scan table 1 100:100"},
		{"filtered(t, coalesce(i0, 1) = 2)", "filter (coalesce(#0, 1) = 2) 50:200; -scan table 1 100:100"},
		{"filtered(t, i0 = 2 or i0 = 3)", "filter ((#0 = 2) OR (#0 = 3)) 50:200; -scan table 1 100:100"},
		{"filtered(t, not i0 = 2)", "filter (NOT (#0 = 2)) 50:200; -scan table 1 100:100"},
		// A key of two columns: n, then k.
		{"filtered(p, i1 = 1)", "seek table 5 index 0 [=] 1 2:4"},
		{"filtered(p, t0 = 'x')", "filter (#0 = 'x') 5:400; -scan table 5 200:200"},
		{"filtered(p, t0 = 'x' and i1 = 1)", "seek table 5 index 0 [==] 1 'x' 1:3"},
		{"filtered(p, i1 = 1 and t0 < 'x')", "seek table 5 index 0 [=<] 1 'x' 1:3"},
		{"filtered(p, i1 > 1 and t0 = 'x')", "filter (#0 = 'x') 1:134; -seek table 5 index 0 [>] 1 66:68"},
		{"filtered(p, i1 = 1 and t0 > 'a' and t0 <= 'x' and i1 = 2)", "filter (#1 = 2) 1:4; -seek table 5 index 0 [=> <=] 1 'a' 'x' 1:3"},
	})
}

func TestSeeksByIndex(t *testing.T) {
	wantChoices(t, farmStats(), []choiceCase{
		{"filtered(t, i1 = 2)", "seek table 1 index 8 [=] 2 10:12"},
		{"filtered(t, i1 = 2 and t2 = 'x')", "seek table 1 index 8 [==] 2 'x' 1:3"},
		{"filtered(t, t2 = 'x' and i1 = 2)", "seek table 1 index 8 [==] 2 'x' 1:3"},
		{"filtered(t, i1 = 2 and t2 > 'x')", "seek table 1 index 8 [=>] 2 'x' 3:5"},
		{"filtered(t, i1 = 2 and t2 > 'x' and t2 <= 'z')", "seek table 1 index 8 [=> <=] 2 'x' 'z' 1:3"},
		{"filtered(t, i1 = 2 and y5 > date '2020-01-01')", "filter (#5 > DATE '2020-01-01') 3:22; -seek table 1 index 8 [=] 2 10:12"},
		{"filtered(u, i3 = 5 and b4 = true)", "seek table 3 index 6 [==] 5 TRUE 1:3"},
		{"filtered(u, i3 = 5 and b4)", "filter #4 1:4; -seek table 3 index 6 [=] 5 1:3"},
		{"filtered(u, i3 > 5 and i3 > 6)", "filter (#3 > 6) 5:34; -seek table 3 index 6 [>] 5 16:18"},
		{"filtered(t, y5 = date '2020-01-01' and i1 = 1 and i0 > 2)", "seek table 1 index 13 [==>] DATE '2020-01-01' 1 2 1:3"},
		{"filtered(t, y5 = date '2020-01-01' and i0 > 2)", "filter (#0 > 2) 1:10; -seek table 1 index 13 [=] DATE '2020-01-01' 4:6"},
		// The cheapest of several.
		{"filtered(t, i1 > 2 and t2 = 'x')", "filter (#1 > 2) 1:12; -seek table 1 index 9 [=] 'x' 5:7"},
		{"filtered(t, y5 = date '2020-01-01' and i1 = 1 and d3 = 1.5)", "filter (#3 = 1.5) 1:4; -seek table 1 index 13 [==] DATE '2020-01-01' 1 1:3"},
		{"filtered(t, i1 = 1 and i0 > 2)", "filter (#0 > 2) 3:22; -seek table 1 index 8 [=] 1 10:12"},
		{"filtered(u, i0 = 1 and i3 = 5)", "filter (#0 = 1) 1:4; -seek table 3 index 6 [=] 5 1:3"},
		// The first of those that are equally cheap: the primary key, then the indexes as the schema has them.
		{"filtered(t, y5 = date '2020-01-01' and i1 = 1 and i0 = 2)", "filter ((#5 = DATE '2020-01-01') AND (#1 = 1)) 1:4; -seek table 1 index 0 [=] 2 1:3"},
		{"filtered(t, i1 = 1 and t2 = 'x' and i0 = 2)", "filter ((#1 = 1) AND (#2 = 'x')) 1:4; -seek table 1 index 0 [=] 2 1:3"},
		{"filtered(t, y5 = date '2020-01-01' and t2 = 'x' and i1 = 1)", "filter (#5 = DATE '2020-01-01') 1:4; -seek table 1 index 8 [==] 1 'x' 1:3"},
		{"filtered(p, i2 = 3 and i1 = 1 and t0 = 'x')", "filter (#2 = 3) 1:4; -seek table 5 index 0 [==] 1 'x' 1:3"},
		{"filtered(p, i2 > 3 and i1 > 1)", "filter (#2 > 3) 22:134; -seek table 5 index 0 [>] 1 66:68"},
		{"filtered(u, i0 = 1)", "seek table 3 index 7 [=] 1 2:4"},
		{"filtered(u, i0 > 1)", "seek table 3 index 7 [>] 1 16:18"},
		{"filtered(u, i3 > 5 and i0 > 1)", "filter (#0 > 1) 5:34; -seek table 3 index 6 [>] 5 16:18"},
	})
}

func TestSeeksByOtherExpressions(t *testing.T) {
	wantChoices(t, farmStats(), []choiceCase{
		{"filtered(t, i0 = cast(null as int))", "seek table 1 index 0 [=] CAST(NULL AS INT) 1:3"},
		{"filtered(t, i0 = coalesce(1, 2))", "seek table 1 index 0 [=] coalesce(1, 2) 1:3"},
		{"projected(k, some(filtered(t, i0 = r1.i0)))", "project EXISTS(@1) 20:40; -scan table 4 20:20; -seek table 1 index 0 [=] 1#0 1:3"},
		{"projected(k, some(filtered(t, r1.i0 > i0 and i0 >= r1.i0)))", "project EXISTS(@1) 20:40; -scan table 4 20:20; -seek table 1 index 0 [>= <] 1#0 1#0 11:13"},
		{"projected(p, some(filtered(t, t2 = r1.t0 and i1 = r1.i1 and y5 = date '2020-01-01')))", "project EXISTS(@2) 200:400; -scan table 5 200:200; -filter (#5 = DATE '2020-01-01') 1:4; --seek table 1 index 8 [==] 1#1 1#0 1:3"},
		{"projected(u, some(projected(t, some(filtered(k, i0 = r2.i0 and i0 = r1.i0)))))", "project EXISTS(@4) 50:100; -scan table 3 50:50; -project EXISTS(@3) 100:200; --scan table 1 100:100; --filter (#0 = 1#0) 1:12; ---seek table 4 index 12 [=] 2#0 5:7"},
		// Of another kind.
		{"filtered(t, i0 = 2.5)", "filter (#0 = 2.5) 1:200; -scan table 1 100:100"},
		{"filtered(t, i0 > 2.5)", "filter (#0 > 2.5) 33:200; -scan table 1 100:100"},
		{"filtered(t, i0 = null)", "filter (#0 = NULL) 1:200; -scan table 1 100:100"},
		{"projected(u, some(filtered(t, i0 = r1.d1)))", "project EXISTS(@2) 50:100; -scan table 3 50:50; -filter (#0 = 1#1) 1:200; --scan table 1 100:100"},
		{"filtered(t, i0 = 2.5 and i0 = 3)", "filter (#0 = 2.5) 1:4; -seek table 1 index 0 [=] 3 1:3"},
		{"filtered(t, i0 < 2.5 and 3 > i0)", "filter (#0 < 2.5) 11:68; -seek table 1 index 0 [<] 3 33:35"},
		// They see row 0.
		{"filtered(t, i0 = i1)", "filter (#0 = #1) 1:200; -scan table 1 100:100"},
		{"filtered(t, i0 = i0)", "filter (#0 = #0) 1:200; -scan table 1 100:100"},
		{"filtered(t, i0 = coalesce(i1, 1))", "filter (#0 = coalesce(#1, 1)) 1:200; -scan table 1 100:100"},
		{"filtered(t, i0 > i1 and i0 > 7)", "filter (#0 > #1) 11:68; -seek table 1 index 0 [>] 7 33:35"},
		{"projected(k, some(filtered(t, r1.i0 = 5)))", "project EXISTS(@2) 20:40; -scan table 4 20:20; -filter (1#0 = 5) 50:200; --scan table 1 100:100"},
		// They have plans in them.
		{"filtered(t, b4 = some(k) and i0 = 2)", "filter (#4 = EXISTS(@1)) 1:4; -seek table 1 index 0 [=] 2 1:3; -scan table 4 20:20"},
		{"filtered(once(t), i0 = 2)", "filter (#0 = 2) 1:250; -distinct 50:200; --scan table 1 100:100"},
		{"filtered(t, i0 = 1 and b4 = among(1, k))", "filter (#4 = (1 IN @1)) 1:4; -seek table 1 index 0 [=] 1 1:3; -scan table 4 20:20"},
	})
}

func TestSeeksAndWhatIsLeft(t *testing.T) {
	wantChoices(t, farmStats(), []choiceCase{
		{"filtered(t, i0 = 2 and true)", "filter TRUE 1:4; -seek table 1 index 0 [=] 2 1:3"},
		{"filtered(t, true and i0 = 2 and false)", "filter (TRUE AND FALSE) 1:4; -seek table 1 index 0 [=] 2 1:3"},
		{"filtered(t, null and i0 = 2)", "filter CAST(NULL AS BOOLEAN) 1:4; -seek table 1 index 0 [=] 2 1:3"},
		{"filtered(t, null and i0 = 2 and b4)", "filter (CAST(NULL AS BOOLEAN) AND #4) 1:4; -seek table 1 index 0 [=] 2 1:3"},
		{"filtered(t, b4 and (i1 > 1 and i0 = 2) and (b4 and i1 < 7))", "filter (((#4 AND (#1 > 1)) AND #4) AND (#1 < 7)) 1:4; -seek table 1 index 0 [=] 2 1:3"},
		{"filtered(t, i0 = 2 and some(k))", "filter EXISTS(@1) 1:4; -seek table 1 index 0 [=] 2 1:3; -scan table 4 20:20"},
		{"filtered(t, some(k) and i0 = 2 and among(i1, filtered(k, i0 = 1)))", "filter (EXISTS(@1) AND (#1 IN @2)) 1:4; -seek table 1 index 0 [=] 2 1:3; -scan table 4 20:20; -seek table 4 index 12 [=] 1 5:7"},
		{"filtered(filtered(t, i0 = 3), i0 = 2)", "filter (#0 = 2) 1:4; -seek table 1 index 0 [=] 3 1:3"},
		{"filtered(filtered(t, b4), i0 = 2)", "filter (#0 = 2) 1:250; -filter #4 50:200; --scan table 1 100:100"},
		{"sorted(filtered(t, i0 > 2), 's0')", "sort by 0 33:101; -seek table 1 index 0 [>] 2 33:35"},
		{"limited(filtered(t, i0 > 2 and b4), 3, 0)", "limit limit 3 offset 0 3:84; -filter #4 16:68; --seek table 1 index 0 [>] 2 33:35"},
		// Not safe.
		{"filtered(t, i0 = 2 and 1 / i1 = 1)", "filter ((#0 = 2) AND ((1 / #1) = 1)) 1:200; -scan table 1 100:100"},
		{"filtered(t, i0 = 1 + 1)", "filter (#0 = (1 + 1)) 1:200; -scan table 1 100:100"},
		{"filtered(t, i0 = 2 and i1 = one(limited(k, 1, 0)))", "filter ((#0 = 2) AND (#1 = (@2))) 1:200; -scan table 1 100:100; -limit limit 1 offset 0 1:40; --scan table 4 20:20"},
		{"filtered(t, i0 = 2 and some(projected(k, 1 / i0)))", "filter ((#0 = 2) AND EXISTS(@2)) 1:200; -scan table 1 100:100; -project (1 / #0) 20:40; --scan table 4 20:20"},
		{"filtered(t, i0 = 2 and some(grouped(k, 'sum(0)')))", "filter ((#0 = 2) AND EXISTS(@2)) 1:200; -scan table 1 100:100; -group 1:40; --scan table 4 20:20"},
		{"filtered(t, i0 = 2 and some(grouped(k, 'max(0)')))", "filter EXISTS(@2) 1:4; -seek table 1 index 0 [=] 2 1:3; -group 1:40; --scan table 4 20:20"},
	})
}

// TestSeeksInSmallTables has 4 rows: a seek of one row costs 3.
func TestSeeksInSmallTables(t *testing.T) {
	wantChoices(t, evenStats(farm(t), 4, 4), []choiceCase{
		{"filtered(t, i0 = 2)", "seek table 1 index 0 [=] 2 1:3"},
		{"filtered(t, i0 > 2)", "seek table 1 index 0 [>] 2 1:3"},
		{"filtered(t, i1 = 2 and b4)", "filter #4 1:4; -seek table 1 index 8 [=] 2 1:3"},
		{"filtered(t, i0 = 2 and b4)", "filter #4 1:4; -seek table 1 index 0 [=] 2 1:3"},
	})
}

// TestSeeksInSmallerTables has 3 rows: to read them all is as cheap.
func TestSeeksInSmallerTables(t *testing.T) {
	wantChoices(t, evenStats(farm(t), 3, 3), []choiceCase{
		{"filtered(t, i0 = 2)", "filter (#0 = 2) 1:6; -scan table 1 3:3"},
		{"filtered(t, i0 > 2 and i0 < 7)", "filter ((#0 > 2) AND (#0 < 7)) 1:6; -scan table 1 3:3"},
		{"filtered(t, i1 = 2 and b4)", "filter ((#1 = 2) AND #4) 1:6; -scan table 1 3:3"},
	})
}

// TestSeeksOfManyRows has columns of one value: what is equal to it are all rows.
func TestSeeksOfManyRows(t *testing.T) {
	wantChoices(t, evenStats(farm(t), 400, 1), []choiceCase{
		{"filtered(t, i0 = 2)", "filter (#0 = 2) 400:800; -scan table 1 400:400"},
		{"filtered(t, i0 = 2 and i0 > 1)", "filter ((#0 = 2) AND (#0 > 1)) 133:800; -scan table 1 400:400"},
		{"filtered(t, i0 > 2)", "seek table 1 index 0 [>] 2 133:135"},
		{"filtered(t, i1 = 2 and t2 > 'x')", "seek table 1 index 8 [=>] 2 'x' 133:135"},
		{"filtered(t, i1 = 2 and t2 > 'x' and i0 < 8)", "filter ((#1 = 2) AND (#2 > 'x')) 44:268; -seek table 1 index 0 [<] 8 133:135"},
	})
}

func TestSeeksInEmptyTables(t *testing.T) {
	wantChoices(t, evenStats(farm(t), 0, 0), []choiceCase{
		{"filtered(t, i0 = 2)", "filter (#0 = 2) 1:2; -scan table 1 1:1"},
		{"filtered(p, i1 = 2 and t0 = 'x')", "filter ((#1 = 2) AND (#0 = 'x')) 1:2; -scan table 5 1:1"},
	})
}
