package tests

import "testing"

// TestEstimates has each operation but filters and joins.
func TestEstimates(t *testing.T) {
	wantChoices(t, farmStats(), []choiceCase{
		{"t", "scan table 1 100:100"},
		{"u", "scan table 3 50:50"},
		{"vals('i')", "values 1:0"},
		{"vals('i', 1)", "values 1 1:1"},
		{"vals('it', 1, 'x', 2, 'y', 3, 'z')", "values 1 'x' 2 'y' 3 'z' 3:3"},
		{"vals('')", "values 1:0"},
		{"vals('', null, null)", "values 2:2"},
		{"projected(t, i0, 5)", "project #0 5 100:200; -scan table 1 100:100"},
		{"projected(vals('i'), i0)", "project #0 1:1; -values 1:0"},
		{"grouped(t, 'all')", "group 1:200; -scan table 1 100:100"},
		{"grouped(t, 'k1 k2 all')", "group keys 1 2 50:200; -scan table 1 100:100"},
		{"grouped(k, 'k0')", "group keys 0 10:40; -scan table 4 20:20"},
		{"grouped(vals('i', 1), 'k0')", "group keys 0 1:2; -values 1 1:1"},
		{"grouped(vals('i'), 'all')", "group 1:1; -values 1:0"},
		{"once(t)", "distinct 50:200; -scan table 1 100:100"},
		{"once(vals('i', 1))", "distinct 1:2; -values 1 1:1"},
		{"once(vals('i', 1, 2, 3))", "distinct 1:6; -values 1 2 3 3:3"},
		{"sorted(t, 's0 s1d s2f')", "sort by 0 1d 2f 100:300; -scan table 1 100:100"},
		{"sorted(vals('i', 1), 's0')", "sort by 0 1:3; -values 1 1:1"},
		{"limited(t, 5, 2)", "limit limit 5 offset 2 5:200; -scan table 1 100:100"},
		{"limited(t, 0, 0)", "limit limit 0 offset 0 1:200; -scan table 1 100:100"},
		{"limited(t, -1, 3)", "limit limit -1 offset 3 100:200; -scan table 1 100:100"},
		{"limited(t, 100, 0)", "limit limit 100 offset 0 100:200; -scan table 1 100:100"},
		{"limited(t, 101, 0)", "limit limit 101 offset 0 100:200; -scan table 1 100:100"},
		{"limited(t, 9223372036854775807, 9223372036854775807)", "limit limit 9223372036854775807 offset 9223372036854775807 100:200; -scan table 1 100:100"},
		{"unioned(k, projected(t, i0))", "union 120:340; -scan table 4 20:20; -project #0 100:200; --scan table 1 100:100"},
		{"unionedall(k, k)", "union all 40:80; -scan table 4 20:20; -scan table 4 20:20"},
		{"excepted(k, projected(t, i0))", "except 20:340; -scan table 4 20:20; -project #0 100:200; --scan table 1 100:100"},
		{"exceptedall(projected(t, i0), k)", "except all 100:340; -project #0 100:200; --scan table 1 100:100; -scan table 4 20:20"},
		{"unioned(vals('i'), vals('i'))", "union 2:2; -values 1:0; -values 1:0"},
	})
}

// TestEstimatesOfEmptyTables has Ests that would be 0.
func TestEstimatesOfEmptyTables(t *testing.T) {
	wantChoices(t, evenStats(farm(t), 0, 0), []choiceCase{
		{"t", "scan table 1 1:1"},
		{"filtered(t, b4)", "filter #4 1:2; -scan table 1 1:1"},
		{"projected(t, i0)", "project #0 1:2; -scan table 1 1:1"},
		{"grouped(t, 'k0')", "group keys 0 1:2; -scan table 1 1:1"},
		{"once(t)", "distinct 1:2; -scan table 1 1:1"},
		{"sorted(t, 's0')", "sort by 0 1:3; -scan table 1 1:1"},
		{"limited(sorted(t, 's0'), 5, 0)", "top by 0 limit 5 offset 0 1:3; -scan table 1 1:1"},
		{"unioned(k, k)", "union 2:4; -scan table 4 1:1; -scan table 4 1:1"},
		{"excepted(k, k)", "except 1:4; -scan table 4 1:1; -scan table 4 1:1"},
		{"joined(t, k, i0 = i6)", "project #1 #2 #3 #4 #5 #6 #0 1:4; -loop inner (#1 = #0) 1:3; --scan table 4 1:1; --scan table 1 1:1"},
		{"leftjoined(t, k, i0 = i6)", "loop left (#0 = #6) 1:3; -scan table 1 1:1; -scan table 4 1:1"},
		{"semijoined(t, k, i0 = i6)", "loop semi (#0 = #6) 1:3; -scan table 1 1:1; -scan table 4 1:1"},
		{"antijoined(t, k, i0 = i6)", "loop anti (#0 = #6) 1:3; -scan table 1 1:1; -scan table 4 1:1"},
		{"filtered(t, i0 = 1)", "filter (#0 = 1) 1:2; -scan table 1 1:1"},
	})
}

// TestEstimatesCutOff has sums and products above MaxCost: three tables of 400 rows are below it, four above.
func TestEstimatesCutOff(t *testing.T) {
	wantChoices(t, evenStats(farm(t), 400, 0), []choiceCase{
		{"joined(joined(k, k, true), k, true)", "project #2 #1 #0 64000000:128161200; -loop inner TRUE 64000000:64161200; --loop inner TRUE 160000:160800; ---scan table 4 400:400; ---scan table 4 400:400; --scan table 4 400:400"},
		{"joined(joined(joined(k, k, true), k, true), k, true)", "project #3 #2 #1 #0 1000000000:1000000000; -loop inner TRUE 1000000000:1000000000; --loop inner TRUE 64000000:64161200; ---loop inner TRUE 160000:160800; ----scan table 4 400:400; ----scan table 4 400:400; ---scan table 4 400:400; --scan table 4 400:400"},
		{"unionedall(joined(joined(joined(k, k, true), k, true), k, true), joined(joined(joined(k, k, true), k, true), k, true))", "union all 1000000000:1000000000; -project #3 #2 #1 #0 1000000000:1000000000; --loop inner TRUE 1000000000:1000000000; ---loop inner TRUE 64000000:64161200; ----loop inner TRUE 160000:160800; -----scan table 4 400:400; -----scan table 4 400:400; ----scan table 4 400:400; ---scan table 4 400:400; -project #3 #2 #1 #0 1000000000:1000000000; --loop inner TRUE 1000000000:1000000000; ---loop inner TRUE 64000000:64161200; ----loop inner TRUE 160000:160800; -----scan table 4 400:400; -----scan table 4 400:400; ----scan table 4 400:400; ---scan table 4 400:400"},
		{"excepted(joined(joined(joined(k, k, true), k, true), k, true), joined(joined(joined(k, k, true), k, true), k, true))", "except 1000000000:1000000000; -project #3 #2 #1 #0 1000000000:1000000000; --loop inner TRUE 1000000000:1000000000; ---loop inner TRUE 64000000:64161200; ----loop inner TRUE 160000:160800; -----scan table 4 400:400; -----scan table 4 400:400; ----scan table 4 400:400; ---scan table 4 400:400; -project #3 #2 #1 #0 1000000000:1000000000; --loop inner TRUE 1000000000:1000000000; ---loop inner TRUE 64000000:64161200; ----loop inner TRUE 160000:160800; -----scan table 4 400:400; -----scan table 4 400:400; ----scan table 4 400:400; ---scan table 4 400:400"},
		{"sorted(limited(joined(joined(joined(k, k, true), k, true), k, true), 300000000, 0), 's0')", "sort by 0 300000000:1000000000; -limit limit 300000000 offset 0 300000000:1000000000; --loop inner TRUE 500000000:1000000000; ---loop inner TRUE 16000000:32161200; ----loop inner TRUE 80000:160800; -----scan table 4 400:400; -----scan table 4 400:400; ----scan table 4 400:400; ---scan table 4 400:400"},
		{"grouped(filtered(joined(joined(joined(k, k, true), k, true), k, true), i0 < 5), 'k0')", "group keys 0 166666666:1000000000; -filter (#0 < 5) 333333333:1000000000; --project #3 #2 #1 #0 1000000000:1000000000; ---loop inner TRUE 1000000000:1000000000; ----loop inner TRUE 64000000:64161200; -----loop inner TRUE 160000:160800; ------scan table 4 400:400; ------scan table 4 400:400; -----scan table 4 400:400; ----scan table 4 400:400"},
		{"limited(sorted(joined(joined(joined(k, k, true), k, true), k, true), 's0'), 2000000000, 0)", "top by 0 limit 2000000000 offset 0 500000000:1000000000; -loop inner TRUE 500000000:1000000000; --loop inner TRUE 16000000:32161200; ---loop inner TRUE 80000:160800; ----scan table 4 400:400; ----scan table 4 400:400; ---scan table 4 400:400; --scan table 4 400:400"},
		// The product is cut off, then divided.
		{"leftjoined(joined(joined(k, k, true), k, true), joined(joined(k, k, true), k, true), i0 = i3)", "hash left on 0=0 TRUE 100000000:448322400; -project #2 #1 #0 64000000:128161200; --loop inner TRUE 64000000:64161200; ---loop inner TRUE 160000:160800; ----scan table 4 400:400; ----scan table 4 400:400; ---scan table 4 400:400; -project #2 #1 #0 64000000:128161200; --loop inner TRUE 64000000:64161200; ---loop inner TRUE 160000:160800; ----scan table 4 400:400; ----scan table 4 400:400; ---scan table 4 400:400"},
		{"leftjoined(joined(joined(k, k, true), k, true), joined(joined(k, k, true), k, true), i0 < i3)", "loop left (#0 < #3) 333333333:1000000000; -project #2 #1 #0 64000000:128161200; --loop inner TRUE 64000000:64161200; ---loop inner TRUE 160000:160800; ----scan table 4 400:400; ----scan table 4 400:400; ---scan table 4 400:400; -project #2 #1 #0 64000000:128161200; --loop inner TRUE 64000000:64161200; ---loop inner TRUE 160000:160800; ----scan table 4 400:400; ----scan table 4 400:400; ---scan table 4 400:400"},
		{"semijoined(joined(joined(k, k, true), k, true), joined(joined(k, k, true), k, true), i0 < i3)", "loop semi (#0 < #3) 32000000:1000000000; -project #2 #1 #0 64000000:128161200; --loop inner TRUE 64000000:64161200; ---loop inner TRUE 160000:160800; ----scan table 4 400:400; ----scan table 4 400:400; ---scan table 4 400:400; -project #2 #1 #0 64000000:128161200; --loop inner TRUE 64000000:64161200; ---loop inner TRUE 160000:160800; ----scan table 4 400:400; ----scan table 4 400:400; ---scan table 4 400:400"},
		// All ways cost the same: the first is taken.
		{"leftjoined(joined(joined(joined(k, k, true), k, true), k, true), k, i0 = i4)", "loop left (#0 = #4) 1000000000:1000000000; -project #3 #2 #1 #0 1000000000:1000000000; --loop inner TRUE 1000000000:1000000000; ---loop inner TRUE 64000000:64161200; ----loop inner TRUE 160000:160800; -----scan table 4 400:400; -----scan table 4 400:400; ----scan table 4 400:400; ---scan table 4 400:400; -scan table 4 400:400"},
		{"limited(joined(joined(joined(joined(k, k, true), k, true), k, true), k, i0 = i4), 9, 0)", "limit limit 9 offset 0 9:1000000000; -loop inner (#0 = #4) 100000000:1000000000; --loop inner TRUE 500000000:1000000000; ---loop inner TRUE 16000000:32161200; ----loop inner TRUE 80000:160800; -----scan table 4 400:400; -----scan table 4 400:400; ----scan table 4 400:400; ---scan table 4 400:400; --scan table 4 400:400"},
	})
}

// TestDists asks for dists by filters: 50 is that of d3 in t, 10 of what is not known, 1 of y5 in u, which has no value at all.
func TestDists(t *testing.T) {
	wantChoices(t, farmStats(), []choiceCase{
		{"filtered(t, d3 = 1.5)", "filter (#3 = 1.5) 2:200; -scan table 1 100:100"},
		{"filtered(filtered(t, b4), d3 = 1.5)", "filter (#3 = 1.5) 1:250; -filter #4 50:200; --scan table 1 100:100"},
		{"filtered(once(t), d3 = 1.5)", "filter (#3 = 1.5) 1:250; -distinct 50:200; --scan table 1 100:100"},
		{"filtered(sorted(t, 's0'), d3 = 1.5)", "filter (#3 = 1.5) 2:400; -sort by 0 100:300; --scan table 1 100:100"},
		{"filtered(limited(t, -1, 1), d3 = 1.5)", "filter (#3 = 1.5) 2:300; -limit limit -1 offset 1 100:200; --scan table 1 100:100"},
		{"filtered(limited(t, 60, 1), d3 = 1.5)", "filter (#3 = 1.5) 1:260; -limit limit 60 offset 1 60:200; --scan table 1 100:100"},
		{"filtered(limited(sorted(t, 's0'), 60, 1), d3 = 1.5)", "filter (#3 = 1.5) 1:360; -top by 0 limit 60 offset 1 60:300; --scan table 1 100:100"},
		{"filtered(projected(t, i0, d3), d1 = 1.5)", "filter (#1 = 1.5) 2:300; -project #0 #3 100:200; --scan table 1 100:100"},
		{"filtered(projected(once(projected(t, d3, i0)), d0), d0 = 1.5)", "filter (#0 = 1.5) 1:400; -project #0 50:350; --distinct 50:300; ---project #3 #0 100:200; ----scan table 1 100:100"},
		{"filtered(u, y5 = date '2020-01-01')", "filter (#5 = DATE '2020-01-01') 50:100; -scan table 3 50:50"},
		{"filtered(once(u), y5 = date '2020-01-01')", "filter (#5 = DATE '2020-01-01') 25:125; -distinct 25:100; --scan table 3 50:50"},
		// What hands no column on.
		{"filtered(projected(t, i0, coalesce(d3, d3)), d1 = 1.5)", "filter (#1 = 1.5) 10:300; -project #0 coalesce(#3, #3) 100:200; --scan table 1 100:100"},
		{"filtered(projected(t, cast(d3 as decimal)), d0 = 1.5)", "filter (#0 = 1.5) 10:300; -project CAST(#3 AS DECIMAL) 100:200; --scan table 1 100:100"},
		{"filtered(projected(t, 1.5), d0 = 1.5)", "filter (#0 = 1.5) 10:300; -project 1.5 100:200; --scan table 1 100:100"},
		{"projected(u, some(filtered(projected(t, r1.d1), d0 = 1.5)))", "project EXISTS(@3) 50:100; -scan table 3 50:50; -filter (#0 = 1.5) 10:300; --project 1#1 100:200; ---scan table 1 100:100"},
		{"filtered(grouped(t, 'k3 all'), d0 = 1.5)", "filter (#0 = 1.5) 5:250; -group keys 3 50:200; --scan table 1 100:100"},
		{"filtered(unionedall(t, t), d3 = 1.5)", "filter (#3 = 1.5) 20:600; -union all 200:400; --scan table 1 100:100; --scan table 1 100:100"},
		{"filtered(unioned(t, t), d3 = 1.5)", "filter (#3 = 1.5) 20:600; -union 200:400; --scan table 1 100:100; --scan table 1 100:100"},
		{"filtered(excepted(t, t), d3 = 1.5)", "filter (#3 = 1.5) 10:500; -except 100:400; --scan table 1 100:100; --scan table 1 100:100"},
		{"filtered(exceptedall(t, t), d3 = 1.5)", "filter (#3 = 1.5) 10:500; -except all 100:400; --scan table 1 100:100; --scan table 1 100:100"},
		{"filtered(vals('d', 1.5, 2.5, 3.5), d0 = 1.5)", "filter (#0 = 1.5) 1:6; -values 1.5 2.5 3.5 3:3"},
		{"filtered(leftjoined(t, k, i0 = i6), d3 = 1.5)", "filter (#3 = 1.5) 10:360; -hash left on 0=0 TRUE 100:260; --scan table 1 100:100; --scan table 4 20:20"},
		{"filtered(semijoined(t, k, i0 = i6), d3 = 1.5)", "filter (#3 = 1.5) 5:310; -hash semi on 0=0 TRUE 50:260; --scan table 1 100:100; --scan table 4 20:20"},
		{"filtered(antijoined(t, k, i0 = i6), d3 = 1.5)", "filter (#3 = 1.5) 5:310; -hash anti on 0=0 TRUE 50:260; --scan table 1 100:100; --scan table 4 20:20"},
		{"filtered(joined(t, k, i0 = i6), d3 = 1.5)", "filter (#3 = 1.5) 2:120; -project #1 #2 #3 #4 #5 #6 #0 20:100; --look table 1 index 0 inner #0 TRUE 20:80; ---scan table 4 20:20"},
		{"filtered(once(projected(joined(t, k, i0 = i6), d3)), d0 = 1.5)", "filter (#0 = 1.5) 1:150; -distinct 10:140; --project #3 20:120; ---project #1 #2 #3 #4 #5 #6 #0 20:100; ----look table 1 index 0 inner #0 TRUE 20:80; -----scan table 4 20:20"},
		{"leftjoined(joined(t, k, i0 = i6), t, d3 = d10)", "hash left on 3=3 TRUE 40:420; -project #1 #2 #3 #4 #5 #6 #0 20:100; --look table 1 index 0 inner #0 TRUE 20:80; ---scan table 4 20:20; -scan table 1 100:100"},
		{"leftjoined(t, joined(t, k, i0 = i6), d3 = d9)", "hash left on 3=3 TRUE 100:340; -scan table 1 100:100; -project #1 #2 #3 #4 #5 #6 #0 20:100; --look table 1 index 0 inner #0 TRUE 20:80; ---scan table 4 20:20"},
	})
}

// TestDivisors has each form of a conjunct over 50 rows.
func TestDivisors(t *testing.T) {
	wantChoices(t, farmStats(), []choiceCase{
		{"filtered(once(t), i0 = 1)", "filter (#0 = 1) 1:250; -distinct 50:200; --scan table 1 100:100"},
		{"filtered(once(t), 1 = i1)", "filter (1 = #1) 5:250; -distinct 50:200; --scan table 1 100:100"},
		{"filtered(once(t), i1 = i0)", "filter (#1 = #0) 5:250; -distinct 50:200; --scan table 1 100:100"},
		{"filtered(once(t), i0 = i1)", "filter (#0 = #1) 1:250; -distinct 50:200; --scan table 1 100:100"},
		{"filtered(once(t), coalesce(i0, 1) = i1)", "filter (coalesce(#0, 1) = #1) 5:250; -distinct 50:200; --scan table 1 100:100"},
		{"filtered(once(t), i1 = coalesce(i0, 1))", "filter (#1 = coalesce(#0, 1)) 5:250; -distinct 50:200; --scan table 1 100:100"},
		{"filtered(once(t), i1 = null)", "filter (#1 = NULL) 5:250; -distinct 50:200; --scan table 1 100:100"},
		{"filtered(once(t), 1 / i0 = i1)", "filter ((1 / #0) = #1) 5:250; -distinct 50:200; --scan table 1 100:100"},
		{"filtered(once(t), b4 = some(k))", "filter (#4 = EXISTS(@2)) 10:250; -distinct 50:200; --scan table 1 100:100; -scan table 4 20:20"},
		{"filtered(once(t), some(k) = b4)", "filter (EXISTS(@2) = #4) 10:250; -distinct 50:200; --scan table 1 100:100; -scan table 4 20:20"},
		{"projected(u, some(filtered(once(t), i1 = r1.i0)))", "project EXISTS(@3) 50:100; -scan table 3 50:50; -filter (#1 = 1#0) 5:250; --distinct 50:200; ---scan table 1 100:100"},
		{"projected(u, some(filtered(once(t), r1.i0 = i1)))", "project EXISTS(@3) 50:100; -scan table 3 50:50; -filter (1#0 = #1) 5:250; --distinct 50:200; ---scan table 1 100:100"},
		// By 3.
		{"filtered(once(t), i1 < 1)", "filter (#1 < 1) 16:250; -distinct 50:200; --scan table 1 100:100"},
		{"filtered(once(t), i1 <= 1)", "filter (#1 <= 1) 16:250; -distinct 50:200; --scan table 1 100:100"},
		{"filtered(once(t), 1 > 2)", "filter (1 > 2) 16:250; -distinct 50:200; --scan table 1 100:100"},
		{"filtered(once(t), 1 >= i1)", "filter (1 >= #1) 16:250; -distinct 50:200; --scan table 1 100:100"},
		{"filtered(once(t), i1 between 1 and 2)", "filter (#1 BETWEEN 1 AND 2) 16:250; -distinct 50:200; --scan table 1 100:100"},
		{"filtered(once(t), i1 not between 1 and 2)", "filter (#1 NOT BETWEEN 1 AND 2) 16:250; -distinct 50:200; --scan table 1 100:100"},
		// By 2.
		{"filtered(once(t), 1 = 1)", "filter (1 = 1) 25:250; -distinct 50:200; --scan table 1 100:100"},
		{"filtered(once(t), coalesce(i0, 1) = 2)", "filter (coalesce(#0, 1) = 2) 25:250; -distinct 50:200; --scan table 1 100:100"},
		{"projected(u, some(filtered(once(t), r1.i0 = 1)))", "project EXISTS(@3) 50:100; -scan table 3 50:50; -filter (1#0 = 1) 25:250; --distinct 50:200; ---scan table 1 100:100"},
		{"filtered(once(t), i1 <> 1)", "filter (#1 <> 1) 25:250; -distinct 50:200; --scan table 1 100:100"},
		{"filtered(once(t), i1 is not distinct from 1)", "filter (#1 IS 1) 25:250; -distinct 50:200; --scan table 1 100:100"},
		{"filtered(once(t), i1 is null)", "filter (#1 IS NULL) 25:250; -distinct 50:200; --scan table 1 100:100"},
		{"filtered(once(t), i1 in (1, 2))", "filter (#1 IN (1, 2)) 25:250; -distinct 50:200; --scan table 1 100:100"},
		{"filtered(once(t), not i1 = 1)", "filter (NOT (#1 = 1)) 25:250; -distinct 50:200; --scan table 1 100:100"},
		{"filtered(once(t), i1 = 1 or i1 = 2)", "filter ((#1 = 1) OR (#1 = 2)) 25:250; -distinct 50:200; --scan table 1 100:100"},
		{"filtered(once(t), t2 like 'x')", "filter (#2 LIKE 'x') 25:250; -distinct 50:200; --scan table 1 100:100"},
		{"filtered(once(t), b4)", "filter #4 25:250; -distinct 50:200; --scan table 1 100:100"},
		{"filtered(once(t), true)", "filter TRUE 25:250; -distinct 50:200; --scan table 1 100:100"},
		{"filtered(once(t), false)", "filter FALSE 25:250; -distinct 50:200; --scan table 1 100:100"},
		{"filtered(once(t), null)", "filter NULL 25:250; -distinct 50:200; --scan table 1 100:100"},
		{"filtered(once(t), some(k))", "filter EXISTS(@2) 25:250; -distinct 50:200; --scan table 1 100:100; -scan table 4 20:20"},
		{"filtered(once(t), among(i0, k))", "filter (#0 IN @2) 25:250; -distinct 50:200; --scan table 1 100:100; -scan table 4 20:20"},
		// One behind the other, not below 1.
		{"filtered(once(t), b4 and i1 < 5)", "filter (#4 AND (#1 < 5)) 8:250; -distinct 50:200; --scan table 1 100:100"},
		{"filtered(once(t), b4 and (i1 < 5 and true))", "filter (#4 AND ((#1 < 5) AND TRUE)) 4:250; -distinct 50:200; --scan table 1 100:100"},
		{"filtered(once(t), b4 and i1 < 5 and i0 = 1 and b4)", "filter (((#4 AND (#1 < 5)) AND (#0 = 1)) AND #4) 1:250; -distinct 50:200; --scan table 1 100:100"},
		{"filtered(vals('b', true), b0)", "filter #0 1:2; -values TRUE 1:1"},
		{"filtered(vals('b'), b0 and b0)", "filter (#0 AND #0) 1:1; -values 1:0"},
	})
}
