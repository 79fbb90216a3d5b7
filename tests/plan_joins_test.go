package tests

import "testing"

// TestJoinEstimates has loops: the Ests of the other ways are the same.
func TestJoinEstimates(t *testing.T) {
	wantChoices(t, farmStats(), []choiceCase{
		{"leftjoined(t, k, true)", "loop left TRUE 1000:2120; -scan table 1 100:100; -scan table 4 20:20"},
		{"leftjoined(t, k, i0 < i6)", "loop left (#0 < #6) 666:2120; -scan table 1 100:100; -scan table 4 20:20"},
		{"leftjoined(t, k, i0 < i6 and i1 < i6 and b4)", "loop left (((#0 < #6) AND (#1 < #6)) AND #4) 111:2120; -scan table 1 100:100; -scan table 4 20:20"},
		{"leftjoined(t, k, false)", "loop left FALSE 1000:2120; -scan table 1 100:100; -scan table 4 20:20"},
		{"leftjoined(k, t, b5)", "loop left #5 1000:2120; -scan table 4 20:20; -scan table 1 100:100"},
		{"semijoined(k, t, b5)", "loop semi #5 10:2120; -scan table 4 20:20; -scan table 1 100:100"},
		{"antijoined(t, k, b4)", "loop anti #4 50:2120; -scan table 1 100:100; -scan table 4 20:20"},
		{"semijoined(vals('i', 1), k, i0 < i1)", "loop semi (#0 < #1) 1:41; -values 1 1:1; -scan table 4 20:20"},
		{"limited(joined(t, k, true), 9, 0)", "limit limit 9 offset 0 9:3120; -loop inner TRUE 1000:2120; --scan table 1 100:100; --scan table 4 20:20"},
		{"limited(joined(t, k, i0 < i6), 9, 0)", "limit limit 9 offset 0 9:2786; -loop inner (#0 < #6) 666:2120; --scan table 1 100:100; --scan table 4 20:20"},
		{"limited(joined(t, k, i6 in (1, 2) and i0 between 1 and i6), 9, 0)", "limit limit 9 offset 0 9:2453; -loop inner ((#6 IN (1, 2)) AND (#0 BETWEEN 1 AND #6)) 333:2120; --scan table 1 100:100; --scan table 4 20:20"},
		// Columns of both sides divide by the greater dist, those of one side by that of the first.
		{"limited(joined(t, u, i1 / 1 = 2 and i1 = i6), 99999, 0)", "limit limit 99999 offset 0 100:5250; -loop inner (((#1 / 1) = 2) AND (#1 = #6)) 100:5150; --scan table 1 100:100; --scan table 3 50:50"},
		{"limited(joined(u, t, i0 / 1 = 2 and i0 = i7), 99999, 0)", "limit limit 99999 offset 0 100:5250; -loop inner (((#0 / 1) = 2) AND (#0 = #7)) 100:5150; --scan table 3 50:50; --scan table 1 100:100"},
		{"limited(joined(t, u, i1 / 1 = 2 and i6 = i1), 99999, 0)", "limit limit 99999 offset 0 100:5250; -loop inner (((#1 / 1) = 2) AND (#6 = #1)) 100:5150; --scan table 1 100:100; --scan table 3 50:50"},
		{"limited(joined(t, u, i1 / 1 = 2 and i1 = i0), 99999, 0)", "limit limit 99999 offset 0 250:5400; -loop inner (((#1 / 1) = 2) AND (#1 = #0)) 250:5150; --scan table 1 100:100; --scan table 3 50:50"},
		{"limited(joined(t, u, i1 / 1 = 2 and i0 = i1), 99999, 0)", "limit limit 99999 offset 0 25:5175; -loop inner (((#1 / 1) = 2) AND (#0 = #1)) 25:5150; --scan table 1 100:100; --scan table 3 50:50"},
		{"limited(joined(t, u, i1 / 1 = 2 and i6 = i9), 99999, 0)", "limit limit 99999 offset 0 100:5250; -loop inner (((#1 / 1) = 2) AND (#6 = #9)) 100:5150; --scan table 1 100:100; --scan table 3 50:50"},
		{"limited(joined(t, u, i1 / 1 = 2 and i1 = 5), 99999, 0)", "limit limit 99999 offset 0 250:5400; -loop inner (((#1 / 1) = 2) AND (#1 = 5)) 250:5150; --scan table 1 100:100; --scan table 3 50:50"},
		{"limited(joined(t, u, i1 / 1 = 2 and 5 = i6), 99999, 0)", "limit limit 99999 offset 0 100:5250; -loop inner (((#1 / 1) = 2) AND (5 = #6)) 100:5150; --scan table 1 100:100; --scan table 3 50:50"},
		{"limited(joined(t, u, i1 / 1 = 2 and i6 = coalesce(i0, 1)), 99999, 0)", "limit limit 99999 offset 0 100:5250; -loop inner (((#1 / 1) = 2) AND (#6 = coalesce(#0, 1))) 100:5150; --scan table 1 100:100; --scan table 3 50:50"},
		{"limited(joined(t, u, i1 / 1 = 2 and d3 = i6), 99999, 0)", "limit limit 99999 offset 0 50:5200; -loop inner (((#1 / 1) = 2) AND (#3 = #6)) 50:5150; --scan table 1 100:100; --scan table 3 50:50"},
		{"limited(joined(t, u, i1 / 1 = 2 and b10 = some(k)), 99999, 0)", "limit limit 99999 offset 0 1250:6400; -loop inner (((#1 / 1) = 2) AND (#10 = EXISTS(@2))) 1250:5150; --scan table 1 100:100; --scan table 3 50:50; --scan table 4 20:20"},
		// Not below L's.
		{"leftjoined(k, k, i0 = i1 and i0 = 2 and i1 = 2 and i0 < 5)", "hash left on 0=0 (((#0 = 2) AND (#1 = 2)) AND (#0 < 5)) 20:100; -scan table 4 20:20; -scan table 4 20:20"},
		{"leftjoined(k, k, i0 < i1 and i0 < 2)", "loop left ((#0 < #1) AND (#0 < 2)) 44:440; -scan table 4 20:20; -scan table 4 20:20"},
	})
}

func TestHashes(t *testing.T) {
	wantChoices(t, farmStats(), []choiceCase{
		{"leftjoined(t, u, i0 = i6)", "hash left on 0=0 TRUE 100:350; -scan table 1 100:100; -scan table 3 50:50"},
		{"leftjoined(t, u, i6 = i0)", "hash left on 0=0 TRUE 100:350; -scan table 1 100:100; -scan table 3 50:50"},
		{"semijoined(t, u, i0 = i6)", "hash semi on 0=0 TRUE 50:350; -scan table 1 100:100; -scan table 3 50:50"},
		{"antijoined(t, u, i0 = i6)", "hash anti on 0=0 TRUE 50:350; -scan table 1 100:100; -scan table 3 50:50"},
		{"limited(joined(t, u, i0 = i6), 9, 0)", "limit limit 9 offset 0 9:400; -hash inner on 0=0 TRUE 50:350; --scan table 1 100:100; --scan table 3 50:50"},
		// All such conjuncts, in their order; the others are the condition.
		{"leftjoined(t, u, i0 = i6 and d3 = d7 and b4)", "hash left on 0=0 on 3=1 #4 100:350; -scan table 1 100:100; -scan table 3 50:50"},
		{"leftjoined(t, u, b4 and d7 = d3 and i0 < i6 and i6 = i1 and i0 = i6)", "hash left on 3=1 on 1=0 on 0=0 (#4 AND (#0 < #6)) 100:350; -scan table 1 100:100; -scan table 3 50:50"},
		{"leftjoined(t, u, i0 = i6 and true)", "hash left on 0=0 TRUE 100:350; -scan table 1 100:100; -scan table 3 50:50"},
		{"leftjoined(t, u, null and i0 = i6)", "hash left on 0=0 CAST(NULL AS BOOLEAN) 100:350; -scan table 1 100:100; -scan table 3 50:50"},
		{"leftjoined(t, u, some(k) and i0 = i6 and (b4 and true))", "hash left on 0=0 ((EXISTS(@2) AND #4) AND TRUE) 100:350; -scan table 1 100:100; -scan table 3 50:50; -scan table 4 20:20"},
		{"leftjoined(t, u, i0 = i6 and i0 = i6)", "hash left on 0=0 on 0=0 TRUE 100:350; -scan table 1 100:100; -scan table 3 50:50"},
		// No such conjuncts: another kind, the kind Null, columns of one side, of other rows, in expressions.
		{"leftjoined(t, u, d3 = i6)", "loop left (#3 = #6) 100:5150; -scan table 1 100:100; -scan table 3 50:50"},
		{"leftjoined(t, vals('n', null), n6 = i0)", "loop left (#6 = #0) 100:201; -scan table 1 100:100; -values NULL 1:1"},
		{"leftjoined(vals('n', null, null, null, null), vals('n', null, null, null, null), n0 = n1)", "loop left (#0 = #1) 4:24; -values NULL NULL NULL NULL 4:4; -values NULL NULL NULL NULL 4:4"},
		{"leftjoined(t, u, i0 = i1)", "loop left (#0 = #1) 100:5150; -scan table 1 100:100; -scan table 3 50:50"},
		{"leftjoined(t, u, i6 = i9)", "loop left (#6 = #9) 200:5150; -scan table 1 100:100; -scan table 3 50:50"},
		{"leftjoined(t, u, i0 = i6 or i1 = i6)", "loop left ((#0 = #6) OR (#1 = #6)) 2500:5150; -scan table 1 100:100; -scan table 3 50:50"},
		{"leftjoined(t, u, i0 is not distinct from i6)", "loop left (#0 IS #6) 2500:5150; -scan table 1 100:100; -scan table 3 50:50"},
		{"leftjoined(t, u, coalesce(i0, 1) = i6)", "look table 3 index 7 left coalesce(#0, 1) TRUE 200:500; -scan table 1 100:100"},
		{"projected(k, some(leftjoined(t, u, i0 = r1.i0)))", "project EXISTS(@3) 20:40; -scan table 4 20:20; -loop left (#0 = 1#0) 100:5150; --scan table 1 100:100; --scan table 3 50:50"},
		{"projected(k, some(leftjoined(t, u, i0 = r1.i0 and i1 = i6)))", "project EXISTS(@3) 20:40; -scan table 4 20:20; -hash left on 1=0 (#0 = 1#0) 100:350; --scan table 1 100:100; --scan table 3 50:50"},
		// Not safe.
		{"leftjoined(t, u, i0 = i6 and 1 / i0 = 1)", "loop left ((#0 = #6) AND ((1 / #0) = 1)) 100:5150; -scan table 1 100:100; -scan table 3 50:50"},
		{"semijoined(t, u, i0 = i6 and i0 = one(limited(k, 1, 0)))", "loop semi ((#0 = #6) AND (#0 = (@3))) 50:5150; -scan table 1 100:100; -scan table 3 50:50; -limit limit 1 offset 0 1:40; --scan table 4 20:20"},
		{"antijoined(t, u, i0 = i6 and some(projected(k, 1 / i0)))", "loop anti ((#0 = #6) AND EXISTS(@3)) 50:5150; -scan table 1 100:100; -scan table 3 50:50; -project (1 / #0) 20:40; --scan table 4 20:20"},
		// Sides may be what is not safe.
		{"leftjoined(projected(t, 1 / i0), projected(u, 1 / i0), i0 = i1)", "hash left on 0=0 TRUE 500:500; -project (1 / #0) 100:200; --scan table 1 100:100; -project (1 / #0) 50:100; --scan table 3 50:50"},
	})
}

func TestLooks(t *testing.T) {
	wantChoices(t, farmStats(), []choiceCase{
		{"leftjoined(k, t, i0 = i1)", "look table 1 index 0 left #0 TRUE 20:80; -scan table 4 20:20"},
		{"leftjoined(k, t, i1 = i0)", "look table 1 index 0 left #0 TRUE 20:80; -scan table 4 20:20"},
		{"semijoined(k, t, i0 = i1)", "look table 1 index 0 semi #0 TRUE 10:80; -scan table 4 20:20"},
		{"antijoined(k, t, i1 = i0 and i2 = 5)", "look table 1 index 0 anti #0 (#2 = 5) 10:80; -scan table 4 20:20"},
		{"limited(joined(k, t, i0 = i1), 9, 0)", "limit limit 9 offset 0 9:100; -look table 1 index 0 inner #0 TRUE 20:80; --scan table 4 20:20"},
		// The PFilter's conditions stand behind the others.
		{"semijoined(k, filtered(t, b4 and d3 = 2.5), i1 = i0)", "look table 1 index 0 semi #0 (#5 AND (#4 = 2.5)) 10:80; -scan table 4 20:20"},
		{"leftjoined(k, filtered(t, b4), i1 = i0 and t3 = 'x')", "look table 1 index 0 left #0 ((#3 = 'x') AND #5) 20:80; -scan table 4 20:20"},
		{"antijoined(k, filtered(t, b4 and (true and d3 = 7.5)), i1 = i0 and true)", "look table 1 index 0 anti #0 (((TRUE AND #5) AND TRUE) AND (#4 = 7.5)) 10:80; -scan table 4 20:20"},
		{"semijoined(k, filtered(t, null), i0 = i1)", "look table 1 index 0 semi #0 CAST(NULL AS BOOLEAN) 10:80; -scan table 4 20:20"},
		{"projected(u, some(leftjoined(k, filtered(t, d3 = r1.d1), i1 = i0)))", "project EXISTS(@2) 50:100; -scan table 3 50:50; -look table 1 index 0 left #0 (#4 = 1#1) 20:80; --scan table 4 20:20"},
		// Where R is found more cheaply by itself.
		{"leftjoined(k, filtered(t, i0 = 5), i1 = i0)", "loop left (#1 = #0) 20:43; -scan table 4 20:20; -seek table 1 index 0 [=] 5 1:3"},
		{"semijoined(k, filtered(t, b4 and i1 = 2), i1 = i0)", "hash semi on 0=0 TRUE 10:72; -scan table 4 20:20; -filter #4 5:22; --seek table 1 index 8 [=] 2 10:12"},
		// What R may not be.
		{"leftjoined(vals('i', 1), filtered(t, some(k)), i1 = i0)", "loop left (#1 = #0) 1:251; -values 1 1:1; -filter EXISTS(@2) 50:200; --scan table 1 100:100; --scan table 4 20:20"},
		{"leftjoined(vals('i', 1), filtered(t, b4 and some(k)), i1 = i0)", "loop left (#1 = #0) 1:226; -values 1 1:1; -filter (#4 AND EXISTS(@2)) 25:200; --scan table 1 100:100; --scan table 4 20:20"},
		{"leftjoined(vals('i', 1), filtered(t, 1 / i0 = 1), i1 = i0)", "loop left (#1 = #0) 1:251; -values 1 1:1; -filter ((1 / #0) = 1) 50:200; --scan table 1 100:100"},
		{"leftjoined(vals('i', 1), filtered(filtered(t, b4), b4), i1 = i0)", "loop left (#1 = #0) 1:276; -values 1 1:1; -filter #4 25:250; --filter #4 50:200; ---scan table 1 100:100"},
		{"leftjoined(vals('i', 1), once(t), i1 = i0)", "loop left (#1 = #0) 1:251; -values 1 1:1; -distinct 50:200; --scan table 1 100:100"},
		{"leftjoined(vals('i', 1), projected(t, i0), i1 = i0)", "loop left (#1 = #0) 1:301; -values 1 1:1; -project #0 100:200; --scan table 1 100:100"},
		{"leftjoined(vals('i', 1), vals('i', 1), i1 = i0)", "loop left (#1 = #0) 1:3; -values 1 1:1; -values 1 1:1"},
		// Expressions of L's columns, of other rows, of none.
		{"leftjoined(vals('i', 1), t, i1 = coalesce(i0, 7))", "look table 1 index 0 left coalesce(#0, 7) TRUE 1:4; -values 1 1:1"},
		{"leftjoined(vals('i', 1), t, i1 = 7)", "look table 1 index 0 left 7 TRUE 1:4; -values 1 1:1"},
		{"leftjoined(vals('i', 1), t, cast(null as int) = i1)", "look table 1 index 0 left CAST(NULL AS INT) TRUE 1:4; -values 1 1:1"},
		{"projected(k, some(semijoined(vals('i', 1), t, i1 = r1.i0)))", "project EXISTS(@2) 20:40; -scan table 4 20:20; -look table 1 index 0 semi 1#0 TRUE 1:4; --values 1 1:1"},
		// None: columns of R, another kind, plans, what is not equal.
		{"leftjoined(vals('i', 1), t, i1 = coalesce(i0, i2))", "loop left (#1 = coalesce(#0, #2)) 1:201; -values 1 1:1; -scan table 1 100:100"},
		{"leftjoined(vals('i', 1), t, i1 = i2)", "loop left (#1 = #2) 1:201; -values 1 1:1; -scan table 1 100:100"},
		{"leftjoined(vals('d', 1.5), t, i1 = d0)", "loop left (#1 = #0) 1:201; -values 1.5 1:1; -scan table 1 100:100"},
		{"leftjoined(vals('n', null), t, i1 = n0)", "loop left (#1 = #0) 1:201; -values NULL 1:1; -scan table 1 100:100"},
		{"leftjoined(vals('i', 1), t, i1 <= i0)", "loop left (#1 <= #0) 33:201; -values 1 1:1; -scan table 1 100:100"},
		{"leftjoined(vals('i', 1), t, i1 is not distinct from i0)", "loop left (#1 IS #0) 50:201; -values 1 1:1; -scan table 1 100:100"},
		{"leftjoined(vals('b', true), u, i4 = 5 and b5 = some(k))", "look table 3 index 6 left 5 (#5 = EXISTS(@1)) 1:4; -values TRUE 1:1; -scan table 4 20:20"},
		// A condition with a plan may stand beside it, one that is not safe may not.
		{"leftjoined(vals('i', 1), t, i1 = i0 and some(k))", "look table 1 index 0 left #0 EXISTS(@1) 1:4; -values 1 1:1; -scan table 4 20:20"},
		{"leftjoined(vals('i', 1), t, i1 = i0 and 1 / i0 = 1)", "loop left ((#1 = #0) AND ((1 / #0) = 1)) 1:201; -values 1 1:1; -scan table 1 100:100"},
		{"leftjoined(vals('i', 1), t, i1 = 1 + i0)", "loop left (#1 = (1 + #0)) 1:201; -values 1 1:1; -scan table 1 100:100"},
		// The first conjunct for each column.
		{"leftjoined(vals('ii', 1, 2), t, b6 and i1 = i2 and i0 = i2)", "look table 1 index 0 left #1 (#6 AND (#0 = #2)) 1:4; -values 1 2 1:1"},
		{"leftjoined(vals('ii', 1, 2), t, d5 = i2 and i2 = coalesce(i3, 1) and 7 = i2 and i0 = i2)", "look table 1 index 0 left 7 (((#5 = #2) AND (#2 = coalesce(#3, 1))) AND (#0 = #2)) 1:4; -values 1 2 1:1"},
		// The key with the most columns, the first of those.
		{"leftjoined(vals('it', 1, 'x'), t, i0 = i3 and t1 = t4)", "look table 1 index 8 left #0 #1 TRUE 1:4; -values 1 'x' 1:1"},
		{"leftjoined(vals('it', 1, 'x'), t, t1 = t4 and i0 = i3)", "look table 1 index 8 left #0 #1 TRUE 1:4; -values 1 'x' 1:1"},
		{"leftjoined(vals('it', 1, 'x'), t, t1 = t4 and i0 = i2)", "look table 1 index 0 left #0 (#1 = #4) 1:4; -values 1 'x' 1:1"},
		{"leftjoined(vals('it', 1, 'x'), t, t1 = t4 and i0 = i2 and i0 = i3)", "look table 1 index 8 left #0 #1 (#0 = #2) 1:4; -values 1 'x' 1:1"},
		{"leftjoined(vals('it', 1, 'x'), t, y7 = date '2020-01-01' and i0 = i3 and t1 = t4)", "look table 1 index 8 left #0 #1 (#7 = DATE '2020-01-01') 1:4; -values 1 'x' 1:1"},
		{"leftjoined(vals('it', 1, 'x'), t, y7 = date '2020-01-01' and i3 = 5 and i2 = i0 and i2 = 4)", "look table 1 index 13 left DATE '2020-01-01' 5 #0 (#2 = 4) 1:4; -values 1 'x' 1:1"},
		{"leftjoined(vals('it', 1, 'x'), u, i0 = i2)", "look table 3 index 7 left #0 TRUE 2:5; -values 1 'x' 1:1"},
		{"leftjoined(vals('it', 1, 'x'), u, i0 = i2 and i5 = 5)", "look table 3 index 10 left #0 5 TRUE 1:4; -values 1 'x' 1:1"},
		{"leftjoined(vals('it', 1, 'x'), u, i0 = i2 and b6 = true)", "look table 3 index 7 left #0 (#6 = TRUE) 1:5; -values 1 'x' 1:1"},
		{"leftjoined(vals('it', 1, 'x'), p, i0 = i3)", "look table 5 index 0 left #0 TRUE 2:5; -values 1 'x' 1:1"},
		{"leftjoined(vals('it', 1, 'x'), p, t1 = t2)", "loop left (#1 = #2) 5:401; -values 1 'x' 1:1; -scan table 5 200:200"},
		{"leftjoined(vals('it', 1, 'x'), p, t1 = t2 and i0 = i3 and i0 = i4)", "look table 5 index 0 left #0 #1 (#0 = #4) 1:4; -values 1 'x' 1:1"},
		// Its cost, in which the dists count one behind the other.
		{"leftjoined(vals('i', 1, 2, 3), p, i0 = i2)", "look table 5 index 0 left #0 TRUE 6:15; -values 1 2 3 3:3"},
		{"leftjoined(vals('i', 1, 2, 3), t, i0 = i2)", "look table 1 index 8 left #0 TRUE 30:39; -values 1 2 3 3:3"},
		{"leftjoined(vals('it', 1, 'x', 2, 'y'), t, y7 = date '2020-01-01' and i0 = i3)", "look table 1 index 13 left DATE '2020-01-01' #0 TRUE 2:8; -values 1 'x' 2 'y' 2:2"},
	})
}

func TestMerges(t *testing.T) {
	wantChoices(t, farmStats(), []choiceCase{
		{"joined(projected(t, 1 / i0, d3), u, d1 = d3)", "merge inner on 1=1 TRUE 100:432; -project (1 / #0) #3 100:200; --scan table 1 100:100; -scan table 3 50:50"},
		{"joined(projected(t, 1 / i0, d3), u, i0 < i2 and d1 = d3 and some(k) and i2 = i0)", "merge inner on 1=1 on 0=0 ((#0 < #2) AND EXISTS(@3)) 1:432; -project (1 / #0) #3 100:200; --scan table 1 100:100; -scan table 3 50:50; -scan table 4 20:20"},
		// Not where order is kept, for no other join, not without equal columns, and not where the node isn't safe.
		{"limited(joined(projected(t, 1 / i0, d3), u, d1 = d3), 9, 0)", "limit limit 9 offset 0 9:550; -hash inner on 1=1 TRUE 100:450; --project (1 / #0) #3 100:200; ---scan table 1 100:100; --scan table 3 50:50"},
		{"leftjoined(t, u, d3 = d7)", "hash left on 3=1 TRUE 100:350; -scan table 1 100:100; -scan table 3 50:50"},
		{"semijoined(t, u, d3 = d7)", "hash semi on 3=1 TRUE 50:350; -scan table 1 100:100; -scan table 3 50:50"},
		{"antijoined(t, u, d3 = d7)", "hash anti on 3=1 TRUE 50:350; -scan table 1 100:100; -scan table 3 50:50"},
		{"joined(projected(t, 1 / i0, d3), u, d1 = i2)", "loop inner (#1 = #2) 100:5250; -project (1 / #0) #3 100:200; --scan table 1 100:100; -scan table 3 50:50"},
		{"joined(t, u, d3 = d7 and 1 / i0 = 1)", "loop inner ((#3 = #7) AND ((1 / #0) = 1)) 50:5150; -scan table 1 100:100; -scan table 3 50:50"},
	})
}

// TestLoopAndHashAreEqual has 3 times 3, and 4 times 2: the loop is the first.
func TestLoopAndHashAreEqual(t *testing.T) {
	wantChoices(t, farmStats(), []choiceCase{
		{"leftjoined(vals('i', 1, 2, 3), vals('i', 1, 2, 3), i0 = i1)", "loop left (#0 = #1) 3:15; -values 1 2 3 3:3; -values 1 2 3 3:3"},
		{"leftjoined(vals('i', 1, 2, 3, 4), vals('i', 1, 2), i0 = i1)", "loop left (#0 = #1) 4:14; -values 1 2 3 4 4:4; -values 1 2 2:2"},
		{"leftjoined(vals('i', 1, 2, 3), vals('i', 1, 2, 3, 4), i0 = i1)", "hash left on 0=0 TRUE 3:18; -values 1 2 3 3:3; -values 1 2 3 4 4:4"},
	})
}

func TestLoopAndLookAreEqual(t *testing.T) {
	wantChoices(t, evenStats(farm(t), 2, 1), []choiceCase{
		{"leftjoined(vals('i', 1), t, i0 = i1)", "loop left (#0 = #1) 1:5; -values 1 1:1; -scan table 1 2:2"},
		{"leftjoined(vals('i', 1, 2), t, i0 = i2)", "loop left (#0 = #2) 2:8; -values 1 2 2:2; -scan table 1 2:2"},
	})
}

func TestLookIsCheaperThanLoop(t *testing.T) {
	wantChoices(t, evenStats(farm(t), 2, 2), []choiceCase{
		{"leftjoined(vals('i', 1), t, i0 = i1)", "look table 1 index 0 left #0 TRUE 1:4; -values 1 1:1"},
	})
}

func TestHashAndLookAreEqual(t *testing.T) {
	wantChoices(t, evenStats(farm(t), 100, 50), []choiceCase{
		{"leftjoined(u, t, i0 = i6)", "hash left on 0=0 TRUE 200:500; -scan table 3 100:100; -scan table 1 100:100"},
	})
}

func TestLookIsCheaperThanHash(t *testing.T) {
	wantChoices(t, evenStats(farm(t), 100, 51), []choiceCase{
		{"leftjoined(u, t, i0 = i6)", "look table 1 index 0 left #0 TRUE 196:400; -scan table 3 100:100"},
	})
}

func TestHashAndMergeAreEqual(t *testing.T) {
	wantChoices(t, evenStats(farm(t), 32, 32), []choiceCase{
		{"joined(t, u, d3 = d7)", "project #6 #7 #8 #9 #10 #11 #0 #1 #2 #3 #4 #5 32:192; -hash inner on 1=3 TRUE 32:160; --scan table 3 32:32; --scan table 1 32:32"},
		{"joined(projected(t, 1 / i0, d3), u, d1 = d3)", "hash inner on 1=1 TRUE 32:192; -project (1 / #0) #3 32:64; --scan table 1 32:32; -scan table 3 32:32"},
	})
}

func TestMergeIsCheaperThanHash(t *testing.T) {
	wantChoices(t, evenStats(farm(t), 33, 33), []choiceCase{
		{"joined(t, u, d3 = d7)", "project #6 #7 #8 #9 #10 #11 #0 #1 #2 #3 #4 #5 33:197; -merge inner on 1=3 TRUE 33:164; --scan table 3 33:33; --scan table 1 33:33"},
		{"joined(projected(t, 1 / i0, d3), u, d1 = d3)", "merge inner on 1=1 TRUE 33:197; -project (1 / #0) #3 33:66; --scan table 1 33:33; -scan table 3 33:33"},
	})
}

func TestLookAndMergeAreEqual(t *testing.T) {
	wantChoices(t, fourStats(farm(t), [2]int{34, 34}, [2]int{0, 0}, [2]int{50, 1}, [2]int{0, 0}), []choiceCase{
		{"joined(projected(k, i0, 1 + i0), t, i0 = i2)", "look table 1 index 0 inner #0 TRUE 50:250; -project #0 (1 + #0) 50:100; --scan table 4 50:50"},
	})
}

func TestMergeIsCheaperThanLook(t *testing.T) {
	wantChoices(t, fourStats(farm(t), [2]int{34, 34}, [2]int{0, 0}, [2]int{51, 1}, [2]int{0, 0}), []choiceCase{
		{"joined(projected(k, i0, 1 + i0), t, i0 = i2)", "merge inner on 0=0 TRUE 51:253; -project #0 (1 + #0) 51:102; --scan table 4 51:51; -scan table 1 34:34"},
	})
}
