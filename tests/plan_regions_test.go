package tests

import "testing"

func TestRegionsOfTwo(t *testing.T) {
	wantChoices(t, farmStats(), []choiceCase{
		{"joined(k, t, i0 = i1)", "look table 1 index 0 inner #0 TRUE 20:80; -scan table 4 20:20"},
		{"joined(t, k, i0 = i6)", "project #1 #2 #3 #4 #5 #6 #0 20:100; -look table 1 index 0 inner #0 TRUE 20:80; --scan table 4 20:20"},
		{"joined(k, k, i0 = i1)", "project #1 #0 100:200; -hash inner on 0=0 TRUE 100:100; --scan table 4 20:20; --scan table 4 20:20"},
		{"joined(t, u, d3 = d7)", "project #6 #7 #8 #9 #10 #11 #0 #1 #2 #3 #4 #5 100:432; -merge inner on 1=3 TRUE 100:332; --scan table 3 50:50; --scan table 1 100:100"},
		{"joined(filtered(t, i0 = 5), filtered(u, b4), i0 = i6)", "look table 3 index 7 inner #0 #10 1:7; -seek table 1 index 0 [=] 5 1:3"},
		{"joined(once(t), once(u), i0 = i6)", "hash inner on 0=0 TRUE 12:400; -distinct 50:200; --scan table 1 100:100; -distinct 25:100; --scan table 3 50:50"},
		{"joined(u, filtered(t, b4 and some(k)), i0 = i6)", "project #6 #7 #8 #9 #10 #11 #0 #1 #2 #3 #4 #5 12:312; -look table 3 index 7 inner #0 TRUE 12:300; --filter (#4 AND EXISTS(@1)) 25:200; ---scan table 1 100:100; ---scan table 4 20:20"},
		{"joined(filtered(t, b4 and some(k)), u, i0 = i6)", "look table 3 index 7 inner #0 TRUE 12:300; -filter (#4 AND EXISTS(@1)) 25:200; --scan table 1 100:100; --scan table 4 20:20"},
		// Conditions of one side are asked, too, where the two are joined; those that are true are none.
		{"joined(k, k, i0 = 3)", "project #1 #0 100:260; -look table 4 index 12 inner 3 TRUE 100:160; --scan table 4 20:20"},
		{"joined(k, k, i1 = 3)", "look table 4 index 12 inner 3 TRUE 100:160; -scan table 4 20:20"},
		{"joined(k, k, true)", "project #1 #0 400:840; -loop inner TRUE 400:440; --scan table 4 20:20; --scan table 4 20:20"},
		{"joined(k, k, i0 = i1 and true)", "project #1 #0 100:200; -hash inner on 0=0 TRUE 100:100; --scan table 4 20:20; --scan table 4 20:20"},
		{"joined(k, k, true and (i0 = i1 and i0 = 3))", "project #1 #0 25:125; -hash inner on 0=0 (#1 = 3) 25:100; --scan table 4 20:20; --scan table 4 20:20"},
		{"joined(k, k, i0 = 3 and i1 = 4)", "project #1 #0 25:185; -look table 4 index 12 inner 3 (#0 = 4) 25:160; --scan table 4 20:20"},
		{"joined(k, k, false)", "project #1 #0 200:640; -loop inner FALSE 200:440; --scan table 4 20:20; --scan table 4 20:20"},
		{"joined(k, k, null)", "project #1 #0 200:640; -loop inner CAST(NULL AS BOOLEAN) 200:440; --scan table 4 20:20; --scan table 4 20:20"},
		{"joined(k, k, i0 < i1 and null)", "project #1 #0 66:506; -loop inner ((#1 < #0) AND NULL) 66:440; --scan table 4 20:20; --scan table 4 20:20"},
		// Of equally cheap ways that is the first which has the first leaf on its right.
		{"joined(k, vals('i', 1), true)", "project #1 #0 20:61; -loop inner TRUE 20:41; --values 1 1:1; --scan table 4 20:20"},
		{"joined(vals('i', 1), k, true)", "project #1 #0 20:61; -loop inner TRUE 20:41; --scan table 4 20:20; --values 1 1:1"},
		// Columns that stand in their order anyway.
		{"joined(vals('', null), k, true)", "loop inner TRUE 20:41; -scan table 4 20:20; -values 1:1"},
		{"joined(k, vals('', null), true)", "loop inner TRUE 20:41; -values 1:1; -scan table 4 20:20"},
		{"joined(vals('', null), vals('', null), true)", "loop inner TRUE 1:3; -values 1:1; -values 1:1"},
		// What a leaf may be.
		{"joined(leftjoined(t, u, i0 = i6), k, i0 = i12)", "hash inner on 0=0 TRUE 200:510; -hash left on 0=0 TRUE 100:350; --scan table 1 100:100; --scan table 3 50:50; -scan table 4 20:20"},
		{"joined(grouped(t, 'k0 max(1)'), k, i0 = i2)", "hash inner on 0=0 TRUE 100:310; -group keys 0 50:200; --scan table 1 100:100; -scan table 4 20:20"},
		{"joined(limited(joined(t, u, d3 = d7), 3, 0), k, i0 = i12)", "look table 4 index 12 inner #0 TRUE 6:471; -limit limit 3 offset 0 3:450; --hash inner on 3=1 TRUE 100:350; ---scan table 1 100:100; ---scan table 3 50:50"},
		{"joined(semijoined(t, u, i0 = i6), once(joined(k, k, true)), i0 = i6)", "project #2 #3 #4 #5 #6 #7 #0 #1 1000:2872; -merge inner on 0=0 TRUE 1000:1872; --distinct 200:1240; ---project #1 #0 400:840; ----loop inner TRUE 400:440; -----scan table 4 20:20; -----scan table 4 20:20; --hash semi on 0=0 TRUE 50:350; ---scan table 1 100:100; ---scan table 3 50:50"},
	})
}

func TestRegionsThatAreNotPlain(t *testing.T) {
	wantChoices(t, farmStats(), []choiceCase{
		{"joined(k, k, some(t))", "filter EXISTS(@4) 200:1240; -project #1 #0 400:840; --loop inner TRUE 400:440; ---scan table 4 20:20; ---scan table 4 20:20; -scan table 1 100:100"},
		{"joined(k, k, i0 = i1 and some(t))", "filter EXISTS(@4) 50:300; -project #1 #0 100:200; --hash inner on 0=0 TRUE 100:100; ---scan table 4 20:20; ---scan table 4 20:20; -scan table 1 100:100"},
		{"joined(k, k, some(t) and i0 = i1 and notamong(i1, k))", "filter (EXISTS(@4) AND (#1 NOT IN @5)) 25:300; -project #1 #0 100:200; --hash inner on 0=0 TRUE 100:100; ---scan table 4 20:20; ---scan table 4 20:20; -scan table 1 100:100; -scan table 4 20:20"},
		{"joined(k, t, b5 = some(u) and i0 = i1)", "filter (#5 = EXISTS(@2)) 4:100; -look table 1 index 0 inner #0 TRUE 20:80; --scan table 4 20:20; -scan table 3 50:50"},
		{"joined(t, k, i0 = i6 and b4 = some(u))", "filter (#4 = EXISTS(@3)) 4:120; -project #1 #2 #3 #4 #5 #6 #0 20:100; --look table 1 index 0 inner #0 TRUE 20:80; ---scan table 4 20:20; -scan table 3 50:50"},
		{"joined(t, k, some(u) = b4)", "filter (EXISTS(@4) = #4) 400:6120; -project #1 #2 #3 #4 #5 #6 #0 2000:4120; --loop inner TRUE 2000:2120; ---scan table 4 20:20; ---scan table 1 100:100; -scan table 3 50:50"},
		// What the plans see is at its old place.
		{"joined(t, k, i0 = i6 and some(filtered(u, i0 = r1.i6)))", "filter EXISTS(@3) 10:120; -project #1 #2 #3 #4 #5 #6 #0 20:100; --look table 1 index 0 inner #0 TRUE 20:80; ---scan table 4 20:20; -seek table 3 index 7 [=] 1#6 2:4"},
		{"joined(k, joined(k, t, i0 = i1 and some(filtered(u, i0 = r1.i1))), i0 = i2)", "filter EXISTS(@5) 2:168; -project #7 #0 #1 #2 #3 #4 #5 #6 4:164; --hash inner on 1=0 TRUE 4:160; ---look table 1 index 0 inner #0 TRUE 20:80; ----scan table 4 20:20; ---scan table 4 20:20; -seek table 3 index 7 [=] 1#2 2:4"},
		{"joined(k, joined(t, k, i0 = i6 and some(filtered(u, i0 = r1.i6 and among(r1.i0, filtered(k, i0 = r2.i1))))), i0 = i7)", "filter EXISTS(@7) 50:360; -project #7 #1 #2 #3 #4 #5 #6 #0 100:260; --hash inner on 0=0 TRUE 100:160; ---look table 1 index 0 inner #0 TRUE 20:80; ----scan table 4 20:20; ---scan table 4 20:20; -filter (1#1 IN @6) 1:6; --seek table 3 index 7 [=] 1#7 2:4; --seek table 4 index 12 [=] 2#2 5:7"},
		{"projected(p, some(joined(k, joined(t, k, i0 = i6 and some(filtered(u, i0 = r1.i6 and i3 = r2.i1))), i0 = r1.i2)))", "project EXISTS(@7) 200:400; -scan table 5 200:200; -filter EXISTS(@6) 50:420; --project #7 #1 #2 #3 #4 #5 #6 #0 100:320; ---look table 4 index 12 inner 1#2 TRUE 100:220; ----look table 1 index 0 inner #0 TRUE 20:80; -----scan table 4 20:20; --filter (#0 = 1#7) 1:4; ---seek table 3 index 6 [=] 2#1 1:3"},
		// Those of L, those of R, its own.
		{"joined(joined(k, k, some(u)), joined(k, k, notamong(i0, k)), some(t) and i0 = i3)", "filter ((EXISTS(@8) AND (#2 NOT IN @9)) AND EXISTS(@10)) 5000:96520; -project #3 #2 #1 #0 40000:56520; --hash inner on 0=0 TRUE 40000:16520; ---loop inner TRUE 8000:8460; ----loop inner TRUE 400:440; -----scan table 4 20:20; -----scan table 4 20:20; ----scan table 4 20:20; ---scan table 4 20:20; -scan table 3 50:50; -scan table 4 20:20; -scan table 1 100:100"},
	})
}

func TestRegionsOfMore(t *testing.T) {
	wantChoices(t, farmStats(), []choiceCase{
		{"joined(joined(k, k, i0 = i1), k, i1 = i2)", "project #2 #1 #0 500:760; -hash inner on 1=0 TRUE 500:260; --hash inner on 0=0 TRUE 100:100; ---scan table 4 20:20; ---scan table 4 20:20; --scan table 4 20:20"},
		{"joined(k, joined(k, k, i0 = i1), i0 = i2)", "project #2 #1 #0 500:760; -hash inner on 0=0 TRUE 500:260; --hash inner on 0=0 TRUE 100:100; ---scan table 4 20:20; ---scan table 4 20:20; --scan table 4 20:20"},
		{"joined(joined(joined(k, k, i0 = i1), k, i1 = i2), t, i2 = i3)", "project #8 #7 #0 #1 #2 #3 #4 #5 #6 500:820; -hash inner on 7=0 TRUE 500:320; --hash inner on 0=0 TRUE 100:160; ---look table 1 index 0 inner #0 TRUE 20:80; ----scan table 4 20:20; ---scan table 4 20:20; --scan table 4 20:20"},
		{"joined(joined(joined(k, t, i0 = i1), k, i1 = i7), t, i7 = i8)", "project #7 #1 #2 #3 #4 #5 #6 #0 #8 #9 #10 #11 #12 #13 4:176; -look table 1 index 0 inner #0 TRUE 4:172; --hash inner on 1=0 TRUE 4:160; ---look table 1 index 0 inner #0 TRUE 20:80; ----scan table 4 20:20; ---scan table 4 20:20"},
		{"joined(joined(t, u, i0 = i9), p, i6 = i13 and t2 = t12)", "project #6 #7 #8 #9 #10 #11 #0 #1 #2 #3 #4 #5 #12 #13 #14 #15 2:352; -look table 5 index 0 inner #0 #8 TRUE 2:350; --look table 1 index 0 inner #3 TRUE 50:200; ---scan table 3 50:50"},
		{"joined(joined(t, p, i0 = i7), u, i1 = i10)", "merge inner on 1=0 TRUE 400:832; -look table 5 index 0 inner #0 TRUE 200:500; --scan table 1 100:100; -scan table 3 50:50"},
		{"joined(joined(t, p, i0 = i7), u, i1 = i10 and b4 = b14)", "project #6 #7 #8 #9 #10 #11 #12 #13 #14 #15 #0 #1 #2 #3 #4 #5 80:572; -look table 5 index 0 inner #6 TRUE 80:492; --merge inner on 0=1 on 4=4 TRUE 40:332; ---scan table 3 50:50; ---scan table 1 100:100"},
		// Conditions are asked once: those of one leaf, and of none, where two are joined.
		{"joined(joined(t, u, i0 = i9 and i0 = 7), p, i6 = i13 and t2 = t12 and 1 = 2)", "project #6 #7 #8 #9 #10 #11 #0 #1 #2 #3 #4 #5 #12 #13 #14 #15 1:204; -look table 5 index 0 inner #0 #8 TRUE 1:203; --look table 1 index 0 inner #3 ((#6 = 7) AND (1 = 2)) 1:200; ---scan table 3 50:50"},
		{"joined(joined(k, k, i0 = 1 and i1 = 2 and false), k, i2 = 3)", "project #2 #1 #0 60:304; -look table 4 index 12 inner 1 TRUE 60:244; --look table 4 index 12 inner 2 (FALSE AND (#0 = 3)) 12:160; ---scan table 4 20:20"},
		{"projected(u, some(joined(joined(k, k, i0 = r1.i0), k, i2 = i1 and r1.i3 = 4)))", "project EXISTS(@5) 50:100; -scan table 3 50:50; -project #1 #2 #0 250:520; --hash inner on 0=0 TRUE 250:270; ---look table 4 index 12 inner 1#0 (1#3 = 4) 50:160; ----scan table 4 20:20; ---scan table 4 20:20"},
		// A condition of three.
		{"joined(joined(k, k, true), k, coalesce(i0, i1) = i2)", "project #1 #0 #2 2000:5240; -look table 4 index 12 inner coalesce(#1, #0) TRUE 2000:3240; --loop inner TRUE 400:440; ---scan table 4 20:20; ---scan table 4 20:20"},
		{"joined(joined(k, k, true), t, coalesce(i0, i1) = i2)", "project #1 #0 #2 #3 #4 #5 #6 #7 400:2040; -look table 1 index 0 inner coalesce(#1, #0) TRUE 400:1640; --loop inner TRUE 400:440; ---scan table 4 20:20; ---scan table 4 20:20"},
		// Dists are those of the leaves, also of what was joined.
		{"joined(joined(projected(t, i0, d3), projected(u, d1, i0), i0 = i3), vals('d', 1.5, 2.5), d1 = d4)", "project #0 #1 #3 #4 #2 2:494; -merge inner on 0=1 TRUE 2:492; --hash inner on 1=0 TRUE 4:306; ---project #0 #3 100:200; ----scan table 1 100:100; ---values 1.5 2.5 2:2; --project #1 #0 50:100; ---scan table 3 50:50"},
		{"joined(joined(joined(joined(k, k, true), k, true), k, true), k, true)", "project #4 #3 #2 #1 #0 3200000:6568500; -loop inner TRUE 3200000:3368500; --loop inner TRUE 160000:168480; ---loop inner TRUE 8000:8460; ----loop inner TRUE 400:440; -----scan table 4 20:20; -----scan table 4 20:20; ----scan table 4 20:20; ---scan table 4 20:20; --scan table 4 20:20"},
		{"joined(joined(joined(joined(joined(k, k, true), k, true), k, true), k, true), k, true)", "project #5 #4 #3 #2 #1 #0 64000000:131368520; -loop inner TRUE 64000000:67368520; --loop inner TRUE 3200000:3368500; ---loop inner TRUE 160000:168480; ----loop inner TRUE 8000:8460; -----loop inner TRUE 400:440; ------scan table 4 20:20; ------scan table 4 20:20; -----scan table 4 20:20; ----scan table 4 20:20; ---scan table 4 20:20; --scan table 4 20:20"},
		{"joined(joined(joined(joined(joined(vals('i', 1), k, i0 = i1), k, i1 = i2), k, i2 = i3), k, i3 = i4), k, i4 = i5)", "hash inner on 4=0 TRUE 1250:512; -hash inner on 3=0 TRUE 250:202; --hash inner on 2=0 TRUE 50:92; ---look table 4 index 12 inner #1 TRUE 10:22; ----look table 4 index 12 inner #0 TRUE 2:8; -----values 1 1:1; ---scan table 4 20:20; --scan table 4 20:20; -scan table 4 20:20"},
		{"joined(t, joined(joined(joined(joined(vals('i', 1), k, i0 = i1), k, i1 = i2), k, i2 = i3), k, i3 = i4), i0 = i6)", "project #1 #2 #3 #4 #5 #6 #0 #7 #8 #9 #10 250:455; -hash inner on 9=0 TRUE 250:205; --hash inner on 8=0 TRUE 50:95; ---look table 4 index 12 inner #7 TRUE 10:25; ----look table 4 index 12 inner #0 TRUE 2:11; -----look table 1 index 0 inner #0 TRUE 1:4; ------values 1 1:1; ---scan table 4 20:20; --scan table 4 20:20"},
		// Seven leaves are too many: what stands on one side is a region by itself.
		{"joined(joined(joined(joined(joined(joined(k, k, true), k, true), k, true), k, true), k, true), t, true)", "loop inner TRUE 500000000:1000000000; -project #5 #4 #3 #2 #1 #0 64000000:131368520; --loop inner TRUE 64000000:67368520; ---loop inner TRUE 3200000:3368500; ----loop inner TRUE 160000:168480; -----loop inner TRUE 8000:8460; ------loop inner TRUE 400:440; -------scan table 4 20:20; -------scan table 4 20:20; ------scan table 4 20:20; -----scan table 4 20:20; ----scan table 4 20:20; ---scan table 4 20:20; -scan table 1 100:100"},
		{"joined(t, joined(joined(joined(joined(joined(vals('i', 1), k, i0 = i1), k, i1 = i2), k, i2 = i3), k, i3 = i4), k, i4 = i5), i0 = i6)", "merge inner on 0=0 TRUE 1250:1994; -scan table 1 100:100; -hash inner on 4=0 TRUE 1250:512; --hash inner on 3=0 TRUE 250:202; ---hash inner on 2=0 TRUE 50:92; ----look table 4 index 12 inner #1 TRUE 10:22; -----look table 4 index 12 inner #0 TRUE 2:8; ------values 1 1:1; ----scan table 4 20:20; ---scan table 4 20:20; --scan table 4 20:20"},
		{"joined(joined(joined(k, k, i0 = i1), joined(k, k, i0 = i1), i0 = i2), joined(joined(k, k, i0 = i1), k, i0 = i2), i0 = i4)", "merge inner on 0=0 TRUE 125000:7112; -project #2 #3 #1 #0 2500:3320; --hash inner on 2=0 TRUE 2500:820; ---hash inner on 1=0 TRUE 500:260; ----hash inner on 0=0 TRUE 100:100; -----scan table 4 20:20; -----scan table 4 20:20; ----scan table 4 20:20; ---scan table 4 20:20; -project #1 #2 #0 500:760; --hash inner on 1=0 TRUE 500:260; ---hash inner on 0=0 TRUE 100:100; ----scan table 4 20:20; ----scan table 4 20:20; ---scan table 4 20:20"},
	})
}

// TestRegionsThatAreNotSafe has joins that are joined as they stand, of which those may be regions that are safe by themselves.
func TestRegionsThatAreNotSafe(t *testing.T) {
	wantChoices(t, farmStats(), []choiceCase{
		{"joined(t, projected(u, 1 / i0), i0 = i6)", "merge inner on 0=0 TRUE 50:382; -scan table 1 100:100; -project (1 / #0) 50:100; --scan table 3 50:50"},
		{"joined(projected(u, 1 / i0), t, i0 = i1)", "look table 1 index 0 inner #0 TRUE 50:250; -project (1 / #0) 50:100; --scan table 3 50:50"},
		{"joined(t, u, i0 / 1 = i6)", "loop inner ((#0 / 1) = #6) 200:5150; -scan table 1 100:100; -scan table 3 50:50"},
		{"joined(t, k, i0 = i6 and some(projected(t, 1 / i0)))", "loop inner ((#0 = #6) AND EXISTS(@3)) 10:2120; -scan table 1 100:100; -scan table 4 20:20; -project (1 / #0) 100:200; --scan table 1 100:100"},
		{"joined(filtered(t, i0 = one(limited(k, 1, 0))), k, i0 = i6)", "look table 4 index 12 inner #0 TRUE 1:207; -filter (#0 = (@2)) 1:200; --scan table 1 100:100; --limit limit 1 offset 0 1:40; ---scan table 4 20:20"},
		{"joined(t, filtered(k, some(projected(t, 1 / i0))), i0 = i6)", "hash inner on 0=0 TRUE 10:260; -scan table 1 100:100; -filter EXISTS(@3) 10:40; --scan table 4 20:20; --project (1 / #0) 100:200; ---scan table 1 100:100"},
		{"joined(grouped(t, 'k0 sum(1)'), k, i0 = i2)", "hash inner on 0=0 TRUE 100:310; -group keys 0 50:200; --scan table 1 100:100; -scan table 4 20:20"},
		{"joined(grouped(t, 'k0 avg(1)'), k, i0 = i2)", "hash inner on 0=0 TRUE 100:310; -group keys 0 50:200; --scan table 1 100:100; -scan table 4 20:20"},
		{"joined(k, once(projected(k, - i0)), true)", "loop inner TRUE 100:280; -scan table 4 20:20; -distinct 10:60; --project (- #0) 20:40; ---scan table 4 20:20"},
		{"joined(t, joined(k, k, i0 / 1 = i1), i0 = i6)", "merge inner on 0=0 TRUE 100:772; -scan table 1 100:100; -loop inner ((#0 / 1) = #1) 100:440; --scan table 4 20:20; --scan table 4 20:20"},
		{"joined(joined(t, k, i0 = i6), k, i0 / 1 = i7)", "loop inner ((#0 / 1) = #7) 100:520; -project #1 #2 #3 #4 #5 #6 #0 20:100; --look table 1 index 0 inner #0 TRUE 20:80; ---scan table 4 20:20; -scan table 4 20:20"},
		{"joined(joined(t, projected(k, 1 / i0), i0 = i6), k, i0 = i7)", "hash inner on 0=0 TRUE 40:360; -hash inner on 0=0 TRUE 20:280; --scan table 1 100:100; --project (1 / #0) 20:40; ---scan table 4 20:20; -scan table 4 20:20"},
		{"joined(joined(t, k, i0 = i6), projected(k, 1 / i0), i0 = i7)", "hash inner on 0=0 TRUE 40:200; -project #1 #2 #3 #4 #5 #6 #0 20:100; --look table 1 index 0 inner #0 TRUE 20:80; ---scan table 4 20:20; -project (1 / #0) 20:40; --scan table 4 20:20"},
		// A condition that is true is one there.
		{"joined(k, projected(k, 1 / i0), true)", "loop inner TRUE 200:460; -scan table 4 20:20; -project (1 / #0) 20:40; --scan table 4 20:20"},
		{"joined(k, projected(k, 1 / i0), i0 = i1 and (true and i0 < 7))", "hash inner on 0=0 (TRUE AND (#0 < 7)) 6:120; -scan table 4 20:20; -project (1 / #0) 20:40; --scan table 4 20:20"},
		{"joined(k, projected(k, 1 / i0), some(t) and i0 = i1)", "hash inner on 0=0 EXISTS(@3) 20:120; -scan table 4 20:20; -project (1 / #0) 20:40; --scan table 4 20:20; -scan table 1 100:100"},
	})
}
