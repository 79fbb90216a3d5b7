package tests

import "testing"

// TestOrderIsKept has joins that would be merged, with u ahead of t, where their order is not kept.
func TestOrderIsKept(t *testing.T) {
	wantChoices(t, farmStats(), []choiceCase{
		{"joined(t, u, d3 = d7)", "project #6 #7 #8 #9 #10 #11 #0 #1 #2 #3 #4 #5 100:432; -merge inner on 1=3 TRUE 100:332; --scan table 3 50:50; --scan table 1 100:100"},
		{"limited(joined(t, u, d3 = d7), 5, 0)", "limit limit 5 offset 0 5:450; -hash inner on 3=1 TRUE 100:350; --scan table 1 100:100; --scan table 3 50:50"},
		{"limited(joined(t, u, d3 = d7), -1, 0)", "limit limit -1 offset 0 100:450; -hash inner on 3=1 TRUE 100:350; --scan table 1 100:100; --scan table 3 50:50"},
		{"limited(filtered(joined(t, u, d3 = d7), b4), 5, 0)", "limit limit 5 offset 0 5:500; -filter #4 50:450; --hash inner on 3=1 TRUE 100:350; ---scan table 1 100:100; ---scan table 3 50:50"},
		{"limited(projected(joined(t, u, d3 = d7), i0), 5, 0)", "limit limit 5 offset 0 5:550; -project #0 100:450; --hash inner on 3=1 TRUE 100:350; ---scan table 1 100:100; ---scan table 3 50:50"},
		{"limited(once(joined(t, u, d3 = d7)), 5, 0)", "limit limit 5 offset 0 5:500; -distinct 50:450; --hash inner on 3=1 TRUE 100:350; ---scan table 1 100:100; ---scan table 3 50:50"},
		{"limited(grouped(joined(t, u, d3 = d7), 'k0 all'), 5, 0)", "limit limit 5 offset 0 5:500; -group keys 0 50:450; --hash inner on 3=1 TRUE 100:350; ---scan table 1 100:100; ---scan table 3 50:50"},
		{"limited(limited(joined(t, u, d3 = d7), -1, 1), 5, 0)", "limit limit 5 offset 0 5:550; -limit limit -1 offset 1 100:450; --hash inner on 3=1 TRUE 100:350; ---scan table 1 100:100; ---scan table 3 50:50"},
		{"limited(unionedall(joined(t, u, d3 = d7), joined(t, u, d3 = d7)), 5, 0)", "limit limit 5 offset 0 5:1100; -union all 200:900; --hash inner on 3=1 TRUE 100:350; ---scan table 1 100:100; ---scan table 3 50:50; --hash inner on 3=1 TRUE 100:350; ---scan table 1 100:100; ---scan table 3 50:50"},
		{"limited(exceptedall(joined(t, u, d3 = d7), joined(t, u, d3 = d7)), 5, 0)", "limit limit 5 offset 0 5:1000; -except all 100:900; --hash inner on 3=1 TRUE 100:350; ---scan table 1 100:100; ---scan table 3 50:50; --hash inner on 3=1 TRUE 100:350; ---scan table 1 100:100; ---scan table 3 50:50"},
		{"limited(leftjoined(joined(t, u, d3 = d7), joined(k, k, true), i0 = i12), 5, 0)", "limit limit 5 offset 0 5:3290; -hash left on 0=0 TRUE 2000:1290; --hash inner on 3=1 TRUE 100:350; ---scan table 1 100:100; ---scan table 3 50:50; --loop inner TRUE 200:440; ---scan table 4 20:20; ---scan table 4 20:20"},
		{"limited(semijoined(joined(t, u, d3 = d7), joined(t, u, d3 = d7), 1 / i0 = i13), 5, 0)", "limit limit 5 offset 0 5:10750; -loop semi ((1 / #0) = #13) 50:10700; --hash inner on 3=1 TRUE 100:350; ---scan table 1 100:100; ---scan table 3 50:50; --hash inner on 3=1 TRUE 100:350; ---scan table 1 100:100; ---scan table 3 50:50"},
		{"limited(joined(joined(k, k, i0 = i1), k, i0 = i2), 5, 0)", "limit limit 5 offset 0 5:460; -hash inner on 0=0 TRUE 200:260; --hash inner on 0=0 TRUE 100:100; ---scan table 4 20:20; ---scan table 4 20:20; --scan table 4 20:20"},
		{"limited(joined(k, joined(k, k, i0 = i1), i0 = i2), 5, 0)", "limit limit 5 offset 0 5:540; -hash inner on 0=1 TRUE 200:340; --scan table 4 20:20; --hash inner on 0=0 TRUE 100:100; ---scan table 4 20:20; ---scan table 4 20:20"},
		{"limited(joined(joined(k, k, i0 = i1 and some(t)), k, i0 = i2), 5, 0)", "limit limit 5 offset 0 5:310; -hash inner on 0=0 TRUE 100:210; --hash inner on 0=0 EXISTS(@2) 50:100; ---scan table 4 20:20; ---scan table 4 20:20; ---scan table 1 100:100; --scan table 4 20:20"},
		// A sort keeps the order of what is alike, if its own is kept.
		{"sorted(joined(t, u, d3 = d7), 's0')", "sort by 0 100:632; -project #6 #7 #8 #9 #10 #11 #0 #1 #2 #3 #4 #5 100:432; --merge inner on 1=3 TRUE 100:332; ---scan table 3 50:50; ---scan table 1 100:100"},
		{"limited(sorted(joined(t, u, d3 = d7), 's0'), -1, 0)", "limit limit -1 offset 0 100:650; -sort by 0 100:550; --hash inner on 3=1 TRUE 100:350; ---scan table 1 100:100; ---scan table 3 50:50"},
		{"limited(projected(sorted(joined(t, u, d3 = d7), 's0'), i0), 5, 0)", "limit limit 5 offset 0 5:750; -project #0 100:650; --sort by 0 100:550; ---hash inner on 3=1 TRUE 100:350; ----scan table 1 100:100; ----scan table 3 50:50"},
		{"limited(once(sorted(joined(t, u, d3 = d7), 's0')), 5, 0)", "limit limit 5 offset 0 5:700; -distinct 50:650; --sort by 0 100:550; ---hash inner on 3=1 TRUE 100:350; ----scan table 1 100:100; ----scan table 3 50:50"},
		// Nothing else keeps it.
		{"once(joined(t, u, d3 = d7))", "distinct 50:532; -project #6 #7 #8 #9 #10 #11 #0 #1 #2 #3 #4 #5 100:432; --merge inner on 1=3 TRUE 100:332; ---scan table 3 50:50; ---scan table 1 100:100"},
		{"grouped(joined(t, u, d3 = d7), 'k0')", "group keys 0 50:532; -project #6 #7 #8 #9 #10 #11 #0 #1 #2 #3 #4 #5 100:432; --merge inner on 1=3 TRUE 100:332; ---scan table 3 50:50; ---scan table 1 100:100"},
		{"filtered(joined(t, u, d3 = d7), b4)", "filter #4 50:532; -project #6 #7 #8 #9 #10 #11 #0 #1 #2 #3 #4 #5 100:432; --merge inner on 1=3 TRUE 100:332; ---scan table 3 50:50; ---scan table 1 100:100"},
		{"projected(joined(t, u, d3 = d7), i0)", "project #0 100:532; -project #6 #7 #8 #9 #10 #11 #0 #1 #2 #3 #4 #5 100:432; --merge inner on 1=3 TRUE 100:332; ---scan table 3 50:50; ---scan table 1 100:100"},
		{"excepted(joined(t, u, d3 = d7), joined(t, u, d3 = d7))", "except 100:1064; -project #6 #7 #8 #9 #10 #11 #0 #1 #2 #3 #4 #5 100:432; --merge inner on 1=3 TRUE 100:332; ---scan table 3 50:50; ---scan table 1 100:100; -project #6 #7 #8 #9 #10 #11 #0 #1 #2 #3 #4 #5 100:432; --merge inner on 1=3 TRUE 100:332; ---scan table 3 50:50; ---scan table 1 100:100"},
		{"leftjoined(joined(t, u, d3 = d7), k, i0 = i12)", "hash left on 0=0 TRUE 200:592; -project #6 #7 #8 #9 #10 #11 #0 #1 #2 #3 #4 #5 100:432; --merge inner on 1=3 TRUE 100:332; ---scan table 3 50:50; ---scan table 1 100:100; -scan table 4 20:20"},
		{"unionedall(limited(joined(t, u, d3 = d7), 5, 0), joined(t, u, d3 = d7))", "union all 105:987; -limit limit 5 offset 0 5:450; --hash inner on 3=1 TRUE 100:350; ---scan table 1 100:100; ---scan table 3 50:50; -project #6 #7 #8 #9 #10 #11 #0 #1 #2 #3 #4 #5 100:432; --merge inner on 1=3 TRUE 100:332; ---scan table 3 50:50; ---scan table 1 100:100"},
		{"grouped(limited(joined(t, u, d3 = d7), 5, 0), 'all')", "group 1:455; -limit limit 5 offset 0 5:450; --hash inner on 3=1 TRUE 100:350; ---scan table 1 100:100; ---scan table 3 50:50"},
		// Plans in expressions begin anew.
		{"limited(filtered(t, some(joined(t, u, d3 = d7))), 5, 0)", "limit limit 5 offset 0 5:250; -filter EXISTS(@4) 50:200; --scan table 1 100:100; --project #6 #7 #8 #9 #10 #11 #0 #1 #2 #3 #4 #5 100:432; ---merge inner on 1=3 TRUE 100:332; ----scan table 3 50:50; ----scan table 1 100:100"},
		{"limited(projected(t, some(limited(joined(t, u, d3 = d7), 3, 0))), 5, 0)", "limit limit 5 offset 0 5:300; -project EXISTS(@4) 100:200; --scan table 1 100:100; --limit limit 3 offset 0 3:450; ---hash inner on 3=1 TRUE 100:350; ----scan table 1 100:100; ----scan table 3 50:50"},
		{"projected(k, some(limited(joined(t, u, d3 = d7), 3, 0)))", "project EXISTS(@4) 20:40; -scan table 4 20:20; -limit limit 3 offset 0 3:450; --hash inner on 3=1 TRUE 100:350; ---scan table 1 100:100; ---scan table 3 50:50"},
		{"limited(joined(k, k, some(joined(t, u, d3 = d7))), 5, 0)", "limit limit 5 offset 0 5:640; -loop inner EXISTS(@5) 200:440; --scan table 4 20:20; --scan table 4 20:20; --project #6 #7 #8 #9 #10 #11 #0 #1 #2 #3 #4 #5 100:432; ---merge inner on 1=3 TRUE 100:332; ----scan table 3 50:50; ----scan table 1 100:100"},
	})
}

func TestTops(t *testing.T) {
	wantChoices(t, farmStats(), []choiceCase{
		{"limited(sorted(t, 's0d'), 5, 2)", "top by 0d limit 5 offset 2 5:300; -scan table 1 100:100"},
		{"limited(sorted(t, 's0f'), 0, 2)", "top by 0f limit 0 offset 2 1:300; -scan table 1 100:100"},
		{"limited(sorted(t, 's1df s0'), 1000, 0)", "top by 1df 0 limit 1000 offset 0 100:300; -scan table 1 100:100"},
		{"limited(sorted(joined(t, u, d3 = d7), 's0'), 5, 0)", "top by 0 limit 5 offset 0 5:550; -hash inner on 3=1 TRUE 100:350; --scan table 1 100:100; --scan table 3 50:50"},
		{"limited(sorted(filtered(t, i0 > 2), 's0'), 5, 0)", "top by 0 limit 5 offset 0 5:101; -seek table 1 index 0 [>] 2 33:35"},
		{"limited(sorted(sorted(t, 's0'), 's1'), 5, 0)", "top by 1 limit 5 offset 0 5:500; -sort by 0 100:300; --scan table 1 100:100"},
		{"limited(limited(sorted(t, 's0'), 5, 0), 3, 0)", "limit limit 3 offset 0 3:305; -top by 0 limit 5 offset 0 5:300; --scan table 1 100:100"},
		{"sorted(limited(t, 3, 0), 's0')", "sort by 0 3:206; -limit limit 3 offset 0 3:200; --scan table 1 100:100"},
		// No top.
		{"limited(sorted(t, 's0'), -1, 2)", "limit limit -1 offset 2 100:400; -sort by 0 100:300; --scan table 1 100:100"},
		{"limited(once(sorted(t, 's0')), 3, 0)", "limit limit 3 offset 0 3:450; -distinct 50:400; --sort by 0 100:300; ---scan table 1 100:100"},
		{"limited(projected(sorted(t, 's0'), i0), 3, 0)", "limit limit 3 offset 0 3:500; -project #0 100:400; --sort by 0 100:300; ---scan table 1 100:100"},
		{"limited(filtered(sorted(t, 's0'), b4), 3, 0)", "limit limit 3 offset 0 3:450; -filter #4 50:400; --sort by 0 100:300; ---scan table 1 100:100"},
		{"once(sorted(t, 's0'))", "distinct 50:400; -sort by 0 100:300; --scan table 1 100:100"},
	})
}
