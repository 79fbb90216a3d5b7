package tests

import "testing"

func TestPushFilters(t *testing.T) {
	wantRewrites(t, "PushFilters", []rewriteCase{
		{"k", ""},
		{"filtered(k, i0 = 1)", ""},
		{"filtered(k, i0 = 1 and (i0 = 2 and i0 = 3))", "filtered(k, i0 = 1 and i0 = 2 and i0 = 3)"},
		{"filtered(filtered(k, i0 = 1 and i0 = 2), i0 = 3)", "filtered(k, i0 = 1 and i0 = 2 and i0 = 3)"},
		{"filtered(filtered(filtered(k, i0 = 1), i0 = 2), i0 = 3 and i0 = 4)", "filtered(k, i0 = 1 and i0 = 2 and i0 = 3 and i0 = 4)"},
		// The XConst true goes, and nothing else that is constant.
		{"filtered(k, true)", "k"},
		{"filtered(k, true and (true and true))", "k"},
		{"filtered(k, true and i0 = 1 and true)", "filtered(k, i0 = 1)"},
		{"filtered(k, false)", ""},
		{"filtered(k, 1 = 1)", ""},
		{"filtered(k, null)", "filtered(k, cast(null as boolean))"},
		{"filtered(k, null and null)", "filtered(k, cast(null as boolean) and null)"},
		{"filtered(k, cast(null as boolean) and true)", "filtered(k, cast(null as boolean))"},
		// A node that is not safe stays as it is, with all its conjuncts.
		{"filtered(filtered(k, i0 = 1), 1 / i0 = 1 and true and i0 = 2)", ""},
		{"filtered(k, true and (1 / i0 = 1 and true))", ""},
		{"filtered(filtered(k, 1 / i0 = 1), i0 = 2 and true and i0 = 3)", "filtered(filtered(k, 1 / i0 = 1), i0 = 2 and i0 = 3)"},
		{"filtered(filtered(filtered(once(k), i0 = 1), 1 / i0 = 1), i0 = 2)", "filtered(filtered(once(filtered(k, i0 = 1)), 1 / i0 = 1), i0 = 2)"},
		{"filtered(filtered(once(k), i0 = one(limited(filtered(once(k), i0 = 3), 1, 0))), i0 = 2)", "filtered(filtered(once(k), i0 = one(limited(once(filtered(k, i0 = 3)), 1, 0))), i0 = 2)"},
		{"filtered(filtered(k, some(projected(filtered(once(k), i0 = 1), 1 / i0))), i0 = 2)", "filtered(filtered(k, some(projected(once(filtered(k, i0 = 1)), 1 / i0))), i0 = 2)"},
		// Conjuncts with plans in them stay, and nothing is pushed into these plans.
		{"filtered(once(k), some(u) and i0 = 1 and some(t) and i0 = 2)", "filtered(once(filtered(k, i0 = 1 and i0 = 2)), some(u) and some(t))"},
		{"filtered(filtered(k, some(u) and i0 = 1), i0 = 2 and true)", "filtered(filtered(k, i0 = 1 and i0 = 2), some(u))"},
		{"filtered(k, some(filtered(once(u), i0 = 1)))", "filtered(k, some(once(filtered(u, i0 = 1))))"},
		{"filtered(k, some(filtered(once(u), i0 = r1.i0 and true)) and true)", "filtered(k, some(once(filtered(u, i0 = r1.i0))))"},
		{"filtered(filtered(once(k), notamong(i0, k)), some(u) or i0 = 1)", "filtered(filtered(once(k), notamong(i0, k)), some(u) or i0 = 1)"},
	})
}

func TestPushProjects(t *testing.T) {
	wantRewrites(t, "PushFilters", []rewriteCase{
		{"filtered(projected(t, i1, i0, b4, 5), i0 = 1 and i1 = 2 and i3 = 5 and b2 and i0 = i3 and i0 = i1)", "filtered(projected(filtered(t, i1 = 1 and i0 = 2 and b4 and i1 = i0), i1, i0, b4, 5), i3 = 5 and i0 = i3)"},
		{"filtered(projected(k, i0), i0 = 1)", "projected(filtered(k, i0 = 1), i0)"},
		{"filtered(projected(k, i0, i0), i0 = i1)", "projected(filtered(k, i0 = i0), i0, i0)"},
		{"filtered(projected(t, coalesce(i0, 1), cast(i0 as text)), i0 = 1 and t1 = '1')", ""},
		// A condition without columns goes down.
		{"filtered(projected(t, 5), false)", "projected(filtered(t, false), 5)"},
		{"filtered(projected(t), 1 = 2)", "projected(filtered(t, 1 = 2))"},
		{"filtered(projected(t, 5), null)", "projected(filtered(t, cast(null as boolean)), 5)"},
		// Columns of other rows stay as they are, and are no columns of L.
		{"projected(u, some(filtered(projected(t, 5), r1.i0 = 1)))", "projected(u, some(projected(filtered(t, r1.i0 = 1), 5)))"},
		{"projected(u, some(filtered(projected(t, r1.i0, i1), i0 = 1 and i1 = 2 and r1.i3 = i1)))", "projected(u, some(filtered(projected(filtered(t, i1 = 2 and r1.i3 = i1), r1.i0, i1), i0 = 1)))"},
		// Nodes that are not safe.
		{"filtered(projected(k, i0, 1 / i0), i0 = 1)", ""},
		{"filtered(projected(once(filtered(k, true)), i0, i0 + 1), i0 = 1 and true)", "filtered(projected(once(k), i0, i0 + 1), i0 = 1)"},
		{"filtered(projected(filtered(once(k), i0 = 2), i0, one(limited(k, 1, 0))), i0 = 1)", "filtered(projected(once(filtered(k, i0 = 2)), i0, one(limited(k, 1, 0))), i0 = 1)"},
		{"filtered(projected(projected(k, 1 / i0), i0), i0 = 1)", "projected(filtered(projected(k, 1 / i0), i0 = 1), i0)"},
		// Plans in its expressions.
		{"filtered(projected(k, i0, some(filtered(once(u), i0 = 1))), i0 = 1 and b1)", "filtered(projected(filtered(k, i0 = 1), i0, some(once(filtered(u, i0 = 1)))), b1)"},
		{"projected(k, i0 + 1, some(filtered(once(u), i0 = 1)))", "projected(k, i0 + 1, some(once(filtered(u, i0 = 1))))"},
		// Several, one over the other.
		{"filtered(projected(projected(u, i3, i0), i1, i0), i0 = 1 and i1 = 2)", "projected(projected(filtered(u, i0 = 1 and i3 = 2), i3, i0), i1, i0)"},
		{"filtered(projected(filtered(projected(u, i3, 7), i1 = 7 and i0 = 5), i1, i0), i0 = 1 and i1 = 2)", "projected(filtered(projected(filtered(u, i3 = 5 and i3 = 2), i3, 7), i1 = 7 and i1 = 1), i1, i0)"},
	})
}

// TestPushInner has the columns of t (i0, i1, t2, d3, b4, y5) and u (i6, d7, t8, i9, b10, y11), or of k and k.
func TestPushInner(t *testing.T) {
	wantRewrites(t, "PushFilters", []rewriteCase{
		{"joined(t, u, i0 = i6 and i1 = 1 and b10 and 1 = 2)", "joined(filtered(t, i1 = 1 and 1 = 2), filtered(u, b4), i0 = i6)"},
		{"filtered(joined(t, u, i1 = 1 and i0 = i6 and i9 = 2), i0 = 3 and i9 = i1 and b10)", "joined(filtered(t, i1 = 1 and i0 = 3), filtered(u, i3 = 2 and b4), i0 = i6 and i9 = i1)"},
		{"joined(t, u, y5 = y11)", ""},
		{"joined(t, u, y5 = y5 and i6 = i6)", "joined(filtered(t, y5 = y5), filtered(u, i0 = i0), true)"},
		{"joined(k, k, true)", ""},
		{"joined(k, k, true and (i0 = 1 and true))", "joined(filtered(k, i0 = 1), k, true)"},
		{"joined(k, k, null)", "joined(filtered(k, cast(null as boolean)), k, true)"},
		{"joined(k, k, i0 = i1 and null)", "joined(filtered(k, cast(null as boolean)), k, i0 = i1)"},
		{"joined(k, k, i0 = i1 and (i0 < i1 and i0 > i1))", "joined(k, k, i0 = i1 and i0 < i1 and i0 > i1)"},
		// Conjuncts with plans in them come first.
		{"filtered(joined(k, k, i0 = i1 and some(u) and i0 = 1 and notamong(i1, k)), i0 < i1)", "joined(filtered(k, i0 = 1), k, some(u) and notamong(i1, k) and i0 = i1 and i0 < i1)"},
		{"joined(k, k, some(filtered(once(u), i0 = r1.i1)))", "joined(k, k, some(once(filtered(u, i0 = r1.i1))))"},
		// Not safe.
		{"filtered(joined(k, k, 1 / i0 = i1 and i0 = 5 and true), i0 = 1 and i1 = 2)", ""},
		{"filtered(joined(filtered(once(k), i0 = 1), filtered(once(k), i0 = 2), 1 / i0 = i1), i0 = 3)", "filtered(joined(once(filtered(k, i0 = 1)), once(filtered(k, i0 = 2)), 1 / i0 = i1), i0 = 3)"},
		{"joined(k, k, i0 = one(limited(filtered(once(k), i0 = 1), 1, 0)) and i0 = 1)", "joined(k, k, i0 = one(limited(once(filtered(k, i0 = 1)), 1, 0)) and i0 = 1)"},
		// L and R need not be safe: what is pushed stops above what is not.
		{"filtered(joined(projected(k, 1 / i0), projected(once(k), i0), i0 = i1), i0 = 1 and i1 = 2)", "joined(filtered(projected(k, 1 / i0), i0 = 1), projected(once(filtered(k, i0 = 2)), i0), i0 = i1)"},
		// Joins of joins.
		{"filtered(joined(joined(k, k, true), joined(k, k, i0 = i1), true), i0 = i1 and i2 = 1 and i3 = 2 and i0 = i2)", "joined(joined(k, k, i0 = i1), joined(filtered(k, i0 = 1), filtered(k, i0 = 2), i0 = i1), i0 = i2)"},
		// Rows around.
		{"projected(u, some(joined(k, k, r1.i0 = i1 and r1.i0 = i0 and r1.i0 = 1)))", "projected(u, some(joined(filtered(k, r1.i0 = i0 and r1.i0 = 1), filtered(k, r1.i0 = i0), true)))"},
	})
}

// TestPushOuter has the columns of k (i0) and u (i1, d2, t3, i4, b5, y6).
func TestPushOuter(t *testing.T) {
	wantRewrites(t, "PushFilters", []rewriteCase{
		{"filtered(leftjoined(k, u, i0 = i1 and i4 = 1 and i0 = 2 and 1 = 2), i0 = 3 and i1 = 4 and false and i0 = i4)", "filtered(leftjoined(filtered(k, i0 = 3 and false), filtered(u, i3 = 1), i0 = i1 and i0 = 2 and 1 = 2), i1 = 4 and i0 = i4)"},
		{"leftjoined(k, u, i4 = 1)", "leftjoined(k, filtered(u, i3 = 1), true)"},
		{"leftjoined(k, u, true)", ""},
		{"leftjoined(k, u, true and i0 = i1)", "leftjoined(k, u, i0 = i1)"},
		{"leftjoined(k, u, false)", ""},
		{"leftjoined(k, u, null)", "leftjoined(k, u, cast(null as boolean))"},
		{"leftjoined(k, u, i0 = 2 and some(t) and i0 = i1)", ""},
		{"leftjoined(k, u, i0 = 2 and (some(filtered(once(t), i0 = 1)) and i4 = 1))", "leftjoined(k, filtered(u, i3 = 1), i0 = 2 and some(once(filtered(t, i0 = 1))))"},
		{"filtered(leftjoined(k, u, 1 / i0 = i1 and i4 = 1), i0 = 1)", ""},
		{"filtered(leftjoined(projected(k, 1 / i0), projected(k, 1 / i0), i1 = 2), i0 = 1)", "leftjoined(filtered(projected(k, 1 / i0), i0 = 1), filtered(projected(k, 1 / i0), i0 = 2), true)"},
		{"filtered(antijoined(k, u, i0 = i1 and i4 = 1 and i0 = 2 and b5), i0 = 3)", "antijoined(filtered(k, i0 = 3), filtered(u, i3 = 1 and b4), i0 = i1 and i0 = 2)"},
		{"antijoined(k, u, 1 = 2)", ""},
		{"antijoined(k, u, i0 = 2)", ""},
		{"antijoined(k, u, some(t) and true and i0 = 2)", "antijoined(k, u, some(t) and i0 = 2)"},
		{"filtered(antijoined(filtered(once(k), i0 = 2), u, i0 / 1 = i1), i0 = 3)", "filtered(antijoined(once(filtered(k, i0 = 2)), u, i0 / 1 = i1), i0 = 3)"},
		// Into L of a JoinSemi go the conditions, then its own.
		{"filtered(semijoined(k, u, i0 = i1 and i4 = 1 and i0 = 2 and 1 = 2), i0 = 3)", "semijoined(filtered(k, i0 = 3 and i0 = 2 and 1 = 2), filtered(u, i3 = 1), i0 = i1)"},
		{"semijoined(k, u, i0 = 2)", "semijoined(filtered(k, i0 = 2), u, true)"},
		{"semijoined(k, u, null)", "semijoined(filtered(k, cast(null as boolean)), u, true)"},
		{"semijoined(k, u, some(t) and i0 = i1 and i0 = 2 and true and notamong(i0, k))", "semijoined(filtered(k, i0 = 2), u, some(t) and i0 = i1 and notamong(i0, k))"},
		{"filtered(semijoined(k, u, - i0 = i1), i0 = 3)", ""},
		{"filtered(filtered(semijoined(k, u, i0 = 1), i0 = 2), i0 = 3)", "semijoined(filtered(k, i0 = 2 and i0 = 3 and i0 = 1), u, true)"},
		// Rows around are no columns of either side.
		{"projected(u, some(semijoined(k, k, r1.i0 = 1 and r1.i0 = i1 and r1.i0 = i0)))", "projected(u, some(semijoined(filtered(k, r1.i0 = 1 and r1.i0 = i0), filtered(k, r1.i0 = i0), true)))"},
		{"projected(u, some(leftjoined(k, k, r1.i0 = 1 and r1.i0 = i1 and r1.i0 = i0)))", "projected(u, some(leftjoined(k, filtered(k, r1.i0 = i0), r1.i0 = 1 and r1.i0 = i0)))"},
		{"projected(u, some(filtered(leftjoined(k, k, true), r1.i3 = 1 and r1.i3 = i1)))", "projected(u, some(filtered(leftjoined(filtered(k, r1.i3 = 1), k, true), r1.i3 = i1)))"},
	})
}

func TestPushGroups(t *testing.T) {
	wantRewrites(t, "PushFilters", []rewriteCase{
		{"filtered(grouped(u, 'k3 k0 all max(1)'), i0 = 1 and i1 = 2 and i2 > 1 and false and i0 = i2 and i0 = i1 and d3 > 1.5)", "filtered(grouped(filtered(u, i3 = 1 and i0 = 2 and i3 = i0), 'k3 k0 all max(1)'), i2 > 1 and false and i0 = i2 and d3 > 1.5)"},
		{"filtered(grouped(u, 'k3'), i0 = 1)", "grouped(filtered(u, i3 = 1), 'k3')"},
		{"filtered(grouped(u, 'k3 k3'), i1 = 1)", "grouped(filtered(u, i3 = 1), 'k3 k3')"},
		{"filtered(grouped(u, 'k3 count(0) min(0)'), i1 = 1 and i2 = 1)", ""},
		{"filtered(grouped(u, 'k3'), false)", ""},
		{"filtered(grouped(projected(k, 1 / i0), 'k0'), i0 = 1)", "grouped(filtered(projected(k, 1 / i0), i0 = 1), 'k0')"},
		{"filtered(grouped(u, 'k3 sum(0)'), i0 = 1)", ""},
		{"filtered(grouped(u, 'k3 all avg(0)'), i0 = 1)", ""},
		{"filtered(grouped(filtered(once(u), i0 = 2), 'k3 sum(0)'), i0 = 1)", "filtered(grouped(once(filtered(u, i0 = 2)), 'k3 sum(0)'), i0 = 1)"},
		{"filtered(grouped(u, 'all'), i0 = 1)", ""},
		{"filtered(grouped(filtered(once(u), i0 = 2), 'max(0)'), i0 = 1)", "filtered(grouped(once(filtered(u, i0 = 2)), 'max(0)'), i0 = 1)"},
		{"filtered(grouped(u, ''), true)", "grouped(u, '')"},
		{"projected(t, some(filtered(grouped(u, 'k3 all'), r1.i0 = 1 and r1.i0 = i0)))", "projected(t, some(filtered(grouped(filtered(u, r1.i0 = i3), 'k3 all'), r1.i0 = 1)))"},
	})
}

func TestPushOthers(t *testing.T) {
	wantRewrites(t, "PushFilters", []rewriteCase{
		{"filtered(sorted(once(k), 's0'), i0 = 1 and i0 = 2)", "sorted(once(filtered(k, i0 = 1 and i0 = 2)), 's0')"},
		{"filtered(unioned(k, k), i0 = 1 and i0 = 2)", "unioned(filtered(k, i0 = 1 and i0 = 2), filtered(k, i0 = 1 and i0 = 2))"},
		{"filtered(unionedall(filtered(k, i0 = 1), projected(u, i3)), i0 = 2)", "unionedall(filtered(k, i0 = 1 and i0 = 2), projected(filtered(u, i3 = 2), i3))"},
		{"filtered(excepted(k, filtered(once(k), i0 = 5)), i0 = 1)", "excepted(filtered(k, i0 = 1), once(filtered(k, i0 = 5)))"},
		{"filtered(exceptedall(k, k), i0 = 1)", "exceptedall(filtered(k, i0 = 1), k)"},
		{"filtered(limited(filtered(once(k), i0 = 2), 1, 0), i0 = 1)", "filtered(limited(once(filtered(k, i0 = 2)), 1, 0), i0 = 1)"},
		{"filtered(limited(k, -1, 0), i0 = 1)", ""},
		{"filtered(vals('i', 1, 2), i0 = 1)", ""},
		{"filtered(vals('i'), i0 = 1)", ""},
		{"vals('b', some(filtered(once(k), i0 = 1)), 1 / 0 = 1)", "vals('b', some(once(filtered(k, i0 = 1))), 1 / 0 = 1)"},
		{"sorted(filtered(once(k), i0 = 1), 's0d')", "sorted(once(filtered(k, i0 = 1)), 's0d')"},
		{"projected(k, one(limited(filtered(sorted(k, 's0'), i0 = r1.i0), 1, 0)))", "projected(k, one(limited(sorted(filtered(k, i0 = r1.i0), 's0'), 1, 0)))"},
		{"filtered(once(unioned(sorted(projected(joined(k, k, i0 = i1), i1), 's0'), grouped(k, 'k0'))), i0 = 7)", "once(unioned(sorted(projected(joined(k, filtered(k, i0 = 7), i0 = i1), i1), 's0'), grouped(filtered(k, i0 = 7), 'k0')))"},
	})
}
