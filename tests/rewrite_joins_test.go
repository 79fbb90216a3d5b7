package tests

import (
	"strings"
	"testing"
)

func TestDecorrelateForms(t *testing.T) {
	wantRewrites(t, "Decorrelate", []rewriteCase{
		{"filtered(t, some(k))", "semijoined(t, k, true)"},
		{"filtered(t, not some(k))", "antijoined(t, k, true)"},
		{"filtered(t, among(i0, k))", "semijoined(t, k, i0 = i6)"},
		{"filtered(t, some(filtered(k, i0 = r1.i0)))", "semijoined(t, k, i6 = i0)"},
		{"filtered(t, not some(filtered(k, i0 = r1.i0)))", "antijoined(t, k, i6 = i0)"},
		{"filtered(t, among(i0, filtered(k, i0 < r1.i1)))", "semijoined(t, k, i0 = i6 and i6 < i1)"},
		// What is no such form.
		{"filtered(t, notamong(i0, k))", ""},
		{"filtered(t, not among(i0, k))", ""},
		{"filtered(t, not notamong(i0, k))", ""},
		{"filtered(t, not not some(k))", ""},
		{"filtered(t, some(k) or b4)", ""},
		{"filtered(t, not (some(k) or b4))", ""},
		{"filtered(t, some(k) = true)", ""},
		{"filtered(t, some(k) is null)", ""},
		{"filtered(t, not b4)", ""},
		{"filtered(t, i0 = 1)", ""},
		{"filtered(t, true)", ""},
		{"joined(k, k, some(u))", ""},
		{"projected(k, some(u))", ""},
		{"filtered(t, among(some(k), projected(k, true)))", ""},
		{"filtered(t, among(among(i0, k), projected(k, true)))", ""},
		// Kids of all sorts.
		{"filtered(t, among(1, k))", "semijoined(t, k, 1 = i6)"},
		{"filtered(t, among(null, k))", "semijoined(t, k, null = i6)"},
		{"filtered(t, among(coalesce(i1, i0), k))", "semijoined(t, k, coalesce(i1, i0) = i6)"},
		{"filtered(t, among(d3, k))", "semijoined(t, k, d3 = i6)"},
		{"filtered(t, among(i0, projected(k, null)))", "semijoined(t, k, i0 = null)"},
	})
}

func TestDecorrelateSeveral(t *testing.T) {
	wantRewrites(t, "Decorrelate", []rewriteCase{
		{"filtered(t, some(k) and some(filtered(k, i0 = r1.i0)) and not some(u))", "antijoined(semijoined(semijoined(t, k, true), k, i6 = i0), u, true)"},
		{"filtered(t, not some(u) and (among(i0, k) and some(p)))", "semijoined(semijoined(antijoined(t, u, true), k, i0 = i6), p, true)"},
		{"filtered(t, b4 and some(k) and i0 = 1 and i1 = 2)", "filtered(semijoined(t, k, true), b4 and i0 = 1 and i1 = 2)"},
		{"filtered(t, b4 and (some(k) and (i0 = 1 and i1 = 2)))", "filtered(semijoined(t, k, true), b4 and i0 = 1 and i1 = 2)"},
		{"filtered(t, some(k) and b4)", "filtered(semijoined(t, k, true), b4)"},
		{"filtered(t, notamong(i0, k) and some(k) and (some(k) or b4))", "filtered(semijoined(t, k, true), notamong(i0, k) and (some(k) or b4))"},
		{"filtered(t, true and some(k))", "filtered(semijoined(t, k, true), true)"},
		// A condition of kind Null gets a cast where it stands first.
		{"filtered(t, null and some(k))", "filtered(semijoined(t, k, true), cast(null as boolean))"},
		{"filtered(t, null and some(k) and null)", "filtered(semijoined(t, k, true), cast(null as boolean) and null)"},
		{"filtered(t, some(k) and b4 and null)", "filtered(semijoined(t, k, true), b4 and null)"},
		{"filtered(t, some(filtered(k, null)))", "semijoined(t, k, cast(null as boolean))"},
		{"filtered(t, among(i0, filtered(k, null)))", "semijoined(t, k, i0 = i6 and null)"},
		// If none becomes one all stays.
		{"filtered(t, b4 and (notamong(i0, k) and (i0 = 1 and null)))", ""},
		{"filtered(t, null)", ""},
		// One can be, the other cannot.
		{"filtered(t, some(grouped(filtered(k, i0 = r1.i0), 'all')) and some(k))", "filtered(semijoined(t, k, true), some(grouped(filtered(k, i0 = r1.i0), 'all')))"},
	})
}

func TestDecorrelateSafe(t *testing.T) {
	wantRewrites(t, "Decorrelate", []rewriteCase{
		{"filtered(t, some(k) and 1 / i0 = 1)", ""},
		{"filtered(t, some(k) and - i0 = 1)", ""},
		{"filtered(t, some(k) and one(limited(projected(k, true), 1, 0)))", ""},
		{"filtered(t, some(projected(k, 1 / i0)))", ""},
		{"filtered(t, among(i0, projected(k, i0 + 1)))", ""},
		{"filtered(t, among(i0 + 1, k))", ""},
		{"filtered(t, some(grouped(k, 'sum(0)')))", ""},
		{"filtered(t, some(grouped(k, 'k0 avg(0)')))", ""},
		{"filtered(t, some(grouped(k, 'min(0) max(0) all count(0)')))", "semijoined(t, grouped(k, 'min(0) max(0) all count(0)'), true)"},
		{"filtered(t, some(filtered(k, some(projected(k, - i0)))))", ""},
		{"filtered(t, some(k) and (some(projected(k, - i0)) or b4))", ""},
		// L need not be safe.
		{"filtered(projected(k, 1 / i0), some(k))", "semijoined(projected(k, 1 / i0), k, true)"},
		{"filtered(filtered(projected(k, i0), 1 / i0 = 1), among(i0, k))", "semijoined(filtered(projected(k, i0), 1 / i0 = 1), k, i0 = i1)"},
	})
}

// TestDecorrelateShells takes off what stands around the core, layer by layer.
func TestDecorrelateShells(t *testing.T) {
	wantRewrites(t, "Decorrelate", []rewriteCase{
		{"filtered(t, some(sorted(once(sorted(once(k), 's0')), 's0d')))", "semijoined(t, k, true)"},
		{"filtered(t, among(i0, sorted(once(k), 's0')))", "semijoined(t, k, i0 = i6)"},
		{"filtered(t, some(projected(u, i0, d1, 5)))", "semijoined(t, u, true)"},
		{"filtered(t, some(projected(u)))", "semijoined(t, u, true)"},
		{"filtered(t, some(projected(u, r1.i0)))", "semijoined(t, u, true)"},
		{"filtered(t, some(once(projected(filtered(u, b4), i0))))", "semijoined(t, u, b10)"},
		// One PProject goes, and what stands below another one does not.
		{"filtered(t, some(projected(projected(u, i3), i0)))", "semijoined(t, projected(u, i3), true)"},
		{"filtered(t, some(projected(once(u), i0)))", "semijoined(t, once(u), true)"},
		{"filtered(t, some(filtered(projected(u, i3), i0 = 1)))", "semijoined(t, projected(u, i3), i6 = 1)"},
		{"filtered(t, some(filtered(once(k), i0 = 1)))", "semijoined(t, once(k), i6 = 1)"},
		{"filtered(t, some(limited(filtered(k, i0 = 1), 1, 0)))", "semijoined(t, limited(filtered(k, i0 = 1), 1, 0), true)"},
		{"filtered(t, some(unioned(filtered(k, i0 = 1), k)))", "semijoined(t, unioned(filtered(k, i0 = 1), k), true)"},
		// A PProject with a plan in it stays, and all below.
		{"filtered(t, some(projected(filtered(k, i0 = 1), notamong(i0, k))))", "semijoined(t, projected(filtered(k, i0 = 1), notamong(i0, k)), true)"},
		{"filtered(t, some(projected(filtered(k, i0 = 1), 5, some(k))))", "semijoined(t, projected(filtered(k, i0 = 1), 5, some(k)), true)"},
		{"filtered(t, among(b4, projected(filtered(k, i0 = 1), some(k))))", "semijoined(t, projected(filtered(k, i0 = 1), some(k)), b4 = b6)"},
		// PFilters: the conjuncts of the lowest first.
		{"filtered(t, some(filtered(filtered(filtered(k, i0 = 1 and i0 = 2), i0 = 3), i0 = 4 and (i0 = 5 and i0 = 6))))", "semijoined(t, k, i6 = 1 and i6 = 2 and i6 = 3 and i6 = 4 and i6 = 5 and i6 = 6)"},
		{"filtered(t, some(filtered(k, true)))", "semijoined(t, k, true)"},
		{"filtered(t, some(filtered(filtered(k, notamong(i0, k)), i0 = 1)))", "semijoined(t, filtered(k, notamong(i0, k)), i6 = 1)"},
		{"filtered(t, some(filtered(filtered(k, i0 = 1), notamong(i0, k))))", "semijoined(t, filtered(filtered(k, i0 = 1), notamong(i0, k)), true)"},
		// What an XInPlan compares with.
		{"filtered(t, among(i0, projected(u, i3)))", "semijoined(t, u, i0 = i9)"},
		{"filtered(t, among(i0, projected(projected(u, i3, i0), i1)))", "semijoined(t, projected(u, i3, i0), i0 = i7)"},
		{"filtered(t, among(i0, projected(u, coalesce(i3, r1.i1, 5))))", "semijoined(t, u, i0 = coalesce(i9, i1, 5))"},
		{"filtered(t, among(i0, projected(k, r1.i1)))", "semijoined(t, k, i0 = i1)"},
		{"filtered(t, among(i0, projected(k, 5)))", "semijoined(t, k, i0 = 5)"},
		{"filtered(t, among(i0, projected(filtered(u, b4 and i3 = r1.i1), i0)))", "semijoined(t, u, i0 = i6 and b10 and i9 = i1)"},
		{"filtered(t, among(t2, once(projected(filtered(filtered(u, i0 = 1), b4), t2))))", "semijoined(t, u, t2 = t8 and i6 = 1 and b10)"},
		{"filtered(t, among(i0, grouped(k, 'max(0)')))", "semijoined(t, grouped(k, 'max(0)'), i0 = i6)"},
	})
}

// TestDecorrelateRows has cores and conditions that see rows around them.
func TestDecorrelateRows(t *testing.T) {
	wantRewrites(t, "Decorrelate", []rewriteCase{
		// The core sees the row of the PFilter.
		{"filtered(t, some(limited(filtered(k, i0 = r1.i0), 1, 0)))", ""},
		{"filtered(t, some(filtered(projected(k, r1.i0), i0 = 1)))", ""},
		{"filtered(t, some(projected(once(filtered(k, i0 = r1.i0)), i0)))", ""},
		{"filtered(t, some(joined(k, k, i0 = r1.i0)))", ""},
		{"filtered(t, some(joined(filtered(k, i0 = r1.i0), k, true)))", ""},
		{"filtered(t, some(joined(k, filtered(k, i0 = r1.i0), true)))", ""},
		{"filtered(t, some(vals('i', r1.i0)))", ""},
		{"filtered(t, some(filtered(k, notamong(i0, filtered(k, i0 = r2.i1)))))", ""},
		{"filtered(t, some(filtered(k, notamong(r1.i0, k))))", ""},
		{"filtered(t, some(filtered(k, notamong(i0, filtered(k, notamong(i0, filtered(k, i0 = r3.i1)))))))", ""},
		// It sees its own rows, which have the same number deeper in.
		{"filtered(t, some(filtered(k, notamong(i0, filtered(k, i0 = r1.i0)))))", "semijoined(t, filtered(k, notamong(i0, filtered(k, i0 = r1.i0))), true)"},
		{"filtered(t, some(filtered(k, notamong(i0, filtered(k, notamong(i0, filtered(k, i0 = r2.i0)))))))", "semijoined(t, filtered(k, notamong(i0, filtered(k, notamong(i0, filtered(k, i0 = r2.i0))))), true)"},
		// Rows beyond the PFilter's come one nearer.
		{"projected(u, some(filtered(t, some(filtered(k, i0 = r1.i0 and i0 = r2.i3)))))", "projected(u, some(semijoined(t, k, i6 = i0 and i6 = r1.i3)))"},
		{"projected(u, some(filtered(t, some(limited(filtered(k, i0 = r2.i3), 1, 0)))))", "projected(u, some(semijoined(t, limited(filtered(k, i0 = r1.i3), 1, 0), true)))"},
		{"projected(u, some(filtered(t, some(joined(filtered(k, i0 = r2.i3), filtered(k, i0 = r2.i0), i0 = r2.i0)))))", "projected(u, some(semijoined(t, joined(filtered(k, i0 = r1.i3), filtered(k, i0 = r1.i0), i0 = r1.i0), true)))"},
		{"projected(u, some(filtered(t, some(filtered(k, notamong(i0, filtered(k, i0 = r1.i0 and i0 = r3.i3)))))))", "projected(u, some(semijoined(t, filtered(k, notamong(i0, filtered(k, i0 = r1.i0 and i0 = r2.i3))), true)))"},
		{"projected(u, some(filtered(t, among(r1.i3, k))))", "projected(u, some(semijoined(t, k, r1.i3 = i6)))"},
		{"projected(u, some(filtered(t, among(i0, projected(k, r2.i3)))))", "projected(u, some(semijoined(t, k, i0 = r1.i3)))"},
		{"projected(u, some(filtered(t, r1.b4 and some(k))))", "projected(u, some(filtered(semijoined(t, k, true), r1.b4)))"},
		{"projected(p, some(projected(u, some(filtered(t, not some(filtered(k, i0 = r3.i1 and r2.i3 = r1.i0)))))))", "projected(p, some(projected(u, some(antijoined(t, k, i6 = r2.i1 and r1.i3 = i0)))))"},
	})
}

// TestDecorrelateInside goes from the leaves up: a PFilter within a query becomes a join ahead of the one around it.
func TestDecorrelateInside(t *testing.T) {
	wantRewrites(t, "Decorrelate", []rewriteCase{
		{"filtered(t, notamong(i0, filtered(k, some(u))))", "filtered(t, notamong(i0, semijoined(k, u, true)))"},
		{"filtered(t, some(filtered(k, some(u))))", "semijoined(t, semijoined(k, u, true), true)"},
		{"filtered(t, some(filtered(k, i0 = r1.i0 and some(u))))", "semijoined(t, semijoined(k, u, true), i6 = i0)"},
		{"filtered(t, some(filtered(k, some(filtered(u, i0 = r1.i0)))))", "semijoined(t, semijoined(k, u, i1 = i0), true)"},
		// The condition that became the join's sees the row of the PFilter around.
		{"filtered(t, some(filtered(k, some(filtered(u, i0 = r2.i0)))))", "filtered(t, some(semijoined(k, u, i1 = r1.i0)))"},
		{"joined(filtered(k, some(u)), filtered(k, not some(u)), some(filtered(k, some(u))))", "joined(semijoined(k, u, true), antijoined(k, u, true), some(semijoined(k, u, true)))"},
		{"projected(k, one(filtered(k, some(u))), some(filtered(k, some(u))))", "projected(k, one(semijoined(k, u, true)), some(semijoined(k, u, true)))"},
		{"vals('b', some(filtered(k, some(u))))", "vals('b', some(semijoined(k, u, true)))"},
		{"sorted(limited(once(unioned(filtered(k, some(u)), k)), 1, 1), 's0')", "sorted(limited(once(unioned(semijoined(k, u, true), k)), 1, 1), 's0')"},
		{"filtered(filtered(k, some(u)), some(p))", "semijoined(semijoined(k, u, true), p, true)"},
		{"filtered(filtered(k, some(u)), 1 / i0 = 1 and some(p))", "filtered(semijoined(k, u, true), 1 / i0 = 1 and some(p))"},
	})
}

// wide is a plan of so many columns.
func wide(columns int) string { return "projected(k" + strings.Repeat(", i0", columns) + ")" }

func TestDecorrelateMaxWide(t *testing.T) {
	narrow := "limited(" + wide(2) + ", 1, 0)"
	wantRewrites(t, "Decorrelate", []rewriteCase{
		{"filtered(" + wide(31) + ", some(k))", "semijoined(" + wide(31) + ", k, true)"},
		{"filtered(" + wide(32) + ", some(k))", ""},
		{"filtered(" + wide(32) + ", some(vals('', null)))", "semijoined(" + wide(32) + ", vals('', null), true)"},
		{"filtered(" + wide(31) + ", some(k) and some(k) and some(" + narrow + ") and not some(k))", "filtered(antijoined(semijoined(semijoined(" + wide(31) + ", k, true), k, true), k, true), some(" + narrow + "))"},
		{"filtered(" + wide(30) + ", some(" + narrow + "))", "semijoined(" + wide(30) + ", " + narrow + ", true)"},
		// What counts are the columns of the core.
		{"filtered(" + wide(31) + ", some(" + wide(9) + "))", "semijoined(" + wide(31) + ", k, true)"},
		{"filtered(" + wide(26) + ", among(i25, projected(u, i3)))", "semijoined(" + wide(26) + ", u, i25 = i29)"},
		{"filtered(" + wide(27) + ", among(i25, projected(u, i3)))", ""},
	})
}

// TestSimplifyNeeds has conditions over the join of k (i0) and u (i1, d2, t3, i4, b5, y6).
func TestSimplifyNeeds(t *testing.T) {
	var cases []rewriteCase
	for _, needing := range []string{
		"i1 = 1", "1 = i1", "i1 <> 1", "i1 < 1", "i1 <= 1", "i1 > 1", "1 >= i1", "y6 = y6", "i0 = i1", "i4 = i0", "b5", "not b5", "not (i1 = 1)", "not not b5",
		"t3 like 'a'", "'a' like t3", "t3 not like 'a'", "i1 between 1 and 2", "i1 not between i0 and 2", "i1 in (1, 2)", "i1 not in (i0)", "cast(i1 as text) = '1'", "cast(b5 as boolean)",
		"length(t3) = 1", "lower(t3) = 'a'", "'a' = upper(t3)", "trim(t3) = 'a'", "year(y6) = 1", "month(y6) = 1", "day(y6) = 1", "least(i0, i1) = 1", "greatest(i4, i0) = 1",
		"i1 = 1 or i4 = 2", "b5 or i1 = 1 or d2 = 1.5", "i0 = 1 and b5", "b5 and i0 = 1", "i0 = 1 and (i0 is null and (d2 > 1.5 and some(k)))", "(i1 = 1) = (i0 = 1)", "null = i1", "i1 = null",
		"lower(cast(i1 as text)) like 'a' or not (i4 between 1 and 2)", "least(length(t3), i0) in (1, 2)",
	} {
		cases = append(cases, rewriteCase{"filtered(leftjoined(k, u, i0 = i1), " + needing + ")", "filtered(joined(k, u, i0 = i1), " + needing + ")"})
	}
	for _, idle := range []string{
		"i0 = 1", "i1 is null", "not (i1 is null)", "b5 is null", "i1 is not distinct from 1", "i1 is distinct from 1", "i1 = 1 or i0 = 1", "i0 = 1 or i1 = 1", "coalesce(i1, 0) = 0", "coalesce(b5, b5)",
		"case when i1 = 1 then true end", "case when b5 then b5 else b5 end", "i0 between i1 and i4", "i0 in (i1, i4)", "nullif(i1, 1) = 2", "nullif(i0, i1) = 2", "not (i1 = 1 and i4 = 1)",
		"(i1 = 1 and b5) or i4 = 1", "true", "null", "some(k)", "i1 = 1 or some(k)", "among(i1, k)", "notamong(i1, k)", "b5 = some(k)", "not (b5 = some(k))", "true or b5",
	} {
		cases = append(cases, rewriteCase{"filtered(leftjoined(k, u, i0 = i1), " + idle + ")", ""})
	}
	wantRewrites(t, "SimplifyJoins", cases)
}

func TestSimplifyJoins(t *testing.T) {
	wantRewrites(t, "SimplifyJoins", []rewriteCase{
		{"leftjoined(k, u, i0 = i1)", ""},
		{"filtered(joined(k, u, i0 = i1), i1 = 1)", ""},
		{"filtered(semijoined(k, k, i0 = i1), i0 = 1)", ""},
		{"filtered(antijoined(u, k, i0 = i6), i3 = 1)", ""},
		// The PFilter is not safe.
		{"filtered(leftjoined(k, u, i0 = i1), i1 = 1 and 1 / i0 = 1)", ""},
		{"filtered(leftjoined(k, u, i0 = i1), i1 + 1 = 1)", ""},
		{"filtered(leftjoined(k, u, i0 = i1), - i1 = 1)", ""},
		{"filtered(leftjoined(k, u, i0 = i1), abs(i1) = 1)", ""},
		{"filtered(leftjoined(k, u, i0 = i1), b5 and some(projected(k, 1 / i0)))", ""},
		{"filtered(leftjoined(k, u, i0 = i1), i1 = one(limited(k, 1, 0)))", ""},
		// The join, and what is below it, need not be.
		{"filtered(leftjoined(k, u, 1 / i0 = 1), i1 = 1)", "filtered(joined(k, u, 1 / i0 = 1), i1 = 1)"},
		{"filtered(leftjoined(projected(k, 1 / i0), u, true), i1 = 1)", "filtered(joined(projected(k, 1 / i0), u, true), i1 = 1)"},
		{"filtered(leftjoined(k, u, some(p)), i1 = 1)", "filtered(joined(k, u, some(p)), i1 = 1)"},
		// The last column of L, the first and the last of R.
		{"filtered(leftjoined(t, u, true), y5 = y11)", "filtered(joined(t, u, true), y5 = y11)"},
		{"filtered(leftjoined(t, u, true), y5 = y5)", ""},
		{"filtered(leftjoined(t, u, true), i6 = 1)", "filtered(joined(t, u, true), i6 = 1)"},
		{"filtered(leftjoined(t, u, true), y11 = y5)", "filtered(joined(t, u, true), y11 = y5)"},
		// A column of another row.
		{"projected(u, some(filtered(leftjoined(k, u, true), r1.i3 = 1)))", ""},
		{"projected(u, some(filtered(leftjoined(k, u, true), i4 = r1.i3)))", "projected(u, some(filtered(joined(k, u, true), i4 = r1.i3)))"},
		// Not over the join itself.
		{"filtered(filtered(leftjoined(k, u, true), i0 = 1), i1 = 1)", ""},
		{"filtered(once(leftjoined(k, u, true)), i1 = 1)", ""},
		{"filtered(joined(leftjoined(k, u, true), k, true), i1 = 1)", ""},
		{"filtered(leftjoined(leftjoined(k, k, true), k, true), i1 = 1)", ""},
		// All nodes of the plan are looked at.
		{"filtered(leftjoined(leftjoined(k, k, true), k, true), i2 = 1)", "filtered(joined(leftjoined(k, k, true), k, true), i2 = 1)"},
		{"filtered(leftjoined(filtered(leftjoined(k, k, true), i1 = 1), filtered(leftjoined(k, k, true), i1 = 2), true), i2 = 1)", "filtered(joined(filtered(joined(k, k, true), i1 = 1), filtered(joined(k, k, true), i1 = 2), true), i2 = 1)"},
		{"projected(k, some(filtered(leftjoined(k, k, true), i1 = 1)), one(projected(limited(filtered(leftjoined(k, u, true), b5), 1, 0), i1)))", "projected(k, some(filtered(joined(k, k, true), i1 = 1)), one(projected(limited(filtered(joined(k, u, true), b5), 1, 0), i1)))"},
		{"filtered(leftjoined(k, k, some(filtered(leftjoined(k, k, true), i1 = 1))), 1 / i0 = 1)", "filtered(leftjoined(k, k, some(filtered(joined(k, k, true), i1 = 1))), 1 / i0 = 1)"},
		{"sorted(grouped(filtered(leftjoined(k, k, true), i1 = 1), 'k0'), 's0')", "sorted(grouped(filtered(joined(k, k, true), i1 = 1), 'k0'), 's0')"},
	})
}
