package tests

import (
	"testing"

	"loop.example/g00001/impl"
)

func TestFoldFilters(t *testing.T) {
	wantRewrites(t, "FoldPlan", []rewriteCase{
		{"t", ""},
		{"filtered(t, true)", "t"},
		{"filtered(t, 1 = 1)", "t"},
		{"filtered(t, 1 = 2 or 2 > 1)", "t"},
		{"filtered(projected(k, 1 / i0), true)", "projected(k, 1 / i0)"},
		{"filtered(t, false)", "vals('iitdby')"},
		{"filtered(t, 1 = 2)", "vals('iitdby')"},
		{"filtered(t, null)", "vals('iitdby')"},
		{"filtered(t, cast(null as boolean))", "vals('iitdby')"},
		{"filtered(t, 1 = 2 or null)", "vals('iitdby')"},
		{"filtered(k, i0 = 1 and false)", "vals('i')"},
		{"filtered(k, i0 > 1 + 1)", "filtered(k, i0 > 2)"},
		{"filtered(k, i0 = 1 and true)", "filtered(k, i0 = 1)"},
		{"filtered(k, true or i0 = 1)", "k"},
		// What fails stays.
		{"filtered(k, 1 / 0 = 1)", ""},
		{"filtered(k, 1 / 0 = 1 and false)", ""},
		// L is nothing.
		{"filtered(vals('i'), i0 = 1)", "vals('i')"},
		{"filtered(vals('i'), 1 / 0 = i0)", "vals('i')"},
		{"filtered(vals('i'), some(k))", "vals('i')"},
		{"filtered(vals('i', 1), i0 = 1)", ""},
		{"filtered(vals('', null), true)", "vals('', null)"},
		{"filtered(vals('', null), false)", "vals('')"},
		// Rules that apply behind others.
		{"filtered(filtered(k, 1 = 1), 2 = 2)", "k"},
		{"filtered(filtered(k, 1 = 2), i0 = 1)", "vals('i')"},
		{"filtered(filtered(k, i0 = 1), 1 = 2)", "vals('i')"},
		{"filtered(filtered(projected(k, 1 / i0), 1 = 2), 1 = 2)", "filtered(filtered(projected(k, 1 / i0), false), false)"},
	})
}

// TestFoldSafe has conditions that are not true over plans that are safe, and that are not.
func TestFoldSafe(t *testing.T) {
	var cases []rewriteCase
	for _, safe := range []string{
		"k", "projected(k, i0)", "projected(k, 1 + 1)", "filtered(k, i0 = 1)", "projected(t, cast(i0 as text))", "projected(k, cast(null as int))", "projected(k, cast(i0 as int))",
		"projected(t, length(t2))", "projected(t, lower(t2), upper(t2), trim(t2), nullif(i0, i1), least(i0, i1), greatest(i0, i1), year(y5), month(y5), day(y5))",
		"projected(t, coalesce(i0, i1), case when b4 then 1 end, t2 like 'a', i0 in (1, 2), i0 between 1 and 2, not b4, i0 is null)",
		"projected(k, some(u))", "projected(k, among(i0, k))", "grouped(k, 'k0 all count(0) min(0) max(0)')", "grouped(k, '')", "joined(k, k, i0 = i1)", "vals('i', 1, 2)",
		"projected(k, some(projected(u, 1 + 1)))", "sorted(limited(once(unioned(k, excepted(k, k))), 1, 1), 's0')", "projected(k, cast(null as text))",
	} {
		cases = append(cases, rewriteCase{"filtered(" + safe + ", false)", "safe"})
	}
	for _, unsafe := range []string{
		"projected(k, i0 + 1)", "projected(k, i0 - 1)", "projected(k, i0 * 1)", "projected(k, i0 / 1)", "projected(k, i0 % 1)", "projected(t, t2 || 'a')", "projected(k, - i0)",
		"projected(t, cast(t2 as int))", "projected(t, cast(i0 as decimal))", "projected(t, abs(i0))", "projected(t, substr(t2, 1, 2))", "projected(t, round(d3, 1))",
		"projected(k, one(k))", "projected(k, 1 / 0)", "grouped(k, 'sum(0)')", "grouped(k, 'k0 avg(0)')", "filtered(k, i0 + 1 = 1)", "joined(k, k, i0 + 1 = i1)", "vals('i', 1 / 0)",
		"once(projected(k, i0 + 1))", "joined(projected(k, i0 + 1), k, true)", "joined(k, projected(k, i0 + 1), true)", "unioned(k, projected(k, i0 + 1))",
		"projected(k, some(projected(u, i0 + 1)))", "projected(k, among(i0, projected(k, i0 + 1)))", "projected(k, some(filtered(u, some(projected(u, - i0)))))",
		"projected(k, some(once(projected(u, i0 + 1))))", "projected(k, some(grouped(u, 'sum(0)')))", "projected(k, some(projected(k, one(k))))",
	} {
		cases = append(cases, rewriteCase{"filtered(" + unsafe + ", false)", ""})
	}
	s := estate(t)
	fold := rewritingNamed("FoldPlan")
	for _, c := range cases {
		p := readPlan(t, s, c.plan)
		got := wantRewriting(t, s, fold, p)
		if nothing := len(got.Nodes) == 1 && got.Nodes[0].Op == impl.PValues && got.Nodes[0].A == 0; nothing != (c.want == "safe") {
			t.Errorf("%s is\n%s", c.plan, shortPlan(got))
		}
		wantSameMeaning(t, s, packedState(s, 3), p, got)
	}
}

func TestFoldRows(t *testing.T) {
	wantRewrites(t, "FoldPlan", []rewriteCase{
		{"projected(k, 1 + 1, i0 + 1, 2 * 3 = 6)", "projected(k, 2, i0 + 1, true)"},
		{"projected(vals('i'), i0, 1 / 0, 'x')", "vals('iit')"},
		{"projected(vals('i'))", "vals('')"},
		{"projected(vals('i', 1 + 1, 3), i0)", "projected(vals('i', 2, 3), i0)"},
		{"once(vals('it'))", "vals('it')"},
		{"once(k)", ""},
		{"sorted(vals('it'), 's1df')", "vals('it')"},
		{"sorted(k, 's0')", ""},
		{"limited(vals('i'), 3, 1)", "vals('i')"},
		{"limited(vals('i'), -1, 0)", "vals('i')"},
		{"limited(k, 0, 0)", "vals('i')"},
		{"limited(k, 0, 5)", "vals('i')"},
		{"limited(projected(k, 1 / i0), 0, 0)", ""},
		{"limited(once(projected(k, 1 / i0)), 0, 3)", ""},
		{"limited(k, -1, 0)", "k"},
		{"limited(projected(k, 1 / i0), -1, 0)", "projected(k, 1 / i0)"},
		{"limited(k, -1, 1)", ""},
		{"limited(k, 1, 0)", ""},
		{"grouped(vals('i'), 'k0 all')", "vals('ii')"},
		{"grouped(vals('id'), 'k1 k0 sum(0) avg(1)')", "vals('diid')"},
		{"grouped(vals('i'), 'all')", ""},
		{"grouped(vals('i'), '')", ""},
		{"grouped(k, 'k0 all')", ""},
		{"vals('id', 1 + 1, 2.5, 3, 1.5 * 2)", "vals('id', 2, 2.5, 3, 3.0)"},
		// One nothing after the other.
		{"sorted(once(limited(projected(filtered(t, false), i0, t2), 1, 1)), 's0')", "vals('it')"},
		{"projected(grouped(projected(filtered(t, false), i1), 'k0 max(0)'), 5)", "vals('i')"},
		{"projected(grouped(projected(filtered(t, false), i1), 'max(0)'), 5)", "projected(grouped(vals('i'), 'max(0)'), 5)"},
	})
}

func TestFoldJoins(t *testing.T) {
	wantRewrites(t, "FoldPlan", []rewriteCase{
		// L is nothing, and R is safe or not.
		{"joined(vals('i'), k, i0 = i1)", "vals('ii')"},
		{"leftjoined(vals('i'), k, i0 = i1)", "vals('ii')"},
		{"semijoined(vals('i'), k, i0 = i1)", "vals('i')"},
		{"antijoined(vals('i'), k, i0 = i1)", "vals('i')"},
		{"joined(vals('i'), k, 1 / i0 = 1)", "vals('ii')"},
		{"antijoined(vals('i'), k, some(k))", "vals('i')"},
		{"joined(vals('i'), projected(k, 1 / i0), i0 = i1)", ""},
		{"leftjoined(vals('i'), projected(k, 1 / i0), i0 = i1)", ""},
		{"semijoined(vals('i'), projected(k, 1 / i0), i0 = i1)", ""},
		{"antijoined(vals('i'), projected(k, 1 / i0), i0 = i1)", ""},
		// R is nothing, and L is safe or not.
		{"joined(k, vals('t'), true)", "vals('it')"},
		{"semijoined(k, vals('t'), true)", "vals('i')"},
		{"antijoined(k, vals('t'), true)", "k"},
		{"leftjoined(k, vals('t'), true)", "projected(k, i0, cast(null as text))"},
		{"leftjoined(p, vals('nidtby'), i1 = i5)", "projected(p, t0, i1, i2, d3, null, cast(null as int), cast(null as decimal), cast(null as text), cast(null as boolean), cast(null as date))"},
		{"leftjoined(k, vals(''), false)", "projected(k, i0)"},
		{"joined(projected(k, 1 / i0), vals('i'), true)", ""},
		{"semijoined(projected(k, 1 / i0), vals('i'), true)", ""},
		{"antijoined(projected(k, 1 / i0), vals('i'), 1 / 0 = 1)", "projected(k, 1 / i0)"},
		{"leftjoined(projected(k, 1 / i0), vals('i'), 1 / 0 = 1)", "projected(projected(k, 1 / i0), i0, cast(null as int))"},
		// A node far below is not safe.
		{"joined(vals('i'), once(projected(k, 1 / i0)), i0 = i1)", ""},
		{"antijoined(vals('i'), sorted(once(projected(k, 1 / i0)), 's0'), i0 = i1)", ""},
		{"joined(once(projected(k, 1 / i0)), vals('i'), true)", ""},
		{"semijoined(once(projected(k, 1 / i0)), vals('i'), true)", ""},
		{"joined(once(projected(k, 1 / i0)), k, false)", ""},
		{"joined(k, once(projected(k, 1 / i0)), false)", ""},
		// Both are.
		{"joined(vals('i'), vals('t'), true)", "vals('it')"},
		{"leftjoined(vals('i'), vals('t'), true)", "vals('it')"},
		{"semijoined(vals('i'), vals('t'), true)", "vals('i')"},
		{"antijoined(vals('i'), vals('t'), true)", "vals('i')"},
		// A condition that is constant.
		{"joined(k, k, 1 = 2)", "vals('ii')"},
		{"joined(k, k, null)", "vals('ii')"},
		{"joined(k, k, cast(null as boolean))", "vals('ii')"},
		{"joined(k, k, 1 = 1)", "joined(k, k, true)"},
		{"leftjoined(k, k, 1 = 2)", "leftjoined(k, k, false)"},
		{"semijoined(k, k, false)", ""},
		{"antijoined(k, k, null)", ""},
		{"semijoined(k, k, true)", ""},
		{"antijoined(k, k, true)", ""},
		{"joined(projected(k, 1 / i0), k, false)", ""},
		{"joined(k, projected(k, 1 / i0), false)", ""},
		{"joined(k, k, 1 / 0 = 1)", ""},
		{"joined(k, k, some(k))", ""},
		// A side that becomes nothing.
		{"joined(filtered(k, false), k, i0 = i1)", "vals('ii')"},
		{"leftjoined(k, filtered(k, false), i0 = i1)", "projected(k, i0, cast(null as int))"},
		{"antijoined(k, filtered(k, 1 > 2), i0 = i1)", "k"},
	})
}

func TestFoldSets(t *testing.T) {
	wantRewrites(t, "FoldPlan", []rewriteCase{
		{"unioned(vals('i'), k)", "once(k)"},
		{"unionedall(vals('i'), k)", "k"},
		{"unioned(k, vals('i'))", "once(k)"},
		{"unionedall(k, vals('i'))", "k"},
		{"unionedall(vals('i'), vals('i'))", "vals('i')"},
		{"unioned(vals('i'), vals('i'))", "once(vals('i'))"},
		{"unioned(vals('i'), projected(k, 1 / i0))", "once(projected(k, 1 / i0))"},
		{"unionedall(projected(k, 1 / i0), vals('i'))", "projected(k, 1 / i0)"},
		{"unioned(k, k)", ""},
		{"unionedall(vals('i', 1), k)", ""},
		{"unionedall(filtered(k, false), filtered(k, true))", "k"},
		{"excepted(vals('i'), k)", "vals('i')"},
		{"exceptedall(vals('i'), k)", "vals('i')"},
		{"excepted(vals('i'), projected(k, 1 / i0))", ""},
		{"exceptedall(vals('i'), projected(k, 1 / i0))", ""},
		{"excepted(vals('i'), once(projected(k, 1 / i0)))", ""},
		{"excepted(k, vals('i'))", "once(k)"},
		{"exceptedall(k, vals('i'))", "k"},
		{"excepted(vals('i'), vals('i'))", "vals('i')"},
		{"exceptedall(vals('i'), vals('i'))", "vals('i')"},
		{"excepted(projected(k, 1 / i0), vals('i'))", "once(projected(k, 1 / i0))"},
		{"exceptedall(projected(k, 1 / i0), vals('i'))", "projected(k, 1 / i0)"},
		{"excepted(k, k)", ""},
		{"exceptedall(k, k)", ""},
	})
}

// TestFoldInside has plans in expressions, which are folded, and expressions with plans in them, which are not.
func TestFoldInside(t *testing.T) {
	wantRewrites(t, "FoldPlan", []rewriteCase{
		{"projected(k, some(filtered(k, false)))", "projected(k, some(vals('i')))"},
		{"filtered(k, among(i0, projected(filtered(k, true), 1 + 1)))", "filtered(k, among(i0, projected(k, 2)))"},
		{"filtered(k, notamong(1 + 1, k))", ""},
		{"projected(k, one(limited(k, -1, 0)))", "projected(k, one(k))"},
		{"projected(k, some(k) or 1 = 1, 1 = 1)", "projected(k, some(k) or 1 = 1, true)"},
		{"filtered(k, some(k) and true)", ""},
		{"filtered(k, some(filtered(k, true)) and 1 = 2)", "filtered(k, some(k) and 1 = 2)"},
		{"joined(k, k, some(filtered(k, 1 = 1)) or true)", "joined(k, k, some(k) or true)"},
		{"vals('b', some(filtered(k, true)), false and true)", "vals('b', some(k), false)"},
		{"filtered(k, some(filtered(u, some(filtered(k, i0 = r2.i0 and 1 = 1)) or i0 > 1 + 1)))", "filtered(k, some(filtered(u, some(filtered(k, i0 = r2.i0)) or i0 > 1 + 1)))"},
		{"filtered(k, some(filtered(u, i0 = r1.i0 and true)))", "filtered(k, some(filtered(u, i0 = r1.i0)))"},
		// A plan in an expression lets a node be safe only when it is folded.
		{"filtered(projected(k, some(projected(k, 1 + 1))), false)", "vals('b')"},
	})
}

// TestFoldLong has expressions that folding would make longer than MaxItems, which stay, and others beside them, which do not.
func TestFoldLong(t *testing.T) {
	s := estate(t)
	for _, c := range []struct {
		pairs, negations int
		fits             bool
	}{{133, 0, true}, {133, 1, false}, {132, 3, true}, {132, 4, false}, {190, 0, false}} {
		long, sum := manyPairs(c.pairs, c.negations), binOf(impl.OpAdd, constOf(intv(1)), constOf(intv(1)))
		p := (&planner{}).whole(project(valueRows([]int{impl.Bool}, []impl.Value{boolv(true)}), []*branch{sum, long, sum}))
		got := wantRewriting(t, s, rewritingNamed("FoldPlan"), p).Nodes[1].Exprs
		if impl.ExprText(got[0]) != "2" || impl.ExprText(got[2]) != "2" || sameExpr(got[1], laid(long)) == c.fits || sameExpr(got[1], laid(wantedFold(long))) != c.fits {
			t.Errorf("%d pairs, %d negations: %d nodes become %d", c.pairs, c.negations, len(laid(long).Nodes), len(got[1].Nodes))
		}
	}
}
