package tests

import (
	"fmt"
	"strings"
	"testing"

	"loop.example/g00001/impl"
)

// What fails in the plans below: 1 / 0 with ErrZero, cast('q' as int) with ErrCast, 9223372036854775807 + 1 with ErrOverflow, a value of several rows with ErrRows. ErrOverflow is less than ErrZero, that less than ErrCast, and ErrRows the
// greatest of them.

// TestExecuteFailures asks for the codes of what plans have, too: L first, then R, then the node, of which the least counts.
func TestExecuteFailures(t *testing.T) {
	wantPhysRows(t, []physCase{
		{"projected(k, 1 / (i0 - 20))", "", 7, impl.ErrZero},
		{"filtered(k, 1 / (i0 - 20) > 0)", "", 7, impl.ErrZero},
		{"vals('i', 1, 1 / 0, cast('q' as int))", "", 1, impl.ErrZero},
		{"vals('ii', cast('q' as int), 1 / 0)", "", 1, impl.ErrCast},
		{"vals('ii', cast('q' as int), 1, 1, 1 / 0)", "", 1, impl.ErrZero},
		{"projected(t, case when i0 = 1 then one(k) when i0 = 2 then cast('q' as int) when i0 = 3 then 1 / 0 else 1 end)", "", 13, impl.ErrZero},
		{"projected(t, case when i0 = 5 then one(k) when i0 = 4 then cast('q' as int) when i0 = 3 then 1 / 0 when i0 = 1 then 9223372036854775807 + i0 else 1 end)", "", 13, impl.ErrOverflow},
		{"projected(t, cast(t2 as int), 1 / (i0 - 2))", "", 7, impl.ErrCast},
		{"projected(t, 1 / (i0 - 2), cast(t2 as int))", "", 7, impl.ErrZero},
		{"filtered(projected(k, cast('q' as int)), 1 / 0 = 1)", "", 8, impl.ErrCast},
		{"joined(projected(k, cast('q' as int)), projected(k, 1 / 0), true)", "", 8, impl.ErrCast},
		{"joined(k, projected(k, 1 / 0), cast('q' as int) = 1)", "", 14, impl.ErrZero},
		{"joined(vals('i', 1), vals('i', 0, 1), case when i1 = 0 then cast('q' as int) else 1 / 0 end = 1)", "", 8, impl.ErrZero},
		{"leftjoined(k, vals('i'), 1 / 0 = 1)", "10,NULL;NULL,NULL;20,NULL;10,NULL;1,NULL;", 13, impl.OK},
		{"unioned(projected(k, cast('q' as int)), projected(k, 1 / 0))", "", 8, impl.ErrCast},
		{"excepted(k, projected(k, 1 / 0))", "", 14, impl.ErrZero},
		{"once(projected(k, 1 / 0))", "", 8, impl.ErrZero},
		{"sorted(projected(k, 1 / 0), 's0')", "", 8, impl.ErrZero},
		{"limited(projected(k, 1 / 0), 0, 0)", "", 8, impl.ErrZero},
		{"topped(projected(k, 1 / 0), 's0', 0, 0)", "", 8, impl.ErrZero},
		{"grouped(projected(k, 1 / 0), 'all')", "", 8, impl.ErrZero},
		{"grouped(vals('i', 9223372036854775807, 1), 'sum(0)')", "", 4, impl.ErrOverflow},
		{"grouped(vals('ii', 1, 9223372036854775807, 2, 5, 1, 1), 'k0 sum(1)')", "", 5, impl.ErrOverflow},
		{"projected(k, one(k))", "", 37, impl.ErrRows},
		{"projected(vals('i', 1), some(projected(k, 1 / 0)))", "", 10, impl.ErrZero},
		{"projected(vals('i', 1), among(i0, projected(k, 1 / 0)))", "", 10, impl.ErrZero},
		{"projected(vals('i', 1), among(1 / 0, k))", "", 3, impl.ErrZero},
		{"projected(vals('i', 1), false and some(projected(k, 1 / 0)))", "false;", 4, impl.OK},
	})
}

// TestExecuteSeekFailures: the first of the values that fails gives the node's code, and no row is looked at.
func TestExecuteSeekFailures(t *testing.T) {
	wantPhysRows(t, []physCase{
		{"sought(t, 0, '1 0', 1 / 0)", "", 1, impl.ErrZero},
		{"sought(t, 0, '0 15', cast('q' as int), 1 / 0)", "", 1, impl.ErrCast},
		{"sought(t, 0, '0 15', 1 / 0, cast('q' as int))", "", 1, impl.ErrZero},
		{"sought(t, 0, '0 15', 1, cast('q' as int))", "", 1, impl.ErrCast},
		{"sought(u, 10, '2 0', cast('q' as int), 1 / 0)", "", 1, impl.ErrCast},
		{"sought(u, 10, '2 0', cast(null as int), 1 / 0)", "", 1, impl.ErrZero},
		{"sought(u, 10, '1 4', 77, 1 / 0)", "", 1, impl.ErrZero},
		{"sought(t, 0, '1 0', one(k))", "", 7, impl.ErrRows},
		{"sought(t, 0, '0 15', one(limited(k, 1, 0)), one(k))", "", 15, impl.ErrRows},
		{"sought(t, 0, '1 0', one(projected(k, 1 / (i0 - 1))))", "", 8, impl.ErrZero},
		// Of what stands over it, nothing is done; of what stands around it, the other rows are.
		{"projected(sought(t, 0, '1 0', 1 / 0), cast('q' as int))", "", 2, impl.ErrZero},
		{"joined(sought(t, 0, '1 0', cast('q' as int)), sought(t, 0, '1 0', 1 / 0), true)", "", 2, impl.ErrCast},
		{"joined(sought(t, 0, '1 0', 1), sought(t, 0, '1 0', 1 / 0), cast('q' as int) = 1)", "", 4, impl.ErrZero},
		{"filtered(vals('i', 0, 1, 2), some(sought(t, 0, '1 0', 1 / r1.i0)))", "", 9, impl.ErrZero},
		{"projected(vals('i', 1, 0, 2), case when i0 = 1 then cast('q' as int) else one(projected(sought(t, 0, '1 0', 1 / r1.i0), i0)) end)", "", 9, impl.ErrZero},
		// A filter that lets nothing pass does not help.
		{"projected(vals('i', 1), some(filtered(sought(t, 0, '1 0', 1 / 0), false)))", "", 5, impl.ErrZero},
	})
}

// TestExecuteFailuresWithoutRows: where a table is empty a QSeek fails all the same, a join does not.
func TestExecuteFailuresWithoutRows(t *testing.T) {
	s := farm(t)
	for text, want := range map[string]int{
		"sought(t, 0, '1 0', 1 / 0)": impl.ErrZero, "sought(t, 8, '1 1', 1, cast(1 / 0 as text))": impl.ErrZero, "looked(t, t, 0, 1, 1 / 0, true)": impl.OK, "looked(vals('i', 1), t, 0, 1, i0, 1 / 0 = 1)": impl.OK,
		"looked(vals('i', 1), t, 0, 1, 1 / 0, true)": impl.ErrZero, "hashed(t, u, '0=0', 1 / 0 = 1)": impl.OK, "merged(t, u, '0=0', 1 / 0 = 1)": impl.OK, "projected(t, 1 / 0)": impl.OK,
	} {
		f := readPhys(t, s, text)
		if code := wantExecution(t, s, emptyState(s), f); code != want {
			t.Errorf("%s: %d; want %d", text, code, want)
		}
	}
}

// TestExecuteHashFailures: the condition is looked at for the pairs whose columns are equal alone, and for all of them.
func TestExecuteHashFailures(t *testing.T) {
	wantPhysRows(t, []physCase{
		{"hashed(k, projected(t, i1, i0), '0=0', 1 / (i2 - 3) = 1)", "", 26, impl.ErrZero},
		{"lefthashed(k, projected(t, i1, i0), '0=0', 1 / (i2 - 3) = 1)", "", 26, impl.ErrZero},
		{"semihashed(k, projected(t, i1, i0), '0=0', 1 / (i2 - 3) = 1)", "", 26, impl.ErrZero},
		{"antihashed(k, projected(t, i1, i0), '0=0', 1 / (i2 - 3) = 1)", "", 26, impl.ErrZero},
		// A partner ahead of the pair that fails does not help, nor behind it.
		{"semihashed(vals('i', 10), projected(t, i1, i0), '0=0', 6 / (i2 - 5) < 0)", "", 18, impl.ErrZero},
		{"semihashed(vals('i', 10), projected(t, i1, i0), '0=0', 6 / (i2 - 1) > 0)", "", 18, impl.ErrZero},
		// Row 2 of t has no partner, so nothing fails for it.
		{"hashed(k, projected(t, i1, i0), '0=0', 1 / (i2 - 2) = 1)", "10,10,3;10,10,3;", 28, impl.OK},
		{"antihashed(k, projected(t, i1, i0), '0=0', 1 / (i2 - 2) = 1)", "NULL;20;1;", 29, impl.OK},
		// The least of all pairs, whatever their order is.
		{"hashed(k, projected(t, i1, i0), '0=0', case when i2 = 1 then cast('q' as int) when i2 = 4 then 9223372036854775807 + i2 when i2 = 5 then 1 / 0 else 1 end = 1)", "", 26, impl.ErrOverflow},
		{"hashed(k, projected(t, i1, i0), '0=0', case when i2 = 1 then one(k) when i2 = 5 then cast('q' as int) else 1 end = 1)", "", 38, impl.ErrCast},
		{"hashed(vals('i', 1), vals('i', 2), '0=0', 1 / 0 = 1)", "", 5, impl.OK},
		{"hashed(vals('i', cast(null as int)), vals('i', cast(null as int)), '0=0', 1 / 0 = 1)", "", 5, impl.OK},
		{"hashed(vals('i', 1), vals('i', 1), '0=0', 1 / 0 = 1)", "", 6, impl.ErrZero},
		// L first, then R, then the pairs.
		{"hashed(projected(k, cast('q' as int)), projected(k, 1 / 0), '0=0', true)", "", 8, impl.ErrCast},
		{"hashed(k, projected(k, 1 / 0), '0=0', cast('q' as int) = 1)", "", 14, impl.ErrZero},
		{"merged(projected(k, cast('q' as int)), projected(k, 1 / 0), '0=0', true)", "", 8, impl.ErrCast},
		{"merged(k, projected(k, 1 / 0), '0=0', cast('q' as int) = 1)", "", 14, impl.ErrZero},
		{"merged(k, projected(t, i1, i0), '0=0', 1 / (i2 - 3) = 1)", "", 26, impl.ErrZero},
		{"merged(k, projected(t, i1, i0), '0=0', 1 / (i2 - 2) = 1)", "10,10,3;10,10,3;", 28, impl.OK},
		{"merged(k, projected(t, i1, i0), '0=0', case when i2 = 1 then cast('q' as int) when i2 = 4 then 9223372036854775807 + i2 when i2 = 5 then 1 / 0 else 1 end = 1)", "", 26, impl.ErrOverflow},
		{"merged(vals('i', 1), vals('i', 2), '0=0', 1 / 0 = 1)", "", 5, impl.OK},
		{"merged(vals('i', cast(null as int)), vals('i', cast(null as int)), '0=0', 1 / 0 = 1)", "", 5, impl.OK},
	})
}

// TestExecuteLookFailures: of a row of L the first of the key's values that fails is the row's code; then the pairs of the others are looked at all the same.
func TestExecuteLookFailures(t *testing.T) {
	wantPhysRows(t, []physCase{
		// The key fails for one row.
		{"looked(k, t, 0, 1, 1 / (i0 - 20), true)", "", 7, impl.ErrZero},
		{"leftlooked(k, t, 0, 1, 1 / (i0 - 20), true)", "", 7, impl.ErrZero},
		{"semilooked(k, t, 0, 1, 1 / (i0 - 20), true)", "", 7, impl.ErrZero},
		{"antilooked(k, t, 0, 1, 1 / (i0 - 20), true)", "", 7, impl.ErrZero},
		{"looked(k, u, 10, 2, cast('q' as int), 1 / 0, true)", "", 7, impl.ErrCast},
		{"looked(k, u, 10, 2, 1 / 0, cast('q' as int), true)", "", 7, impl.ErrZero},
		{"looked(k, u, 10, 2, cast(null as int), cast('q' as int), true)", "", 7, impl.ErrCast},
		{"looked(vals('i', 0), u, 10, 2, 77, 1 / i0, true)", "", 3, impl.ErrZero},
		{"looked(vals('i'), u, 10, 2, 1 / 0, 1 / 0, true)", "", 2, impl.OK},
		{"looked(k, t, 0, 1, one(k), true)", "", 37, impl.ErrRows},
		// The condition fails for one pair.
		{"looked(k, t, 8, 1, i0, 1 / (i1 - 3) = 1)", "", 14, impl.ErrZero},
		{"leftlooked(k, t, 8, 1, i0, 1 / (i1 - 3) = 1)", "", 14, impl.ErrZero},
		{"semilooked(k, t, 8, 1, i0, 1 / (i1 - 3) = 1)", "", 14, impl.ErrZero},
		{"antilooked(k, t, 8, 1, i0, 1 / (i1 - 3) = 1)", "", 14, impl.ErrZero},
		{"semilooked(vals('i', 10), t, 8, 1, i0, 6 / (i1 - 5) < 0)", "", 6, impl.ErrZero},
		{"projected(looked(k, t, 8, 1, i0, 1 / (i1 - 2) = -1), i0, i1)", "10,1;10,1;", 19, impl.OK},
		// The least of all rows and pairs.
		{"looked(k, t, 8, 1, case when i0 = 20 then cast('q' as int) else i0 end, 1 / (i1 - 5) = 1)", "", 13, impl.ErrZero},
		{"looked(k, t, 8, 1, case when i0 = 20 then 1 / 0 else i0 end, cast(t3 as int) = 1)", "", 13, impl.ErrZero},
		{"looked(k, t, 8, 1, case when i0 = 10 then one(k) else i0 end, cast(t3 as int) = 1)", "", 20, impl.ErrCast},
		{"looked(k, t, 8, 1, i0, case when i1 = 1 then cast('q' as int) when i1 = 4 then 9223372036854775807 + i1 when i1 = 5 then 1 / 0 else 1 end = 1)", "", 14, impl.ErrOverflow},
		// L first.
		{"looked(projected(k, cast('q' as int)), t, 0, 1, 1 / 0, true)", "", 8, impl.ErrCast},
		{"looked(vals('i', 1), t, 0, 1, cast('q' as int), 1 / 0 = 1)", "", 3, impl.ErrCast},
	})
}

// manyRows is the farm with as many rows as a table may have: the ids of t rise from 1, a is the same in all; in k there is one value, so often.
func manyRows(t *testing.T, count int) (impl.Schema, impl.State) {
	t.Helper()
	s := farm(t)
	st := emptyState(s)
	for i := 1; i <= count; i++ {
		st.Tables[0].Rows = append(st.Tables[0].Rows, []impl.Value{intv(i), intv(7), null, null, null, null})
		st.Tables[2].Rows = append(st.Tables[2].Rows, []impl.Value{intv(7)})
	}
	return s, st
}

// TestMaxWorkOfExecutions has physical plans of MaxWork in all, and then one more, by nodes, rows and pairs of each sort; the work is told exactly.
func TestMaxWorkOfExecutions(t *testing.T) {
	s, st := manyRows(t, impl.MaxRows)
	// 100 rows of k with 100 rows of t that are all equal: 10000 pairs; none of them is given.
	sides := func(pattern string) string {
		return strings.NewReplacer("L", "limited(k, 100, 0)", "R", "limited(t, 100, 0)").Replace(pattern)
	}
	for _, c := range []struct {
		text string
		work int
	}{
		{"t", 401},
		{"sought(t, 8, '1 0', 7)", 401},
		{"sought(t, 0, '0 12', 399)", 400},
		{"topped(t, 's0', 9, 0)", 401 + 10},
		{sides("joined(L, R, false)"), 2*(401+101) + 1 + 10000},
		{sides("hashed(L, R, '0=1', false)"), 2*(401+101) + 1 + 10000},
		{sides("antihashed(L, R, '0=1', true)"), 2*(401+101) + 1 + 10000},
		{sides("merged(L, R, '0=1', false)"), 2*(401+101) + 1 + 10000},
		{"looked(limited(k, 25, 0), t, 8, 1, i0, false)", 401 + 26 + 1 + 25*400},
		{"antilooked(limited(k, 25, 0), t, 8, 1, i0, true)", 401 + 26 + 1 + 25*400},
		{"hashed(limited(k, 90, 0), limited(t, 90, 0), '0=1', true)", 2*(401+91) + 1 + 2*8100},
		{"projected(k, some(sought(t, 0, '1 0', r1.i0)))", 401 + 401 + 400*2},
		{"projected(limited(k, 40, 0), some(sought(t, 8, '1 0', r1.i0)))", 401 + 41 + 41 + 40*401},
	} {
		f := readPhys(t, s, c.text)
		if _, work, code := impl.Execute(s, st, f); work != c.work || code != impl.OK {
			t.Errorf("%s: %d, %d; want %d", c.text, work, code, c.work)
		}
		wantExecution(t, s, st, f)
		wantPhysWork(t, s, st, f, impl.OK, c.work)
	}
}

// TestFuelOfExecutions has too much work behind a failure, or ahead of it; nodes that fail give no rows, which are no work.
func TestFuelOfExecutions(t *testing.T) {
	s, st := manyRows(t, 200)
	for _, c := range []struct {
		text string
		code int
	}{
		// 40000 pairs.
		{"joined(k, k, false)", impl.ErrFuel},
		{"hashed(k, k, '0=0', false)", impl.ErrFuel},
		{"merged(k, k, '0=0', false)", impl.ErrFuel},
		{"looked(k, t, 8, 1, i0, false)", impl.ErrFuel},
		// Behind the pair or row that fails the others are looked at all the same.
		{"joined(k, k, 1 / 0 = 1)", impl.ErrFuel},
		{"hashed(k, k, '0=0', 1 / 0 = 1)", impl.ErrFuel},
		{"merged(k, k, '0=0', 1 / 0 = 1)", impl.ErrFuel},
		{"looked(k, t, 8, 1, i0, 1 / 0 = 1)", impl.ErrFuel},
		{"looked(t, t, 8, 1, case when i0 = 1 then 1 / 0 else i1 end, false)", impl.ErrFuel},
		{"projected(t, case when i0 = 1 then 1 / 0 else one(grouped(hashed(k, k, '0=0', true), 'all')) end)", impl.ErrFuel},
		{"filtered(t, case when i0 = 1 then 1 / 0 = 1 else some(hashed(k, k, '0=0', true)) end)", impl.ErrFuel},
		{"hashed(k, t, '0=1', case when i1 = 1 then 1 / 0 = 1 else some(hashed(k, k, '0=0', true)) end)", impl.ErrFuel},
		{"sought(t, 0, '1 0', one(grouped(hashed(k, k, '0=0', true), 'all')))", impl.ErrFuel},
		{"sought(t, 0, '0 15', one(grouped(hashed(k, k, '0=0', true), 'all')), 1 / 0)", impl.ErrFuel},
		{"sought(t, 0, '0 15', 1 / 0, one(grouped(hashed(k, k, '0=0', true), 'all')))", impl.ErrZero},
		{"looked(k, t, 0, 1, one(grouped(hashed(k, k, '0=0', true), 'all')), true)", impl.ErrFuel},
		{"looked(k, t, 0, 1, 1 / 0, some(hashed(k, k, '0=0', true)))", impl.ErrZero},
		{"looked(k, u, 10, 2, 1 / 0, one(grouped(hashed(k, k, '0=0', true), 'all')), true)", impl.ErrZero},
		// What is not come to.
		{"hashed(projected(k, 1 / 0), hashed(k, k, '0=0', true), '0=0', true)", impl.ErrZero},
		{"hashed(hashed(k, k, '0=0', true), projected(k, 1 / 0), '0=0', true)", impl.ErrFuel},
		{"unioned(projected(k, 1 / 0), projected(hashed(k, k, '0=0', true), i0))", impl.ErrZero},
		{"unioned(projected(hashed(k, k, '0=0', true), i0), projected(k, 1 / 0))", impl.ErrFuel},
		{"projected(k, 1 / 0, some(hashed(k, k, '0=0', true)))", impl.ErrZero},
		{"projected(k, some(hashed(k, k, '0=0', true)), 1 / 0)", impl.ErrFuel},
		{"limited(hashed(k, k, '0=0', true), 0, 0)", impl.ErrFuel},
		{"hashed(filtered(k, false), k, '0=0', some(hashed(k, k, '0=0', true)))", impl.OK},
		// 90 times 90 pairs: with the rows of two nodes that is more than MaxWork, without those of one that fails less.
		{"projected(hashed(limited(k, 90, 0), limited(t, 90, 0), '0=1', true), 1 / (i1 - 3))", impl.ErrZero},
		{"projected(hashed(limited(k, 90, 0), limited(t, 90, 0), '0=1', true), i1)", impl.ErrFuel},
		{"filtered(merged(limited(k, 90, 0), limited(t, 90, 0), '0=1', true), 1 / (i1 - 3) < 9)", impl.ErrZero},
		{"filtered(merged(limited(k, 90, 0), limited(t, 90, 0), '0=1', true), i1 < 999)", impl.ErrFuel},
		// 120 times 120 pairs: a join that fails gives none of them.
		{"hashed(limited(k, 120, 0), limited(t, 120, 0), '0=1', 1 / (i1 - 120) < 9)", impl.ErrZero},
		{"hashed(limited(k, 120, 0), limited(t, 120, 0), '0=1', i1 < 999)", impl.ErrFuel},
		{"looked(limited(k, 70, 0), t, 8, 1, i0, 1 / (i1 - 200) < 9)", impl.ErrZero},
		{"looked(limited(k, 70, 0), t, 8, 1, i0, i1 < 999)", impl.ErrFuel},
	} {
		f := readPhys(t, s, c.text)
		if rows, work, code := impl.Execute(s, st, f); code != c.code || code != impl.OK && len(rows)+work > 0 {
			t.Errorf("%s: %d, %d rows, a work of %d; want %d", c.text, code, len(rows), work, c.code)
		}
		wantExecution(t, s, st, f)
	}
}

// TestExecuteWrongStates has states that are none of the schema.
func TestExecuteWrongStates(t *testing.T) {
	s, st := barn(t)
	f := readPhys(t, s, "looked(k, t, 8, 1, i0, true)")
	for what, put := range map[string]func(st *impl.State){
		"a table less":          func(st *impl.State) { st.Tables = st.Tables[1:] },
		"a table more":          func(st *impl.State) { st.Tables = append(st.Tables, impl.Rows{Id: 99}) },
		"another number":        func(st *impl.State) { st.Tables[1].Id = 2 },
		"a row of another size": func(st *impl.State) { st.Tables[2].Rows[0] = nil },
		"a value of another kind": func(st *impl.State) {
			st.Tables[2].Rows[0][0] = textv("x")
		},
		"rows out of order": func(st *impl.State) {
			st.Tables[0].Rows[0], st.Tables[0].Rows[1] = st.Tables[0].Rows[1], st.Tables[0].Rows[0]
		},
		"a key that is NULL": func(st *impl.State) { st.Tables[0].Rows[0][0] = null },
		"too many rows": func(st *impl.State) {
			for len(st.Tables[2].Rows) <= impl.MaxRows {
				st.Tables[2].Rows = append(st.Tables[2].Rows, []impl.Value{null})
			}
		},
	} {
		wrong := copyState(st)
		put(&wrong)
		if rows, work, code := impl.Execute(s, wrong, f); len(rows) > 0 || work != 0 || code != impl.ErrBad {
			t.Errorf("%s: %d rows, %d, %d", what, len(rows), work, code)
		}
	}
	if rows, work, code := impl.Execute(s, st, f); len(rows) != 7 || work != 6+1+7+7 || code != impl.OK {
		t.Errorf("%v, %d, %d", rows, work, code)
	}
	if rows, work, code := impl.Execute(impl.Schema{}, impl.State{}, impl.Phys{}); fmt.Sprint(rows, work, code) != fmt.Sprint([]int{}, 0, impl.ErrBad) {
		t.Errorf("nothing: %v, %d, %d", rows, work, code)
	}
}
