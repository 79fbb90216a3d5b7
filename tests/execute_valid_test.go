package tests

import (
	"fmt"
	"slices"
	"strings"
	"testing"

	"loop.example/g00001/impl"
)

// wantPhys asks PhysOK for an answer, and the reference for the same; Execute answers ErrBad where it is no.
func wantPhys(t *testing.T, what string, s impl.Schema, f impl.Phys, ok bool) {
	t.Helper()
	if impl.PhysOK(s, f) != ok || wantedPhysOK(s, f) != ok {
		t.Errorf("%s: %v, by the reference %v; want %v", what, impl.PhysOK(s, f), wantedPhysOK(s, f), ok)
	}
	if rows, work, code := impl.Execute(s, emptyState(s), f); (code != impl.ErrBad) != ok || code != impl.OK && len(rows)+work > 0 {
		t.Errorf("%s: Execute is %v, %d, %d", what, rows, work, code)
	}
}

// physFields are the numbers of a node of a physical plan under their names.
func physFields(n *impl.QNode) map[string]*int {
	fields := lists{&n.Exprs, &n.Keys, &n.Aggs, &n.Sorts, &n.Kinds}.fields()
	for name, field := range map[string]*int{"Op": &n.Op, "L": &n.L, "R": &n.R, "Table": &n.Table, "Index": &n.Index, "A": &n.A, "B": &n.B, "Est": &n.Est, "Cost": &n.Cost} {
		fields[name] = field
	}
	for i := range n.RKeys {
		fields[fmt.Sprintf("right key %d", i)] = &n.RKeys[i]
	}
	return fields
}

// physChanges make each list of a node one longer or one shorter.
func physChanges(n *impl.QNode) map[string]func() {
	changes := lists{&n.Exprs, &n.Keys, &n.Aggs, &n.Sorts, &n.Kinds}.changes()
	lengthChanges(changes, "right key", &n.RKeys, 0)
	changes["both keys more"] = func() { n.Keys, n.RKeys = append(n.Keys, 0), append(n.RKeys, 0) }
	if len(n.RKeys) > 0 {
		changes["no keys"] = func() { n.Keys, n.RKeys = nil, nil }
	}
	return changes
}

// changedPhys are all physical plans that are f with one field of the last node changed, under what was done.
func changedPhys(f impl.Phys) map[string]impl.Phys {
	plans := map[string]impl.Phys{}
	last := len(f.Nodes) - 1
	for name := range physFields(&f.Nodes[last]) {
		for _, step := range []int{-1, 1} {
			changed := copyPhys(f)
			*physFields(&changed.Nodes[last])[name] += step
			plans[fmt.Sprintf("%s %+d", name, step)] = changed
		}
	}
	for name := range physChanges(&f.Nodes[last]) {
		changed := copyPhys(f)
		physChanges(&changed.Nodes[last])[name]()
		plans[name] = changed
	}
	return plans
}

// TestPhysOKFields changes each field of each operation by one; those changes are told that leave a valid physical plan, but for Est and Cost, which may be any.
func TestPhysOKFields(t *testing.T) {
	s := farm(t)
	for _, c := range []struct{ text, ok string }{
		{"t", ""},
		{"vals('ib', 1, true)", "expression 0 value"},
		{"filtered(t, b4)", ""},
		{"projected(t, i0, t2)", "expression 0 node 0 B +1"},
		{"joined(k, k, i0 < i1)", "A +1, expression 0 node 0 B +1, expression 0 node 1 B -1, expression 0 node 2 A +1, expression 0 node 2 A -1"},
		{"leftjoined(k, k, i0 < i1)", "A -1, expression 0 node 0 B +1, expression 0 node 1 B -1, expression 0 node 2 A +1, expression 0 node 2 A -1"},
		{"semijoined(k, k, i0 < i1)", "A +1, expression 0 node 0 B +1, expression 0 node 1 B -1, expression 0 node 2 A +1, expression 0 node 2 A -1"},
		{"antijoined(k, k, i0 < i1)", "A -1, expression 0 node 0 B +1, expression 0 node 1 B -1, expression 0 node 2 A +1, expression 0 node 2 A -1"},
		{"grouped(t, 'k2 all sum(0)')", "argument 1 +1, distinct 1, function 1 -1"},
		{"once(t)", ""},
		{"sorted(t, 's5d s0f')", "Op +1, sort 0 -1, sort 1 +1, sort less, sort more"},
		{"limited(t, 3, 2)", "A +1, A -1, B +1, B -1"},
		{"limited(t, -1, 0)", "A +1, B +1"},
		{"unioned(k, k)", "A +1, Op +1"},
		{"exceptedall(k, k)", "A -1, Op -1"},
		{"sought(t, 0, '1 0', 1)", "expression 0 value"},
		{"sought(t, 13, '2 0', date '1970-01-01', 1)", "expression 0 value, expression 1 value"},
		{"sought(t, 13, '1 1', date '1970-01-01', 1)", "expression 0 value, expression 1 value"},
		{"sought(t, 13, '1 7', date '1970-01-01', 1, 2)", "expression 0 value, expression 1 value, expression 2 value"},
		{"sought(t, 8, '2 0', 1, 'x')", "expression 0 value"},
		{"sought(u, 7, '0 3', 1)", "B +1, Index -1, expression 0 value"},
		{"looked(k, t, 0, 1, i0, i0 < i1)", "A +1, expression 1 node 0 B +1, expression 1 node 1 B +1, expression 1 node 1 B -1, expression 1 node 2 A +1, expression 1 node 2 A -1"},
		{"leftlooked(k, u, 10, 2, i0, i0, b5)", "A -1"},
		{"semilooked(k, u, 10, 1, i0, null)", "A +1"},
		{"antilooked(k, u, 7, 1, i0, b5)", "A -1, Index -1"},
		{"hashed(k, t, '0=1', i0 < i1)", "A +1, Op +1, both keys more, expression 0 node 0 B +1, expression 0 node 1 B +1, expression 0 node 1 B -1, expression 0 node 2 A +1, expression 0 node 2 A -1, right key 0 -1"},
		{"lefthashed(t, u, '0=0 1=3', b4)", "A -1, both keys more, key 0 +1, key 1 -1"},
		{"semihashed(k, t, '0=1', null)", "A +1, both keys more, right key 0 -1"},
		{"antihashed(k, t, '0=0', true)", "A -1, both keys more, right key 0 +1"},
		{"merged(k, t, '0=1', i0 < i1)", "Op -1, both keys more, expression 0 node 0 B +1, expression 0 node 1 B +1, expression 0 node 1 B -1, expression 0 node 2 A +1, expression 0 node 2 A -1, right key 0 -1"},
		{"topped(t, 's5d', 3, 2)", "A +1, A -1, B +1, B -1, sort 0 -1, sort more"},
		{"topped(t, 's5d s0', 0, 0)", "A +1, B +1, Op -1, sort 0 -1, sort 1 +1, sort less, sort more"},
	} {
		f := readPhys(t, s, c.text)
		wantPhys(t, c.text, s, f, true)
		var kept []string
		for what, changed := range changedPhys(f) {
			ok := impl.PhysOK(s, changed)
			wantPhys(t, c.text+", "+what, s, changed, ok)
			if strings.HasPrefix(what, "Est") || strings.HasPrefix(what, "Cost") {
				wantPhys(t, c.text+", "+what, s, changed, true)
			} else if ok {
				kept = append(kept, what)
			}
		}
		slices.Sort(kept)
		if got := strings.Join(kept, ", "); got != c.ok {
			t.Errorf("\n{%q, %q},", c.text, got)
		}
	}
}

// validCase is a physical plan over the farm, and whether it is valid.
type validCase struct {
	text string
	ok   bool
}

func wantValid(t *testing.T, cases []validCase) {
	t.Helper()
	s := farm(t)
	for _, c := range cases {
		wantPhys(t, c.text, s, readPhys(t, s, c.text), c.ok)
	}
}

// TestPhysOKSeekNumbers goes through all A, B and numbers of expressions of a QSeek by a key of three columns, two, and one.
func TestPhysOKSeekNumbers(t *testing.T) {
	t.Parallel()
	s := farm(t)
	bounds := map[int]int{0: 0, 1: 1, 3: 1, 4: 1, 12: 1, 5: 2, 7: 2, 13: 2, 15: 2}
	for index, cols := range map[int][]int{13: {5, 1, 0}, 8: {1, 2}, 0: {0}} {
		kinds := scanned(s.Tables[0], "").plan.Kinds
		for a := -1; a <= 4; a++ {
			for _, b := range []int{-9223372036854775808, -16, -1, 0, 1, 2, 3, 4, 5, 6, 7, 8, 9, 10, 11, 12, 13, 14, 15, 16, 17, 31, 65, 9223372036854775807} {
				for count := range 7 {
					n := impl.QNode{Op: impl.QSeek, L: -1, R: -1, Table: 1, Index: index, A: a, B: b, Kinds: kinds}
					for i := range count {
						kind := kinds[cols[min(i, max(a, 0), len(cols)-1)]]
						n.Exprs = append(n.Exprs, laid(castOf(kind, constOf(null))))
					}
					more, there := bounds[b]
					whole := a
					if more > 0 {
						whole++
					}
					ok := there && a >= 0 && whole >= 1 && whole <= len(cols) && count == a+more
					wantPhys(t, fmt.Sprintf("index %d, A %d, B %d, %d expressions", index, a, b, count), s, impl.Phys{Nodes: []impl.QNode{n}}, ok)
				}
			}
		}
	}
}

// TestPhysOKKeys asks for all tables, with each number of an index, by which rows are sought and looked for.
func TestPhysOKKeys(t *testing.T) {
	s := farm(t)
	for _, table := range s.Tables {
		kinds := scanned(table, "").plan.Kinds
		for index := -1; index <= 15; index++ {
			cols := table.Primary
			for _, one := range s.Indexes {
				if one.Id == index && one.Table == table.Name {
					cols = one.Cols
				} else if index != 0 && index == one.Id {
					cols = nil
				}
			}
			if !slices.Contains([]int{0, 6, 7, 8, 9, 10, 11, 12, 13}, index) {
				cols = nil
			}
			kind := impl.Int
			if len(cols) > 0 {
				kind = kinds[cols[0]]
			}
			value := laid(castOf(kind, constOf(null)))
			seek := impl.QNode{Op: impl.QSeek, L: -1, R: -1, Table: table.Id, Index: index, A: 1, Exprs: []impl.Expr{value}, Kinds: kinds}
			wantPhys(t, fmt.Sprintf("sought in %d by %d", table.Id, index), s, impl.Phys{Nodes: []impl.QNode{seek}}, len(cols) > 0)
			row := impl.QNode{Op: impl.QValues, L: -1, R: -1, A: 1}
			look := impl.QNode{Op: impl.QLook, L: 0, R: -1, Table: table.Id, Index: index, A: impl.JoinLeft, B: 1, Exprs: []impl.Expr{value, laid(constOf(null))}, Kinds: kinds}
			wantPhys(t, fmt.Sprintf("looked for in %d by %d", table.Id, index), s, impl.Phys{Nodes: []impl.QNode{row, look}}, len(cols) > 0)
			for _, other := range []int{0, 2, 6, -1, 9223372036854775807} {
				seek.Table, look.Table = other, other
				wantPhys(t, fmt.Sprintf("sought in %d by %d", other, index), s, impl.Phys{Nodes: []impl.QNode{seek}}, false)
				wantPhys(t, fmt.Sprintf("looked for in %d by %d", other, index), s, impl.Phys{Nodes: []impl.QNode{row, look}}, false)
			}
		}
	}
	// Without indexes there are their numbers no more, and primary keys still.
	bare := withoutIndexes(s)
	wantPhys(t, "no index", bare, readPhys(t, s, "sought(t, 8, '1 0', 1)"), false)
	wantPhys(t, "a primary key", bare, readPhys(t, s, "sought(t, 0, '1 0', 1)"), true)
	wantPhys(t, "no index to look", bare, readPhys(t, s, "looked(k, t, 8, 1, 1, true)"), false)
	wantPhys(t, "a primary key to look", bare, readPhys(t, s, "looked(k, p, 0, 2, 1, 'x', true)"), true)
}

func TestPhysOKSeeks(t *testing.T) {
	wantValid(t, []validCase{
		// Kinds: of the column, not of one that can be compared with it.
		{"sought(t, 0, '1 0', 1.5)", false}, {"sought(t, 0, '1 0', null)", false}, {"sought(t, 0, '1 0', cast(null as int))", true}, {"sought(t, 0, '1 0', 'x')", false},
		{"sought(t, 8, '2 0', 1, 'x')", true}, {"sought(t, 8, '2 0', 'x', 1)", false}, {"sought(t, 8, '1 3', 1, 'x')", true}, {"sought(t, 8, '1 3', 1, 1)", false},
		{"sought(t, 8, '1 5', 1, 'x', 'y')", true}, {"sought(t, 8, '1 5', 1, 'x', 2)", false}, {"sought(t, 8, '1 5', 1, 2, 'y')", false}, {"sought(t, 8, '0 5', 1, 2)", true}, {"sought(t, 8, '0 5', 1, 'x')", false},
		{"sought(t, 9, '2 0', 'x', date '1970-01-01')", true}, {"sought(u, 6, '2 0', 1, true)", true}, {"sought(u, 6, '1 4', 1, true)", true}, {"sought(p, 11, '1 12', 1, 1.5)", true}, {"sought(p, 11, '1 12', 1, 1)", false},
		{"sought(p, 0, '2 0', 1, 'x')", true}, {"sought(p, 0, '2 0', 'x', 1)", false}, {"sought(p, 0, '1 7', 1, 'x', 'y')", true},
		// Row 0 is empty; the rows around it are seen.
		{"sought(t, 0, '1 0', i0)", false}, {"sought(t, 0, '1 0', r1.i0)", false}, {"sought(t, 0, '1 0', coalesce(i0, 1))", false},
		{"filtered(t, some(sought(u, 7, '1 0', r1.i0)))", true}, {"filtered(t, some(sought(u, 7, '1 0', i0)))", false}, {"filtered(t, some(sought(u, 7, '1 0', r1.i1)))", true}, {"filtered(t, some(sought(u, 7, '1 0', r1.i2)))", false},
		{"filtered(t, some(sought(u, 7, '1 0', r2.i0)))", false}, {"filtered(t, some(filtered(k, some(sought(u, 7, '1 0', r2.i0)))))", true}, {"filtered(t, some(filtered(k, some(sought(u, 7, '0 15', r1.i0, r2.i1)))))", true},
		// A plan in its expressions sees the empty row as row 1.
		{"sought(t, 0, '1 0', one(k))", true}, {"sought(t, 0, '0 15', one(k), one(k))", true}, {"sought(t, 0, '1 0', one(projected(k, r1.i0)))", false},
		{"filtered(t, some(sought(u, 7, '1 0', one(projected(k, r2.i0)))))", true}, {"filtered(t, some(sought(u, 7, '1 0', one(projected(k, r1.i0)))))", false}, {"sought(t, 0, '1 0', one(t))", false},
		// Over it stands what stands over any node.
		{"joined(sought(t, 0, '1 0', 1), sought(u, 7, '1 0', 1), i0 = i6)", true}, {"sorted(sought(t, 0, '0 1', 1), 's1')", true},
	})
}

func TestPhysOKLooks(t *testing.T) {
	wantValid(t, []validCase{
		// The key's expressions see L's row alone, the last one sees both.
		{"looked(k, t, 0, 1, i0, true)", true}, {"looked(k, t, 0, 1, i1, true)", false}, {"looked(k, t, 0, 1, coalesce(i0, i1), true)", false}, {"looked(k, t, 0, 1, i0, i1 = 1)", true}, {"looked(k, t, 0, 1, i0, i2 = i0)", true},
		{"looked(k, t, 0, 1, i0, b5)", true}, {"looked(k, t, 0, 1, i0, b6)", false}, {"looked(k, t, 0, 1, i0, y6 is null)", true}, {"looked(k, t, 0, 1, i0, i7 is null)", false}, {"looked(t, k, 12, 1, i0, i6 = 1)", true},
		{"looked(t, k, 12, 1, i6, true)", false}, {"looked(t, u, 10, 2, i0, i1, true)", true}, {"looked(t, u, 10, 2, i0, i6, true)", false}, {"looked(t, u, 10, 2, i6, i0, true)", false},
		// Kinds of the key, and of the condition.
		{"looked(k, t, 8, 2, i0, 'x', true)", true}, {"looked(k, t, 8, 2, 'x', i0, true)", false}, {"looked(k, t, 8, 2, i0, i0, true)", false}, {"looked(k, t, 0, 1, null, true)", false}, {"looked(k, t, 0, 1, cast(null as int), true)", true},
		{"looked(k, t, 0, 1, 1.5, true)", false}, {"looked(k, t, 0, 1, i0, null)", true}, {"looked(k, t, 0, 1, i0, cast(null as boolean))", true}, {"looked(k, t, 0, 1, i0, i0)", false}, {"looked(k, t, 0, 1, i0, 'x')", false},
		// As many expressions as columns, and one.
		{"looked(k, t, 0, 0, true)", false}, {"looked(k, t, 0, 1, true)", false}, {"looked(k, t, 0, 1, i0)", false}, {"looked(k, t, 0, 1, i0, true, true)", false}, {"looked(k, t, 0, 2, i0, i0, true)", false}, {"looked(k, t, 13, 3, cast(null as date), i0, i0, true)", true},
		{"looked(k, t, 13, 4, cast(null as date), i0, i0, i0, true)", false}, {"looked(k, t, 13, 2, cast(null as date), i0, i0, true)", false}, {"looked(k, t, 13, -1, true)", false},
		// The joins.
		{"leftlooked(k, t, 0, 1, i0, true)", true}, {"semilooked(k, t, 0, 1, i0, true)", true}, {"antilooked(k, t, 0, 1, i0, true)", true}, {"semilooked(k, t, 0, 1, i0, b5)", true}, {"antilooked(k, t, 0, 1, i0, b6)", false}, {"semilooked(k, t, 0, 1, i1, true)", false},
		// Plans in its expressions: those of the key see L's row as row 1, those of the condition both.
		{"looked(k, t, 0, 1, one(projected(k, r1.i0)), true)", true}, {"looked(k, t, 0, 1, one(projected(k, r1.i1)), true)", false}, {"looked(k, t, 0, 1, i0, some(filtered(k, r1.i1 = i0)))", true}, {"looked(k, t, 0, 1, i0, some(filtered(k, r1.b5)))", true},
		{"looked(k, t, 0, 1, i0, some(filtered(k, r1.b6)))", false}, {"looked(k, t, 0, 1, one(k), some(k))", true}, {"looked(k, t, 8, 2, one(projected(k, r1.i0)), one(projected(t, r1.t0)), some(k))", false}, {"looked(projected(t, t2), t, 8, 2, one(k), one(projected(t, r1.t0)), some(k))", true},
		{"semilooked(k, t, 0, 1, one(projected(k, r1.i1)), true)", false}, {"antilooked(k, t, 0, 1, i0, some(filtered(k, r1.b5)))", true},
		// Rows around, and what it stands on.
		{"filtered(t, some(looked(k, u, 7, 1, r1.i0, r1.b4)))", true}, {"filtered(t, some(looked(k, u, 7, 1, r2.i0, true)))", false}, {"looked(sought(t, 0, '1 0', 1), u, 7, 1, i0, true)", true}, {"looked(looked(k, t, 0, 1, i0, true), u, 7, 1, i1, b5)", true},
		{"semilooked(looked(k, t, 0, 1, i0, true), u, 7, 1, i1, b11)", true}, {"semilooked(looked(k, t, 0, 1, i0, true), u, 7, 1, i1, b12)", false}, {"semilooked(looked(k, t, 0, 1, i0, true), u, 7, 1, i1, i10 = 1)", true},
	})
}

func TestPhysOKMatches(t *testing.T) {
	wantValid(t, []validCase{
		{"hashed(t, u, '0=0', true)", true}, {"merged(t, u, '0=0', true)", true}, {"hashed(t, u, '', true)", false}, {"merged(t, u, '', true)", false},
		{"hashed(t, u, '0=0 1=3 2=2 3=1 4=4 5=5', true)", true}, {"merged(t, u, '0=0 1=3 2=2 3=1 4=4 5=5', true)", true}, {"hashed(t, u, '0=0 0=0 0=3', true)", true}, {"merged(t, u, '0=0 0=0 0=3', true)", true},
		// Two kinds, though they may be compared; no columns.
		{"hashed(t, u, '0=1', true)", false}, {"merged(t, u, '0=1', true)", false}, {"hashed(t, u, '3=0', true)", false}, {"hashed(t, u, '0=0 2=3', true)", false}, {"hashed(t, u, '6=0', true)", false}, {"hashed(t, u, '0=6', true)", false},
		{"hashed(t, u, '-1=0', true)", false}, {"hashed(t, u, '0=-1', true)", false}, {"merged(t, u, '6=0', true)", false}, {"hashed(t, k, '0=0', true)", true}, {"hashed(t, k, '0=1', true)", false}, {"hashed(k, t, '0=0', true)", true}, {"hashed(k, t, '1=0', true)", false},
		// Of kind Null.
		{"hashed(projected(k, null), projected(k, null), '0=0', true)", false}, {"merged(projected(k, null), projected(k, null), '0=0', true)", false}, {"hashed(projected(k, null, i0), projected(k, null, i0), '1=1', true)", true}, {"hashed(projected(k, null, i0), projected(k, null, i0), '1=1 0=0', true)", false},
		{"hashed(projected(k, null), k, '0=0', true)", false}, {"hashed(k, projected(k, null), '0=0', true)", false}, {"hashed(projected(k, cast(null as int)), k, '0=0', true)", true},
		// The joins.
		{"lefthashed(t, u, '0=0', true)", true}, {"semihashed(t, u, '0=0', true)", true}, {"antihashed(t, u, '0=0', true)", true}, {"leftmerged(t, u, '0=0', true)", false}, {"semimerged(t, u, '0=0', true)", false}, {"antimerged(t, u, '0=0', true)", false},
		// The condition sees both.
		{"hashed(t, u, '0=0', b4 = b10)", true}, {"hashed(t, u, '0=0', b11)", false}, {"semihashed(t, u, '0=0', b10)", true}, {"merged(t, u, '0=0', i6 = i9)", true}, {"merged(t, u, '0=0', i12 = 1)", false}, {"hashed(t, u, '0=0', null)", true}, {"hashed(t, u, '0=0', i0)", false},
		{"hashed(t, u, '0=0')", false}, {"hashed(t, u, '0=0', true, true)", false}, {"merged(t, u, '0=0')", false}, {"merged(t, u, '0=0', true, true)", false}, {"hashed(t, u, '0=0', some(filtered(k, r1.i9 = i0)))", true}, {"merged(t, u, '0=0', some(filtered(k, r1.i8 = i0)))", false},
	})
}

// TestPhysOKTops has QTop at each bound, and lists where none may be.
func TestPhysOKTops(t *testing.T) {
	s := farm(t)
	wantValid(t, []validCase{
		{"topped(t, 's0', 0, 0)", true}, {"topped(t, 's5df', 9223372036854775807, 9223372036854775807)", true}, {"topped(t, 's0', -1, 0)", false}, {"topped(t, 's0', 1, -1)", false}, {"topped(t, '', 1, 1)", false}, {"topped(t, 's6', 1, 1)", false},
		{"topped(t, 's0 s0 s1', 1, 1)", true}, {"topped(projected(k, null), 's0', 1, 0)", true}, {"topped(projected(k), 's0', 1, 0)", false}, {"topped(topped(k, 's0', 1, 0), 's0', 1, 0)", true},
	})
	// Each list of each operation that has none.
	for _, text := range []string{
		"t", "vals('i', 1)", "filtered(k, true)", "projected(k, i0)", "joined(k, k, true)", "once(k)", "limited(k, 1, 1)", "unioned(k, k)", "excepted(k, k)", "sorted(k, 's0')", "topped(k, 's0', 1, 1)", "grouped(k, 'k0 all')",
		"sought(t, 0, '1 0', 1)", "looked(k, t, 0, 1, i0, true)", "hashed(k, k, '0=0', true)", "merged(k, k, '0=0', true)",
	} {
		f := readPhys(t, s, text)
		wantPhys(t, text, s, f, true)
		last := len(f.Nodes) - 1
		op := f.Nodes[last].Op
		for what, c := range map[string]struct {
			put func(n *impl.QNode)
			ok  bool
		}{
			"Index":     {func(n *impl.QNode) { n.Index = 8 }, op == impl.QSeek || op == impl.QLook},
			"Index -1":  {func(n *impl.QNode) { n.Index = -1 }, false},
			"Keys":      {func(n *impl.QNode) { n.Keys = append(n.Keys, 0) }, false},
			"RKeys":     {func(n *impl.QNode) { n.RKeys = append(n.RKeys, 0) }, false},
			"both keys": {func(n *impl.QNode) { n.Keys, n.RKeys = append(n.Keys, 0), append(n.RKeys, 0) }, op == impl.QHash || op == impl.QMerge},
			"Sorts":     {func(n *impl.QNode) { n.Sorts = append(n.Sorts, impl.SortKey{}) }, op == impl.QSort || op == impl.QTop},
			"Aggs":      {func(n *impl.QNode) { n.Aggs = append(n.Aggs, impl.PAgg{Fn: impl.AggAll, Col: -1}) }, false},
			"Est":       {func(n *impl.QNode) { n.Est = -9223372036854775808 }, true},
			"Cost":      {func(n *impl.QNode) { n.Cost = 9223372036854775807 }, true},
			"Table":     {func(n *impl.QNode) { n.Table += 100 }, false},
			"L":         {func(n *impl.QNode) { n.L = last }, false},
			"R":         {func(n *impl.QNode) { n.R = last }, false},
			"no L":      {func(n *impl.QNode) { n.L = -2 }, false},
			"no R":      {func(n *impl.QNode) { n.R = -2 }, false},
		} {
			changed := copyPhys(f)
			c.put(&changed.Nodes[last])
			wantPhys(t, text+" with "+what, s, changed, c.ok)
		}
	}
	for _, op := range []int{0, -1, 17, 18, 9223372036854775807, -9223372036854775808} {
		wantPhys(t, fmt.Sprintf("operation %d", op), s, impl.Phys{Nodes: []impl.QNode{{Op: op, L: -1, R: -1}}}, false)
	}
	wantPhys(t, "no nodes", s, impl.Phys{}, false)
}

// TestPhysOKBounds has MaxWide columns, MaxPlan nodes, MaxItems nodes of an expression and MaxUp rows, and one more of each.
func TestPhysOKBounds(t *testing.T) {
	s := farm(t)
	columns := func(count int) string {
		return "projected(k" + strings.Repeat(", i0", count) + ")"
	}
	for count, ok := range map[int]bool{25: true, 26: true, 27: false, 32: false} {
		for _, join := range []string{"", "left", "semi", "anti"} {
			wantPhys(t, fmt.Sprintf("%slook of %d columns and 6", join, count), s, readPhys(t, s, join+"looked("+columns(count)+", t, 0, 1, i0, true)"), ok)
			wantPhys(t, fmt.Sprintf("%shash of %d columns and 6", join, count), s, readPhys(t, s, join+"hashed("+columns(count)+", t, '0=0', true)"), ok)
		}
		wantPhys(t, fmt.Sprintf("merge of %d columns and 6", count), s, readPhys(t, s, "merged("+columns(count)+", t, '0=0', true)"), ok)
	}
	chain := func(inmost string, count int) impl.Phys {
		f := readPhys(t, s, inmost)
		for len(f.Nodes) < count {
			last := len(f.Nodes) - 1
			f.Nodes = append(f.Nodes, impl.QNode{Op: impl.QDistinct, L: last, R: -1, Kinds: f.Nodes[last].Kinds})
		}
		return f
	}
	for count, ok := range map[int]bool{impl.MaxPlan: true, impl.MaxPlan + 1: false} {
		wantPhys(t, fmt.Sprintf("%d nodes", count), s, chain("sought(t, 0, '1 0', 1)", count), ok)
		wantPhys(t, fmt.Sprintf("%d nodes over a look", count), s, chain("looked(k, t, 0, 1, i0, true)", count), ok)
	}
	for count, ok := range map[int]bool{impl.MaxItems: true, impl.MaxItems + 1: false} {
		f := readPhys(t, s, "looked(k, u, 6, 2, i0, true, true)")
		for i := 1; i <= 2; i++ {
			long := copyPhys(f)
			long.Nodes[1].Exprs[i] = laid(manyNots(count))
			wantPhys(t, fmt.Sprintf("%d nodes of expression %d", count, i), s, long, ok)
		}
		f = readPhys(t, s, "sought(u, 6, '2 0', 1, true)")
		f.Nodes[0].Exprs[1] = laid(manyNots(count))
		wantPhys(t, fmt.Sprintf("%d nodes of a value", count), s, f, ok)
	}
	for depth, ok := range map[int]bool{0: true, 6: true, 7: true, 8: false} {
		within := func(inmost string) impl.Phys {
			return readPhys(t, s, strings.Repeat("filtered(k, some(", depth)+inmost+strings.Repeat("))", depth))
		}
		wantPhys(t, fmt.Sprintf("sought within %d others", depth), s, within("sought(t, 0, '1 0', 1)"), ok)
		wantPhys(t, fmt.Sprintf("looked for within %d others", depth), s, within("looked(k, t, 0, 1, i0, true)"), ok)
		wantPhys(t, fmt.Sprintf("topped within %d others", depth), s, within("topped(k, 's0', 1, 1)"), true)
		if depth > 0 {
			wantPhys(t, fmt.Sprintf("sought by the outmost row within %d others", depth), s, within(fmt.Sprintf("sought(t, 0, '1 0', r%d.i0)", depth)), ok)
			wantPhys(t, fmt.Sprintf("sought by a row too far within %d others", depth), s, within(fmt.Sprintf("sought(t, 0, '1 0', r%d.i0)", depth+1)), false)
		}
	}
}

// TestPhysOKOrder has plans in expressions that do not stand where they must.
func TestPhysOKOrder(t *testing.T) {
	s := farm(t)
	// The nodes: 0 L, 1 and 2 the plans of the key, 3 that of the condition, 4 the look.
	f := readPhys(t, s, "looked(k, u, 6, 2, one(k), some(k), some(k))")
	wantPhys(t, "as it is", s, f, true)
	named := func(f impl.Phys, i int) *impl.XNode { return &f.Nodes[4].Exprs[i].Nodes[0] }
	for what, put := range map[string]func(f impl.Phys){
		"the key's plan is that of the condition": func(f impl.Phys) { named(f, 0).B = 3 },
		"the two of the key exchanged":            func(f impl.Phys) { named(f, 0).B, named(f, 1).B = 2, 1 },
		"a plan of the key and of the condition":  func(f impl.Phys) { named(f, 1).B, named(f, 2).B = 3, 2 },
		"L named":                                 func(f impl.Phys) { named(f, 0).B = 0 },
		"the look itself named":                   func(f impl.Phys) { named(f, 0).B = 4 },
		"nothing named":                           func(f impl.Phys) { named(f, 0).B = -1 },
		"L is a plan of the key":                  func(f impl.Phys) { f.Nodes[4].L, named(f, 0).B = 1, 0 },
		"EXISTS of kind Null":                     func(f impl.Phys) { named(f, 2).Kind = impl.Null },
		"EXISTS with NOT":                         func(f impl.Phys) { named(f, 2).A = 1 },
		"a value of kind Dec":                     func(f impl.Phys) { named(f, 0).Kind = impl.Dec },
		"R is the last plan":                      func(f impl.Phys) { f.Nodes[4].R = 3 },
	} {
		changed := copyPhys(f)
		put(changed)
		wantPhys(t, what, s, changed, false)
	}
	// A schema that is not valid has no valid physical plan.
	odd := copySchema(s)
	odd.Next = 0
	if impl.PhysOK(odd, f) {
		t.Errorf("PhysOK of a schema that is not valid")
	}
	if _, _, code := impl.Execute(odd, emptyState(s), f); code != impl.ErrBad {
		t.Errorf("Execute of a schema that is not valid: %d", code)
	}
}
