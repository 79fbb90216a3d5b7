package tests

import (
	"fmt"
	"testing"

	"loop.example/g00001/impl"
)

// barn is the farm with something in it, with NULLs and values that stand more than once in what rows are found by.
func barn(t *testing.T) (impl.Schema, impl.State) {
	t.Helper()
	s := farm(t)
	return s, filled(t, s, emptyState(s),
		"insert into t values (1, 10, 'x', 1.5, true, date '1970-01-01'), (2, null, 'y', null, false, date '1970-01-02'), (3, 10, null, 2.5, null, null), (4, 20, 'x', 1.5, true, null), (5, 10, 'y', 0.5, false, date '1970-01-02')",
		"insert into u values (1, 1.5, 'x', 10, true, null), (1, 2.5, 'y', 10, false, null), (null, 0.5, 'x', null, null, null), (9, null, 'z', 20, true, null), (2, 1.5, 'y', 10, null, null), (null, 1.5, 'w', 3, true, null)",
		`insert into "k 1" values (10), (null), (20), (10), (1)`,
		"insert into p values ('a', 1, null, 1.5), ('b', 1, 10, null), ('a', 2, 20, 0.5), ('c', 2, 1, 0.5), ('b', 7, null, 1.5)")
}

// physCase is a physical plan over the barn, its rows, its work (with a code, too), and its code.
type physCase struct {
	text, rows string
	work, code int
}

func wantPhysRows(t *testing.T, cases []physCase) {
	t.Helper()
	s, st := barn(t)
	for _, c := range cases {
		f := readPhys(t, s, c.text)
		if !impl.PhysOK(s, f) {
			t.Errorf("%s is not valid", c.text)
			continue
		}
		rows, work, code := impl.Execute(s, st, f)
		_, wanted, _ := wantedExecution(s, st, f)
		told := physCase{c.text, toldRows(rows), wanted, code}
		if told != c || code == impl.OK && work != c.work || code != impl.OK && work != 0 {
			t.Errorf("\n{%q, %q, %d, %s},", told.text, told.rows, told.work, codeName(told.code))
		}
		wantExecution(t, s, st, f)
		wantPhysWork(t, s, st, f, c.code, c.work)
	}
}

// codeName is what a test writes for a code that a plan may end with.
func codeName(code int) string {
	names := map[int]string{impl.OK: "impl.OK", impl.ErrBad: "impl.ErrBad", impl.ErrOverflow: "impl.ErrOverflow", impl.ErrZero: "impl.ErrZero", impl.ErrCast: "impl.ErrCast", impl.ErrRows: "impl.ErrRows", impl.ErrFuel: "impl.ErrFuel"}
	if name, there := names[code]; there {
		return name
	}
	return fmt.Sprint(code)
}

// TestExecuteOperations has what plans have, too.
func TestExecuteOperations(t *testing.T) {
	wantPhysRows(t, []physCase{
		{"t", "1,10,x,1.5,true,1970-01-01;2,NULL,y,NULL,false,1970-01-02;3,10,NULL,2.5,NULL,NULL;4,20,x,1.5,true,NULL;5,10,y,0.5,false,1970-01-02;", 6, impl.OK},
		{"k", "10;NULL;20;10;1;", 6, impl.OK},
		{"vals('it', 1, 'x', 2, cast(null as text))", "1,x;2,NULL;", 3, impl.OK},
		{"vals('i')", "", 1, impl.OK},
		{"vals('', null, null)", ";;", 3, impl.OK},
		{"filtered(k, i0 > 5)", "10;20;10;", 10, impl.OK},
		{"filtered(k, null)", "", 7, impl.OK},
		{"projected(t, i0, t2)", "1,x;2,y;3,NULL;4,x;5,y;", 12, impl.OK},
		{"projected(k)", ";;;;;", 12, impl.OK},
		{"joined(k, vals('i', 10, 20), i0 = i1)", "10,10;20,20;10,10;", 23, impl.OK},
		{"leftjoined(k, vals('i', 10, 20), i0 = i1)", "10,10;NULL,NULL;20,20;10,10;1,NULL;", 25, impl.OK},
		{"semijoined(k, vals('i', 10, 20, 10), i0 = i1)", "10;20;10;", 29, impl.OK},
		{"antijoined(k, vals('i', 10, 20, 10), i0 = i1)", "NULL;1;", 28, impl.OK},
		{"grouped(k, 'k0 all')", "10,2;NULL,1;20,1;1,1;", 11, impl.OK},
		{"grouped(k, 'all count(0) sum(0) avg(0) min(0) max(0)')", "5,4,41,10.25,1,20;", 8, impl.OK},
		{"grouped(vals('i'), 'all max(0)')", "0,NULL;", 3, impl.OK},
		{"grouped(vals('i'), 'k0 all')", "", 2, impl.OK},
		{"once(k)", "10;NULL;20;1;", 11, impl.OK},
		{"sorted(k, 's0')", "1;10;10;20;NULL;", 12, impl.OK},
		{"sorted(k, 's0d')", "20;10;10;1;NULL;", 12, impl.OK},
		{"sorted(k, 's0f')", "NULL;1;10;10;20;", 12, impl.OK},
		{"sorted(k, 's0df')", "NULL;20;10;10;1;", 12, impl.OK},
		{"sorted(projected(t, t2, i0), 's0 s1d')", "x,4;x,1;y,5;y,2;NULL,3;", 18, impl.OK},
		{"limited(k, 2, 1)", "NULL;20;", 9, impl.OK},
		{"limited(k, -1, 3)", "10;1;", 9, impl.OK},
		{"limited(k, 0, 0)", "", 7, impl.OK},
		{"limited(k, 9, 9)", "", 7, impl.OK},
		{"unioned(k, vals('i', 10, 7, 7))", "10;NULL;20;1;7;", 16, impl.OK},
		{"unionedall(k, vals('i', 10, 7, 7))", "10;NULL;20;10;1;10;7;7;", 19, impl.OK},
		{"excepted(k, vals('i', 10, 7))", "NULL;20;1;", 13, impl.OK},
		{"exceptedall(k, vals('i', 10, 7))", "NULL;20;10;1;", 14, impl.OK},
		{"exceptedall(k, vals('i', cast(null as int), 10, 10, 10))", "20;1;", 14, impl.OK},
	})
}

// TestExecuteTops: QTop is PSort, then PLimit; only the rows that are left are work.
func TestExecuteTops(t *testing.T) {
	wantPhysRows(t, []physCase{
		{"topped(k, 's0', 2, 0)", "1;10;", 9, impl.OK},
		{"topped(k, 's0', 2, 1)", "10;10;", 9, impl.OK},
		{"topped(k, 's0', 9, 3)", "20;NULL;", 9, impl.OK},
		{"topped(k, 's0', 0, 0)", "", 7, impl.OK},
		{"topped(k, 's0', 9, 5)", "", 7, impl.OK},
		{"topped(k, 's0', 9223372036854775807, 9223372036854775807)", "", 7, impl.OK},
		{"topped(k, 's0', 9223372036854775807, 1)", "10;10;20;NULL;", 11, impl.OK},
		{"topped(k, 's0d', 3, 0)", "20;10;10;", 10, impl.OK},
		{"topped(k, 's0f', 2, 0)", "NULL;1;", 9, impl.OK},
		{"topped(k, 's0df', 2, 0)", "NULL;20;", 9, impl.OK},
		{"topped(projected(t, t2, i0), 's0', 3, 0)", "x,1;x,4;y,2;", 16, impl.OK},
		{"topped(projected(t, t2, i0), 's0d', 3, 0)", "y,2;y,5;x,1;", 16, impl.OK},
		{"topped(projected(t, t2, i0), 's0 s1d', 3, 1)", "x,1;y,5;y,2;", 16, impl.OK},
		{"topped(vals('i'), 's0', 3, 0)", "", 2, impl.OK},
		{"limited(sorted(k, 's0'), 2, 1)", "10;10;", 15, impl.OK},
		{"topped(projected(k, 1 / (i0 - 20)), 's0', 0, 0)", "", 8, impl.ErrZero},
	})
}

// TestExecuteSeeks has equal columns, each bound, both, NULLs, and values of rows around.
func TestExecuteSeeks(t *testing.T) {
	wantPhysRows(t, []physCase{
		// Equal columns, of one key and of several: the rows in the table's order.
		{"sought(t, 0, '1 0', 3)", "3,10,NULL,2.5,NULL,NULL;", 2, impl.OK},
		{"sought(t, 0, '1 0', 6)", "", 1, impl.OK},
		{"projected(sought(t, 8, '1 0', 10), i0)", "1;3;5;", 8, impl.OK},
		{"projected(sought(t, 8, '2 0', 10, 'y'), i0)", "5;", 4, impl.OK},
		{"projected(sought(t, 8, '2 0', 10, 'z'), i0)", "", 2, impl.OK},
		{"projected(sought(u, 7, '1 0', 1), d1)", "1.5;2.5;", 6, impl.OK},
		{"projected(sought(u, 10, '2 0', 1, 10), d1)", "1.5;2.5;", 6, impl.OK},
		{"projected(sought(u, 6, '2 0', 10, false), d1)", "2.5;", 4, impl.OK},
		{"sought(p, 0, '1 0', 2)", "a,2,20,0.5;c,2,1,0.5;", 3, impl.OK},
		{"sought(p, 0, '2 0', 2, 'c')", "c,2,1,0.5;", 2, impl.OK},
		{"sought(k, 12, '1 0', 10)", "10;10;", 3, impl.OK},
		{"projected(sought(t, 13, '3 0', date '1970-01-02', 10, 5), i0)", "5;", 4, impl.OK},
		// Each bound, and both.
		{"projected(sought(t, 0, '0 1', 3), i0)", "4;5;", 6, impl.OK},
		{"projected(sought(t, 0, '0 3', 3), i0)", "3;4;5;", 8, impl.OK},
		{"projected(sought(t, 0, '0 4', 3), i0)", "1;2;", 6, impl.OK},
		{"projected(sought(t, 0, '0 12', 3), i0)", "1;2;3;", 8, impl.OK},
		{"projected(sought(t, 0, '0 5', 2, 4), i0)", "3;", 4, impl.OK},
		{"projected(sought(t, 0, '0 7', 2, 4), i0)", "2;3;", 6, impl.OK},
		{"projected(sought(t, 0, '0 13', 2, 4), i0)", "3;4;", 6, impl.OK},
		{"projected(sought(t, 0, '0 15', 2, 4), i0)", "2;3;4;", 8, impl.OK},
		{"projected(sought(t, 0, '0 15', 4, 2), i0)", "", 2, impl.OK},
		{"projected(sought(t, 0, '0 15', 3, 3), i0)", "3;", 4, impl.OK},
		{"projected(sought(t, 0, '0 5', 3, 3), i0)", "", 2, impl.OK},
		{"projected(sought(t, 0, '0 7', 3, 3), i0)", "", 2, impl.OK},
		{"projected(sought(t, 0, '0 13', 3, 3), i0)", "", 2, impl.OK},
		// Bounds of other kinds.
		{"projected(sought(t, 9, '0 3', 'x'), i0)", "1;2;4;5;", 10, impl.OK},
		{"projected(sought(t, 9, '0 4', 'y'), i0)", "1;4;", 6, impl.OK},
		{"projected(sought(t, 9, '1 12', 'y', date '1970-01-02'), i0)", "2;5;", 6, impl.OK},
		{"projected(sought(u, 6, '1 1', 10, false), d1)", "1.5;", 4, impl.OK},
		{"projected(sought(u, 6, '1 12', 10, true), d1)", "1.5;2.5;", 6, impl.OK},
		{"sought(p, 11, '1 12', 20, 0.5)", "a,2,20,0.5;", 2, impl.OK},
		{"sought(p, 11, '1 4', 20, 0.5)", "", 1, impl.OK},
		{"sought(p, 0, '1 1', 1, 'a')", "b,1,10,NULL;", 2, impl.OK},
		{"sought(p, 0, '1 7', 2, 'a', 'c')", "a,2,20,0.5;", 2, impl.OK},
		// A column that is NULL is within no bounds, and equal to nothing.
		{"projected(sought(t, 8, '0 1', 0), i0)", "1;3;4;5;", 10, impl.OK},
		{"projected(sought(t, 8, '0 4', 100), i0)", "1;3;4;5;", 10, impl.OK},
		{"projected(sought(t, 8, '0 15', -1, 100), i0)", "1;3;4;5;", 10, impl.OK},
		{"projected(sought(t, 8, '1 4', 10, 'zz'), i0)", "1;5;", 6, impl.OK},
		{"sought(k, 12, '0 12', 20)", "10;20;10;1;", 5, impl.OK},
		// NULL as a value: no row is found, whatever the others are.
		{"sought(t, 0, '1 0', cast(null as int))", "", 1, impl.OK},
		{"sought(t, 8, '1 0', cast(null as int))", "", 1, impl.OK},
		{"sought(t, 8, '2 0', 10, cast(null as text))", "", 1, impl.OK},
		{"sought(t, 8, '2 0', cast(null as int), 'x')", "", 1, impl.OK},
		{"sought(t, 0, '0 1', cast(null as int))", "", 1, impl.OK},
		{"sought(t, 0, '0 12', cast(null as int))", "", 1, impl.OK},
		{"sought(t, 0, '0 15', 1, cast(null as int))", "", 1, impl.OK},
		{"sought(t, 0, '0 15', cast(null as int), 9)", "", 1, impl.OK},
		{"sought(t, 8, '1 1', 10, cast(null as text))", "", 1, impl.OK},
		{"sought(t, 8, '1 1', cast(null as int), 'a')", "", 1, impl.OK},
		// Rows around: a seek is worked out for each of them anew.
		{"projected(t, i0, some(sought(u, 7, '1 0', r1.i0)))", "1,true;2,true;3,false;4,false;5,false;", 20, impl.OK},
		{"projected(k, i0, one(grouped(sought(t, 8, '1 0', r1.i0), 'all')))", "10,3;NULL,0;20,1;10,3;1,0;", 34, impl.OK},
		{"projected(k, i0, one(grouped(sought(t, 8, '0 15', r1.i0, r1.i0), 'all')))", "10,3;NULL,0;20,1;10,3;1,0;", 34, impl.OK},
		{"filtered(k, some(filtered(vals('i', 1, 2), some(sought(t, 0, '1 0', r1.i0)) and some(sought(t, 8, '1 0', r2.i0)))))", "10;20;10;", 80, impl.OK},
		// Values that are worked out, by plans too.
		{"projected(sought(t, 0, '1 0', 1 + 2), i0)", "3;", 4, impl.OK},
		{"projected(sought(t, 0, '1 0', one(grouped(k, 'count(0)'))), i0)", "4;", 12, impl.OK},
		{"projected(sought(t, 0, '0 15', one(limited(k, 1, 4)), one(grouped(k, 'all'))), i0)", "1;2;3;4;5;", 28, impl.OK},
		{"sought(t, 0, '1 0', one(vals('i')))", "", 2, impl.OK},
	})
}

// TestExecuteHashes has each join, keys with NULLs, rows that are alike, and which pairs are looked at.
func TestExecuteHashes(t *testing.T) {
	wantPhysRows(t, []physCase{
		{"hashed(k, projected(t, i1, i0), '0=0', true)", "10,10,1;10,10,3;10,10,5;20,20,4;10,10,1;10,10,3;10,10,5;", 33, impl.OK},
		{"lefthashed(k, projected(t, i1, i0), '0=0', true)", "10,10,1;10,10,3;10,10,5;NULL,NULL,NULL;20,20,4;10,10,1;10,10,3;10,10,5;1,NULL,NULL;", 35, impl.OK},
		{"semihashed(k, projected(t, i1, i0), '0=0', true)", "10;20;10;", 29, impl.OK},
		{"antihashed(k, projected(t, i1, i0), '0=0', true)", "NULL;1;", 28, impl.OK},
		{"hashed(projected(t, i1, i0), k, '0=0', true)", "10,1,10;10,1,10;10,3,10;10,3,10;20,4,20;10,5,10;10,5,10;", 33, impl.OK},
		{"lefthashed(projected(t, i1, i0), k, '0=0', true)", "10,1,10;10,1,10;NULL,2,NULL;10,3,10;10,3,10;20,4,20;10,5,10;10,5,10;", 34, impl.OK},
		// A condition on the pairs: those that it is false or NULL for are looked at, too.
		{"hashed(k, projected(t, i1, i0), '0=0', i2 > 2)", "10,10,3;10,10,5;20,20,4;10,10,3;10,10,5;", 31, impl.OK},
		{"lefthashed(k, projected(t, i1, i0), '0=0', i2 > 3)", "10,10,5;NULL,NULL,NULL;20,20,4;10,10,5;1,NULL,NULL;", 31, impl.OK},
		{"semihashed(k, projected(t, i1, i0), '0=0', i2 > 3)", "10;20;10;", 29, impl.OK},
		{"antihashed(k, projected(t, i1, i0), '0=0', i2 > 3)", "NULL;1;", 28, impl.OK},
		{"hashed(k, projected(t, i1, i0), '0=0', null)", "", 26, impl.OK},
		{"lefthashed(k, projected(t, i1, i0), '0=0', null)", "10,NULL,NULL;NULL,NULL,NULL;20,NULL,NULL;10,NULL,NULL;1,NULL,NULL;", 31, impl.OK},
		{"semihashed(k, projected(t, i1, i0), '0=0', false)", "", 26, impl.OK},
		{"antihashed(k, projected(t, i1, i0), '0=0', cast(null as boolean))", "10;NULL;20;10;1;", 31, impl.OK},
		// Several keys: one that is NULL is enough to be equal to nothing.
		{"hashed(projected(t, i1, t2, i0), projected(t, i1, t2, i0), '0=0 1=1', true)", "10,x,1,10,x,1;20,x,4,20,x,4;10,y,5,10,y,5;", 31, impl.OK},
		{"lefthashed(projected(t, i1, t2, i0), projected(t, i1, t2, i0), '0=0 1=1', i2 <> i5)", "10,x,1,NULL,NULL,NULL;NULL,y,2,NULL,NULL,NULL;10,NULL,3,NULL,NULL,NULL;20,x,4,NULL,NULL,NULL;10,y,5,NULL,NULL,NULL;", 33, impl.OK},
		{"semihashed(projected(u, i0, i3), projected(u, i0, i3), '0=0 1=1', true)", "1,10;1,10;9,20;2,10;", 39, impl.OK},
		{"antihashed(projected(u, i0, i3), projected(u, i0, i3), '0=0 1=1', true)", "NULL,NULL;NULL,3;", 37, impl.OK},
		{"hashed(vals('ii', 1, 2, 2, 1), vals('ii', 2, 1, 1, 2), '0=1 1=0', true)", "1,2,2,1;2,1,1,2;", 11, impl.OK},
		{"hashed(vals('ii', 1, 1, 1, 2), vals('i', 1, 2), '0=0 1=0', true)", "1,1,1;", 9, impl.OK},
		// Texts that only together are the same.
		{"hashed(vals('tt', 'a', 'bc', 'ab', 'c'), vals('tt', 'ab', 'c', 'a', 'bc', 'abc', ''), '0=0 1=1', true)", "a,bc,a,bc;ab,c,ab,c;", 12, impl.OK},
		{"hashed(vals('tt', 'a', cast(null as text), '', ''), vals('tt', 'a', cast(null as text), '', ''), '0=0 1=1', true)", ",,,;", 9, impl.OK},
		// Keys of each kind.
		{"hashed(vals('d', 1.5, 1.0, 0.0001), vals('d', 1.0, 1.50, 0.0001), '0=0', true)", "1.5,1.5;1,1;0.0001,0.0001;", 15, impl.OK},
		{"hashed(vals('b', true, false), vals('b', false, false), '0=0', true)", "false,false;false,false;", 11, impl.OK},
		{"hashed(vals('y', date '1970-01-01', date '1970-01-02'), vals('y', date '1970-01-02'), '0=0', true)", "1970-01-02,1970-01-02;", 8, impl.OK},
		{"hashed(vals('t', 'a', 'A', ''), vals('t', '', 'a'), '0=0', true)", "a,a;,;", 12, impl.OK},
		// No rows on one side.
		{"hashed(vals('i'), k, '0=0', true)", "", 8, impl.OK},
		{"hashed(k, vals('i'), '0=0', true)", "", 8, impl.OK},
		{"lefthashed(k, vals('i'), '0=0', true)", "10,NULL;NULL,NULL;20,NULL;10,NULL;1,NULL;", 13, impl.OK},
		{"semihashed(k, vals('i'), '0=0', true)", "", 8, impl.OK},
		{"antihashed(k, vals('i'), '0=0', true)", "10;NULL;20;10;1;", 13, impl.OK},
		// Plans in the condition: they see both sides, and are worked out for the pairs that are looked at alone.
		{"hashed(k, projected(t, i1, i0), '0=0', some(sought(u, 7, '1 0', r1.i2)))", "10,10,1;10,10,1;", 39, impl.OK},
		{"semihashed(k, projected(t, i1, i0), '0=0', among(i2, vals('i', 4, 5)))", "10;20;10;", 50, impl.OK},
		// Rows around.
		{"projected(vals('i', 1, 5), one(grouped(hashed(k, projected(t, i1, i0), '0=0', i2 = r1.i0), 'all')))", "2;2;", 66, impl.OK},
	})
}

// TestExecuteMerges: the rows of both sides are put in the order of their keys first.
func TestExecuteMerges(t *testing.T) {
	wantPhysRows(t, []physCase{
		{"merged(k, projected(t, i1, i0), '0=0', true)", "10,10,1;10,10,3;10,10,5;10,10,1;10,10,3;10,10,5;20,20,4;", 33, impl.OK},
		{"merged(projected(t, i1, i0), k, '0=0', true)", "10,1,10;10,1,10;10,3,10;10,3,10;10,5,10;10,5,10;20,4,20;", 33, impl.OK},
		{"merged(projected(t, i1, i0), k, '0=0', i1 > 1)", "10,3,10;10,3,10;10,5,10;10,5,10;20,4,20;", 31, impl.OK},
		{"merged(projected(u, t2, d1), projected(t, t2, i0), '0=0', true)", "x,1.5,x,1;x,1.5,x,4;x,0.5,x,1;x,0.5,x,4;y,2.5,y,2;y,2.5,y,5;y,1.5,y,2;y,1.5,y,5;", 43, impl.OK},
		// What is alike stays as it stood.
		{"merged(vals('ii', 2, 1, 1, 2, 2, 3, 1, 4), vals('ii', 2, 5, 1, 6, 2, 7, 1, 8), '0=0', true)", "1,2,1,6;1,2,1,8;1,4,1,6;1,4,1,8;2,1,2,5;2,1,2,7;2,3,2,5;2,3,2,7;", 27, impl.OK},
		// By two keys, the second where the first is alike; NULLs behind all others, and equal to nothing.
		{"merged(vals('ii', 2, 1, 1, 2, 1, 1), vals('ii', 1, 1, 2, 1, 1, 2), '0=0 1=1', true)", "1,1,1,1;1,2,1,2;2,1,2,1;", 15, impl.OK},
		{"merged(vals('ii', 2, 1, 1, 2, 1, 1), vals('ii', 1, 1, 2, 1, 1, 2), '1=1 0=0', true)", "1,1,1,1;2,1,2,1;1,2,1,2;", 15, impl.OK},
		{"merged(vals('ii', cast(null as int), 1, 1, cast(null as int), 1, 1), vals('ii', 1, cast(null as int), cast(null as int), 1, 1, 1), '0=0 1=1', true)", "1,1,1,1;", 11, impl.OK},
		{"merged(vals('ii', 1, cast(null as int), 2, 5), vals('ii', 1, 9, 2, 5, 1, cast(null as int)), '0=0 1=1', true)", "2,5,2,5;", 10, impl.OK},
		{"merged(projected(t, i1, t2, i0), projected(t, i1, t2, i0), '0=0 1=1', true)", "10,x,1,10,x,1;10,y,5,10,y,5;20,x,4,20,x,4;", 31, impl.OK},
		{"merged(vals('ii', 1, 1, 1, 2), vals('i', 1, 2), '0=0 1=0', true)", "1,1,1;", 9, impl.OK},
		// Keys of each kind.
		{"merged(vals('d', 1.5, 1.0, 0.0001), vals('d', 1.0, 1.50, 0.0001), '0=0', true)", "0.0001,0.0001;1,1;1.5,1.5;", 15, impl.OK},
		{"merged(vals('b', true, false), vals('b', false, false, true), '0=0', true)", "false,false;false,false;true,true;", 14, impl.OK},
		{"merged(vals('y', date '1970-01-02', date '1970-01-01'), vals('y', date '1970-01-02', date '1970-01-01'), '0=0', true)", "1970-01-01,1970-01-01;1970-01-02,1970-01-02;", 11, impl.OK},
		{"merged(vals('t', 'b', 'a', 'A', ''), vals('t', '', 'a', 'b'), '0=0', true)", ",;a,a;b,b;", 16, impl.OK},
		// No rows on one side, and no pairs.
		{"merged(vals('i'), k, '0=0', true)", "", 8, impl.OK},
		{"merged(k, vals('i'), '0=0', true)", "", 8, impl.OK},
		{"merged(vals('i', 1, 3, 5), vals('i', 2, 4, 6), '0=0', true)", "", 9, impl.OK},
		{"merged(vals('i', 1, 3, 5), vals('i', 5, 0, 1), '0=0', true)", "1,1;5,5;", 13, impl.OK},
		{"merged(vals('i', cast(null as int)), vals('i', cast(null as int)), '0=0', true)", "", 5, impl.OK},
		// The condition, with plans and rows around.
		{"merged(k, projected(t, i1, i0), '0=0', null)", "", 26, impl.OK},
		{"merged(k, projected(t, i1, i0), '0=0', some(sought(u, 7, '1 0', r1.i2)))", "10,10,1;10,10,1;", 39, impl.OK},
		{"projected(vals('i', 1, 5), one(grouped(merged(k, projected(t, i1, i0), '0=0', i2 = r1.i0), 'all')))", "2;2;", 66, impl.OK},
	})
}

// TestExecuteLooks has each join, NULLs in what is looked for and in what is found, and which pairs are looked at.
func TestExecuteLooks(t *testing.T) {
	wantPhysRows(t, []physCase{
		{"projected(looked(k, t, 8, 1, i0, true), i0, i1)", "10,1;10,3;10,5;20,4;10,1;10,3;10,5;", 29, impl.OK},
		{"projected(leftlooked(k, t, 8, 1, i0, true), i0, i1)", "10,1;10,3;10,5;NULL,NULL;20,4;10,1;10,3;10,5;1,NULL;", 33, impl.OK},
		{"semilooked(k, t, 8, 1, i0, true)", "10;20;10;", 17, impl.OK},
		{"antilooked(k, t, 8, 1, i0, true)", "NULL;1;", 16, impl.OK},
		{"leftlooked(k, k, 12, 1, i0, true)", "10,10;10,10;NULL,NULL;20,20;10,10;10,10;1,1;", 20, impl.OK},
		{"leftlooked(k, t, 0, 1, i0, true)", "10,NULL,NULL,NULL,NULL,NULL,NULL;NULL,NULL,NULL,NULL,NULL,NULL,NULL;20,NULL,NULL,NULL,NULL,NULL,NULL;10,NULL,NULL,NULL,NULL,NULL,NULL;1,1,10,x,1.5,true,1970-01-01;", 13, impl.OK},
		// A condition on the pairs.
		{"projected(looked(k, t, 8, 1, i0, i1 > 2), i0, i1)", "10,3;10,5;20,4;10,3;10,5;", 25, impl.OK},
		{"projected(leftlooked(k, t, 8, 1, i0, i1 > 3), i0, i1)", "10,5;NULL,NULL;20,4;10,5;1,NULL;", 25, impl.OK},
		{"semilooked(k, t, 8, 1, i0, i1 > 3)", "10;20;10;", 17, impl.OK},
		{"antilooked(k, t, 8, 1, i0, i1 > 3)", "NULL;1;", 16, impl.OK},
		{"projected(leftlooked(k, t, 8, 1, i0, null), i0, i1)", "10,NULL;NULL,NULL;20,NULL;10,NULL;1,NULL;", 25, impl.OK},
		{"projected(looked(k, t, 8, 1, i0, b5), i0, i1)", "10,1;20,4;10,1;", 21, impl.OK},
		// Several columns, of which one is NULL in L or in the table.
		{"projected(looked(t, t, 8, 2, i1, t2, true), i0, i6)", "1,1;4,4;5,5;", 17, impl.OK},
		{"projected(leftlooked(t, t, 8, 2, i1, t2, i0 <> i6), i0, i6)", "1,NULL;2,NULL;3,NULL;4,NULL;5,NULL;", 21, impl.OK},
		{"projected(looked(t, u, 10, 2, i0, i1, true), i0, d7)", "1,1.5;1,2.5;", 14, impl.OK},
		{"projected(semilooked(t, u, 6, 2, i1, b4, true), i0)", "1;4;5;", 17, impl.OK},
		{"projected(antilooked(t, u, 6, 2, i1, b4, true), i0)", "2;3;", 15, impl.OK},
		{"projected(looked(t, t, 13, 3, y5, i1, i0, true), i0, i6)", "1,1;5,5;", 14, impl.OK},
		{"projected(looked(t, t, 13, 2, y5, i1, true), i0, i6)", "1,1;5,5;", 14, impl.OK},
		{"projected(looked(t, t, 13, 1, y5, true), i0, i6)", "1,1;2,2;2,5;5,2;5,5;", 23, impl.OK},
		{"looked(vals('it', 2, 'c', 1, 'a', 2, 'x'), p, 0, 2, i0, t1, true)", "2,c,c,2,1,0.5;1,a,a,1,NULL,1.5;", 9, impl.OK},
		{"projected(looked(vals('i', 2, 1), p, 0, 1, i0, true), i0, t1)", "2,a;2,c;1,a;1,b;", 17, impl.OK},
		// What is looked for need not be a column.
		{"projected(looked(k, t, 0, 1, 2, true), i0, i1)", "10,2;NULL,2;20,2;10,2;1,2;", 23, impl.OK},
		{"projected(leftlooked(k, t, 0, 1, cast(null as int), true), i0, i1)", "10,NULL;NULL,NULL;20,NULL;10,NULL;1,NULL;", 18, impl.OK},
		{"projected(looked(k, t, 0, 1, i0 - 9, true), i0, i1)", "10,1;10,1;", 14, impl.OK},
		{"projected(looked(k, t, 8, 2, i0, one(filtered(vals('t', 'x', 'y'), (r1.i0 = 20) = (t0 = 'x'))), true), i0, i1)", "10,5;20,4;10,5;", 41, impl.OK},
		{"projected(looked(k, t, 0, 1, one(grouped(filtered(k, i0 <= r1.i0), 'all')), true), i0, i1)", "10,3;20,4;10,3;1,1;", 76, impl.OK},
		// Plans in the condition, and rows around.
		{"projected(looked(k, t, 8, 1, i0, some(sought(u, 7, '1 0', r1.i1))), i0, i1)", "10,1;10,1;", 30, impl.OK},
		{"projected(vals('i', 10, 20), one(grouped(looked(vals('i', 1), t, 8, 1, r1.i0, true), 'all')))", "3;1;", 24, impl.OK},
		{"projected(vals('i', 1, 3), one(grouped(looked(k, t, 8, 1, i0, i1 >= r1.i0), 'all')))", "7;5;", 50, impl.OK},
		// No rows on one side.
		{"leftlooked(vals('i'), t, 0, 1, i0, true)", "", 2, impl.OK},
		{"antilooked(vals('', null), t, 0, 1, 77, true)", ";", 4, impl.OK},
		{"semilooked(vals('', null, null), t, 0, 1, 1, true)", ";;", 8, impl.OK},
	})
}
