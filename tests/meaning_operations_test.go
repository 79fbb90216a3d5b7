package tests

import (
	"fmt"
	"slices"
	"testing"

	"loop.example/g00001/impl"
)

// valueRows is a PValues of some rows, which are of some kinds.
func valueRows(kinds []int, rows ...[]impl.Value) *shrub {
	made := &shrub{PNode: impl.PNode{Op: impl.PValues, A: len(rows), Kinds: kinds}}
	for _, row := range rows {
		for i, v := range row {
			made.exprs = append(made.exprs, wantedConstant(v, kinds[i]))
		}
	}
	return made
}

// ints are rows of one Int each; a number of 0 stands for NULL.
func ints(numbers ...int) *shrub {
	var rows [][]impl.Value
	for _, n := range numbers {
		if n == 0 {
			rows = append(rows, []impl.Value{null})
		} else {
			rows = append(rows, []impl.Value{intv(n)})
		}
	}
	return valueRows([]int{impl.Int}, rows...)
}

// shrubCase is a plan that needs no table, whose expressions may name plans of a list; its rows, code and work.
type shrubCase struct {
	what       string
	root       *shrub
	rows       string
	code, work int
}

func wantShrubs(t *testing.T, cases []shrubCase, plans ...*shrub) {
	t.Helper()
	s := estate(t)
	st := packedState(s, 3)
	for _, c := range cases {
		p := (&planner{plans: plans}).whole(c.root)
		rows, code := impl.Meaning(s, st, p)
		if toldRows(rows) != c.rows || code != c.code {
			t.Errorf("%s: %s, %d; want %s, %d", c.what, toldRows(rows), code, c.rows, c.code)
		}
		wantMeaning(t, s, st, p)
		wantWork(t, s, st, p, c.code, c.work)
	}
}

func TestOperationJoins(t *testing.T) {
	equal := binOf(impl.OpEq, columnOf(impl.Int, 0, 0), columnOf(impl.Int, 0, 1))
	join := func(kind int, l, r *shrub, on *branch) *shrub {
		kinds := []int{impl.Int, impl.Int}
		if kind > impl.JoinCross {
			kinds = kinds[:1]
		}
		return &shrub{impl.PNode{Op: impl.PJoin, A: kind, Kinds: kinds}, l, r, []*branch{on}}
	}
	left, right := func() *shrub { return ints(1, 2, 0, 3, 2) }, func() *shrub { return ints(2, 0, 3, 2) }
	none := func() *shrub { return ints() }
	// 6 / (left - 2) = right: a failure where the left is 2; 5 has 2 as its partner.
	fails := binOf(impl.OpEq, binOf(impl.OpDiv, constOf(intv(6)), binOf(impl.OpSub, columnOf(impl.Int, 0, 0), constOf(intv(2)))), columnOf(impl.Int, 0, 1))
	wantShrubs(t, []shrubCase{
		{"inner", join(impl.JoinInner, left(), right(), equal), "2,2;2,2;3,3;2,2;2,2;", impl.OK, 6 + 5 + 1 + 20 + 5},
		{"left", join(impl.JoinLeft, left(), right(), equal), "1,NULL;2,2;2,2;NULL,NULL;3,3;2,2;2,2;", impl.OK, 6 + 5 + 1 + 20 + 7},
		{"semi", join(impl.JoinSemi, left(), right(), equal), "2;3;2;", impl.OK, 6 + 5 + 1 + 20 + 3},
		{"anti", join(impl.JoinAnti, left(), right(), equal), "1;NULL;", impl.OK, 6 + 5 + 1 + 20 + 2},
		{"inner, no left", join(impl.JoinInner, none(), right(), equal), "", impl.OK, 1 + 5 + 1},
		{"left, no left", join(impl.JoinLeft, none(), right(), equal), "", impl.OK, 1 + 5 + 1},
		{"semi, no left", join(impl.JoinSemi, none(), right(), equal), "", impl.OK, 1 + 5 + 1},
		{"anti, no left", join(impl.JoinAnti, none(), right(), equal), "", impl.OK, 1 + 5 + 1},
		{"inner, no right", join(impl.JoinInner, left(), none(), equal), "", impl.OK, 6 + 1 + 1},
		{"left, no right", join(impl.JoinLeft, left(), none(), equal), "1,NULL;2,NULL;NULL,NULL;3,NULL;2,NULL;", impl.OK, 6 + 1 + 1 + 5},
		{"semi, no right", join(impl.JoinSemi, left(), none(), equal), "", impl.OK, 6 + 1 + 1},
		{"anti, no right", join(impl.JoinAnti, left(), none(), equal), "1;2;NULL;3;2;", impl.OK, 6 + 1 + 1 + 5},
		{"inner on true", join(impl.JoinInner, ints(1, 2), ints(3, 4, 5), constOf(boolv(true))), "1,3;1,4;1,5;2,3;2,4;2,5;", impl.OK, 3 + 4 + 1 + 6 + 6},
		{"semi on true", join(impl.JoinSemi, ints(1, 2), ints(3, 4, 5), constOf(boolv(true))), "1;2;", impl.OK, 3 + 4 + 1 + 6 + 2},
		{"anti on NULL", join(impl.JoinAnti, ints(1, 2), ints(3), constOf(null)), "1;2;", impl.OK, 3 + 2 + 1 + 2 + 2},
		{"semi on NULL", join(impl.JoinSemi, ints(1, 2), ints(3), castOf(impl.Bool, constOf(null))), "", impl.OK, 3 + 2 + 1 + 2},
		{"inner that fails", join(impl.JoinInner, ints(5, 2), ints(2, 3), fails), "", impl.ErrZero, 3 + 3 + 1 + 4},
		{"semi that fails behind a partner", join(impl.JoinSemi, ints(5, 2, 5), ints(2), fails), "", impl.ErrZero, 4 + 2 + 1 + 3},
		{"a right side without rows fails never", join(impl.JoinLeft, ints(2), none(), fails), "2,NULL;", impl.OK, 2 + 1 + 1 + 1},
	})
}

func TestOperationRows(t *testing.T) {
	zero := binOf(impl.OpDiv, constOf(intv(1)), constOf(intv(0)))
	cast := castOf(impl.Int, constOf(textv("x")))
	values := func(kinds []int, rows int, exprs ...*branch) *shrub {
		return &shrub{PNode: impl.PNode{Op: impl.PValues, A: rows, Kinds: kinds}, exprs: exprs}
	}
	one := constOf(intv(1))
	big := binOf(impl.OpAdd, constOf(intv(9223372036854775807)), one)
	i := impl.Int
	wantShrubs(t, []shrubCase{
		{"no rows", values([]int{i, i}, 0), "", impl.OK, 1},
		{"a row of nothing", values(nil, 1), ";", impl.OK, 2},
		{"rows of nothing", values(nil, 3), ";;;", impl.OK, 4},
		{"rows of nothing, each once", sameRows(values(nil, 3), impl.PNode{Op: impl.PDistinct}), ";", impl.OK, 4 + 2},
		{"two rows", values([]int{i, i}, 2, one, constOf(intv(2)), constOf(intv(3)), castOf(i, constOf(null))), "1,2;3,NULL;", impl.OK, 3},
		{"the first of a row's codes", values([]int{i, i}, 1, cast, zero), "", impl.ErrCast, 1},
		{"the first of a row's codes, the other way round", values([]int{i, i}, 1, zero, cast), "", impl.ErrZero, 1},
		{"the least of the rows' codes", values([]int{i, i}, 3, cast, zero, one, zero, one, one), "", impl.ErrZero, 1},
		{"the least is the last", values([]int{i}, 3, cast, zero, big), "", impl.ErrOverflow, 1},
		{"the least is the first", values([]int{i}, 3, big, zero, cast), "", impl.ErrOverflow, 1},
		{"a project of nothing", project(ints(1, 2), nil), ";;", impl.OK, 3 + 3},
		{"a filter over nothing", sameRows(ints(), impl.PNode{Op: impl.PFilter}, binOf(impl.OpEq, zero, one)), "", impl.OK, 2},
		{"L fails, the node is not worked out", sameRows(project(ints(1), []*branch{cast}), impl.PNode{Op: impl.PFilter}, binOf(impl.OpEq, zero, one)), "", impl.ErrCast, 2 + 1 + 1},
		{"L fails, R is not worked out", &shrub{PNode: impl.PNode{Op: impl.PUnion, Kinds: []int{i}}, l: project(ints(1), []*branch{cast}), r: project(ints(1, 2, 3), []*branch{zero})}, "", impl.ErrCast, 2 + 1 + 1},
		{"R fails", &shrub{PNode: impl.PNode{Op: impl.PExcept, Kinds: []int{i}}, l: ints(1, 2), r: project(ints(1), []*branch{zero})}, "", impl.ErrZero, 3 + 2 + 1 + 1},
	})
}

func TestOperationGroups(t *testing.T) {
	kinds := []int{impl.Int, impl.Dec, impl.Text}
	rows := func() *shrub {
		return valueRows(kinds, []impl.Value{intv(1), decv(5000), textv("b")}, []impl.Value{null, null, textv("a")}, []impl.Value{intv(1), decv(-5000), null}, []impl.Value{null, decv(1), null}, []impl.Value{intv(2), decv(5000), textv("b")})
	}
	group := func(l *shrub, keys []int, aggs ...impl.PAgg) *shrub {
		node := impl.PNode{Op: impl.PGroup, Keys: keys, Aggs: aggs}
		node.Kinds, _ = groupKinds(node, l.Kinds)
		return &shrub{PNode: node, l: l}
	}
	all := impl.PAgg{Fn: impl.AggAll, Col: -1}
	none := func() *shrub { return valueRows(kinds) }
	of := func(fn, column int) impl.PAgg { return impl.PAgg{Fn: fn, Col: column} }
	once := func(fn, column int) impl.PAgg { return impl.PAgg{Fn: fn, Col: column, Distinct: true} }
	const most = 9223372036854775807
	wantShrubs(t, []shrubCase{
		{"by one key", group(rows(), []int{0}, all), "1,2;NULL,2;2,1;", impl.OK, 6 + 4},
		{"by another", group(rows(), []int{2}, all, of(impl.AggCount, 0)), "b,2,2;a,1,0;NULL,2,1;", impl.OK, 6 + 4},
		{"by two keys", group(rows(), []int{2, 0}, all), "b,1,1;a,NULL,1;NULL,1,1;NULL,NULL,1;b,2,1;", impl.OK, 6 + 6},
		{"by one key twice", group(rows(), []int{1, 1}), "0.5,0.5;NULL,NULL;-0.5,-0.5;0.0001,0.0001;", impl.OK, 6 + 5},
		{"without keys", group(rows(), nil, all, of(impl.AggCount, 1), once(impl.AggCount, 1)), "5,4,3;", impl.OK, 6 + 2},
		{"without anything", group(rows(), nil), ";", impl.OK, 6 + 2},
		{"no rows by a key", group(none(), []int{0}, all, of(impl.AggMax, 2)), "", impl.OK, 2},
		{"no rows without keys", group(none(), nil, all, of(impl.AggCount, 0), of(impl.AggSum, 0), of(impl.AggAvg, 1), of(impl.AggMin, 2), of(impl.AggMax, 2), once(impl.AggCount, 2)), "0,0,NULL,NULL,NULL,NULL,0;", impl.OK, 3},
		{"no rows, nothing asked", group(none(), nil), ";", impl.OK, 3},
		{"sums", group(rows(), nil, of(impl.AggSum, 0), once(impl.AggSum, 0), of(impl.AggSum, 1), once(impl.AggSum, 1)), "4,3,0.5001,0.0001;", impl.OK, 6 + 2},
		{"means", group(rows(), nil, of(impl.AggAvg, 0), once(impl.AggAvg, 0), of(impl.AggAvg, 1), once(impl.AggAvg, 1)), "1.3333,1.5,0.125,0;", impl.OK, 6 + 2},
		{"least and greatest", group(rows(), []int{0}, of(impl.AggMin, 1), of(impl.AggMax, 1), of(impl.AggMin, 2), once(impl.AggMax, 2)), "1,-0.5,0.5,b,b;NULL,0.0001,0.0001,a,a;2,0.5,0.5,b,b;", impl.OK, 6 + 4},
		{"a sum that leaves and comes back", group(ints(most, most, -most, -most, 5), nil, of(impl.AggSum, 0)), "5;", impl.OK, 6 + 2},
		{"a sum that stays above", group(ints(most, 1), nil, of(impl.AggSum, 0)), "", impl.ErrOverflow, 3 + 1},
		{"the least sum", group(ints(-most, -1), nil, of(impl.AggSum, 0)), "-9223372036854775808;", impl.OK, 3 + 2},
		{"a sum that stays below", group(ints(-most, -2), nil, of(impl.AggSum, 0)), "", impl.ErrOverflow, 3 + 1},
		{"a sum of equal ones, each once", group(ints(most, most, most), nil, once(impl.AggSum, 0)), "9223372036854775807;", impl.OK, 4 + 2},
		{"a mean of what is no Dec", group(ints(1, most), nil, of(impl.AggAvg, 0)), "", impl.ErrOverflow, 3 + 1},
		{"sums and means of groups", group(rows(), []int{0}, of(impl.AggSum, 0), of(impl.AggAvg, 0)), "1,2,1;NULL,NULL,NULL;2,2,2;", impl.OK, 6 + 4},
		{"one aggregate fails, those behind it do not", group(ints(most, 1), nil, all, of(impl.AggSum, 0), of(impl.AggMax, 0), all), "", impl.ErrOverflow, 3 + 1},
		{"two aggregates fail", group(ints(most, 1), nil, of(impl.AggSum, 0), of(impl.AggAvg, 0)), "", impl.ErrOverflow, 3 + 1},
		{"one group of two fails", group(valueRows([]int{1, 1}, []impl.Value{intv(1), intv(most)}, []impl.Value{intv(2), intv(2)}, []impl.Value{intv(1), intv(most)}), []int{0}, of(impl.AggSum, 1)), "", impl.ErrOverflow, 4 + 1},
	})
}

func TestOperationOrders(t *testing.T) {
	pairs := func() *shrub {
		return valueRows([]int{1, 3}, []impl.Value{intv(2), textv("a")}, []impl.Value{null, textv("b")}, []impl.Value{intv(1), null}, []impl.Value{intv(2), textv("b")}, []impl.Value{null, null}, []impl.Value{intv(1), textv("a")})
	}
	sorted := func(keys ...impl.SortKey) *shrub { return sameRows(pairs(), impl.PNode{Op: impl.PSort, Sorts: keys}) }
	wantShrubs(t, []shrubCase{
		{"rising", sorted(impl.SortKey{Col: 0}), "1,NULL;1,a;2,a;2,b;NULL,b;NULL,NULL;", impl.OK, 7 + 7},
		{"falling", sorted(impl.SortKey{Col: 0, Desc: true}), "2,a;2,b;1,NULL;1,a;NULL,b;NULL,NULL;", impl.OK, 7 + 7},
		{"rising, NULLs first", sorted(impl.SortKey{Col: 0, First: true}), "NULL,b;NULL,NULL;1,NULL;1,a;2,a;2,b;", impl.OK, 7 + 7},
		{"falling, NULLs first", sorted(impl.SortKey{Col: 0, Desc: true, First: true}), "NULL,b;NULL,NULL;2,a;2,b;1,NULL;1,a;", impl.OK, 7 + 7},
		{"by two", sorted(impl.SortKey{Col: 0}, impl.SortKey{Col: 1, Desc: true}), "1,a;1,NULL;2,b;2,a;NULL,b;NULL,NULL;", impl.OK, 7 + 7},
		{"by two, the other first", sorted(impl.SortKey{Col: 1, First: true}, impl.SortKey{Col: 0}), "1,NULL;NULL,NULL;1,a;2,a;2,b;NULL,b;", impl.OK, 7 + 7},
		{"by one twice", sorted(impl.SortKey{Col: 1}, impl.SortKey{Col: 1, Desc: true}), "2,a;1,a;NULL,b;2,b;1,NULL;NULL,NULL;", impl.OK, 7 + 7},
		{"nothing", sameRows(ints(), impl.PNode{Op: impl.PSort, Sorts: []impl.SortKey{{}}}), "", impl.OK, 2},
		{"some", sameRows(pairs(), impl.PNode{Op: impl.PLimit, A: 2, B: 3}), "2,b;NULL,NULL;", impl.OK, 7 + 3},
		{"all behind some", sameRows(pairs(), impl.PNode{Op: impl.PLimit, A: -1, B: 5}), "1,a;", impl.OK, 7 + 2},
		{"none", sameRows(pairs(), impl.PNode{Op: impl.PLimit}), "", impl.OK, 7 + 1},
		{"behind all", sameRows(pairs(), impl.PNode{Op: impl.PLimit, A: -1, B: 6}), "", impl.OK, 7 + 1},
		{"far behind all", sameRows(pairs(), impl.PNode{Op: impl.PLimit, A: 9223372036854775807, B: 9223372036854775807}), "", impl.OK, 7 + 1},
		{"all", sameRows(ints(3, 1), impl.PNode{Op: impl.PLimit, A: -1}), "3;1;", impl.OK, 3 + 3},
	})
}

func TestOperationDoubles(t *testing.T) {
	both := func(op, a int, l, r *shrub) *shrub {
		return &shrub{PNode: impl.PNode{Op: op, A: a, Kinds: l.Kinds}, l: l, r: r}
	}
	l, r := func() *shrub { return ints(1, 0, 2, 1, 0, 3, 1) }, func() *shrub { return ints(0, 1, 4, 1, 4) }
	// Rows that differ only in where one text ends.
	texts := valueRows([]int{3, 3}, []impl.Value{textv("a"), textv("bc")}, []impl.Value{textv("ab"), textv("c")}, []impl.Value{textv("a"), textv("bc")}, []impl.Value{null, textv("")}, []impl.Value{textv(""), null}, []impl.Value{textv(""), textv("")})
	wantShrubs(t, []shrubCase{
		{"distinct", sameRows(l(), impl.PNode{Op: impl.PDistinct}), "1;NULL;2;3;", impl.OK, 8 + 5},
		{"distinct of nothing", sameRows(ints(), impl.PNode{Op: impl.PDistinct}), "", impl.OK, 2},
		{"distinct texts", sameRows(texts, impl.PNode{Op: impl.PDistinct}), "a,bc;ab,c;NULL,;,NULL;,;", impl.OK, 7 + 6},
		{"union", both(impl.PUnion, 0, l(), r()), "1;NULL;2;3;4;", impl.OK, 8 + 6 + 6},
		{"union all", both(impl.PUnion, 1, l(), r()), "1;NULL;2;1;NULL;3;1;NULL;1;4;1;4;", impl.OK, 8 + 6 + 13},
		{"except", both(impl.PExcept, 0, l(), r()), "2;3;", impl.OK, 8 + 6 + 3},
		{"except all", both(impl.PExcept, 1, l(), r()), "2;NULL;3;1;", impl.OK, 8 + 6 + 5},
		{"except the other way round", both(impl.PExcept, 0, r(), l()), "4;", impl.OK, 8 + 6 + 2},
		{"except all the other way round", both(impl.PExcept, 1, r(), l()), "4;4;", impl.OK, 8 + 6 + 3},
		{"union with nothing", both(impl.PUnion, 0, l(), ints()), "1;NULL;2;3;", impl.OK, 8 + 1 + 5},
		{"nothing with a union", both(impl.PUnion, 1, ints(), ints(2, 2)), "2;2;", impl.OK, 1 + 3 + 3},
		{"except nothing", both(impl.PExcept, 0, l(), ints()), "1;NULL;2;3;", impl.OK, 8 + 1 + 5},
		{"except all of nothing", both(impl.PExcept, 1, l(), ints()), "1;NULL;2;1;NULL;3;1;", impl.OK, 8 + 1 + 8},
		{"nothing except", both(impl.PExcept, 1, ints(), l()), "", impl.OK, 1 + 8 + 1},
	})
}

// TestOperationNames works out plans in expressions, each time that their node is.
func TestOperationNames(t *testing.T) {
	naming := func(op, kind, a int, kids ...*branch) *branch {
		return &branch{impl.XNode{Op: op, Kind: kind, A: a}, kids}
	}
	exists, scalar := naming(impl.XExists, impl.Bool, 0), naming(impl.XScalar, impl.Int, 0)
	in, notIn := naming(impl.XInPlan, impl.Bool, 0, columnOf(impl.Int, 0, 0)), naming(impl.XInPlan, impl.Bool, 1, columnOf(impl.Int, 0, 0))
	for _, c := range []struct {
		plan                 *shrub
		exists, value        string
		code                 int
		in, notIn            string
		work, rowsOfTheValue int
	}{
		{ints(), "false;false;false;", "NULL;NULL;NULL;", impl.OK, "false;false;false;", "true;true;true;", 1, 3},
		{ints(2), "true;true;true;", "2;2;2;", impl.OK, "false;true;NULL;", "true;false;NULL;", 2, 3},
		{ints(0), "true;true;true;", "NULL;NULL;NULL;", impl.OK, "NULL;NULL;NULL;", "NULL;NULL;NULL;", 2, 3},
		{ints(0, 2), "true;true;true;", "", impl.ErrRows, "NULL;true;NULL;", "NULL;false;NULL;", 3, 0},
		{ints(2, 1), "true;true;true;", "", impl.ErrRows, "true;true;NULL;", "false;false;NULL;", 3, 0},
		{ints(1, 0), "true;true;true;", "", impl.ErrRows, "true;NULL;NULL;", "false;NULL;NULL;", 3, 0},
	} {
		over := func(e *branch) *shrub { return project(ints(1, 2, 0), []*branch{e}) }
		wantShrubs(t, []shrubCase{
			{"exists", over(exists), c.exists, impl.OK, 4 + 1 + 3 + 3*c.work},
			{"in", over(in), c.in, impl.OK, 4 + 1 + 3 + 3*c.work},
			{"not in", over(notIn), c.notIn, impl.OK, 4 + 1 + 3 + 3*c.work},
			{"value", over(scalar), c.value, c.code, 4 + 1 + c.rowsOfTheValue + 3*c.work},
		}, c.plan)
	}
	zero := binOf(impl.OpDiv, constOf(intv(1)), constOf(intv(0)))
	wantShrubs(t, []shrubCase{
		{"the kid fails ahead of the plan", project(ints(1), []*branch{naming(impl.XInPlan, impl.Bool, 0, zero)}), "", impl.ErrZero, 2 + 1},
		{"the plan fails", project(ints(1), []*branch{in}), "", impl.ErrCast, 2 + 1 + 2 + 1},
		{"the plan is not come to", project(ints(1), []*branch{binOf(impl.OpAnd, constOf(boolv(false)), in)}), "false;", impl.OK, 2 + 1 + 1},
	}, project(ints(1), []*branch{castOf(impl.Int, constOf(textv("x")))}))
	// The plan sees the row of the node in whose expression it stands, and it is another one each time.
	sees := sameRows(ints(1, 2, 3), impl.PNode{Op: impl.PFilter}, binOf(impl.OpLt, columnOf(impl.Int, 0, 0), columnOf(impl.Int, 1, 0)))
	count := &shrub{PNode: impl.PNode{Op: impl.PGroup, Aggs: []impl.PAgg{{Fn: impl.AggAll, Col: -1}}, Kinds: []int{1}}, l: sees}
	wantShrubs(t, []shrubCase{{"a count for each row", project(ints(3, 1, 0, 9), []*branch{scalar}), "2;0;0;3;", impl.OK, 5 + 1 + 4 + 4*(4+1+2) + 2 + 3}}, count)
	// In a join it sees both sides; in a PValues a row of nothing stands between.
	pair := &shrub{impl.PNode{Op: impl.PJoin, A: impl.JoinInner, Kinds: []int{1, 1}}, ints(1, 2), ints(2, 3), []*branch{exists}}
	wantShrubs(t, []shrubCase{{"a condition that is a plan", pair, "1,2;", impl.OK, 3 + 3 + 1 + 4 + 1 + 4*(2+1) + 1}},
		sameRows(ints(3), impl.PNode{Op: impl.PFilter}, binOf(impl.OpEq, columnOf(impl.Int, 0, 0), binOf(impl.OpAdd, columnOf(impl.Int, 1, 0), columnOf(impl.Int, 1, 1)))))
}

// TestMaxWork has plans of which each is MaxWork in all, and then one more: by their nodes, their rows, their pairs.
func TestMaxWork(t *testing.T) {
	s := estate(t)
	st := packedState(s, impl.MaxRows)
	scan := func() *shrub { return scanned(s.Tables[0], "").plan }
	limited := func(rows int) *shrub { return sameRows(scan(), impl.PNode{Op: impl.PLimit, A: rows}) }
	code := func(root *shrub, plans ...*shrub) int {
		p := (&planner{plans: plans}).whole(root)
		if !impl.PlanOK(s, p) {
			t.Fatalf("%q is not valid", toldPlan(p))
		}
		wantMeaning(t, s, st, p)
		_, code := impl.Meaning(s, st, p)
		return code
	}
	for extra, want := range []int{impl.OK, impl.ErrFuel} {
		// Rows: 49 nodes of 400 rows, and one of 350.
		made := scan()
		for range 48 {
			made = sameRows(made, impl.PNode{Op: impl.PDistinct})
		}
		if got := code(sameRows(made, impl.PNode{Op: impl.PLimit, A: 350 + extra})); got != want {
			t.Errorf("rows: %d; want %d", got, want)
		}
		// Pairs: twice 401 and 101 for the sides, 100 times 100 and 1 for the join of no rows, 1 for the limit; the rest is filled.
		pairs := &shrub{impl.PNode{Op: impl.PJoin, A: impl.JoinInner, Kinds: slices.Repeat(scan().Kinds, 2)}, limited(100), limited(100), []*branch{constOf(boolv(false))}}
		whole := sameRows(pairs, impl.PNode{Op: impl.PLimit})
		rest := impl.MaxWork - 2*(401+101) - 10001 - 1 + extra
		union := &shrub{PNode: impl.PNode{Op: impl.PUnion, A: 1}, l: project(whole, nil), r: filler(rest - 2)}
		if got := code(union); got != want {
			t.Errorf("pairs: %d; want %d", got, want)
		}
		// Nodes: for each of 400 rows 30 plans of no row.
		var named []*branch
		var plans []*shrub
		for i := range 30 {
			named = append(named, &branch{XNode: impl.XNode{Op: impl.XExists, Kind: impl.Bool, B: i}})
			plans = append(plans, ints())
		}
		nodes := project(scan(), named)
		rest = impl.MaxWork - 401 - 401 - 400*30 + extra
		union = &shrub{PNode: impl.PNode{Op: impl.PUnion, A: 1}, l: project(sameRows(nodes, impl.PNode{Op: impl.PLimit}), nil), r: filler(rest - 3)}
		if got := code(union, plans...); got != want {
			t.Errorf("nodes: %d; want %d", got, want)
		}
	}
}

// TestFuelAheadOfCodes has too much work behind a failure: where it is done all the same the answer is ErrFuel.
func TestFuelAheadOfCodes(t *testing.T) {
	s := estate(t)
	st := packedState(s, 200)
	for _, c := range []struct {
		text string
		code int
	}{
		// The second row is worked out behind the first, which fails; so are all pairs.
		{"select case when id = 1 then 1 / 0 else (select count(*) from t as a, t as b where t.id = 2) end from t", impl.ErrFuel},
		{"select id from t where case when id = 1 then 1 / 0 = 1 else exists (select 1 from t as a, t as b where t.id = 2) end", impl.ErrFuel},
		{"select 1 / 0, (select count(*) from t as a, t as b) from t", impl.ErrZero},
		{"select (select count(*) from t as a, t as b), 1 / 0 from t", impl.ErrFuel},
		{"select 1 from (select 1 / 0 from t) as p, (select 1 from t as a, t as b) as q", impl.ErrZero},
		{"select 1 from (select 1 from t as a, t as b) as q, (select 1 / 0 from t) as p", impl.ErrFuel},
		{"select 1 / 0 union all select count(*) from t as a, t as b", impl.ErrZero},
		{"select count(*) from t as a, t as b union all select 1 / 0", impl.ErrFuel},
		{"select 1 / 0 in (select a.id from t as a, t as b)", impl.ErrZero},
		{"select exists (select 1 from t as a, t as b)", impl.ErrFuel},
		{"select 1 from t as a join t as b on 1 / 0 = 1", impl.ErrFuel},
		{"select 1 from t as a join t as b on false limit 0", impl.ErrFuel},
		// With 90 rows, all but those of what fails is less than MaxWork, and those of what does not fail are more.
		{"select a.id / (b.id - 3) from (select id from t limit 90) as a, (select id from t limit 90) as b", impl.ErrZero},
		{"select a.id from (select id from t limit 90) as a, (select id from t limit 90) as b where a.id / (b.id - 3) < 99", impl.ErrZero},
		{"select a.id + b.id from (select id from t limit 90) as a, (select id from t limit 90) as b", impl.ErrFuel},
		{"select true or exists (select 1 from t as a, t as b)", impl.OK},
		{"select case when 1 / 0 = 1 then 1 else (select count(*) from t as a, t as b) end", impl.ErrZero},
	} {
		p := boundPlan(t, s, c.text)
		if _, code := impl.Meaning(s, st, p); code != c.code {
			t.Errorf("%s: %d; want %d", c.text, code, c.code)
		}
		wantMeaning(t, s, st, p)
	}
}

// TestMeaningAnswersApart writes into the rows of an answer: no other row of it, no table and no later answer may see it.
func TestMeaningAnswersApart(t *testing.T) {
	s := estate(t)
	for _, text := range []string{"select * from t", "select * from t union all select * from t", "select * from (select * from t) as p order by 1", "select distinct * from u", "select * from t limit 2", "select t.* from t left join u on t.id = u.id", "select k from p group by k", "select * from t except all select * from t where id = 1"} {
		st := packedState(s, 3)
		p := boundPlan(t, s, text)
		if text == "select * from t" {
			p = scanPlan(s, 0)
		}
		want, _, _ := wantedRows(st, p)
		rows, _ := impl.Meaning(s, st, p)
		for i, row := range rows {
			if !slices.Equal(row, want[i]) {
				t.Fatalf("%s: row %d is %v", text, i, row)
			}
			_ = append(row, intv(77), intv(78))
			for k := range row {
				row[k] = textv(fmt.Sprint("written into ", i))
			}
		}
		if again, _ := impl.Meaning(s, st, p); !sameValues(again, want) || !sameState(st, packedState(s, 3)) {
			t.Errorf("%s: an answer shares memory", text)
		}
	}
}
