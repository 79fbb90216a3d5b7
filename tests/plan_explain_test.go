package tests

import (
	"fmt"
	"slices"
	"strings"
	"testing"

	"loop.example/g00001/impl"
)

// wantedExplain says once more how a physical plan is told.
func wantedExplain(f impl.Phys) string {
	last := len(f.Nodes) - 1
	if last < 0 || last >= 200 {
		return "?\n"
	}
	named := map[int]int{}
	below := make([][]int, last+1)
	for i, n := range f.Nodes {
		if n.Op < 1 || n.Op > 16 || len(n.Exprs) > 3200 || len(n.Keys) > 32 || len(n.RKeys) > 32 || len(n.Sorts) > 32 {
			return "?\n"
		}
		list := []int{n.L, n.R}
		for _, e := range n.Exprs {
			for _, x := range e.Nodes {
				if x.Op == impl.XExists || x.Op == impl.XScalar || x.Op == impl.XInPlan {
					list = append(list, x.B)
				}
			}
		}
		for _, number := range list {
			if number < -1 || number >= i {
				return "?\n"
			}
			if number >= 0 {
				below[i] = append(below[i], number)
				named[number]++
			}
		}
	}
	for i := range last {
		if named[i] != 1 {
			return "?\n"
		}
	}
	var lines []string
	var tell func(at int, ahead string)
	tell = func(at int, ahead string) {
		lines = append(lines, ahead+wantedLine(f.Nodes[at])+"\n")
		for _, number := range below[at] {
			tell(number, ahead+"  ")
		}
	}
	tell(last, "")
	return strings.Join(lines, "")
}

func wantedLine(n impl.QNode) string {
	words := []string{strings.Fields("- scan seek values filter project loop hash merge look group distinct sort top limit union except")[n.Op]}
	put := func(when bool, form string, values ...any) {
		if when {
			words = append(words, fmt.Sprintf(form, values...))
		}
	}
	keyed := n.Op == impl.QHash || n.Op == impl.QMerge
	joins := keyed || n.Op == impl.QLoop || n.Op == impl.QLook
	put(n.Table != 0, "table %d", n.Table)
	put(n.Op == impl.QSeek || n.Op == impl.QLook, "index %d", n.Index)
	put(joins && n.A == 1, "inner")
	put(joins && n.A == 2, "left")
	put(joins && n.A == 4, "semi")
	put(joins && n.A == 5, "anti")
	for i, key := range n.Keys {
		put(keyed && i < len(n.RKeys), "on %d=%d", key, append(slices.Clone(n.RKeys), make([]int, len(n.Keys))...)[i])
	}
	put((n.Op == impl.QUnion || n.Op == impl.QExcept) && n.A == 1, "all")
	put(n.Op == impl.QGroup && len(n.Keys) > 0, "keys %s", strings.Trim(fmt.Sprint(n.Keys), "[]"))
	put(len(n.Sorts) > 0, "by")
	for _, key := range n.Sorts {
		put(true, "%d%s%s", key.Col, marked(key.Desc, "d"), marked(key.First, "f"))
	}
	put(n.Op == impl.QTop || n.Op == impl.QLimit, "limit %d offset %d", n.A, n.B)
	put(len(n.Exprs) > 0, "where")
	for _, e := range n.Exprs {
		put(true, "%s", impl.ExprText(e))
	}
	put(true, "(est %d cost %d)", n.Est, n.Cost)
	return strings.Join(words, " ")
}

func leafNode(n impl.QNode) impl.QNode {
	n.L, n.R = -1, -1
	return n
}

// TestExplainNodes has nodes by themselves; what is not named by the operation is there as well.
func TestExplainNodes(t *testing.T) {
	one, two := laid(constOf(intv(1))), laid(binOf(impl.OpEq, columnOf(impl.Int, 0, 3), columnOf(impl.Int, 2, 1)))
	sorts := []impl.SortKey{{Col: 3}, {Col: 0, Desc: true}, {Col: 1, First: true}, {Col: 12, Desc: true, First: true}}
	for _, c := range []struct {
		node impl.QNode
		want string
	}{
		{impl.QNode{Op: impl.QScan, Table: 7, Est: 5, Cost: 6}, "scan table 7 (est 5 cost 6)"},
		{impl.QNode{Op: impl.QScan}, "scan (est 0 cost 0)"},
		{impl.QNode{Op: impl.QScan, Table: -7, Index: 3, A: 1, B: 2, Est: -5, Cost: -6, Keys: []int{1}, RKeys: []int{2}, Kinds: []int{9}}, "scan table -7 (est -5 cost -6)"},
		{impl.QNode{Op: impl.QSeek, Table: 7, A: 1, Exprs: []impl.Expr{one}}, "seek table 7 index 0 where 1 (est 0 cost 0)"},
		{impl.QNode{Op: impl.QSeek, Index: 4, B: 15, Exprs: []impl.Expr{one, two}}, "seek index 4 where 1 (#3 = 2#1) (est 0 cost 0)"},
		{impl.QNode{Op: impl.QValues, A: 2, Exprs: []impl.Expr{one, one}}, "values where 1 1 (est 0 cost 0)"},
		{impl.QNode{Op: impl.QValues, A: 2}, "values (est 0 cost 0)"},
		{impl.QNode{Op: impl.QFilter, A: 1, Exprs: []impl.Expr{two}}, "filter where (#3 = 2#1) (est 0 cost 0)"},
		{impl.QNode{Op: impl.QProject, Exprs: []impl.Expr{{}, one, {Nodes: []impl.XNode{{Op: 99}}}}}, "project where ? 1 ? (est 0 cost 0)"},
		{impl.QNode{Op: impl.QLoop, A: impl.JoinInner, Exprs: []impl.Expr{two}, Keys: []int{1}, RKeys: []int{2}}, "loop inner where (#3 = 2#1) (est 0 cost 0)"},
		{impl.QNode{Op: impl.QLoop, A: impl.JoinLeft}, "loop left (est 0 cost 0)"},
		{impl.QNode{Op: impl.QLoop, A: impl.JoinSemi}, "loop semi (est 0 cost 0)"},
		{impl.QNode{Op: impl.QLoop, A: impl.JoinAnti}, "loop anti (est 0 cost 0)"},
		{impl.QNode{Op: impl.QLoop, A: impl.JoinCross}, "loop (est 0 cost 0)"},
		{impl.QNode{Op: impl.QHash, A: impl.JoinLeft, Keys: []int{1, 0}, RKeys: []int{2, -1}, Exprs: []impl.Expr{one}}, "hash left on 1=2 on 0=-1 where 1 (est 0 cost 0)"},
		{impl.QNode{Op: impl.QHash, A: 9, Keys: []int{1, 0}, RKeys: []int{2}}, "hash on 1=2 (est 0 cost 0)"},
		{impl.QNode{Op: impl.QHash, Keys: []int{1}}, "hash (est 0 cost 0)"},
		{impl.QNode{Op: impl.QMerge, A: impl.JoinInner, Keys: []int{1}, RKeys: []int{2, 3}}, "merge inner on 1=2 (est 0 cost 0)"},
		{impl.QNode{Op: impl.QMerge, A: impl.JoinAnti, Table: 1, Index: 2, RKeys: []int{3}}, "merge table 1 anti (est 0 cost 0)"},
		{impl.QNode{Op: impl.QLook, Table: 3, Index: 8, A: impl.JoinSemi, B: 1, Keys: []int{1}, RKeys: []int{2}, Exprs: []impl.Expr{one, two}}, "look table 3 index 8 semi where 1 (#3 = 2#1) (est 0 cost 0)"},
		{impl.QNode{Op: impl.QGroup, Keys: []int{2, 0, 2}, Aggs: []impl.PAgg{{Fn: impl.AggAll, Col: -1}}}, "group keys 2 0 2 (est 0 cost 0)"},
		{impl.QNode{Op: impl.QGroup, RKeys: []int{2}}, "group (est 0 cost 0)"},
		{impl.QNode{Op: impl.QDistinct, A: 1, Keys: []int{1}}, "distinct (est 0 cost 0)"},
		{impl.QNode{Op: impl.QSort, Sorts: sorts, A: 1, B: 2}, "sort by 3 0d 1f 12df (est 0 cost 0)"},
		{impl.QNode{Op: impl.QSort}, "sort (est 0 cost 0)"},
		{impl.QNode{Op: impl.QTop, Sorts: sorts[:1], A: 5, B: 2}, "top by 3 limit 5 offset 2 (est 0 cost 0)"},
		{impl.QNode{Op: impl.QTop}, "top limit 0 offset 0 (est 0 cost 0)"},
		{impl.QNode{Op: impl.QLimit, A: -1, B: 2, Sorts: sorts[1:2]}, "limit by 0d limit -1 offset 2 (est 0 cost 0)"},
		{impl.QNode{Op: impl.QLimit, A: 9223372036854775807, B: -9223372036854775808}, "limit limit 9223372036854775807 offset -9223372036854775808 (est 0 cost 0)"},
		{impl.QNode{Op: impl.QUnion}, "union (est 0 cost 0)"},
		{impl.QNode{Op: impl.QUnion, A: 1}, "union all (est 0 cost 0)"},
		{impl.QNode{Op: impl.QExcept, A: 1}, "except all (est 0 cost 0)"},
		{impl.QNode{Op: impl.QExcept, A: 2}, "except (est 0 cost 0)"},
		// All there is, in its order.
		{impl.QNode{Op: impl.QLook, Table: 1, Index: 2, A: 2, Sorts: sorts[:1], Exprs: []impl.Expr{one}, Est: 3, Cost: 4}, "look table 1 index 2 left by 3 where 1 (est 3 cost 4)"},
		{impl.QNode{Op: impl.QGroup, Table: 1, Keys: []int{5}, Sorts: sorts[:1], Exprs: []impl.Expr{one}, Est: 3, Cost: 4}, "group table 1 keys 5 by 3 where 1 (est 3 cost 4)"},
	} {
		f := impl.Phys{Nodes: []impl.QNode{leafNode(c.node)}}
		if got := impl.Explain(f); got != c.want+"\n" || wantedExplain(f) != got {
			t.Errorf("%+v is %q, not %q", c.node, got, c.want)
		}
	}
}

// naming is an expression that names plans.
func naming(plans ...int) impl.Expr {
	made := []impl.XNode{{Op: impl.XConst, Kind: impl.Bool, Val: boolv(true)}}
	for _, plan := range plans {
		last := len(made) - 1
		made = append(made, impl.XNode{Op: impl.XInPlan, Kind: impl.Bool, B: plan, Kids: []int{last}})
	}
	return impl.Expr{Nodes: made}
}

func TestExplainTrees(t *testing.T) {
	scan := func(table int) impl.QNode { return leafNode(impl.QNode{Op: impl.QScan, Table: table}) }
	exists := impl.Expr{Nodes: []impl.XNode{{Op: impl.XExists, Kind: impl.Bool, B: 2}}}
	scalar := impl.Expr{Nodes: []impl.XNode{{Op: impl.XScalar, Kind: impl.Int, B: 1}}}
	for _, c := range []struct {
		nodes []impl.QNode
		want  string
	}{
		{[]impl.QNode{scan(1), {Op: impl.QDistinct, L: 0, R: -1}}, "distinct\n  scan table 1\n"},
		{[]impl.QNode{scan(1), {Op: impl.QDistinct, L: -1, R: 0}}, "distinct\n  scan table 1\n"},
		{[]impl.QNode{scan(1), scan(2), {Op: impl.QUnion, L: 0, R: 1}}, "union\n  scan table 1\n  scan table 2\n"},
		// L is told ahead of R, wherever they stand.
		{[]impl.QNode{scan(1), scan(2), {Op: impl.QUnion, L: 1, R: 0}}, "union\n  scan table 2\n  scan table 1\n"},
		{[]impl.QNode{scan(1), scan(2), {Op: impl.QUnion, L: 0, R: 1}, scan(3), {Op: impl.QExcept, L: 2, R: 3}}, "except\n  union\n    scan table 1\n    scan table 2\n  scan table 3\n"},
		{[]impl.QNode{scan(1), {Op: impl.QDistinct, L: 0, R: -1}, scan(2), {Op: impl.QUnion, L: 2, R: 1}, {Op: impl.QDistinct, L: 3, R: -1}}, "distinct\n  union\n    scan table 2\n    distinct\n      scan table 1\n"},
		// Plans in expressions, in the order of the expressions and of their nodes.
		{[]impl.QNode{scan(1), scan(2), scan(3), {Op: impl.QProject, L: 0, R: -1, Exprs: []impl.Expr{exists, scalar}}}, "project where EXISTS(@2) (@1)\n  scan table 1\n  scan table 3\n  scan table 2\n"},
		{[]impl.QNode{scan(1), scan(2), scan(3), {Op: impl.QFilter, L: 0, R: -1, Exprs: []impl.Expr{naming(2, 1)}}}, "filter where ((TRUE IN @2) IN @1)\n  scan table 1\n  scan table 3\n  scan table 2\n"},
		{[]impl.QNode{scan(1), scan(2), {Op: impl.QFilter, L: 1, R: -1, Exprs: []impl.Expr{naming(0)}}}, "filter where (TRUE IN @0)\n  scan table 2\n  scan table 1\n"},
		{[]impl.QNode{scan(1), scan(2), scan(3), {Op: impl.QLoop, L: 0, R: 1, Exprs: []impl.Expr{naming(2)}}}, "loop where (TRUE IN @2)\n  scan table 1\n  scan table 2\n  scan table 3\n"},
		{[]impl.QNode{scan(1), {Op: impl.QFilter, L: 0, R: -1, Exprs: []impl.Expr{naming(-1)}}}, "filter where (TRUE IN @-1)\n  scan table 1\n"},
		// Of an expression that has no text the plans are told all the same.
		{[]impl.QNode{scan(1), leafNode(impl.QNode{Op: impl.QValues, Exprs: []impl.Expr{{Nodes: []impl.XNode{{Op: impl.XExists, B: 0}, {Op: 99}}}}})}, "values where ?\n  scan table 1\n"},
		// What is no name of a plan may have any B.
		{[]impl.QNode{leafNode(impl.QNode{Op: impl.QValues, Exprs: []impl.Expr{{Nodes: []impl.XNode{{Op: impl.XCol, A: 1, B: 7}}}}})}, "values where 1#7\n"},
		{[]impl.QNode{leafNode(impl.QNode{Op: impl.QValues, Exprs: []impl.Expr{{Nodes: []impl.XNode{{Op: 15, B: 7}}}, {Nodes: []impl.XNode{{Op: 11, B: -7}}}}})}, "values where ? ?\n"},
	} {
		got := impl.Explain(impl.Phys{Nodes: c.nodes})
		if short := strings.ReplaceAll(got, " (est 0 cost 0)", ""); short != c.want || wantedExplain(impl.Phys{Nodes: c.nodes}) != got {
			t.Errorf("%+v is\n%snot\n%s", c.nodes, short, c.want)
		}
	}
}

func TestExplainQuestionMarks(t *testing.T) {
	scan := leafNode(impl.QNode{Op: impl.QScan, Table: 1})
	chain := func(count int) []impl.QNode {
		list := []impl.QNode{scan}
		for i := range count - 1 {
			list = append(list, impl.QNode{Op: impl.QDistinct, L: i, R: -1})
		}
		return list
	}
	node := func(op int, change func(n *impl.QNode)) []impl.QNode {
		n := leafNode(impl.QNode{Op: op})
		change(&n)
		return []impl.QNode{n}
	}
	over := func(l, r int, plans ...int) []impl.QNode {
		return []impl.QNode{scan, {Op: impl.QLoop, L: l, R: r, Exprs: []impl.Expr{naming(plans...)}}}
	}
	for what, c := range map[string]struct {
		nodes []impl.QNode
		told  bool
	}{
		"no nodes": {nil, false}, "one": {chain(1), true}, "200": {chain(200), true}, "201": {chain(201), false},
		"operation 0": {node(0, func(*impl.QNode) {}), false}, "operation 17": {node(17, func(*impl.QNode) {}), false}, "operation -1": {node(-1, func(*impl.QNode) {}), false}, "operation 16": {node(16, func(*impl.QNode) {}), true},
		"the greatest operation": {node(9223372036854775807, func(*impl.QNode) {}), false},
		"3200 Exprs":             {node(impl.QValues, func(n *impl.QNode) { n.Exprs = make([]impl.Expr, 3200) }), true}, "3201 Exprs": {node(impl.QValues, func(n *impl.QNode) { n.Exprs = make([]impl.Expr, 3201) }), false},
		"32 Keys": {node(impl.QGroup, func(n *impl.QNode) { n.Keys = make([]int, 32) }), true}, "33 Keys": {node(impl.QGroup, func(n *impl.QNode) { n.Keys = make([]int, 33) }), false},
		"32 RKeys": {node(impl.QScan, func(n *impl.QNode) { n.RKeys = make([]int, 32) }), true}, "33 RKeys": {node(impl.QScan, func(n *impl.QNode) { n.RKeys = make([]int, 33) }), false},
		"32 Sorts": {node(impl.QSort, func(n *impl.QNode) { n.Sorts = make([]impl.SortKey, 32) }), true}, "33 Sorts": {node(impl.QSort, func(n *impl.QNode) { n.Sorts = make([]impl.SortKey, 33) }), false},
		"many Aggs and Kinds": {node(impl.QGroup, func(n *impl.QNode) { n.Aggs, n.Kinds = make([]impl.PAgg, 500), make([]int, 500) }), true},
		"L below -1":          {over(-2, 0), false}, "R below -1": {over(0, -2), false}, "L itself": {over(1, 0), false}, "R itself": {over(0, 1), false}, "L behind": {over(2, 0), false}, "R behind": {over(0, 2), false},
		"L the least": {over(-9223372036854775808, 0), false}, "R the greatest": {over(0, 9223372036854775807), false},
		"a plan itself": {over(0, -1, 1), false}, "a plan behind": {over(0, -1, 2), false}, "a plan below -1": {over(0, -1, -2), false}, "a plan -1": {over(0, -1, -1), true}, "a plan alone": {over(-1, -1, 0), true},
		"L and R the same": {over(0, 0), false}, "L and a plan the same": {over(0, -1, 0), false}, "two plans the same": {over(-1, -1, 0, 0), false}, "nobody names it": {over(-1, -1), false},
		"named by two nodes":    {append(chain(2), impl.QNode{Op: impl.QUnion, L: 1, R: 0}), false},
		"two roots":             {append(chain(2), scan), false},
		"a wrong node deep in":  {append(node(17, func(*impl.QNode) {}), impl.QNode{Op: impl.QDistinct, R: -1}), false},
		"a wrong name deep in":  {[]impl.QNode{{Op: impl.QDistinct, L: 0, R: -1}, {Op: impl.QDistinct, L: 0, R: -1}}, false},
		"a node that names one": {[]impl.QNode{scan, {Op: impl.QDistinct, L: 0, R: -1}}, true},
	} {
		f := impl.Phys{Nodes: c.nodes}
		got := impl.Explain(f)
		if (got != "?\n") != c.told || got != wantedExplain(f) {
			t.Errorf("%s: %.80q", what, got)
		}
	}
}

// oddQNode is a node of any numbers and lists.
func oddQNode(g grower, at int) impl.QNode {
	n := impl.QNode{Op: 1 + below(g.numberSource, 16), L: at - 1, R: -1, Table: g.pick(0, 0, 1, -3), Index: g.pick(0, 2), A: below(g.numberSource, 6), B: g.pick(0, 3), Est: at, Cost: 2 * at}
	for range g.pick(0, 0, 1, 2) {
		n.Keys, n.Sorts = append(n.Keys, g.pick(0, 5, -1)), append(n.Sorts, impl.SortKey{Col: g.pick(0, 7), Desc: g.chance(2), First: g.chance(2)})
	}
	for range g.pick(0, 0, 1, 2, 3) {
		n.RKeys = append(n.RKeys, g.pick(0, 5, -1))
	}
	for range g.pick(0, 0, 1, 2) {
		n.Exprs = append(n.Exprs, impl.Expr{Nodes: []impl.XNode{oddXNode(g)}}, laid(constOf(intv(at))))
	}
	if at > 1 && g.chance(4) {
		n.L, n.R = at-2, at-1
	}
	if at > 1 && g.chance(4) {
		n.L, n.Exprs = at-2, append(n.Exprs, naming(at-1))
	}
	if g.chance(40) {
		*[]*int{&n.Op, &n.L, &n.R}[below(g.numberSource, 3)] = g.pick(oddNumbers()...)
	}
	return n
}

func TestExplainByChance(t *testing.T) {
	t.Parallel()
	g := grower{&numberSource{state: 1051}}
	told := map[bool]int{}
	for round := 0; round < 20000; round++ {
		var f impl.Phys
		for at := range 1 + below(g.numberSource, 4) {
			f.Nodes = append(f.Nodes, oddQNode(g, at))
		}
		kept := copyPhys(f)
		got := impl.Explain(f)
		if got != wantedExplain(f) || !samePhys(f, kept) {
			t.Fatalf("%+v is\n%snot\n%s", f, got, wantedExplain(f))
		}
		told[got != "?\n"]++
	}
	if told[true] < 3000 || told[false] < 3000 {
		t.Errorf("%v", told)
	}
}
