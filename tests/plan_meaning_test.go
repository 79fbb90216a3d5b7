package tests

import (
	"fmt"
	"slices"
	"testing"

	"loop.example/g00001/impl"
)

// speller makes of a physical plan the plan that means what chapter 11 says of it: a QSeek is a filter, a QLook a join with the table.
type speller struct {
	planner
	schema impl.Schema
	// wrong are reasons why the physical plan is not valid.
	wrong []string
}

// spelledOut is such a plan; the physical one must be valid.
func spelledOut(t *testing.T, s impl.Schema, f impl.Phys) impl.Plan {
	t.Helper()
	w := &speller{schema: s}
	for _, n := range f.Nodes {
		w.plans = append(w.plans, w.spell(n))
	}
	p := impl.Plan{Nodes: w.lay(w.plans[len(w.plans)-1], nil)}
	if len(f.Nodes) > 200 || len(p.Nodes) <= 200 && !wantedPlanOK(s, p) {
		w.wrong = append(w.wrong, "nodes")
	}
	if len(w.wrong) > 0 {
		t.Fatalf("not valid: %q\n%s", w.wrong, impl.Explain(f))
	}
	return p
}

func (w *speller) must(n impl.QNode, holds bool, what string) bool {
	if !holds {
		w.wrong = append(w.wrong, fmt.Sprintf("operation %d: %s", n.Op, what))
	}
	return holds
}

// ofOperation are the operations of plans that physical ones have, too.
func ofOperation(op int) int {
	return map[int]int{
		impl.QScan: impl.PScan, impl.QValues: impl.PValues, impl.QFilter: impl.PFilter, impl.QProject: impl.PProject, impl.QLoop: impl.PJoin, impl.QGroup: impl.PGroup,
		impl.QDistinct: impl.PDistinct, impl.QSort: impl.PSort, impl.QLimit: impl.PLimit, impl.QUnion: impl.PUnion, impl.QExcept: impl.PExcept,
	}[op]
}

func (w *speller) spell(n impl.QNode) *shrub {
	made := &shrub{PNode: impl.PNode{Op: ofOperation(n.Op), Table: n.Table, A: n.A, B: n.B, Keys: n.Keys, Aggs: n.Aggs, Sorts: n.Sorts, Kinds: n.Kinds}}
	if n.L >= 0 {
		made.l = w.plans[n.L]
	}
	if n.R >= 0 {
		made.r = w.plans[n.R]
	}
	for _, e := range n.Exprs {
		made.exprs = append(made.exprs, upright(e))
	}
	w.must(n, n.Index == 0 || n.Op == impl.QSeek || n.Op == impl.QLook, "Index")
	w.must(n, n.Est >= 1 && n.Est <= impl.MaxCost && n.Cost >= 0 && n.Cost <= impl.MaxCost, "Est and Cost")
	w.must(n, len(n.RKeys) == 0 || n.Op == impl.QHash || n.Op == impl.QMerge, "RKeys")
	switch n.Op {
	case impl.QSeek:
		return w.seek(n, made)
	case impl.QHash, impl.QMerge:
		return w.keyed(n, made)
	case impl.QLook:
		return w.look(n, made)
	case impl.QTop:
		w.must(n, n.A >= 0 && n.L >= 0 && n.R < 0, "A, L and R")
		sorted := sameRows(made.l, impl.PNode{Op: impl.PSort, Sorts: n.Sorts})
		made.Op, made.Sorts, made.l = impl.PLimit, nil, sorted
	}
	return made
}

// table is a table, and the columns of one of its keys.
func (w *speller) table(n impl.QNode) (*shrub, []int) {
	for _, table := range w.schema.Tables {
		if table.Id != n.Table {
			continue
		}
		cols := table.Primary
		if n.Index != 0 {
			cols = nil
		}
		for _, index := range w.schema.Indexes {
			if index.Id == n.Index && index.Table == table.Name {
				cols = index.Cols
			}
		}
		w.must(n, len(cols) > 0, "Index of another table")
		return scanned(table, "").plan, cols
	}
	w.must(n, false, "Table")
	return &shrub{}, nil
}

func (w *speller) blank(n impl.QNode) bool {
	return len(n.Aggs) == 0 && len(n.Sorts) == 0 && (len(n.Keys) == 0 || n.Op == impl.QHash || n.Op == impl.QMerge)
}

func (w *speller) seek(n impl.QNode, made *shrub) *shrub {
	scan, cols := w.table(n)
	var ops []int
	for range n.A {
		ops = append(ops, impl.OpEq)
	}
	bounds, there := map[int][]int{
		0: {}, 1: {impl.OpGt}, 3: {impl.OpGe}, 4: {impl.OpLt}, 12: {impl.OpLe}, 5: {impl.OpGt, impl.OpLt}, 7: {impl.OpGe, impl.OpLt}, 13: {impl.OpGt, impl.OpLe}, 15: {impl.OpGe, impl.OpLe},
	}[n.B]
	ops = append(ops, bounds...)
	if !w.must(n, there && n.A >= 0 && n.A+min(n.B, 1) <= len(cols) && len(ops) > 0 && len(ops) == len(made.exprs) && n.L == -1 && n.R == -1 && w.blank(n), "fields") {
		return made
	}
	var list []*branch
	for i, e := range made.exprs {
		column := cols[min(i, n.A)]
		w.must(n, len(columnsSeen(e)) == 0 && e.Kind == scan.Kinds[column], "expression")
		list = append(list, binOf(ops[i], columnOf(e.Kind, 0, column), e))
	}
	w.must(n, slices.Equal(n.Kinds, scan.Kinds), "Kinds")
	return sameRows(scan, impl.PNode{Op: impl.PFilter}, andOf(list))
}

func (w *speller) keyed(n impl.QNode, made *shrub) *shrub {
	if !w.must(n, n.L >= 0 && n.R >= 0 && len(n.Keys) > 0 && len(n.Keys) == len(n.RKeys) && len(made.exprs) == 1 && w.blank(n), "fields") {
		return made
	}
	var list []*branch
	sorts := [2][]impl.SortKey{}
	for i, key := range n.Keys {
		kind := made.l.Kinds[key]
		w.must(n, kind == made.r.Kinds[n.RKeys[i]] && kind != impl.Null, "kinds of Keys")
		list = append(list, binOf(impl.OpEq, columnOf(kind, 0, key), columnOf(kind, 0, len(made.l.Kinds)+n.RKeys[i])))
		sorts[0], sorts[1] = append(sorts[0], impl.SortKey{Col: key}), append(sorts[1], impl.SortKey{Col: n.RKeys[i]})
	}
	made.Op, made.Keys, made.exprs = impl.PJoin, nil, []*branch{andOf(append(list, made.exprs[0]))}
	if n.Op == impl.QMerge {
		w.must(n, n.A == impl.JoinInner, "A")
		made.l, made.r = sameRows(made.l, impl.PNode{Op: impl.PSort, Sorts: sorts[0]}), sameRows(made.r, impl.PNode{Op: impl.PSort, Sorts: sorts[1]})
	}
	return made
}

func (w *speller) look(n impl.QNode, made *shrub) *shrub {
	scan, cols := w.table(n)
	if !w.must(n, n.B >= 1 && n.B <= len(cols) && len(made.exprs) == n.B+1 && n.L >= 0 && n.R == -1 && w.blank(n), "fields") {
		return made
	}
	width := len(made.l.Kinds)
	var list []*branch
	for i, e := range made.exprs[:n.B] {
		w.must(n, !slices.ContainsFunc(columnsSeen(e), func(column int) bool { return column >= width }) && e.Kind == scan.Kinds[cols[i]], "key")
		list = append(list, binOf(impl.OpEq, columnOf(e.Kind, 0, width+cols[i]), e))
	}
	made.Op, made.Table, made.B, made.r, made.exprs = impl.PJoin, 0, 0, scan, []*branch{andOf(append(list, made.exprs[n.B]))}
	return made
}
