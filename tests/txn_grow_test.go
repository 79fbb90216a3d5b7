package tests

import (
	"slices"

	"loop.example/g00001/impl"
)

// txnGrower makes scripts of sessions, and histories.
type txnGrower struct {
	grower
	tables, keys []int
	sessions     int
	modes        []int
	long         int  // about how many operations a transaction has
	lists        bool // each transaction begins with lists of all tables
	saves        int  // one of so many operations is about a savepoint
	open         [5]bool
}

func newTxnGrower(number int) *txnGrower {
	g := grower{&numberSource{state: uint64(number)}}
	t := &txnGrower{grower: g, sessions: 2 + below(g.numberSource, 3), long: g.pick(3, 6, 12, 40), saves: g.pick(2, 4, 10, 1000)}
	t.tables = []int{0, 31, 7, 8, 30, 1, 16, 15}[:1+below(g.numberSource, 8)]
	t.keys = []int{0, 5, -5, 1, 9, -100, 77, 2, 3, 4}[:1+below(g.numberSource, 10)]
	t.modes = [][]int{{1}, {2}, {1, 2}, {1, 2, 2, 2}}[below(g.numberSource, 4)]
	return t
}

// ops are some operations of one session that belong together.
func (g *txnGrower) ops() []impl.TxnOp {
	session := 1 + below(g.numberSource, g.sessions)
	if !g.open[session] {
		g.open[session] = true
		return g.beginning(session)
	}
	op := impl.TxnOp{Session: session, Table: g.pick(g.tables...), Key: g.pick(g.keys...), Val: below(g.numberSource, 100)}
	switch {
	case g.chance(g.long):
		op.Kind = g.pick(impl.TCommit, impl.TCommit, impl.TCommit, impl.TCommit, impl.TRollback)
		g.open[session] = false
	case g.chance(g.saves):
		op.Kind = g.pick(impl.TSave, impl.TSave, impl.TBack, impl.TRelease)
		op.Name = []string{"a", "a", "a", "b", ""}[below(g.numberSource, 5)]
	default:
		op.Kind = g.pick(impl.TGet, impl.TGet, impl.TList, impl.TPut, impl.TPut, impl.TPut, impl.TErase)
	}
	return []impl.TxnOp{op}
}

func (g *txnGrower) beginning(session int) []impl.TxnOp {
	ops := []impl.TxnOp{beginOp(session, g.pick(g.modes...))}
	if g.lists {
		ops = append(ops, g.allLists(session)...)
	}
	return ops
}

func (g *txnGrower) allLists(session int) []impl.TxnOp {
	var ops []impl.TxnOp
	for _, table := range g.tables {
		ops = append(ops, impl.TxnOp{Kind: impl.TList, Session: session, Table: table})
	}
	return ops
}

// oddOp is any operation, of which some numbers are wrong.
func (g *txnGrower) oddOp() impl.TxnOp {
	op := g.ops()[0]
	for _, field := range []*int{&op.Kind, &op.Session, &op.Table, &op.Key, &op.Val, &op.Mode} {
		if g.chance(5) {
			*field = g.pick(append(oddNumbers(), 4, 5, 10, 11, 31, 32)...)
		}
	}
	return op
}

// script ends with a session that reads all tables when all others are at their end.
func (g *txnGrower) script(size int) []impl.TxnOp {
	var ops []impl.TxnOp
	for len(ops) < size-20 {
		ops = append(ops, g.ops()...)
	}
	for session := range g.open {
		if g.open[session] {
			ops = append(ops, impl.TxnOp{Kind: impl.TCommit, Session: session})
		}
	}
	ops = append(ops, beginOp(1, g.modes[0]))
	ops = append(ops, g.allLists(1)...)
	return append(ops, impl.TxnOp{Kind: impl.TCommit, Session: 1})
}

// someTables rise; often they are none.
func (g *txnGrower) someTables() []int {
	var list []int
	for range g.pick(0, 0, 1, 1, 2, 5) {
		list = append(list, g.pick(g.tables...))
	}
	slices.Sort(list)
	return slices.Compact(list)
}

// info is a transaction that might come behind a commit.
func (g *txnGrower) info(last int) impl.TxnInfo {
	commit := last + g.pick(1, 1, 1, 2, 50)
	begin := max(0, commit-1-below(g.numberSource, g.pick(1, 3, 8, 100)))
	return impl.TxnInfo{Begin: begin, Commit: commit, Reads: g.someTables(), Writes: g.someTables()}
}

// history is valid; of its transactions few lead, or many.
func (g *txnGrower) history(size int) []impl.TxnInfo {
	var h []impl.TxnInfo
	last := 0
	for range size {
		h = append(h, g.info(last))
		last = h[len(h)-1].Commit
	}
	return h
}

// oddHistory has a number that may be wrong.
func (g *txnGrower) oddHistory(size int) []impl.TxnInfo {
	h := g.history(size)
	if size == 0 {
		return h
	}
	t := &h[below(g.numberSource, size)]
	switch below(g.numberSource, 5) {
	case 0:
		t.Begin = g.pick(append(oddNumbers(), t.Commit, t.Commit-1)...)
	case 1:
		t.Commit = g.pick(append(oddNumbers(), t.Commit-1, t.Commit+1, t.Begin)...)
	case 2:
		t.Reads = spoilList(g.grower, t.Reads, g.pick(append(oddNumbers(), 31, 32)...))
	case 3:
		t.Writes = spoilList(g.grower, t.Writes, g.pick(append(oddNumbers(), 31, 32)...))
	}
	return h
}
