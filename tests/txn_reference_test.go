package tests

import (
	"maps"
	"slices"

	"loop.example/g00001/impl"
)

// Chapter 16 once more, as it stands in the text: each transaction has a copy of all that was committed when it began, and a
// list of what it has done since; a savepoint is a length of that list.

type tableKey struct{ table, key int }

type dealing struct {
	begin  int
	serial bool
	base   map[tableKey]int
	done   []impl.TxnOp // TPut and TErase
	reads  map[int]bool
	points []point
}

type point struct {
	name string
	done int
}

// view is what a transaction sees.
func (d *dealing) view() map[tableKey]int {
	seen := maps.Clone(d.base)
	for _, op := range d.done {
		at := tableKey{op.Table, op.Key}
		if op.Kind == impl.TPut {
			seen[at] = op.Val
		} else {
			delete(seen, at)
		}
	}
	return seen
}

func (d *dealing) wrote() map[tableKey]bool {
	written := map[tableKey]bool{}
	for _, op := range d.done {
		written[tableKey{op.Table, op.Key}] = true
	}
	return written
}

func (d *dealing) asInfo(commit int) impl.TxnInfo {
	tables := map[int]bool{}
	for at := range d.wrote() {
		tables[at.table] = true
	}
	return impl.TxnInfo{Begin: d.begin, Commit: commit, Reads: slices.Sorted(maps.Keys(d.reads)), Writes: slices.Sorted(maps.Keys(tables))}
}

// findPoint is the newest savepoint of a name, -1 if there is none.
func (d *dealing) findPoint(name string) int {
	last := -1
	for i, p := range d.points {
		if p.name == name {
			last = i
		}
	}
	return last
}

// town is where sessions deal.
type town struct {
	committed map[tableKey]int
	written   []map[tableKey]bool // by each commit, from 1 on
	past      []impl.TxnInfo
	dealings  map[int]*dealing
}

func wantedTxnRun(ops []impl.TxnOp) ([]impl.TxnObs, int, *town) {
	w := &town{committed: map[tableKey]int{}, dealings: map[int]*dealing{}}
	if len(ops) > 1000 {
		return nil, impl.ErrBig, w
	}
	var list []impl.TxnObs
	for _, op := range ops {
		o, code := w.wantedAnswer(op)
		if code != impl.OK {
			o = impl.TxnObs{Code: code}
		}
		list = append(list, o)
	}
	return list, impl.OK, w
}

func (w *town) wantedAnswer(op impl.TxnOp) (o impl.TxnObs, code int) {
	if op.Kind < 1 || op.Kind > 10 || op.Session < 1 || op.Session > 4 {
		return o, impl.ErrBad
	}
	d, there := w.dealings[op.Session]
	if op.Kind == 1 {
		return w.wantedBegin(op, there)
	}
	if !there {
		return o, impl.ErrState
	}
	if op.Kind <= 5 && (op.Table < 0 || op.Table >= 32) {
		return o, impl.ErrTable
	}
	switch op.Kind {
	case 6:
		delete(w.dealings, op.Session)
		return w.wantedCommit(d)
	case 7:
		delete(w.dealings, op.Session)
		return o, impl.OK
	}
	return d.follow(op)
}

// follow does what is of the transaction alone.
func (d *dealing) follow(op impl.TxnOp) (o impl.TxnObs, code int) {
	switch op.Kind {
	case 2:
		d.reads[op.Table] = true
		o.Val, o.Found = d.view()[tableKey{op.Table, op.Key}], has(d.view(), tableKey{op.Table, op.Key})
	case 3:
		d.reads[op.Table] = true
		o.Pairs = pairsOfTable(d.view(), op.Table)
	case 4, 5:
		d.done = append(d.done, op)
	default:
		return o, d.wantedPoint(op)
	}
	return o, impl.OK
}

func has(seen map[tableKey]int, at tableKey) bool {
	_, there := seen[at]
	return there
}

func pairsOfTable(seen map[tableKey]int, table int) []impl.TxnPair {
	var pairs []impl.TxnPair
	for at, val := range seen {
		if at.table == table {
			pairs = append(pairs, impl.TxnPair{Key: at.key, Val: val})
		}
	}
	slices.SortFunc(pairs, func(a, b impl.TxnPair) int {
		if a.Key < b.Key {
			return -1
		}
		return 1
	})
	return pairs
}

func (w *town) wantedBegin(op impl.TxnOp, there bool) (impl.TxnObs, int) {
	if there {
		return impl.TxnObs{}, impl.ErrState
	}
	if op.Mode != 1 && op.Mode != 2 {
		return impl.TxnObs{}, impl.ErrBad
	}
	clock := len(w.written)
	w.dealings[op.Session] = &dealing{begin: clock, serial: op.Mode == 2, base: maps.Clone(w.committed), reads: map[int]bool{}}
	return impl.TxnObs{Stamp: clock}, impl.OK
}

func (w *town) wantedCommit(d *dealing) (impl.TxnObs, int) {
	written := d.wrote()
	for _, others := range w.written[d.begin:] {
		for at := range written {
			if others[at] {
				return impl.TxnObs{}, impl.ErrConflict
			}
		}
	}
	commit := len(w.written) + 1
	if d.serial {
		if code := wantedCertify(w.past, d.asInfo(commit)); code != impl.OK {
			return impl.TxnObs{}, code
		}
		w.past = append(w.past, d.asInfo(commit))
	}
	seen := d.view()
	for at := range written {
		delete(w.committed, at)
		if has(seen, at) {
			w.committed[at] = seen[at]
		}
	}
	w.written = append(w.written, written)
	return impl.TxnObs{Stamp: commit}, impl.OK
}

func (d *dealing) wantedPoint(op impl.TxnOp) int {
	at := d.findPoint(op.Name)
	switch {
	case op.Kind == 8 && len(d.points) >= 8:
		return impl.ErrBig
	case op.Kind == 8:
		d.points = append(d.points, point{op.Name, len(d.done)})
	case at < 0:
		return impl.ErrPoint
	case op.Kind == 9:
		d.done = d.done[:d.points[at].done]
		d.points = d.points[:at+1]
	default:
		d.points = d.points[:at]
	}
	return impl.OK
}

func wantedHistoryOK(h []impl.TxnInfo) bool {
	if len(h) > 1000 {
		return false
	}
	for i, t := range h {
		if t.Begin < 0 || t.Begin >= t.Commit || i > 0 && h[i-1].Commit >= t.Commit {
			return false
		}
		for _, list := range [][]int{t.Reads, t.Writes} {
			for k, table := range list {
				if table < 0 || table > 31 || k > 0 && list[k-1] >= table {
					return false
				}
			}
		}
	}
	return true
}

// leads tells whether the transaction i of a valid history leads to k.
func leads(h []impl.TxnInfo, i, k int) bool {
	if i == k || h[i].Begin >= h[k].Commit || h[k].Begin >= h[i].Commit {
		return false
	}
	return slices.ContainsFunc(h[i].Reads, func(table int) bool { return slices.Contains(h[k].Writes, table) })
}

func wantedCertify(h []impl.TxnInfo, t impl.TxnInfo) int {
	all := append(slices.Clone(h), t)
	if !wantedHistoryOK(all) {
		return impl.ErrBad
	}
	led, leading := map[int]bool{}, map[int]bool{}
	for i := range all {
		for k := range all {
			if leads(all, i, k) {
				leading[i], led[k] = true, true
			}
		}
	}
	for i := range all {
		if led[i] && leading[i] {
			return impl.ErrDanger
		}
	}
	return impl.OK
}

// mustBeAhead tells whether the transaction i of a valid history must be ahead of k.
func mustBeAhead(h []impl.TxnInfo, i, k int) bool {
	return i != k && (h[i].Commit <= h[k].Begin || leads(h, i, k))
}

func wantedSerialOrder(h []impl.TxnInfo) ([]int, int) {
	if !wantedHistoryOK(h) {
		return nil, impl.ErrBad
	}
	var order, left []int
	for i := range h {
		left = append(left, i)
	}
	for len(left) > 0 {
		best := -1
		for _, i := range left {
			barred := slices.ContainsFunc(left, func(k int) bool { return mustBeAhead(h, k, i) })
			if !barred && (best < 0 || h[i].Commit < h[best].Commit) {
				best = i
			}
		}
		if best < 0 {
			return nil, impl.ErrDanger
		}
		order = append(order, best)
		left = slices.DeleteFunc(left, func(i int) bool { return i == best })
	}
	return order, impl.OK
}
