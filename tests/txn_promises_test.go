package tests

import (
	"fmt"
	"maps"
	"slices"
	"sync"
	"testing"

	"loop.example/g00001/impl"
)

// wantSameTxnRun holds TxnRun against chapter 16 once more.
func wantSameTxnRun(t *testing.T, ops []impl.TxnOp, met *tally) []impl.TxnObs {
	t.Helper()
	before := slices.Clone(ops)
	got, code := impl.TxnRun(ops)
	want, wantCode, w := wantedTxnRun(ops)
	if code != wantCode || len(got) != len(want) {
		t.Fatalf("%d, %d answers; want %d, %d", code, len(got), wantCode, len(want))
	}
	for i := range want {
		if !sameTxnObs(got[i], want[i]) {
			t.Fatalf("%s\nwant %+v", toldTalk(ops[:i+1], got), want[i])
		}
		met.add(fmt.Sprintf("kind %d code %d", ops[i].Kind, got[i].Code))
	}
	if !slices.Equal(ops, before) {
		t.Fatalf("TxnRun has written into its argument")
	}
	wantSameSerialOrder(t, w.past, met)
	return got
}

func wantSameSerialOrder(t *testing.T, h []impl.TxnInfo, met *tally) {
	t.Helper()
	before := copiedInfos(h)
	got, code := impl.SerialOrder(h)
	want, wantCode := wantedSerialOrder(h)
	if code != wantCode || !slices.Equal(got, want) {
		t.Fatalf("%s\n%v %d, want %v %d", toldInfos(h), got, code, want, wantCode)
	}
	if !sameInfos(h, before) {
		t.Fatalf("SerialOrder has written into its argument")
	}
	met.add(fmt.Sprintf("order %d sorted %v", code, slices.IsSorted(got)))
}

func wantSameCertify(t *testing.T, h []impl.TxnInfo, one impl.TxnInfo, met *tally) int {
	t.Helper()
	before, oneBefore := copiedInfos(h), copiedInfos([]impl.TxnInfo{one})
	got, want := impl.Certify(h, one), wantedCertify(h, one)
	if got != want {
		t.Fatalf("%s; and %s\n%d, want %d", toldInfos(h), toldInfos(oneBefore), got, want)
	}
	if !sameInfos(h, before) || !sameInfos([]impl.TxnInfo{one}, oneBefore) {
		t.Fatalf("Certify has written into its argument")
	}
	met.add(fmt.Sprintf("certify %d", got))
	return got
}

// atOnce runs so many tests at the same time, each with numbers of its own.
func atOnce(t *testing.T, runs int, one func(t *testing.T, run int)) {
	t.Run("all", func(t *testing.T) {
		for run := range runs {
			t.Run(fmt.Sprint(run), func(t *testing.T) {
				t.Parallel()
				one(t, run)
			})
		}
	})
}

// TestTxnRunByChance holds scripts of all sorts against chapter 16 once more.
func TestTxnRunByChance(t *testing.T) {
	t.Parallel()
	var met tally
	atOnce(t, 8, func(t *testing.T, run int) {
		for round := range 250 {
			g := newTxnGrower(70000 + run*1000 + round)
			wantSameTxnRun(t, g.script([]int{30, 100, 300, 30}[round%4]), &met)
		}
	})
	met.wantAtLeast(t, map[string]int{
		"kind 1 code 0": 2000, "kind 6 code 0": 2000, "kind 6 code 20": 500, "kind 6 code 21": 300, "kind 7 code 0": 500, "kind 8 code 0": 1000, "kind 8 code 5": 100,
		"kind 9 code 0": 500, "kind 9 code 23": 500, "kind 10 code 0": 500, "kind 10 code 23": 500, "order 0 sorted true": 300, "order 0 sorted false": 300,
	})
}

// TestPromise19ByChance follows transactions by their answers alone. Each has asked for all lists when it began: what it is told
// behind that is these lists with its own changes; and no two at the same time have committed a change of one key.
func TestPromise19ByChance(t *testing.T) {
	t.Parallel()
	var met tally
	atOnce(t, 8, func(t *testing.T, run int) {
		for round := range 150 {
			g := newTxnGrower(170000 + run*1000 + round)
			g.lists = true
			ops := g.script(g.pick(60, 200, 500))
			answers, _ := impl.TxnRun(ops)
			f := follower{under: map[int]*dealing{}}
			for i, op := range ops {
				if fault := f.see(op, answers[i], &met); fault != "" {
					t.Fatalf("%s\n%s", toldTalk(ops[:i+1], answers), fault)
				}
			}
		}
	})
	met.wantAtLeast(t, map[string]int{"list of what was told": 2000, "list with own changes": 3000, "look": 3000, "two at the same time": 3000, "two behind each other": 3000})
}

// follower knows of transactions what they are told.
type follower struct {
	under map[int]*dealing
	past  []closed
}

type closed struct {
	begin, commit int
	written       map[tableKey]bool
}

// see tells what is wrong with an answer.
func (f *follower) see(op impl.TxnOp, o impl.TxnObs, met *tally) string {
	if o.Code != impl.OK {
		if op.Kind == impl.TCommit {
			delete(f.under, op.Session)
		}
		return ""
	}
	d := f.under[op.Session]
	switch op.Kind {
	case impl.TBegin:
		f.under[op.Session] = &dealing{begin: o.Stamp, base: map[tableKey]int{}, reads: map[int]bool{}}
		return ""
	case impl.TCommit:
		delete(f.under, op.Session)
		return f.seeCommit(closed{d.begin, o.Stamp, d.wrote()}, met)
	case impl.TRollback:
		delete(f.under, op.Session)
		return ""
	case impl.TList:
		if !d.reads[op.Table] {
			for _, pair := range o.Pairs {
				d.base[tableKey{op.Table, pair.Key}] = pair.Val
			}
		}
		met.add(map[bool]string{true: "list with own changes", false: "list of what was told"}[len(d.done) > 0])
	case impl.TGet:
		met.add("look")
	}
	if want, code := d.follow(op); code != impl.OK || !sameTxnObs(o, want) {
		return fmt.Sprintf("want %+v, %d", want, code)
	}
	return ""
}

func (f *follower) seeCommit(e closed, met *tally) string {
	for _, other := range f.past {
		if e.begin >= other.commit || other.begin >= e.commit {
			met.add("two behind each other")
			continue
		}
		met.add("two at the same time")
		for at := range e.written {
			if other.written[at] {
				return fmt.Sprintf("the commit %d has written %v as well", other.commit, at)
			}
		}
	}
	f.past = append(f.past, e)
	return ""
}

// TestPromise20ByChance runs scripts of ModeSerial transactions; those that have committed are run once more, one behind the
// other in their SerialOrder, and must be told the same.
func TestPromise20ByChance(t *testing.T) {
	t.Parallel()
	var met tally
	atOnce(t, 8, func(t *testing.T, run int) {
		for round := range 250 {
			g := newTxnGrower(270000 + run*1000 + round)
			g.modes = []int{impl.ModeSerial}
			ops := g.script(g.pick(60, 200, 500))
			answers := wantSameTxnRun(t, ops, &met)
			wantAlikeInOrder(t, episodesOf(ops, answers), &met)
		}
	})
	met.wantAtLeast(t, map[string]int{"order of commits": 300, "another order": 500, "kind 6 code 20": 300, "kind 6 code 21": 1000})
}

// episode is a transaction that has committed, from its beginning on.
type episode struct {
	ops     []impl.TxnOp
	answers []impl.TxnObs
}

func episodesOf(ops []impl.TxnOp, answers []impl.TxnObs) []episode {
	under := map[int]episode{}
	var list []episode
	for i, op := range ops {
		e := under[op.Session]
		if op.Kind == impl.TBegin {
			e = episode{}
		}
		under[op.Session] = episode{append(e.ops, op), append(e.answers, answers[i])}
		if op.Kind == impl.TCommit && answers[i].Code == impl.OK {
			list = append(list, under[op.Session])
		}
	}
	return list
}

func (e episode) info() impl.TxnInfo {
	d := &dealing{begin: e.answers[0].Stamp, base: map[tableKey]int{}, reads: map[int]bool{}}
	last := len(e.ops) - 1
	for _, op := range e.ops[1:last] {
		d.follow(op)
	}
	return d.asInfo(e.answers[last].Stamp)
}

func wantAlikeInOrder(t *testing.T, list []episode, met *tally) {
	t.Helper()
	var h []impl.TxnInfo
	for _, e := range list {
		h = append(h, e.info())
	}
	order, code := impl.SerialOrder(h)
	if code != impl.OK {
		t.Fatalf("%s has no order: %d", toldInfos(h), code)
	}
	met.add(map[bool]string{true: "order of commits", false: "another order"}[slices.IsSorted(order)])
	var ops []impl.TxnOp
	var want []impl.TxnObs
	for clock, i := range order {
		ops, want = append(ops, list[i].ops...), append(want, list[i].answers...)
		want[len(want)-len(list[i].ops)].Stamp, want[len(want)-1].Stamp = clock, clock+1
	}
	for i := range ops {
		ops[i].Session = 1
	}
	wantTxnAnswers(t, ops, want)
}

// TestPromise20OfHistories lets Certify grow histories: each has an order, in which all are ahead that must be.
func TestPromise20OfHistories(t *testing.T) {
	t.Parallel()
	var met tally
	atOnce(t, 8, func(t *testing.T, run int) {
		for round := range 200 {
			g := newTxnGrower(370000 + run*1000 + round)
			var h []impl.TxnInfo
			last := 0
			for range g.pick(3, 10, 40, 80) {
				one := g.info(last)
				if wantSameCertify(t, h, one, &met) == impl.OK {
					h, last = append(h, one), one.Commit
				}
			}
			wantSameSerialOrder(t, h, &met)
			wantAllAhead(t, h)
		}
	})
	met.wantAtLeast(t, map[string]int{"certify 0": 5000, "certify 21": 5000, "order 0 sorted true": 300, "order 0 sorted false": 300})
}

func wantAllAhead(t *testing.T, h []impl.TxnInfo) {
	t.Helper()
	order, code := impl.SerialOrder(h)
	if code != impl.OK || len(order) != len(h) {
		t.Fatalf("%s has no order: %v %d", toldInfos(h), order, code)
	}
	places := map[int]int{}
	for place, i := range order {
		places[i] = place
	}
	for i := range h {
		for k := range h {
			if mustBeAhead(h, i, k) && places[i] >= places[k] {
				t.Fatalf("%s: %v: %d is not ahead of %d", toldInfos(h), order, i, k)
			}
		}
	}
	if len(slices.Sorted(maps.Keys(places))) != len(h) {
		t.Fatalf("%v are not all", order)
	}
}

// TestHistoriesByChance holds valid and wrong histories against chapter 16 once more.
func TestHistoriesByChance(t *testing.T) {
	t.Parallel()
	var met tally
	for round := range 12000 {
		g := newTxnGrower(470000 + round)
		h := g.history(1 + below(g.numberSource, 7))
		if round%2 == 0 {
			h = g.oddHistory(1 + below(g.numberSource, 5))
		}
		wantSameSerialOrder(t, h, &met)
		last := len(h) - 1
		wantSameCertify(t, h[:last], h[last], &met)
	}
	met.wantAtLeast(t, map[string]int{"order 0 sorted true": 1000, "order 0 sorted false": 300, "order 1 sorted true": 1000, "order 21 sorted true": 300, "certify 0": 1000, "certify 1": 1000, "certify 21": 1000})
}

// TestPromise1OfTransactions hands in whatever there may be.
func TestPromise1OfTransactions(t *testing.T) {
	t.Parallel()
	var met tally
	for round := range 3000 {
		g := newTxnGrower(570000 + round)
		var ops []impl.TxnOp
		for range g.pick(1, 5, 40) {
			ops = append(ops, g.oddOp())
		}
		wantSameTxnRun(t, ops, &met)
		odd := impl.TxnInfo{Begin: g.pick(oddNumbers()...), Commit: g.pick(oddNumbers()...), Reads: g.someTables(), Writes: []int{g.pick(oddNumbers()...)}}
		wantSameCertify(t, g.oddHistory(below(g.numberSource, 4)), odd, &met)
		wantSameSerialOrder(t, []impl.TxnInfo{odd}, &met)
	}
	met.wantAtLeast(t, map[string]int{"kind 11 code 1": 100, "kind 1 code 1": 100, "kind 1 code 22": 20, "kind 2 code 6": 100, "kind 2 code 22": 100, "kind 5 code 6": 20, "kind 6 code 22": 100, "certify 1": 1000, "certify 0": 50})
}

// TestTxnRunAgain asks that an answer does not hang on how often, or beside what, it is asked for.
func TestTxnRunAgain(t *testing.T) {
	t.Parallel()
	g := newTxnGrower(4711)
	ops := g.script(900)
	want, _ := impl.TxnRun(ops)
	var all sync.WaitGroup
	var got [16][]impl.TxnObs
	for i := range got {
		all.Go(func() { got[i], _ = impl.TxnRun(ops) })
	}
	all.Wait()
	for i := range got {
		if !slices.EqualFunc(got[i], want, sameTxnObs) {
			t.Errorf("run %d is answered otherwise", i)
		}
	}
}
