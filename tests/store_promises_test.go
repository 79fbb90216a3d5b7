package tests

import (
	"fmt"
	"maps"
	"slices"
	"sync"
	"testing"

	"loop.example/g00001/impl"
)

// TestPromise18ByChance runs scripts with crashes and failures anywhere: what is told is what was acknowledged. Each run is
// held against chapter 15 once more, too: every answer, every count, every byte of the disk.
func TestPromise18ByChance(t *testing.T) {
	t.Parallel()
	var met tally
	t.Run("all", func(t *testing.T) {
		for run := range 16 {
			t.Run(fmt.Sprint(run), func(t *testing.T) {
				t.Parallel()
				for round := range 90 {
					g := newStoreGrower(5000 + run*1000 + round)
					ops := g.script([]int{30, 90, 200}[round%3])
					before := fmt.Sprint(ops)
					out, found := wantSameRun(t, ops)
					if fmt.Sprint(ops) != before {
						t.Fatalf("StoreRun has written into its argument")
					}
					wantAcknowledged(t, ops, out, &met)
					wantRecovered(t, out.Disk)
					for what := range found {
						met.add(what)
					}
				}
			})
		}
	})
	wanted := map[string]int{
		"which of two was seen": 300, "no pages left": 5, "no room in the log": 30, "opening that wrote: true": 300, "opening that wrote: false": 300,
		"commit: thrown out with held records: true": 200, "commit: thrown out with held records: false": 200, "get: thrown out with held records: false": 100,
		"scan: thrown out with held records: false": 100, "crash with 0 pending": 300, "crash with 1 pending": 100, "crash with 3 pending": 300,
		"kind 1 code 22": 5, "kind 2 code 1": 1, "kind 6 code 25": 30, "kind 12 code 1": 1,
	}
	for _, what := range []string{"open: page", "open: sync of pages", "open: master", "open: sync of master", "commit: log", "commit: sync of log", "check: page", "check: sync of pages", "check: master", "check: sync of master"} {
		wanted["crash at "+what], wanted["failure at "+what] = 10, 5
	}
	met.wantAtLeast(t, wanted)
}

// TestStoresAtOnce has many runs at the same time: they share nothing.
func TestStoresAtOnce(t *testing.T) {
	t.Parallel()
	ops := newStoreGrower(4242).script(120)
	want := impl.StoreRun(ops)
	var all sync.WaitGroup
	var got [12]impl.StoreOut
	for i := range got {
		all.Go(func() { got[i] = impl.StoreRun(ops) })
	}
	all.Wait()
	for i := range got {
		if !sameDisk(got[i].Disk, want.Disk) || !slices.EqualFunc(got[i].Obs, want.Obs, sameObs) {
			t.Errorf("run %d is answered otherwise", i)
		}
	}
}

// TestPromise1OfStores hands in whatever there may be.
func TestPromise1OfStores(t *testing.T) {
	t.Parallel()
	var met tally
	for run := range 3000 {
		g := newStoreGrower(190000 + run)
		d := g.anyDisk()
		before := copiedDisk(d)
		epoch := g.pick(append(oddNumbers(), impl.MaxEpoch, impl.MaxEpoch+1)...)
		wantLog(t, d, epoch)
		wantRecovered(t, d)
		_, _, code := impl.Recover(d)
		met.add(fmt.Sprint("recover ", code))
		var writes []impl.Write
		for range g.pick(0, 1, 3) {
			writes = append(writes, impl.Write{Block: g.pick(append(oddNumbers(), 511, 512)...), Data: ofByte(7, g.pick(0, 511, 512, 512, 512, 513))})
		}
		_, code = wantSameCrash(t, d, writes, g.choices())
		met.add(fmt.Sprint("crash ", code))
		if !sameDisk(d, before) {
			t.Fatalf("a disk was written into")
		}
		var recs []impl.LogRec
		for range g.pick(0, 1, 2) {
			recs = append(recs, g.anyRecord())
		}
		_, code = wantPack(t, max(1, epoch), g.pick(0, 1, 209, 210), recs)
		met.add(fmt.Sprint("pack ", code))
		var ops []impl.StoreOp
		for range g.pick(1, 5, 20) {
			ops = append(ops, g.oddOp())
		}
		wantSameRun(t, ops)
		wantSamePool(t, []impl.PoolOp{{Kind: g.pick(1, 2, 3, 4), Page: g.pick(0, 299)}, {Kind: g.pick(oddNumbers()...), Page: g.pick(oddNumbers()...)}})
	}
	met.wantAtLeast(t, map[string]int{"recover 0": 500, "recover 1": 200, "recover 28": 300, "crash 0": 300, "crash 1": 500, "pack 0": 200, "pack 1": 500, "pack 25": 10})
}

// anyDisk has blocks of any sizes and bytes, of which some are masters, pages or blocks of a log.
func (g *storeGrower) anyDisk() impl.Disk {
	d := impl.Disk{Blocks: make([][]byte, g.pick(0, 1, 3, 5, 303, 304, 310, 511, 512, 513))}
	m := g.grownImage(5)
	for i := range d.Blocks {
		switch {
		case g.chance(600):
			d.Blocks[i] = grownBytes(g.numberSource, g.pick(0, 1, 511, 512, 513))
		case i < 2 && !g.chance(3):
			d.Blocks[i] = masterSheet(2*below(g.numberSource, 4) + i*g.pick(1, 1, 1, 0))
		case i >= 2 && i-2 < len(m.Pages):
			d.Blocks[i] = m.Pages[i-2]
		case i >= 302 && !g.chance(4):
			d.Blocks[i] = logSheet(g.pick(1, 2, 3), i-302, wantedRecordBytes(g.grownRecord())[:1])
		}
	}
	return d
}

// anyRecord is valid, or has a field that may be wrong.
func (g *storeGrower) anyRecord() impl.LogRec {
	if g.chance(3) {
		list := wrongRecords()
		return list[below(g.numberSource, len(list))]
	}
	r := g.grownRecord()
	switch below(g.numberSource, 8) {
	case 0:
		r.Kind = g.pick(oddNumbers()...)
	case 1:
		r.Page = g.pick(oddNumbers()...)
	case 2:
		r.Off = g.pick(oddNumbers()...)
	case 3:
		r.Before = grownBytes(g.numberSource, g.pick(0, 1, 2, 511, 512, 513))
	case 4:
		r.After = grownBytes(g.numberSource, g.pick(0, 1, 2, 511, 512, 513))
	}
	return r
}

// wantRecovered asks of a disk what all functions that read one answer.
func wantRecovered(t *testing.T, d impl.Disk) impl.Image {
	t.Helper()
	got, epoch, code := impl.Recover(d)
	want, wantEpoch, wantCode := wantedRecover(d)
	if epoch != wantEpoch || code != wantCode || !sameImage(got, want) {
		t.Fatalf("%s %d %d, want %s %d %d", shapeOfImage(got), epoch, code, shapeOfImage(want), wantEpoch, wantCode)
	}
	wantLog(t, d, max(1, epoch))
	return got
}

func wantLog(t *testing.T, d impl.Disk, epoch int) []impl.LogRec {
	t.Helper()
	recs, blocks := impl.LogScan(d, epoch)
	want, wantBlocks := wantedLog(d, epoch)
	if blocks != wantBlocks || !sameRecords(recs, want) {
		t.Fatalf("epoch %d: %d records in %d blocks, want %d in %d", epoch, len(recs), blocks, len(want), wantBlocks)
	}
	return recs
}

func sameRecords(a, b []impl.LogRec) bool { return slices.EqualFunc(a, b, sameRecord) }

func sameRecord(a, b impl.LogRec) bool {
	return a.Kind == b.Kind && a.Page == b.Page && a.Off == b.Off && string(a.Before) == string(b.Before) && string(a.After) == string(b.After)
}

// witness follows a store's script by its answers alone: what may be committed is what all commits that were acknowledged
// have made, or these and one on the way.
type witness struct {
	may   []map[string]string
	batch []impl.StoreOp
	open  bool
}

func made(held map[string]string, batch []impl.StoreOp) map[string]string {
	held = maps.Clone(held)
	for _, op := range batch {
		if op.Kind == impl.SPut {
			held[string(op.Key)] = string(op.Val)
		} else {
			delete(held, string(op.Key))
		}
	}
	return held
}

func (w *witness) see(op impl.StoreOp, obs impl.StoreObs) {
	wasOpen := w.open
	if obs.Code == impl.ErrDown || obs.Code == impl.ErrIO || op.Kind == impl.SCrash {
		w.open = false
	}
	switch {
	case op.Kind == impl.SOpen && obs.Code == impl.OK:
		w.open, w.batch = true, nil
	case op.Kind == impl.SCommit && wasOpen:
		w.seeCommit(obs.Code)
	case obs.Code != impl.OK:
	case op.Kind == impl.SPut || op.Kind == impl.SDrop:
		w.batch = append(w.batch, op)
	case op.Kind == impl.SAbort:
		w.batch = nil
	case op.Kind == impl.SGet:
		w.may = slices.DeleteFunc(w.may, func(held map[string]string) bool {
			val, found := held[string(op.Key)]
			return found != obs.Found || val != string(obs.Val)
		})
	case op.Kind == impl.SScan:
		w.may = slices.DeleteFunc(w.may, func(held map[string]string) bool { return !samePairs(pairsOf(held), obs.Pairs) })
	}
}

func (w *witness) seeCommit(code int) {
	var behind []map[string]string
	for _, held := range w.may {
		behind = append(behind, made(held, w.batch))
	}
	switch code {
	case impl.OK:
		w.may = behind
	case impl.ErrDown, impl.ErrIO:
		w.may = append(w.may, behind...)
	}
	w.batch = nil
}

// wantAcknowledged asks for the promise 18 of a run: what is told, and what the disk holds at the end.
func wantAcknowledged(t *testing.T, ops []impl.StoreOp, out impl.StoreOut, met *tally) {
	t.Helper()
	w := witness{may: []map[string]string{{}}}
	for i, op := range ops {
		several := len(w.may) > 1
		w.see(op, out.Obs[i])
		if len(w.may) == 0 {
			t.Fatalf("%s\n%s: this is not what was acknowledged", toldOps(ops[:i+1]), toldObs(out.Obs[i]))
		}
		if several && len(w.may) == 1 {
			met.add("which of two was seen")
		}
		if op.Kind == impl.SOpen && out.Obs[i].Code == impl.ErrCorrupt {
			t.Fatalf("%s\nis not opened", toldOps(ops[:i+1]))
		}
	}
	m, _, code := impl.Recover(out.Disk)
	if code != impl.OK || !slices.ContainsFunc(w.may, func(held map[string]string) bool { return maps.Equal(held, heldIn(m)) }) {
		t.Fatalf("%s\nthe disk at the end holds something else, %d", toldOps(ops), code)
	}
}
