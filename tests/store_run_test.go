package tests

import (
	"fmt"
	"slices"
	"strings"
	"testing"

	"loop.example/g00001/impl"
)

// TestStoreKinds has each kind when the store is down, open and broken.
func TestStoreKinds(t *testing.T) {
	states := []struct {
		name, script string
		codes        map[int]int
	}{
		{"down at first", "crash", map[int]int{1: 0, 2: 27, 3: 27, 4: 27, 5: 27, 6: 27, 7: 27, 8: 27}},
		{"down", "open; put a =1; commit; put a =2; crash", map[int]int{1: 0, 2: 27, 3: 27, 4: 27, 5: 27, 6: 27, 7: 27, 8: 27}},
		{"crashed", "open; put a =1; arm 1; commit", map[int]int{1: 0, 2: 27, 3: 27, 4: 27, 5: 27, 6: 27, 7: 27, 8: 27}},
		{"open", "open; put a =1", map[int]int{1: 22}},
		{"broken", "open; put a =1; fail 1; commit", map[int]int{1: 26, 2: 26, 3: 26, 4: 26, 5: 26, 6: 26, 7: 26, 8: 26}},
		{"broken at first", "fail 0; open", map[int]int{1: 26, 2: 26, 3: 26, 4: 26, 5: 26, 6: 26, 7: 26, 8: 26}},
	}
	for _, state := range states {
		for _, kind := range oddNumbers() {
			ops := append(script(state.script), impl.StoreOp{Kind: kind, Key: []byte("a"), Val: []byte("v"), N: -1})
			out, _ := wantSameRun(t, ops)
			want := state.codes[kind]
			if kind < 1 || kind > 11 {
				want = impl.ErrBad
			}
			if obs := out.Obs[len(ops)-1]; obs.Code != want {
				t.Errorf("%s, kind %d: %s", state.name, kind, toldObs(obs))
			}
		}
	}
}

// TestStoreStatesAheadOfSizes has a wrong key in a store that isn't open: its state is told.
func TestStoreStatesAheadOfSizes(t *testing.T) {
	long := impl.StoreOp{Key: ofByte('k', impl.MaxKey+1), Val: ofByte('v', impl.MaxVal+1)}
	for _, kind := range []int{impl.SPut, impl.SDrop, impl.SGet} {
		long.Kind = kind
		for state, want := range map[string]int{"crash": impl.ErrDown, "open": impl.ErrBad, "open; fail 0; check": impl.ErrIO} {
			out, _ := wantSameRun(t, append(script(state), long))
			if code := out.Obs[len(out.Obs)-1].Code; code != want {
				t.Errorf("%s, kind %d: %d, want %d", state, kind, code, want)
			}
		}
	}
}

func TestStoreSizes(t *testing.T) {
	key, val := ofByte('k', impl.MaxKey), ofByte('v', impl.MaxVal)
	cases := []struct {
		op   impl.StoreOp
		want int
	}{
		{impl.StoreOp{Kind: impl.SPut, Key: key, Val: val}, impl.OK},
		{impl.StoreOp{Kind: impl.SPut, Key: append(key, 'k'), Val: val}, impl.ErrBad},
		{impl.StoreOp{Kind: impl.SPut, Key: key, Val: append(val, 'v')}, impl.ErrBad},
		{impl.StoreOp{Kind: impl.SPut}, impl.OK},
		{impl.StoreOp{Kind: impl.SDrop, Key: key, Val: val}, impl.OK},
		{impl.StoreOp{Kind: impl.SDrop, Key: append(key, 'k')}, impl.ErrBad},
		{impl.StoreOp{Kind: impl.SDrop, Key: key, Val: append(val, 'v')}, impl.ErrBad},
		{impl.StoreOp{Kind: impl.SGet, Key: key}, impl.OK},
		{impl.StoreOp{Kind: impl.SGet, Key: append(key, 'k')}, impl.ErrBad},
	}
	for i, c := range cases {
		out, _ := wantSameRun(t, slices.Concat(script("open"), []impl.StoreOp{c.op}, script("commit; scan")))
		if out.Obs[1].Code != c.want {
			t.Errorf("case %d: %s, want %d", i, toldObs(out.Obs[1]), c.want)
		}
		if put := c.op.Kind == impl.SPut && c.want == impl.OK; (len(out.Obs[3].Pairs) == 1) != put || out.Obs[2].Code != impl.OK {
			t.Errorf("case %d: a change that is wrong is none: %d pairs", i, len(out.Obs[3].Pairs))
		}
	}
}

// TestStoreCounts follows reads, writes and syncs operation by operation.
func TestStoreCounts(t *testing.T) {
	wantRun(t, "open; crash; open; crash; open", "0 2/3/2; 0 2/3/2; 0 305/4/3; 0 305/4/3; 0 608/5/4")
	// The log has four blocks, a fifth one is looked at.
	wantRun(t, "open; put a =1; get a; commit; get a; crash; open; get a", "0 2/3/2; 0 2/3/2; 0 4/3/2; 0 4/7/3; 0 4/7/3 true 1; 0 4/7/3; 0 311/9/5; 0 313/9/5 true 1")
	// A commit reads the pages that it looks at; a batch that was emptied changes nothing.
	wantRun(t, "open; put a =1; abort; commit; commit; put a =2; commit; scan", "0 2/3/2; 0 2/3/2; 0 2/3/2; 0 2/3/2; 0 2/3/2; 0 2/3/2; 0 4/7/3; 0 4/7/3 a=2")
	// A drop of what isn't there looks at the same pages, and is committed.
	wantRun(t, "open; drop a; commit; scan", "0 2/3/2; 0 2/3/2; 0 4/4/3; 0 4/4/3")
	// Checkpoints: the dirty page, a sync, the master, a sync; then no page is dirty.
	wantRun(t, "open; put a =1; commit; check; check; crash; open; scan", "0 2/3/2; 0 2/3/2; 0 4/7/3; 0 4/9/5; 0 4/10/7; 0 4/10/7; 0 307/11/8; 0 309/11/8 a=1")
	// New pages are not read: pages 0 and 1 alone are.
	wantRun(t, "open; put a 4000; commit; get a; scan", "0 2/3/2; 0 2/3/2; 0 4/38/5; 0 14/46/5 true #4000; 0 24/46/5 a=#4000")
	// A key that isn't there: the nodes are read, not the values.
	wantRun(t, "open; put a 4000; commit; crash; open; get b; get a; get a", "0 2/3/2; 0 2/3/2; 0 4/38/5; 0 4/38/5; 0 340/47/7; 0 342/47/7; 0 350/47/7 true #4000; 0 360/47/7 true #4000")
	// A step that is not done is not counted; what was read ahead of it is.
	wantRun(t, "arm 0; open; arm 1; open; arm 2; open; arm 3; open; arm 4; open", "0 0/0/0; 27 2/0/0; 0 2/0/0; 27 4/1/0; 0 4/1/0; 27 6/3/0; 0 6/3/0; 27 8/5/1; 0 8/5/1; 0 10/6/2")
	wantRun(t, "open; put a 4000; commit; fail 0; get a", "0 2/3/2; 0 2/3/2; 0 4/38/5; 0 4/38/5; 26 5/38/5")
	wantRun(t, "open; put a 4000; arm 28; commit", "0 2/3/2; 0 2/3/2; 0 2/3/2; 27 4/31/2")
}

func TestStoreValues(t *testing.T) {
	wantRun(t, "open; put b 70; put a =; put c =3; commit; get a; get b; get c; get d; scan", "0 2/3/2;;;;; 0 4/17/3 true ; 0 4/17/3 true #70; 0 4/17/3 true 3; 0 4/17/3; 0 4/17/3 a= b=#70 c=3")
	// The batch is not told ahead of the commit; its changes are made in their order.
	out := wantRun(t, "open; put a =1; drop a; put a =2; put b =3; drop b; get a; scan; commit; scan; drop a; scan; commit; scan", ";;;;;; 0 4/3/2; 0 4/3/2;; 0 4/15/3 a=2;; 0 4/15/3 a=2;; 0 4/18/4")
	if m := wantRecovered(t, out.Disk); shapeOfImage(m) != "1() of 2" {
		t.Errorf("all is dropped: %s", shapeOfImage(m))
	}
	// What is lost in a crash: the batch, and all that was not acknowledged.
	wantRun(t, "open; put a =1; commit; put b =2; crash; open; scan; commit; scan", ";;;;;; 0 313/9/5 a=1; 0 313/9/5; 0 313/9/5 a=1")
	wantRun(t, "open; put a =1; arm 4; commit; open; scan", ";;;; 0 307/8/3; 0 309/8/3")
	wantRun(t, "open; put a =1; arm 4 8 8 8 8; commit; open; scan", ";;;; 0 311/9/4; 0 313/9/4 a=1")
	wantRun(t, "open; put a =1; arm 4 8 8 8 7; commit; open; scan", ";;;; 0 310/8/3; 0 312/8/3")
}

// TestStoreDisks has the disk at the end: what is pending is done, in its order.
func TestStoreDisks(t *testing.T) {
	if out := ran(t, "crash"); len(out.Disk.Blocks) != 0 {
		t.Errorf("a store that was never open: %d blocks", len(out.Disk.Blocks))
	}
	m := impl.KvNew()
	want := [][]byte{ofByte(0, 512), masterSheet(1), m.Pages[0], m.Pages[1]}
	if out := ran(t, "open"); !sameDisk(out.Disk, impl.Disk{Blocks: want}) {
		t.Errorf("an opening: %s", firstBlockApart(out.Disk, impl.Disk{Blocks: want}))
	}
	want[0] = masterSheet(2)
	if out := ran(t, "open; check"); !sameDisk(out.Disk, impl.Disk{Blocks: want}) {
		t.Errorf("a checkpoint: %s", firstBlockApart(out.Disk, impl.Disk{Blocks: want}))
	}
	want[1] = masterSheet(3)
	if out := ran(t, "open; check; check"); !sameDisk(out.Disk, impl.Disk{Blocks: want}) {
		t.Errorf("two checkpoints: %s", firstBlockApart(out.Disk, impl.Disk{Blocks: want}))
	}
	// A master that was written and not synced is there at the end, if the machine has not crashed.
	for text, epoch := range map[string]int{"open; fail 2; check": 2, "open; arm 2; check": 1, "open; arm 2 8; check": 2, "open; fail 1; check": 1, "fail 4; open": 1, "arm 4; open": 0, "fail 3; open": 0} {
		if _, got, code := impl.Recover(ran(t, text).Disk); got != epoch || code != impl.OK {
			t.Errorf("%s: epoch %d, %d, want %d", text, got, code, epoch)
		}
	}
}

// recordsOn are those that the log has at the end of a script.
func recordsOn(t *testing.T, text string) []impl.LogRec {
	t.Helper()
	d := ran(t, text).Disk
	_, epoch, _ := impl.Recover(d)
	return wantLog(t, d, epoch)
}

func TestStoreRecords(t *testing.T) {
	cases := map[string]string{
		"open":                   "",
		"open; drop a; commit":   "commit",
		"open; put a =1; commit": "image 1 \x02, update 1+2 #510 to #510, commit",
		"open; put a =1; commit; put a =1; commit": "image 1 \x02, update 1+2 #510 to #510, commit, commit",
		// The page has its image once in a log; the value stands at byte 8.
		"open; put a =1; commit; put a =2; commit":              "image 1 \x02, update 1+2 #510 to #510, commit, update 1+8 #504 to #504, commit",
		"open; put a =1; put a =2; commit":                      "image 1 \x02, update 1+2 #510 to #510, update 1+8 #504 to #504, commit",
		"open; put a =1; commit; check; put a =2; commit":       "image 1 \x02, update 1+8 #504 to #504, commit",
		"open; put a =1; commit; crash; open; put a =2; commit": "image 1 \x02, update 1+8 #504 to #504, commit",
		// A page that is new: noughts ahead of it, all its bytes differ up to the sum.
		"open; put a 70; commit": "image 0 \x01, update 0+6 #506 to #506, image 1 \x02, update 1+2 #510 to #510, image 2 \x00, update 2+0 #512 to #512, commit",
	}
	for text, want := range cases {
		if got := toldRecords(recordsOn(t, text)); got != want {
			t.Errorf("%s\n%q, want\n%q", text, got, want)
		}
	}
	// Bytes from the first to the last that differ, of the pages as the changes make them one by one.
	recs := recordsOn(t, "open; put a =12345; put a =12945; commit")
	first, _ := wantedPut(impl.KvNew(), "a", "12345")
	second, _ := wantedPut(first, "a", "12945")
	want := []impl.LogRec{
		{Kind: impl.LogImage, Page: 1, Before: impl.KvNew().Pages[1]},
		{Kind: impl.LogUpdate, Page: 1, Off: 2, Before: impl.KvNew().Pages[1][2:], After: first.Pages[1][2:]},
		{Kind: impl.LogUpdate, Page: 1, Off: 10, Before: first.Pages[1][10:], After: second.Pages[1][10:]},
		commitRec,
	}
	if !sameRecords(recs, want) {
		t.Errorf("%s, want %s", toldRecords(recs), toldRecords(want))
	}
}

// TestStoreRecordEnds has updates that end ahead of the page's end, since the last byte of the sum is the same.
func TestStoreRecordEnds(t *testing.T) {
	shorter := map[int]int{}
	for i := range 2000 {
		text := fmt.Sprintf("open; put a =%d; commit", i)
		recs := recordsOn(t, text)
		update := recs[1]
		m, _ := wantedPut(impl.KvNew(), "a", fmt.Sprint(i))
		before, after := impl.KvNew().Pages[1], m.Pages[1]
		end := update.Off + len(update.After)
		if update.Off != 2 || before[end-1] == after[end-1] || !slices.Equal(before[end:], after[end:]) || !slices.Equal(update.After, after[2:end]) || !slices.Equal(update.Before, before[2:end]) {
			t.Fatalf("%s: %s", text, toldRecords(recs))
		}
		shorter[512-end]++
		if shorter[1] > 0 && i > 20 {
			return
		}
	}
	t.Errorf("no update ended ahead of the last byte: %v", shorter)
}

// nearTheEnd has a leaf that is nearly full: a value of z stands at its end, so that a change of it is a short record.
const nearTheEnd = "open; put 0 60; put 1 60; put 2 60; put 3 60; put 4 60; put 5 60; put 6 60; put z =1234567; commit"

// roomBound finds a batch whose records just have room in the log behind a script, or then, behind the checkpoint, and one with
// a record more: some long records, then short ones.
func roomBound(t *testing.T, ahead, when string) (at, over string) {
	t.Helper()
	for long := range 20 {
		text := ahead
		for i := range 40 + long {
			text += fmt.Sprintf("; put 0 =%d%s", i%10, strings.Repeat("v", 59))
		}
		at = ""
		for short := 0; len(script(text)) < impl.MaxSteps-3; short++ {
			_, met := wantedRun(script(text + "; commit"))
			switch {
			case met[when+" +0"] > 0:
				at = text
			case at != "" && met[when+" -1"] > 0:
				return at, text
			}
			text += fmt.Sprintf("; put z =123456%d", short%10)
		}
	}
	t.Fatalf("%s: no batch at the bound", ahead)
	return "", ""
}

// TestStoreRoom has a commit whose records just have room in the log, and one with one record more: in a log that is empty
// there is a checkpoint and no commit, in another one a checkpoint ahead of it.
func TestStoreRoom(t *testing.T) {
	t.Parallel()
	type answer struct{ code, syncs int }
	for _, c := range []struct {
		ahead, when string
		at, over    answer
	}{
		{nearTheEnd + "; check", "room", answer{impl.OK, 1}, answer{impl.ErrFull, 2}},
		{nearTheEnd + "; crash; open", "room", answer{impl.OK, 1}, answer{impl.ErrFull, 2}},
		{nearTheEnd, "room", answer{impl.OK, 1}, answer{impl.OK, 3}},
		{nearTheEnd + "; check; put 1 50; commit", "room", answer{impl.OK, 1}, answer{impl.OK, 3}},
		{nearTheEnd + "; check; put 1 50; commit", "room then", answer{impl.OK, 3}, answer{impl.ErrFull, 2}},
	} {
		at, over := roomBound(t, c.ahead, c.when)
		before := ran(t, at)
		held := before.Obs[len(before.Obs)-1]
		for text, want := range map[string]answer{at: c.at, over: c.over} {
			ops := script(text + "; commit; commit; scan; crash; open; scan")
			out, _ := wantSameRun(t, ops)
			wantAcknowledged(t, ops, out, &tally{})
			last := len(script(text))
			if obs := out.Obs[last]; obs.Code != want.code || obs.Syncs-held.Syncs != want.syncs {
				t.Errorf("%s: %s, want %d and %d syncs more than %d", c.ahead, toldObs(obs), want.code, want.syncs, held.Syncs)
			}
			// The batch is empty, whatever the commit answered.
			again, first := out.Obs[last+1], out.Obs[last]
			again.Code, first.Code = 0, 0
			if !sameObs(again, first) {
				t.Errorf("%s: a commit behind it: %s, then %s", c.ahead, toldObs(first), toldObs(again))
			}
		}
	}
}

// manyPuts are commits that leave no page free but a few.
func manyPuts(values int) string {
	text := "open"
	for i := range values {
		text += fmt.Sprintf("; put k%c 4000", 'A'+i)
		if i%3 == 2 {
			text += "; commit"
		}
	}
	return text + "; commit"
}

// TestStoreWithoutPages has a put for which no pages are left: nothing is done, the batch is empty.
func TestStoreWithoutPages(t *testing.T) {
	t.Parallel()
	text := manyPuts(37)
	filled := ran(t, text)
	before := filled.Obs[len(filled.Obs)-1]
	if before.Code != impl.OK {
		t.Fatalf("the pages are not filled: %s", toldObs(before))
	}
	ops := script(text + "; put x =1; put y 4000; put z =2; commit; commit; scan; put x =1; commit; get x; get y; crash; open; get x; get y")
	out, met := wantSameRun(t, ops)
	at := len(script(text)) + 3
	refused, again := out.Obs[at], out.Obs[at+1]
	if refused.Code != impl.ErrFull || refused.Writes != before.Writes || refused.Syncs != before.Syncs || refused.Reads != before.Reads {
		t.Errorf("no pages: %s, ahead of it %s", toldObs(refused), toldObs(before))
	}
	if again.Code != impl.OK || again.Writes != before.Writes || met["no pages left"] != 1 {
		t.Errorf("the batch is not empty: %s", toldObs(again))
	}
	if scan := out.Obs[at+2]; len(scan.Pairs) != 37 {
		t.Errorf("%d pairs, want 37", len(scan.Pairs))
	}
	if last := out.Obs[len(ops)-2:]; string(last[0].Val) != "1" || last[1].Found {
		t.Errorf("what is found: %s, %s", toldObs(last[0]), toldObs(last[1]))
	}
	wantAcknowledged(t, ops, out, &tally{})
}

func TestStoreMaxSteps(t *testing.T) {
	one := impl.StoreOp{Kind: impl.SOpen}
	if out, _ := wantSameRun(t, slices.Repeat([]impl.StoreOp{one}, impl.MaxSteps)); out.Code != impl.OK || len(out.Obs) != impl.MaxSteps || len(out.Disk.Blocks) != 4 {
		t.Errorf("MaxSteps: %d, %d answers, %d blocks", out.Code, len(out.Obs), len(out.Disk.Blocks))
	}
	if out := impl.StoreRun(slices.Repeat([]impl.StoreOp{one}, impl.MaxSteps+1)); out.Code != impl.ErrBig || len(out.Obs) != 0 || len(out.Disk.Blocks) != 0 {
		t.Errorf("one more: %d, %d answers, %d blocks", out.Code, len(out.Obs), len(out.Disk.Blocks))
	}
	if out := impl.StoreRun(nil); out.Code != impl.OK || len(out.Obs) != 0 || len(out.Disk.Blocks) != 0 {
		t.Errorf("none: %d, %d answers, %d blocks", out.Code, len(out.Obs), len(out.Disk.Blocks))
	}
	// Each crash and opening is an epoch, as is each checkpoint.
	var ops []impl.StoreOp
	for range impl.MaxSteps / 2 {
		ops = append(ops, script("crash; open")...)
	}
	out, _ := wantSameRun(t, ops)
	if _, epoch, _ := impl.Recover(out.Disk); epoch != 100 {
		t.Errorf("epoch %d", epoch)
	}
}

func TestStoreAnswersApart(t *testing.T) {
	ops := script("open; put a 300; put b 10; put c 0; commit; get a; get a; scan; scan; put a =1; commit; get a; check")
	before := fmt.Sprint(ops)
	out := impl.StoreRun(ops)
	if fmt.Sprint(ops) != before {
		t.Fatalf("StoreRun has written into its argument")
	}
	var lists [][]byte
	for _, op := range ops {
		lists = append(lists, op.Key, op.Val)
	}
	for _, obs := range out.Obs {
		lists = append(lists, obs.Val)
		for _, pair := range obs.Pairs {
			lists = append(lists, pair.Key, pair.Val)
		}
	}
	bytesApart(t, "what a store tells", append(lists, out.Disk.Blocks...))
}
