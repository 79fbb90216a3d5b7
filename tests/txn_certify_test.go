package tests

import (
	"fmt"
	"math"
	"slices"
	"strings"
	"testing"

	"loop.example/g00001/impl"
)

// brokenInfos are transactions that break one rule of a valid history each, behind one of Commit 5.
func brokenInfos() map[string]impl.TxnInfo {
	return map[string]impl.TxnInfo{
		"begin below 0":          {Begin: -1, Commit: 6},
		"least begin":            {Begin: math.MinInt, Commit: 6},
		"begin at commit":        {Begin: 6, Commit: 6},
		"begin above commit":     {Begin: 7, Commit: 6},
		"greatest begin":         {Begin: math.MaxInt, Commit: 6},
		"commit as ahead":        {Begin: 0, Commit: 5},
		"commit below":           {Begin: 0, Commit: 4},
		"commit 0":               {Begin: 0, Commit: 0},
		"least commit":           {Begin: 0, Commit: math.MinInt},
		"read below 0":           {Begin: 0, Commit: 6, Reads: []int{-1}},
		"read too great":         {Begin: 0, Commit: 6, Reads: []int{impl.TxnTables}},
		"read far too great":     {Begin: 0, Commit: 6, Reads: []int{3, 64}},
		"greatest read":          {Begin: 0, Commit: 6, Reads: []int{0, math.MaxInt}},
		"least read":             {Begin: 0, Commit: 6, Reads: []int{math.MinInt, 1}},
		"read twice":             {Begin: 0, Commit: 6, Reads: []int{3, 3}},
		"reads that fall":        {Begin: 0, Commit: 6, Reads: []int{3, 2}},
		"reads that fall at end": {Begin: 0, Commit: 6, Reads: []int{1, 2, 7, 5}},
		"write below 0":          {Begin: 0, Commit: 6, Writes: []int{-1}},
		"write too great":        {Begin: 0, Commit: 6, Writes: []int{1, impl.TxnTables}},
		"greatest write":         {Begin: 0, Commit: 6, Writes: []int{0, math.MaxInt}},
		"least write":            {Begin: 0, Commit: 6, Writes: []int{math.MinInt, 1}},
		"written twice":          {Begin: 0, Commit: 6, Writes: []int{3, 3}},
		"writes that fall":       {Begin: 0, Commit: 6, Writes: []int{3, 2}},
	}
}

// TestCertifyValidHistories breaks each rule by itself, in h and in t.
func TestCertifyValidHistories(t *testing.T) {
	first, late := impl.TxnInfo{Begin: 0, Commit: 5}, impl.TxnInfo{Begin: 0, Commit: 100}
	for name, wrong := range brokenInfos() {
		if code := impl.Certify([]impl.TxnInfo{first}, wrong); code != impl.ErrBad {
			t.Errorf("t: %s: %d", name, code)
		}
		if code := impl.Certify([]impl.TxnInfo{first, wrong}, late); code != impl.ErrBad {
			t.Errorf("h: %s: %d", name, code)
		}
		if order, code := impl.SerialOrder([]impl.TxnInfo{first, wrong, late}); code != impl.ErrBad || len(order) != 0 {
			t.Errorf("order: %s: %v %d", name, order, code)
		}
	}
	right := impl.TxnInfo{Begin: 5, Commit: 6, Reads: []int{0, 1, 31}, Writes: []int{0, 30, 31}}
	if code := impl.Certify([]impl.TxnInfo{first, right}, late); code != impl.OK {
		t.Errorf("a right one: %d", code)
	}
	// what is wrong ahead of a danger, and behind it
	wantCertified(t, "0-1 r0 w1; 0-2 r1 w0; 3-3", impl.ErrBad)
	wantCertified(t, "1-1; 0-2 r0 w1; 0-3 r1 w0", impl.ErrBad)
	wantOrder(t, "0-1 r0 w1; 0-2 r1 w0; 3-3", "ErrBad")
}

// TestCertifyOnlyOne asks for histories of t alone.
func TestCertifyOnlyOne(t *testing.T) {
	wantCertified(t, "0-1", impl.OK)
	wantCertified(t, "0-1 r0 w0", impl.OK)
	wantCertified(t, "7-9000 r0,31 w0,31", impl.OK)
	wantCertified(t, "1-1", impl.ErrBad)
	if code := impl.Certify(nil, impl.TxnInfo{Begin: math.MaxInt - 1, Commit: math.MaxInt}); code != impl.OK {
		t.Errorf("the greatest numbers: %d", code)
	}
	if code := impl.Certify(nil, impl.TxnInfo{}); code != impl.ErrBad {
		t.Errorf("noughts: %d", code)
	}
}

// manyInfos are so many transactions, each behind the one ahead.
func manyInfos(size int) []impl.TxnInfo {
	var h []impl.TxnInfo
	for i := range size {
		h = append(h, impl.TxnInfo{Begin: i, Commit: i + 1, Reads: []int{i % 32}, Writes: []int{(i + 1) % 32}})
	}
	return h
}

// TestCertifyMostTransactions asks for MaxTxnOps together, and one more.
func TestCertifyMostTransactions(t *testing.T) {
	h := manyInfos(impl.MaxTxnOps + 1)
	for size, want := range map[int]int{impl.MaxTxnOps - 2: impl.OK, impl.MaxTxnOps - 1: impl.OK, impl.MaxTxnOps: impl.ErrBad, impl.MaxTxnOps + 1: impl.ErrBad} {
		if code := impl.Certify(h[:size], impl.TxnInfo{Begin: size, Commit: 5000}); code != want {
			t.Errorf("%d and one: %d", size, code)
		}
	}
	// the danger is between the first and the last one
	h[0].Reads, h[0].Writes = []int{7}, []int{8}
	for i := 1; i < impl.MaxTxnOps-1; i++ {
		h[i].Reads, h[i].Writes = nil, nil
	}
	last := impl.TxnInfo{Begin: 0, Commit: 5000, Reads: []int{8}, Writes: []int{7}}
	if code := impl.Certify(h[:impl.MaxTxnOps-1], last); code != impl.ErrDanger {
		t.Errorf("a danger among many: %d", code)
	}
}

// TestCertifyConcurrent asks around the bound: a Begin that is the other's Commit, and one less.
func TestCertifyConcurrent(t *testing.T) {
	wantCertified(t, "0-5 r0 w1; 5-9 r1 w0", impl.OK)
	wantCertified(t, "0-5 r0 w1; 4-9 r1 w0", impl.ErrDanger)
	wantCertified(t, "0-5 r0 w1; 6-9 r1 w0", impl.OK)
	wantCertified(t, "3-5 r0 w1; 0-9 r1 w0", impl.ErrDanger)
	// of the two that lead one is concurrent alone
	wantCertified(t, "0-1 r0; 1-3 r1 w0; 0-4 w1", impl.OK)
	wantCertified(t, "0-2 r0; 1-3 r1 w0; 0-4 w1", impl.ErrDanger)
	wantCertified(t, "0-2 r0; 1-3 r1 w0; 3-4 w1", impl.OK)
	wantCertified(t, "0-2 r0; 1-3 r1 w0; 2-4 w1", impl.ErrDanger)
	// those at the ends need not be
	wantCertified(t, "0-2 r0; 1-4 r1 w0; 3-5 w1", impl.ErrDanger)
}

// TestCertifyBetween has one that is led to and leads in each place, by two others and by one.
func TestCertifyBetween(t *testing.T) {
	parts := []string{"r4", "w4 r9", "w9"}
	for _, order := range [][3]int{{0, 1, 2}, {0, 2, 1}, {1, 0, 2}, {1, 2, 0}, {2, 0, 1}, {2, 1, 0}} {
		text := fmt.Sprintf("0-1 %s; 0-2 %s; 0-3 %s", parts[order[0]], parts[order[1]], parts[order[2]])
		wantCertified(t, text, impl.ErrDanger)
		// t need have no part in it
		wantCertified(t, text+"; 0-4", impl.ErrDanger)
		wantCertified(t, text+"; 7-8", impl.ErrDanger)
	}
	wantCertified(t, "0-1 r4 w9; 0-2 r9 w4", impl.ErrDanger)
	wantCertified(t, "0-1 r9 w4; 0-2 r4 w9", impl.ErrDanger)
	wantCertified(t, "0-1 r4 w9; 0-2 r9 w4; 5-6", impl.ErrDanger)
	// one leads, or is led to, alone
	wantCertified(t, "0-1 r4; 0-2 w4", impl.OK)
	wantCertified(t, "0-1 w4; 0-2 r4", impl.OK)
	wantCertified(t, "0-1 r4; 0-2 w4; 0-3 r4; 0-4 w4", impl.OK)
	wantCertified(t, "0-1 r4; 0-2 w4; 0-3 r9; 0-4 w9", impl.OK)
	// who reads what it writes does not lead to itself
	wantCertified(t, "0-1 r4 w4; 0-2 w4", impl.OK)
	wantCertified(t, "0-1 r4 w4; 0-2 r4", impl.OK)
	wantCertified(t, "0-1 r4 w4; 0-2 r4 w4", impl.ErrDanger)
	// two that write one table, or read one
	wantCertified(t, "0-1 w4; 0-2 w4", impl.OK)
	wantCertified(t, "0-1 r4; 0-2 r4", impl.OK)
	wantCertified(t, "0-1 r1 w2; 0-2 r3 w4", impl.OK)
}

// TestCertifyPlaces has others around three in a row: in all places of h, and as t.
func TestCertifyPlaces(t *testing.T) {
	const size = 7
	for a := range size {
		for b := a + 1; b < size; b++ {
			for c := b + 1; c < size; c++ {
				h := make([]impl.TxnInfo, size)
				for i := range h {
					h[i] = impl.TxnInfo{Begin: 0, Commit: i + 1, Reads: []int{20}, Writes: []int{21}}
				}
				h[a].Reads, h[b].Writes, h[b].Reads, h[c].Writes = []int{1}, []int{1}, []int{2}, []int{2}
				if code := impl.Certify(h[:size-1], h[size-1]); code != impl.ErrDanger {
					t.Errorf("%d, %d, %d: %d", a, b, c, code)
				}
				h[b].Reads = []int{3}
				if code := impl.Certify(h[:size-1], h[size-1]); code != impl.OK {
					t.Errorf("%d, %d, %d with nothing behind: %d", a, b, c, code)
				}
			}
		}
	}
}

// TestCertifyTables has all tables in turn, those of both ends too, among others.
func TestCertifyTables(t *testing.T) {
	for table := range impl.TxnTables {
		other := (table + 1) % impl.TxnTables
		wantCertified(t, fmt.Sprintf("0-1 r%[1]d w%[2]d; 0-2 r%[2]d w%[1]d", table, other), impl.ErrDanger)
		wantCertified(t, fmt.Sprintf("0-1 r%[1]d w%[1]d; 0-2 r%[2]d w%[2]d", table, other), impl.OK)
	}
	all := make([]int, impl.TxnTables)
	for i := range all {
		all[i] = i
	}
	wantCertified(t, "0-1 r"+withCommas(all)+" w0; 0-2 r0 w31", impl.ErrDanger)
	wantCertified(t, "0-1 r"+withCommas(all)+"; 0-2 w"+withCommas(all), impl.OK)
	wantCertified(t, "0-1 r0,31 w1,30; 0-2 r2,29 w3,28", impl.OK)
	wantCertified(t, "0-1 r0,31 w1,30; 0-2 r2,30 w3,31", impl.ErrDanger)
}

// TestSerialOrder asks for orders, and for the least Commit of those that may be taken.
func TestSerialOrder(t *testing.T) {
	wantOrder(t, "", "")
	wantOrder(t, "0-1", "0")
	wantOrder(t, "0-1 r3 w3", "0")
	// with nothing between them the least Commit is first
	wantOrder(t, "0-1; 0-2; 0-3", "0 1 2")
	wantOrder(t, "0-1; 1-2; 2-3", "0 1 2")
	wantOrder(t, "0-10; 0-20; 0-30", "0 1 2")
	// one that leads, is ahead though it committed later
	wantOrder(t, "0-1 w5; 0-2 r5", "1 0")
	wantOrder(t, "0-1 r5; 0-2 w5", "0 1")
	wantOrder(t, "0-1 w5; 0-2; 0-3 r5", "1 2 0")
	wantOrder(t, "0-1 w5; 0-2 w6 r5; 0-3 r6", "2 1 0")
	// by its Commit, at the bound
	wantOrder(t, "0-1 w5; 1-2 r5", "0 1")
	wantOrder(t, "0-2 w5; 1-3 r5", "1 0")
	wantOrder(t, "0-2 w5; 2-3 r5", "0 1")
	wantOrder(t, "0-2 w5; 3-4 r5", "0 1")
	// the second must be behind the third, the third behind the first
	wantOrder(t, "0-1; 0-2 w5; 1-3 r5", "0 2 1")
	wantOrder(t, "0-1 w7; 0-2 w5; 1-3 r5; 0-4 r7", "3 0 2 1")
	// as soon as one may be taken, it is
	wantOrder(t, "0-1 w5; 0-2 r5; 0-3; 0-4 w6; 0-5 r6", "1 0 2 4 3")
	wantOrder(t, "0-1 w5; 0-2 w6; 0-3 r5; 0-4 r6", "2 0 3 1")
	// each of several must be taken ahead
	wantOrder(t, "0-1 w5; 0-2 r5; 0-3 r5; 0-4 r5", "1 2 3 0")
}

func TestSerialOrderRings(t *testing.T) {
	wantOrder(t, "0-1 r0 w1; 0-2 r1 w0", "ErrDanger")
	wantOrder(t, "0-1 r0 w1; 1-2 r1 w0", "0 1")
	wantOrder(t, "0-1 r0 w2; 0-2 r1 w0; 0-3 r2 w1", "ErrDanger")
	// a ring with one that is ahead by its Commit
	wantOrder(t, "0-1 w0; 1-2 r1; 0-3 w1 r0", "ErrDanger")
	// others ahead of the ring and behind it
	wantOrder(t, "0-1; 1-2 r0 w1; 1-3 r1 w0; 3-4", "ErrDanger")
	wantOrder(t, "0-1 r31 w0; 0-2 r0 w31", "ErrDanger")
	// one between others is no ring
	wantOrder(t, "0-1 r0; 0-2 r1 w0; 0-3 w1", "0 1 2")
	// each leads to the one behind it, the last one to the first
	var parts []string
	for i := range 30 {
		parts = append(parts, fmt.Sprintf("0-%d r%d w%d", i+1, i, (i+29)%30))
	}
	wantOrder(t, strings.Join(parts, ";"), "ErrDanger")
	parts[29] = "0-30 r30 w28"
	want := make([]int, 30)
	for i := range want {
		want[i] = i
	}
	wantOrder(t, strings.Join(parts, ";"), strings.Trim(fmt.Sprint(want), "[]"))
}

// TestSerialOrderMostTransactions asks for MaxTxnOps, and one more.
func TestSerialOrderMostTransactions(t *testing.T) {
	h := manyInfos(impl.MaxTxnOps + 1)
	order, code := impl.SerialOrder(h[:impl.MaxTxnOps])
	if code != impl.OK || len(order) != impl.MaxTxnOps || !slices.IsSorted(order) {
		t.Errorf("%d, %d of them", code, len(order))
	}
	if order, code := impl.SerialOrder(h); code != impl.ErrBad || len(order) != 0 {
		t.Errorf("one more: %d, %d of them", code, len(order))
	}
	// all at the same time: those that read are ahead of those that write
	for i := range h {
		h[i] = impl.TxnInfo{Begin: 0, Commit: i + 1, Writes: []int{9}}
		if i%2 == 1 {
			h[i] = impl.TxnInfo{Begin: 0, Commit: i + 1, Reads: []int{9}}
		}
	}
	order, code = impl.SerialOrder(h[:impl.MaxTxnOps])
	var want []int
	for _, first := range []int{1, 0} {
		for i := first; i < impl.MaxTxnOps; i += 2 {
			want = append(want, i)
		}
	}
	if code != impl.OK || !slices.Equal(order, want) {
		t.Errorf("all at once: %d, %v", code, order)
	}
}

// TestHistoriesAreLeft asks that nothing is written into a history, nor behind its end.
func TestHistoriesAreLeft(t *testing.T) {
	h := pastInfos("0-1 r0,3 w1; 0-2 w0,2; 1-3 r3; 0-4 r1")
	before := copiedInfos(h)
	if code := impl.Certify(h[:2], impl.TxnInfo{Begin: 1, Commit: 90}); code != impl.OK {
		t.Errorf("code %d", code)
	}
	order, _ := impl.SerialOrder(h[:3])
	again, _ := impl.SerialOrder(h[:3])
	want := slices.Clone(again)
	for i := range order {
		order[i] = -1
	}
	_ = append(order, -1)
	if !sameInfos(h, before) || !slices.Equal(again, want) {
		t.Errorf("%s, was %s", toldInfos(h), toldInfos(before))
	}
}
