package tests

import (
	"fmt"
	"math"
	"slices"
	"strconv"
	"strings"
	"testing"

	"loop.example/g00001/impl"
)

// poolOps reads operations: u5 uses page 5, c5 changes it, n5 is a new one, * cleans.
func poolOps(text string) []impl.PoolOp {
	var ops []impl.PoolOp
	for _, word := range strings.Fields(text) {
		page, _ := strconv.Atoi(word[1:])
		ops = append(ops, impl.PoolOp{Kind: 1 + strings.Index("ucn*", word[:1]), Page: page})
	}
	return ops
}

// toldPool tells of each operation what was written and read, such as w3r5, or a point for none.
func toldPool(outs []impl.PoolOut) string {
	var words []string
	for _, out := range outs {
		word := ""
		if out.Wrote != -1 {
			word += fmt.Sprint("w", out.Wrote)
		}
		if out.Read != -1 {
			word += fmt.Sprint("r", out.Read)
		}
		if len(out.All) > 0 {
			word += withCommas(out.All)
		}
		if word == "" {
			word = "."
		}
		words = append(words, word)
	}
	return strings.Join(words, " ")
}

func wantPool(t *testing.T, text, want string) {
	t.Helper()
	outs := wantSamePool(t, poolOps(text))
	if got := toldPool(outs); got != want {
		t.Errorf("%s\n%s, want\n%s", text, got, want)
	}
}

// wantSamePool holds PoolRun against chapter 14 once more.
func wantSamePool(t *testing.T, ops []impl.PoolOp) []impl.PoolOut {
	t.Helper()
	before := slices.Clone(ops)
	got, code := impl.PoolRun(ops)
	want, wantCode := wantedPool(ops)
	same := slices.EqualFunc(got, want, func(a, b impl.PoolOut) bool {
		return a.Read == b.Read && a.Wrote == b.Wrote && slices.Equal(a.All, b.All)
	})
	if code != wantCode || !same {
		t.Fatalf("%v\n%d %s, want\n%d %s", ops, code, toldPool(got), wantCode, toldPool(want))
	}
	if !slices.Equal(ops, before) {
		t.Fatalf("PoolRun has written into its argument")
	}
	return got
}

const eightUsed = "u0 u1 u2 u3 u4 u5 u6 u7 "
const eightRead = "r0 r1 r2 r3 r4 r5 r6 r7 "

func TestPoolKinds(t *testing.T) {
	wantPool(t, "", "")
	wantPool(t, "u5 u5 c5 u5 n5 c5", "r5 . . . . .")
	wantPool(t, "c5 u5 *", "r5 . 5")
	wantPool(t, "n5 u5 *", ". . 5")
	wantPool(t, "u5 *", "r5 .")
	wantPool(t, "u5 n5 * *", "r5 . 5 .")
	wantPool(t, "*", ".")
	wantPool(t, "u0 u299 c0 c299 *", "r0 r299 . . 0,299")
}

// TestPoolHand has the hand go round: it takes frame by frame in order, marks go where it passes.
func TestPoolHand(t *testing.T) {
	// All are marked: the marks go in one round, frame 0 is taken, then the next ones as they stand.
	wantPool(t, eightUsed+"u8 u9 u10 u0 u1", eightRead+"r8 r9 r10 r0 r1")
	// Pages 1 and 2 are marked again behind the round: the hand passes them, page 3 goes.
	wantPool(t, eightUsed+"u8 u1 u2 u9 u1 u2 u3", eightRead+"r8 . . r9 . . r3")
	// What the hand has passed has lost its mark, and is taken in the next round.
	wantPool(t, eightUsed+"u8 u1 u9 u10 u11 u12 u13 u14 u1 u15 u1", eightRead+"r8 . r9 r10 r11 r12 r13 r14 . r15 .")
	wantPool(t, eightUsed+"u8 u1 u9 u10 u11 u12 u13 u14 u15 u16 u1", eightRead+"r8 . r9 r10 r11 r12 r13 r14 r15 r16 r1")
	// From the last frame the hand goes to frame 0.
	wantPool(t, eightUsed+"u8 u9 u10 u11 u12 u13 u14 u15 u16 u8 u15 u9", eightRead+"r8 r9 r10 r11 r12 r13 r14 r15 r16 r8 . r9")
}

// TestPoolEmptyFrames has pages that are in a frame used again while others are still empty: an empty one is taken first.
func TestPoolEmptyFrames(t *testing.T) {
	wantPool(t, "c0 u0 c1 u1 u0 u2 u3 u4 c0 u5 u6 u7 u0 u1 *", "r0 . r1 . . r2 r3 r4 . r5 r6 r7 . . 0,1")
	wantPool(t, "u3 u3 u4 c3 u5 u6 u7 u8 u9 u10 u11 u4 u3", "r3 . r4 . r5 r6 r7 r8 r9 r10 w3r11 . r3")
}

func TestPoolWrites(t *testing.T) {
	wantPool(t, "c0 c1 n2 u3 u4 u5 u6 u7 u8 u9 u10 u11 u0 u1 u2", "r0 r1 . r3 r4 r5 r6 r7 w0r8 w1r9 w2r10 r11 r0 r1 r2")
	// A page that was written and comes again is not dirty.
	wantPool(t, "c0 u1 u2 u3 u4 u5 u6 u7 u8 u0 u9 u10 u11 u12 u13 u14 u15 u16 u17 *", "r0 r1 r2 r3 r4 r5 r6 r7 w0r8 r0 r9 r10 r11 r12 r13 r14 r15 r16 r17 .")
	// A new page throws one out, and reads none.
	wantPool(t, "c0 u1 u2 u3 u4 u5 u6 u7 n8 n9 c10", "r0 r1 r2 r3 r4 r5 r6 r7 w0 . r10")
	// A page that is used stays dirty.
	wantPool(t, "c0 u0 u1 u2 u3 u4 u5 u6 u7 u8", "r0 . r1 r2 r3 r4 r5 r6 r7 w0r8")
}

func TestPoolClean(t *testing.T) {
	wantPool(t, "c9 n3 u4 c7 c250 * * c3 *", "r9 . r4 r7 r250 3,7,9,250 . . 3")
	wantPool(t, "c7 c6 c5 c4 c3 c2 c1 c0 * u8 u9", "r7 r6 r5 r4 r3 r2 r1 r0 0,1,2,3,4,5,6,7 r8 r9")
	// What was thrown out is not told; what is clean is not written.
	wantPool(t, "c7 c6 c5 c4 c3 c2 c1 c0 n8 * u9", "r7 r6 r5 r4 r3 r2 r1 r0 w7 0,1,2,3,4,5,6,8 r9")
	// Marks stay: behind a clean the hand passes the same frames.
	wantPool(t, eightUsed+"u8 u1 * u9 u1 u2", eightRead+"r8 . . r9 . r2")
}

func TestPoolBounds(t *testing.T) {
	one := impl.PoolOp{Kind: 2, Page: 1}
	if outs, code := impl.PoolRun(slices.Repeat([]impl.PoolOp{one}, impl.MaxPool)); code != impl.OK || len(outs) != impl.MaxPool {
		t.Errorf("MaxPool: %d, %d", code, len(outs))
	}
	if outs, code := impl.PoolRun(slices.Repeat([]impl.PoolOp{one}, impl.MaxPool+1)); code != impl.ErrBig || len(outs) != 0 {
		t.Errorf("one more: %d, %d", code, len(outs))
	}
	if outs, code := impl.PoolRun(slices.Repeat([]impl.PoolOp{{Kind: 5, Page: -1}}, impl.MaxPool+1)); code != impl.ErrBig || len(outs) != 0 {
		t.Errorf("too many that are wrong: %d, %d", code, len(outs))
	}
	numbers := append(oddNumbers(), impl.MaxPages-1, impl.MaxPages, impl.MaxPages+1)
	for _, kind := range oddNumbers() {
		for _, page := range numbers {
			right := kind == 4 || kind >= 1 && kind <= 3 && page >= 0 && page < impl.MaxPages
			for _, ops := range [][]impl.PoolOp{{{Kind: kind, Page: page}}, {one, one, {Kind: kind, Page: page}}, {{Kind: kind, Page: page}, one}} {
				outs := wantSamePool(t, ops)
				if (len(outs) == len(ops)) != right {
					t.Errorf("Kind %d, Page %d: %d answers", kind, page, len(outs))
				}
			}
		}
	}
	if outs, code := impl.PoolRun([]impl.PoolOp{{Kind: 4, Page: math.MinInt}, {Kind: 4, Page: math.MaxInt}}); code != impl.OK || len(outs) != 2 {
		t.Errorf("a clean has no page: %d", code)
	}
}

func TestPoolAnswersApart(t *testing.T) {
	outs, _ := impl.PoolRun(poolOps("c1 c2 * c2 c3 * c1 c2 *"))
	wantApart(t, "pages that were dirty", [][]int{outs[2].All, outs[5].All, outs[8].All})
}

func (g grower) grownPoolOps(size, pages int) []impl.PoolOp {
	var ops []impl.PoolOp
	for range size {
		kind := g.pick(1, 1, 1, 2, 2, 3)
		if g.chance(15) {
			kind = 4
		}
		ops = append(ops, impl.PoolOp{Kind: kind, Page: below(g.numberSource, pages)})
	}
	return ops
}

// TestPromise17ByChance keeps what each page holds, on the disk and in memory, as the pool tells: a page that is read is as it
// was last.
func TestPromise17ByChance(t *testing.T) {
	t.Parallel()
	var met tally
	for run := range 300 {
		g := grower{&numberSource{state: uint64(1700 + run)}}
		ops := g.grownPoolOps(g.pick(20, 200, 600), g.pick(8, 9, 10, 12, 20, impl.MaxPages))
		outs := wantSamePool(t, ops)
		last, onDisk, inMemory := map[int]int{}, map[int]int{}, map[int]int{}
		for i, out := range outs {
			if out.Wrote >= 0 {
				onDisk[out.Wrote] = inMemory[out.Wrote]
				met.add("written")
			}
			if out.Read >= 0 {
				inMemory[out.Read] = onDisk[out.Read]
				if inMemory[out.Read] != last[out.Read] {
					t.Fatalf("%v\npage %d is read as it was behind %d, was changed by %d", ops[:i+1], out.Read, inMemory[out.Read], last[out.Read])
				}
				met.add("read")
			}
			for _, page := range out.All {
				onDisk[page] = inMemory[page]
				met.add("cleaned")
			}
			if ops[i].Kind == 2 || ops[i].Kind == 3 {
				last[ops[i].Page], inMemory[ops[i].Page] = i+1, i+1
			}
			if ops[i].Kind == 4 && !holdsLast(onDisk, last) {
				t.Fatalf("%v\nbehind a clean the disk does not have all changes", ops[:i+1])
			}
		}
	}
	met.wantAtLeast(t, map[string]int{"written": 3000, "read": 5000, "cleaned": 3000})
}

// holdsLast tells whether each page that was changed is as it was changed last.
func holdsLast(onDisk, last map[int]int) bool {
	for page, when := range last {
		if onDisk[page] != when {
			return false
		}
	}
	return true
}
