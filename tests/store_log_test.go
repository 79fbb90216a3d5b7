package tests

import (
	"bytes"
	"fmt"
	"math"
	"slices"
	"strings"
	"testing"

	"loop.example/g00001/impl"
)

func imageRec(page int, b byte) impl.LogRec {
	return impl.LogRec{Kind: impl.LogImage, Page: page, Before: ofByte(b, impl.PageSize)}
}

func updateRec(page, off int, before, after string) impl.LogRec {
	return impl.LogRec{Kind: impl.LogUpdate, Page: page, Off: off, Before: []byte(before), After: []byte(after)}
}

var commitRec = impl.LogRec{Kind: impl.LogCommit}

func copiedRecords(recs []impl.LogRec) []impl.LogRec {
	var list []impl.LogRec
	for _, r := range recs {
		r.Before, r.After = slices.Clone(r.Before), slices.Clone(r.After)
		list = append(list, r)
	}
	return list
}

// wantPack holds LogPack against chapter 15 once more.
func wantPack(t *testing.T, epoch, seq int, recs []impl.LogRec) ([][]byte, int) {
	t.Helper()
	before := copiedRecords(recs)
	got, code := impl.LogPack(epoch, seq, recs)
	want, wantCode := wantedPack(epoch, seq, recs)
	if code != wantCode || !slices.EqualFunc(got, want, bytes.Equal) {
		t.Fatalf("epoch %d, seq %d, %d records: %d, %d blocks, want %d, %d", epoch, seq, len(recs), code, len(got), wantCode, len(want))
	}
	if !sameRecords(recs, before) {
		t.Fatalf("LogPack has written into its argument")
	}
	return got, code
}

func TestLogConstants(t *testing.T) {
	if impl.PageBlock != 2 || impl.LogBlock != 302 || impl.LogBlocks != 210 || impl.LogData != 497 || impl.MaxSteps != 200 || impl.MaxEpoch != 1000000000 {
		t.Errorf("places and bounds of a store")
	}
	if impl.LogImage != 1 || impl.LogUpdate != 2 || impl.LogCommit != 3 {
		t.Errorf("kinds of records")
	}
	kinds := []int{impl.SOpen, impl.SPut, impl.SDrop, impl.SGet, impl.SScan, impl.SCommit, impl.SAbort, impl.SCheck, impl.SArm, impl.SFail, impl.SCrash}
	if !slices.Equal(kinds, []int{1, 2, 3, 4, 5, 6, 7, 8, 9, 10, 11}) {
		t.Errorf("kinds of operations")
	}
	if codes := []int{impl.ErrState, impl.ErrFull, impl.ErrIO, impl.ErrDown, impl.ErrCorrupt}; !slices.Equal(codes, []int{22, 25, 26, 27, 28}) {
		t.Errorf("codes of a store: %v", codes)
	}
}

// TestLogPackBytes has each kind of record, written out byte by byte.
func TestLogPackBytes(t *testing.T) {
	cases := []struct {
		epoch, seq int
		recs       []impl.LogRec
		want       []byte
	}{
		{1, 0, []impl.LogRec{commitRec}, sheet(76, 0, 0, 0, 1, 0, 0, 0, 0, 0, 1, 3)},
		{16909060, 209, []impl.LogRec{commitRec, commitRec}, sheet(76, 1, 2, 3, 4, 0, 0, 0, 209, 0, 2, 3, 3)},
		{impl.MaxEpoch, 5, []impl.LogRec{updateRec(299, 510, "ab", "cd"), commitRec}, sheet(76, 59, 154, 202, 0, 0, 0, 0, 5, 0, 12, 2, 1, 43, 1, 254, 0, 2, "abcd", 3)},
		{7, 1, []impl.LogRec{updateRec(0, 0, "a", "b")}, sheet(76, 0, 0, 0, 7, 0, 0, 0, 1, 0, 9, 2, 0, 0, 0, 0, 0, 1, "ab")},
		{7, 1, []impl.LogRec{updateRec(258, 258, strings.Repeat("x", 200), strings.Repeat("y", 200))}, sheet(76, 0, 0, 0, 7, 0, 0, 0, 1, 1, 151, 2, 1, 2, 1, 2, 0, 200, strings.Repeat("x", 200), strings.Repeat("y", 200))},
	}
	for _, c := range cases {
		got, code := wantPack(t, c.epoch, c.seq, c.recs)
		if code != impl.OK || len(got) != 1 || !bytes.Equal(got[0], c.want) {
			t.Errorf("%v: %d, %v, want %v", c.recs, code, got, c.want)
		}
	}
	got, code := wantPack(t, 258, 8, []impl.LogRec{imageRec(257, 'i'), updateRec(1, 2, "a", "b"), commitRec})
	if code != impl.OK || len(got) != 2 {
		t.Fatalf("an image: %d, %d blocks", code, len(got))
	}
	first := sheet(76, 0, 0, 1, 2, 0, 0, 0, 8, 1, 241, 1, 1, 1, strings.Repeat("i", 494))
	second := sheet(76, 0, 0, 1, 2, 0, 0, 0, 9, 0, 28, strings.Repeat("i", 18), 2, 0, 1, 0, 2, 0, 1, "ab", 3)
	if !bytes.Equal(got[0], first) || !bytes.Equal(got[1], second) {
		t.Errorf("an image in two pieces: %v", got)
	}
}

// TestLogPackPieces has records of LogData bytes, of one more and one less, and of twice as many.
func TestLogPackPieces(t *testing.T) {
	for _, c := range []struct{ commits, blocks, last int }{{0, 0, 0}, {1, 1, 1}, {496, 1, 496}, {497, 1, 497}, {498, 2, 1}, {994, 2, 497}, {995, 3, 1}} {
		got, code := wantPack(t, 3, 4, slices.Repeat([]impl.LogRec{commitRec}, c.commits))
		if code != impl.OK || len(got) != c.blocks {
			t.Errorf("%d bytes: %d, %d blocks", c.commits, code, len(got))
			continue
		}
		for i, b := range got {
			size := 497
			if i == len(got)-1 {
				size = c.last
			}
			if !bytes.Equal(b, logSheet(3, 4+i, strings.Repeat("\x03", size))) {
				t.Errorf("%d bytes, block %d: %v", c.commits, i, b)
			}
		}
	}
}

func TestLogPackNumbers(t *testing.T) {
	epochs := append(oddNumbers(), impl.MaxEpoch-1, impl.MaxEpoch, impl.MaxEpoch+1)
	seqs := append(oddNumbers(), impl.LogBlocks-2, impl.LogBlocks-1, impl.LogBlocks, impl.LogBlocks+1)
	for _, epoch := range epochs {
		for _, seq := range seqs {
			right := epoch >= 1 && epoch <= impl.MaxEpoch && seq >= 0 && seq < impl.LogBlocks
			got, code := wantPack(t, epoch, seq, []impl.LogRec{commitRec})
			if (code == impl.OK) != right || (len(got) == 1) != right || !right && code != impl.ErrBad {
				t.Errorf("epoch %d, seq %d: %d, %d blocks", epoch, seq, code, len(got))
			}
			if got, code := wantPack(t, epoch, seq, nil); (code == impl.OK) != right || len(got) != 0 {
				t.Errorf("without records, epoch %d, seq %d: %d, %d blocks", epoch, seq, code, len(got))
			}
		}
	}
}

// wrongRecords have one rule of a valid record broken each.
func wrongRecords() []impl.LogRec {
	full, short, long := ofByte(1, 512), ofByte(1, 511), ofByte(1, 513)
	list := []impl.LogRec{
		{Kind: impl.LogImage, Before: short}, {Kind: impl.LogImage, Before: long}, {Kind: impl.LogImage}, {Kind: impl.LogImage, Before: full, Off: 1},
		{Kind: impl.LogImage, Before: full, Off: -1}, {Kind: impl.LogImage, Before: full, After: full}, {Kind: impl.LogImage, Before: full, After: []byte{0}}, {Kind: impl.LogImage, After: full},
		{Kind: impl.LogUpdate}, {Kind: impl.LogUpdate, Before: []byte{1}}, {Kind: impl.LogUpdate, After: []byte{1}}, {Kind: impl.LogUpdate, Before: []byte{1}, After: []byte{1, 2}},
		{Kind: impl.LogUpdate, Before: []byte{1, 2}, After: []byte{1}}, {Kind: impl.LogUpdate, Before: long, After: long}, {Kind: impl.LogUpdate, Before: full, After: long},
		{Kind: impl.LogUpdate, Off: 1, Before: full, After: full}, {Kind: impl.LogUpdate, Off: -1, Before: short, After: short}, {Kind: impl.LogUpdate, Off: 2, Before: short, After: short},
		{Kind: impl.LogUpdate, Off: 512, Before: []byte{1}, After: []byte{1}}, {Kind: impl.LogUpdate, Off: math.MaxInt, Before: []byte{1}, After: []byte{1}}, {Kind: impl.LogUpdate, Off: math.MinInt, Before: []byte{1}, After: []byte{1}},
		{Kind: impl.LogCommit, Page: 1}, {Kind: impl.LogCommit, Page: -1}, {Kind: impl.LogCommit, Off: 1}, {Kind: impl.LogCommit, Off: -1}, {Kind: impl.LogCommit, Before: []byte{0}}, {Kind: impl.LogCommit, After: []byte{0}},
	}
	for _, page := range []int{-1, impl.MaxPages, 65536, math.MaxInt, math.MinInt} {
		list = append(list, imageRec(page, 1), updateRec(page, 0, "a", "b"))
	}
	for _, kind := range []int{0, -1, 4, 257, 259, math.MaxInt, math.MinInt} {
		list = append(list, impl.LogRec{Kind: kind}, impl.LogRec{Kind: kind, Before: full}, impl.LogRec{Kind: kind, Before: full, After: full})
	}
	return list
}

func TestLogPackWrongRecords(t *testing.T) {
	for _, r := range wrongRecords() {
		for _, recs := range [][]impl.LogRec{{r}, {commitRec, r}, {r, imageRec(1, 1)}} {
			if got, code := wantPack(t, 1, 0, recs); code != impl.ErrBad || len(got) != 0 {
				t.Errorf("%v: %d, %d blocks", r, code, len(got))
			}
		}
	}
	right := []impl.LogRec{imageRec(0, 0), imageRec(299, 255), updateRec(0, 0, string(ofByte(1, 512)), string(ofByte(2, 512))), updateRec(299, 511, "a", "b"), updateRec(5, 1, string(ofByte(1, 511)), string(ofByte(1, 511))), commitRec}
	for _, r := range right {
		if _, code := wantPack(t, 1, 0, []impl.LogRec{r}); code != impl.OK {
			t.Errorf("%v: %d", r, code)
		}
	}
}

func TestLogPackFull(t *testing.T) {
	for _, seq := range []int{0, 1, 200, 208, 209} {
		room := impl.LogData * (impl.LogBlocks - seq)
		got, code := wantPack(t, 1, seq, slices.Repeat([]impl.LogRec{commitRec}, room))
		if code != impl.OK || len(got) != impl.LogBlocks-seq {
			t.Errorf("seq %d, all that has room: %d, %d blocks", seq, code, len(got))
		}
		many := slices.Repeat([]impl.LogRec{commitRec}, room+1)
		if got, code := wantPack(t, 1, seq, many); code != impl.ErrFull || len(got) != 0 {
			t.Errorf("seq %d, one more: %d, %d blocks", seq, code, len(got))
		}
		if got, code := wantPack(t, 1, seq, append(many, impl.LogRec{})); code != impl.ErrBad || len(got) != 0 {
			t.Errorf("seq %d, too many and a wrong one: %d, %d blocks", seq, code, len(got))
		}
	}
	// What is far too much is not written out first.
	if got, code := impl.LogPack(1, 0, slices.Repeat([]impl.LogRec{imageRec(1, 1)}, 300000)); code != impl.ErrFull || len(got) != 0 {
		t.Errorf("far too much: %d, %d blocks", code, len(got))
	}
}

func TestLogPackAnswersApart(t *testing.T) {
	recs := []impl.LogRec{imageRec(1, 1), updateRec(1, 0, "abc", "def"), imageRec(2, 2), commitRec}
	blocks, _ := impl.LogPack(1, 0, recs)
	for _, r := range recs {
		blocks = append(blocks, r.Before, r.After)
	}
	bytesApart(t, "blocks of a log", blocks)
}

// logDisk has these blocks as its log.
func logDisk(blocks ...[]byte) impl.Disk {
	return impl.Disk{Blocks: append(make([][]byte, impl.LogBlock), blocks...)}
}

// toldRecords tells records in a line.
func toldRecords(recs []impl.LogRec) string {
	var words []string
	for _, r := range recs {
		switch r.Kind {
		case impl.LogImage:
			words = append(words, fmt.Sprintf("image %d %c", r.Page, r.Before[0]))
		case impl.LogUpdate:
			words = append(words, fmt.Sprintf("update %d+%d %s to %s", r.Page, r.Off, toldValue(r.Before), toldValue(r.After)))
		default:
			words = append(words, "commit")
		}
	}
	return strings.Join(words, ", ")
}

func wantScanned(t *testing.T, d impl.Disk, epoch, blocks int, want string) {
	t.Helper()
	before := copiedDisk(d)
	recs := wantLog(t, d, epoch)
	_, count := impl.LogScan(d, epoch)
	if got := toldRecords(recs); got != want || count != blocks {
		t.Errorf("epoch %d: %d blocks, %s; want %d, %s", epoch, count, got, blocks, want)
	}
	if !sameDisk(d, before) {
		t.Fatalf("LogScan has written into its argument")
	}
}

const threeRecords = "\x02\x00\x01\x00\x02\x00\x01ab" + "\x02\x01\x00\x00\x03\x00\x02abcd" + "\x03"

const toldThree = "update 1+2 a to b, update 256+3 ab to cd, commit"

func TestLogScanBlocks(t *testing.T) {
	good := logSheet(9, 0, threeRecords)
	wantScanned(t, logDisk(good), 9, 1, toldThree)
	wantScanned(t, logDisk(good, logSheet(9, 1, "\x03")), 9, 2, toldThree+", commit")
	wantScanned(t, impl.Disk{}, 9, 0, "")
	wantScanned(t, logDisk(), 9, 0, "")
	wantScanned(t, logDisk(nil, good), 9, 0, "")
	wantScanned(t, logDisk(logSheet(9, 1, "\x03"), logSheet(9, 1, "\x03")), 9, 0, "")
	wantScanned(t, logDisk(good, logSheet(9, 1, "\x03")), 8, 0, "")
	others := [][]byte{
		logSheet(8, 1, "\x03"), logSheet(10, 1, "\x03"), logSheet(9+1<<24, 1, "\x03"), // another epoch
		logSheet(9, 0, "\x03"), logSheet(9, 2, "\x03"), logSheet(9, 1+1<<24, "\x03"), // another seq
		logSheet(9, 1, ""),                                                             // no bytes
		sheet(75, four(9), four(1), two(1), 3), sheet(77, four(9), four(1), two(1), 3), // no mark of a log
		sheet(76, four(9), four(1), two(0), 3),                            // a byte behind no piece
		sheet(76, four(9), four(1), two(1), 3, 1),                         // one behind the piece
		sheet(76, four(9), four(1), two(1), 3, string(ofByte(0, 495)), 1), // the last one ahead of the sum
		sheet(76, four(9), four(1), two(498), string(ofByte(3, 497))), sheet(76, four(9), four(1), two(501), string(ofByte(3, 497))),
		sheet(76, four(9), four(1), two(502), string(ofByte(3, 497))), sheet(76, four(9), four(1), two(65535), string(ofByte(3, 497))),
		nil, ofByte(0, 512),
	}
	for i, other := range others {
		wantScanned(t, logDisk(good, other, logSheet(9, 2, "\x03")), 9, 1, toldThree)
		if t.Failed() {
			t.Fatalf("block %d: %v", i, other)
		}
	}
	wantScanned(t, logDisk(good, logSheet(9, 1, string(ofByte(3, 497)))), 9, 2, toldThree+strings.Repeat(", commit", 497))
}

// TestLogScanSums changes each byte of a block by itself: the sum is wrong then.
func TestLogScanSums(t *testing.T) {
	for place := range impl.BlockSize {
		second := logSheet(9, 1, "\x03")
		second[place] ^= 1 << (place % 8)
		wantScanned(t, logDisk(logSheet(9, 0, threeRecords), second, logSheet(9, 2, "\x03")), 9, 1, toldThree)
	}
}

func TestLogScanRecords(t *testing.T) {
	// A record goes on in the next block, wherever it is cut.
	for cut := 1; cut < len(threeRecords); cut++ {
		wantScanned(t, logDisk(logSheet(9, 0, threeRecords[:cut]), logSheet(9, 1, threeRecords[cut:])), 9, 2, toldThree)
	}
	image := "\x01\x00\x07" + strings.Repeat("i", 512)
	wantScanned(t, logDisk(logSheet(9, 0, image[:497]), logSheet(9, 1, image[497:]+"\x03")), 9, 2, "image 7 i, commit")
	// What is cut off is none.
	wantScanned(t, logDisk(logSheet(9, 0, image[:497])), 9, 1, "")
	wantScanned(t, logDisk(logSheet(9, 0, "\x03"+image[:496]), logSheet(9, 1, image[496:514])), 9, 2, "commit")
	for size := 1; size < 9; size++ {
		wantScanned(t, logDisk(logSheet(9, 0, "\x03"+threeRecords[:size])), 9, 1, "commit")
	}
	// Behind one that isn't valid none is read, but its block is counted.
	for _, wrong := range []string{
		"\x00", "\x04", "\xff", "\x01\x01\x2c" + strings.Repeat("i", 480), "\x02\x01\x2c\x00\x00\x00\x01ab", "\x02\x00\x00\x00\x00\x00\x00", "\x02\x00\x00\x02\x00\x00\x01ab",
		"\x02\x00\x00\x01\xff\x00\x02abcd", "\x02\x00\x00\xff\xff\x00\x01ab",
	} {
		wantScanned(t, logDisk(logSheet(9, 0, "\x03"+wrong+"\x03\x03"), logSheet(9, 1, "\x03")), 9, 2, "commit")
	}
	wantScanned(t, logDisk(logSheet(9, 0, "\x02\x01\x2b\x01\xfe\x00\x02abcd")), 9, 1, "update 299+510 ab to cd")
	whole := "\x02\x00\x00\x00\x00\x02\x00" + strings.Repeat("a", 512) + strings.Repeat("b", 512)
	wantScanned(t, logDisk(logSheet(9, 0, whole[:497]), logSheet(9, 1, whole[497:994]), logSheet(9, 2, whole[994:])), 9, 3, "update 0+0 #512 to #512")
	tooLong := "\x02\x00\x00\x00\x00\x02\x01" + strings.Repeat("a", 513) + strings.Repeat("b", 513) + "\x03"
	wantScanned(t, logDisk(logSheet(9, 0, tooLong[:497]), logSheet(9, 1, tooLong[497:994]), logSheet(9, 2, tooLong[994:])), 9, 3, "")
}

func TestLogScanLastBlock(t *testing.T) {
	var blocks [][]byte
	for seq := range impl.LogBlocks {
		blocks = append(blocks, logSheet(1, seq, "\x03"))
	}
	wantScanned(t, logDisk(blocks...), 1, 210, "commit"+strings.Repeat(", commit", 209))
	wantScanned(t, logDisk(blocks[:209]...), 1, 209, "commit"+strings.Repeat(", commit", 208))
	blocks[209] = logSheet(1, 209, "\x03\x03")
	wantScanned(t, logDisk(blocks...), 1, 210, "commit"+strings.Repeat(", commit", 210))
}

func TestLogScanWrongArguments(t *testing.T) {
	good := logSheet(9, 0, "\x03")
	tooMany := logDisk(good)
	tooMany.Blocks = append(tooMany.Blocks, make([][]byte, impl.MaxBlocks+1-len(tooMany.Blocks))...)
	wantScanned(t, impl.Disk{Blocks: tooMany.Blocks[:impl.MaxBlocks]}, 9, 1, "commit")
	wantScanned(t, tooMany, 9, 0, "")
	for _, size := range []int{1, 511, 513} {
		wantScanned(t, logDisk(good, ofByte(0, size)), 9, 0, "")
		broken := logDisk(good)
		broken.Blocks[0] = ofByte(0, size)
		wantScanned(t, broken, 9, 0, "")
	}
	for _, epoch := range append(oddNumbers(), impl.MaxEpoch, impl.MaxEpoch+1, math.MaxUint32) {
		d := logDisk(logSheet(epoch, 0, "\x03"))
		if epoch >= 1 && epoch <= impl.MaxEpoch {
			wantScanned(t, d, epoch, 1, "commit")
		} else {
			wantScanned(t, d, epoch, 0, "")
		}
	}
}

func TestLogScanAnswersApart(t *testing.T) {
	recs := []impl.LogRec{imageRec(1, 1), updateRec(1, 0, "abc", "def"), updateRec(1, 0, "abc", "def"), imageRec(2, 2), commitRec}
	blocks, _ := impl.LogPack(1, 0, recs)
	got, _ := impl.LogScan(logDisk(blocks...), 1)
	lists := blocks
	for _, r := range got {
		lists = append(lists, r.Before, r.After)
	}
	bytesApart(t, "records of a log", lists)
}

func (g *storeGrower) grownRecord() impl.LogRec {
	switch g.pick(1, 2, 2, 2, 3) {
	case 1:
		return impl.LogRec{Kind: 1, Page: g.pick(0, 1, 2, 257, 299), Before: grownBytes(g.numberSource, 512)}
	case 2:
		size := g.pick(1, 2, 5, 100, 511, 512)
		return impl.LogRec{Kind: 2, Page: g.pick(0, 1, 2, 257, 299), Off: below(g.numberSource, 513-size), Before: grownBytes(g.numberSource, size), After: grownBytes(g.numberSource, size)}
	}
	return commitRec
}

// TestPromise16ByChance packs records, some at a time, writes their blocks to a disk with an older log, and crashes it.
func TestPromise16ByChance(t *testing.T) {
	t.Parallel()
	var met tally
	for run := range 1500 {
		g := newStoreGrower(160000 + run)
		epoch := g.pick(1, 2, 9, 1000, impl.MaxEpoch)
		var d impl.Disk
		if epoch > 1 {
			recs, pending := g.packedLog(t, g.pick(1, epoch-1), 6)
			d, _ = impl.DiskCrash(impl.Disk{}, pending, ofChoices(8, len(pending)))
			met.add(fmt.Sprint("older records: ", len(recs) > 0))
		}
		recs, pending := g.packedLog(t, epoch, g.pick(0, 1, 3, 10))
		choices := g.choices()
		if g.chance(3) {
			choices = ofChoices(g.pick(8, 17, -9), len(pending))
		}
		d, code := wantSameCrash(t, d, pending, choices)
		got := wantLog(t, d, epoch)
		if code != impl.OK || len(got) > len(recs) || !sameRecords(got, recs[:len(got)]) {
			t.Fatalf("%d, %d records that are no beginning of %d", code, len(got), len(recs))
		}
		done := 0
		for i := range pending {
			done += wantedParts(choices, i) / 8
		}
		if done == len(pending) && len(got) != len(recs) {
			t.Fatalf("all blocks are written, %d records of %d are read", len(got), len(recs))
		}
		met.add(map[bool]string{true: "all", false: map[bool]string{true: "some", false: "none"}[len(got) > 0]}[len(got) == len(recs)])
	}
	met.wantAtLeast(t, map[string]int{"all": 300, "some": 100, "none": 200, "older records: true": 300})
}

func ofChoices(choice, count int) []int { return slices.Repeat([]int{choice}, count) }

// packedLog is some records, and the writes that bring them to the log.
func (g *storeGrower) packedLog(t *testing.T, epoch, most int) (recs []impl.LogRec, pending []impl.Write) {
	t.Helper()
	for range most {
		var some []impl.LogRec
		for range 1 + below(g.numberSource, 4) {
			some = append(some, g.grownRecord())
		}
		blocks, code := wantPack(t, epoch, len(pending), some)
		if code != impl.OK {
			t.Fatalf("%d records at %d: %d", len(some), len(pending), code)
		}
		for _, b := range blocks {
			pending = append(pending, impl.Write{Block: impl.LogBlock + len(pending), Data: b})
		}
		recs = append(recs, some...)
	}
	return recs, pending
}

// TestLogsByChance spoils logs: some bytes are changed, some sums made right again.
func TestLogsByChance(t *testing.T) {
	t.Parallel()
	var met tally
	for run := range 3000 {
		g := newStoreGrower(170000 + run)
		_, pending := g.packedLog(t, 5, 3)
		for range g.pick(0, 1, 1, 2) {
			b := pending[below(g.numberSource, len(pending))].Data
			b[g.pick(0, 4, 8, 9, 10, 11, 12, 13, 14, 15, 16, 17, 18, 19, 20, 511, below(g.numberSource, 512))] = byte(g.pick(0, 1, 2, 3, 5, 76, 255))
			if !g.chance(4) {
				summed(impl.Image{Pages: [][]byte{b}})
			}
		}
		d, _ := impl.DiskCrash(impl.Disk{}, pending, ofChoices(8, len(pending)))
		recs := wantLog(t, d, 5)
		met.add(fmt.Sprint("records: ", len(recs) > 0))
	}
	met.wantAtLeast(t, map[string]int{"records: true": 1000, "records: false": 100})
}
