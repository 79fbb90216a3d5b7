package tests

import (
	"fmt"
	"math"
	"slices"
	"testing"

	"loop.example/g00001/impl"
)

// storeDisk has masters, the pages of an image, and blocks of a log.
func storeDisk(even, odd []byte, m impl.Image, log ...[]byte) impl.Disk {
	d := impl.Disk{Blocks: make([][]byte, impl.LogBlock)}
	d.Blocks[0], d.Blocks[1] = even, odd
	for i, p := range m.Pages {
		d.Blocks[impl.PageBlock+i] = slices.Clone(p)
	}
	d.Blocks = append(d.Blocks, log...)
	return d
}

// logged are the blocks of records, all in one.
func logged(t *testing.T, epoch int, recs ...impl.LogRec) [][]byte {
	t.Helper()
	blocks, code := impl.LogPack(epoch, 0, recs)
	if code != impl.OK {
		t.Fatalf("records are not packed: %d", code)
	}
	return blocks
}

func wantFound(t *testing.T, d impl.Disk, epoch int, shape string) {
	t.Helper()
	before := copiedDisk(d)
	m := wantRecovered(t, d)
	_, got, code := impl.Recover(d)
	if code != impl.OK || got != epoch || shapeOfImage(m) != shape {
		t.Errorf("%d, epoch %d, %s; want epoch %d, %s", code, got, shapeOfImage(m), epoch, shape)
	}
	if !sameDisk(d, before) {
		t.Fatalf("Recover has written into its argument")
	}
}

func wantNotFound(t *testing.T, d impl.Disk, want int, what string) {
	t.Helper()
	m := wantRecovered(t, d)
	_, epoch, code := impl.Recover(d)
	if code != want || epoch != 0 || len(m.Pages) != 0 {
		t.Errorf("%s: %d, epoch %d, %d pages", what, code, epoch, len(m.Pages))
	}
}

const newTree = "1() of 2"

func TestRecoverEpochs(t *testing.T) {
	shape := "1(a:5) of 2"
	m := imageOf(t, shape)
	wantFound(t, impl.Disk{}, 0, newTree)
	wantFound(t, storeDisk(nil, nil, m), 0, newTree)
	wantFound(t, storeDisk(masterSheet(2), nil, m), 2, shape)
	wantFound(t, storeDisk(nil, masterSheet(1), m), 1, shape)
	wantFound(t, storeDisk(masterSheet(2), masterSheet(1), m), 2, shape)
	wantFound(t, storeDisk(masterSheet(2), masterSheet(3), m), 3, shape)
	wantFound(t, storeDisk(masterSheet(70000), masterSheet(99999), m), 99999, shape)
	wantFound(t, storeDisk(masterSheet(impl.MaxEpoch), masterSheet(impl.MaxEpoch-1), m), impl.MaxEpoch, shape)
	// In the wrong place.
	wantFound(t, storeDisk(masterSheet(3), masterSheet(2), m), 0, newTree)
	wantFound(t, storeDisk(masterSheet(5), masterSheet(3), m), 3, shape)
	wantFound(t, storeDisk(masterSheet(2), masterSheet(4), m), 2, shape)
	// Epochs that may not be.
	wantFound(t, storeDisk(masterSheet(0), nil, m), 0, newTree)
	wantFound(t, storeDisk(masterSheet(0), masterSheet(1), m), 1, shape)
	wantFound(t, storeDisk(masterSheet(2), masterSheet(impl.MaxEpoch+1), m), 2, shape)
	wantFound(t, storeDisk(masterSheet(impl.MaxEpoch+2), masterSheet(7), m), 7, shape)
	wantFound(t, storeDisk(masterSheet(math.MaxUint32-1), masterSheet(math.MaxUint32), m), 0, newTree)
	wantFound(t, storeDisk(masterSheet(1<<31), masterSheet(1<<31+1), m), 0, newTree)
	// What is no master.
	wantFound(t, storeDisk(sheet(76, four(8)), masterSheet(7), m), 7, shape)
	wantFound(t, storeDisk(sheet(77, four(8), 1), masterSheet(7), m), 7, shape)
	wantFound(t, storeDisk(sheet(77, four(8), string(ofByte(0, 502)), 1), masterSheet(7), m), 7, shape)
	wantFound(t, storeDisk(ofByte(0, 512), ofByte(255, 512), m), 0, newTree)
}

// TestRecoverTornMasters has the master of a new epoch written in part: the other one counts.
func TestRecoverTornMasters(t *testing.T) {
	shape := "1(a:5) of 2"
	m := imageOf(t, shape)
	d := storeDisk(masterSheet(8), masterSheet(7), m)
	for parts := range 9 {
		torn, _ := impl.DiskCrash(d, []impl.Write{{Block: 1, Data: masterSheet(9)}}, []int{parts})
		epoch := 8
		if parts == 8 {
			epoch = 9
		}
		wantFound(t, torn, epoch, shape)
		first, _ := impl.DiskCrash(storeDisk(nil, nil, m), []impl.Write{{Block: 1, Data: masterSheet(1)}}, []int{parts})
		if parts < 8 {
			wantFound(t, first, 0, newTree)
		} else {
			wantFound(t, first, 1, shape)
		}
	}
	for place := range impl.BlockSize {
		spoilt := copiedDisk(d)
		spoilt.Blocks[0][place] ^= 1 << (place % 8)
		wantFound(t, spoilt, 7, shape)
	}
}

// pageUpdates are the records of all pages that differ between two images, in their order.
func pageUpdates(t *testing.T, from, to string) []impl.LogRec {
	t.Helper()
	before, behind := imageOf(t, from), imageOf(t, to)
	imaged := map[int]bool{}
	var recs []impl.LogRec
	for _, page := range differing(before, behind) {
		recs = append(recs, recordsFor(before, behind, page, imaged)...)
	}
	return recs
}

func TestRecoverCommits(t *testing.T) {
	a, b, c := "1(a:5) of 2", "1(a:5 b:7) of 2", "1(b:70@2) of 3"
	first, second := pageUpdates(t, a, b), pageUpdates(t, b, c)
	base := imageOf(t, a)
	open := func(recs ...impl.LogRec) impl.Disk {
		return storeDisk(masterSheet(4), nil, base, logged(t, 4, recs...)...)
	}
	wantFound(t, open(), 4, a)
	wantFound(t, open(commitRec), 4, a)
	wantFound(t, open(append(first, commitRec)...), 4, b)
	wantFound(t, open(first...), 4, a)
	all := slices.Concat(first, []impl.LogRec{commitRec}, second)
	wantFound(t, open(all...), 4, b)
	wantFound(t, open(append(all, commitRec)...), 4, c)
	wantFound(t, open(append(slices.Concat(first, second), commitRec)...), 4, c)
	wantFound(t, open(slices.Concat(first, second)...), 4, a)
	// The log counts only for its epoch, and only as far as it is read.
	wantFound(t, storeDisk(masterSheet(4), nil, base, logged(t, 3, append(first, commitRec)...)...), 4, a)
	wantFound(t, storeDisk(masterSheet(4), masterSheet(5), base, logged(t, 4, append(first, commitRec)...)...), 5, a)
	blocks := logged(t, 4, append(all, commitRec)...)
	for count := range blocks {
		wantRecovered(t, storeDisk(masterSheet(4), nil, base, blocks[:count]...))
	}
	blocks[len(blocks)-1] = nil
	wantFound(t, storeDisk(masterSheet(4), nil, base, blocks...), 4, b)
	// What the disk has of the pages does not matter where they have an image in the log.
	torn := storeDisk(masterSheet(4), nil, imageOf(t, c), logged(t, 4, slices.Concat(first, []impl.LogRec{commitRec}, second)...)...)
	for _, page := range []int{1, 2} {
		torn.Blocks[impl.PageBlock+page] = ofByte('x', 512)
	}
	wantFound(t, torn, 4, b)
}

// withBytes is a valid image of one value, which stands in page 1 from byte 8 on, and is this text; its sum is right.
func withBytes(text string) impl.Image {
	return impl.Image{Pages: [][]byte{sheet(1, two(1), two(0), two(2)), sheet(2, two(1), 1, "k", 0, two(len(text)), text)}}
}

// sumUpdate brings the sum of page 1 from that of one text to that of another.
func sumUpdate(from, to string) impl.LogRec {
	return updateRec(1, inUse, string(withBytes(from).Pages[1][inUse:]), string(withBytes(to).Pages[1][inUse:]))
}

// TestRecoverOrder has records for the same bytes: made from the first to the last, undone from the last to the first.
func TestRecoverOrder(t *testing.T) {
	const place = 8
	want := func(text string, recs ...impl.LogRec) {
		t.Helper()
		d := storeDisk(masterSheet(4), nil, withBytes("abcd"), logged(t, 4, recs...)...)
		m := wantRecovered(t, d)
		if !sameImage(m, withBytes(text)) {
			t.Errorf("%s: %s", toldRecords(recs), shapeOfImage(m))
		}
	}
	want("abcd")
	want("xycd", updateRec(1, place, "ab", "xx"), updateRec(1, place+1, "x", "y"), sumUpdate("abcd", "xycd"), commitRec)
	want("xxcd", updateRec(1, place+1, "b", "y"), updateRec(1, place, "ay", "xx"), sumUpdate("abcd", "xxcd"), commitRec)
	// Undone the other way round, b would not come back.
	want("abcd", updateRec(1, place, "ab", "xx"), updateRec(1, place+1, "x", "y"))
	want("abcd", updateRec(1, place+1, "b", "y"), updateRec(1, place, "ay", "xx"))
	// Those ahead of a commit stay, those behind it are undone, whatever was on the disk.
	want("xbcd", updateRec(1, place, "a", "x"), sumUpdate("abcd", "xbcd"), commitRec, updateRec(1, place+1, "b", "y"), sumUpdate("xbcd", "xycd"))
	want("xbcd", updateRec(1, place, "?", "x"), sumUpdate("abcd", "xbcd"), commitRec, commitRec, updateRec(1, place, "x", "y"))
	// An image counts from where it stands; it is not undone.
	image := impl.LogRec{Kind: impl.LogImage, Page: 1, Before: withBytes("imag").Pages[1]}
	want("imag", image)
	want("imag", updateRec(1, place, "ab", "xy"), image, commitRec)
	want("xmag", image, updateRec(1, place, "i", "x"), sumUpdate("imag", "xmag"), commitRec)
	want("imag", image, updateRec(1, place, "i", "x"), sumUpdate("imag", "xmag"))
	want("xmag", updateRec(1, place, "x", "y"), image, sumUpdate("xmag", "imag"))
	want("imag", commitRec, image, updateRec(1, place, "i", "x"))
}

func TestRecoverCounts(t *testing.T) {
	shape := "1(a:5) of 2"
	for _, count := range []int{0, 1, 3, 299, 300, 301, 512, 65535} {
		m := imageOf(t, shape)
		m.Pages[0] = sheet(1, two(1), two(0), two(count))
		wantNotFound(t, storeDisk(masterSheet(2), nil, m), impl.ErrCorrupt, fmt.Sprint(count, " pages"))
	}
	// What stands behind the pages that page 0 tells does not matter.
	m := imageOf(t, shape)
	m.Pages = append(m.Pages, ofByte('x', 512), ofByte('y', 512))
	wantFound(t, storeDisk(masterSheet(2), nil, m), 2, shape)
	for _, size := range []int{impl.MaxPages - 1, impl.MaxPages} {
		many := manyPages(t, size)
		wantFound(t, storeDisk(masterSheet(2), nil, many), 2, shapeOfImage(many))
		many.Pages[0] = sheet(1, two(numberIn(many.Pages[0], 1)), two(numberIn(many.Pages[0], 3)), two(size-1))
		wantNotFound(t, storeDisk(masterSheet(2), nil, many), impl.ErrCorrupt, "one page too few")
		many.Pages[0] = sheet(1, two(numberIn(many.Pages[0], 1)), two(numberIn(many.Pages[0], 3)), two(size+1))
		wantNotFound(t, storeDisk(masterSheet(2), nil, many), impl.ErrCorrupt, "one page too many")
	}
	// The number is read behind the log.
	grown := imageOf(t, "1(a:70@2) of 3")
	update := updateRec(0, 6, "\x02", "\x03")
	sum := updateRec(0, inUse, string(imageOf(t, shape).Pages[0][inUse:]), string(grown.Pages[0][inUse:]))
	grown.Pages[0] = imageOf(t, shape).Pages[0]
	wantFound(t, storeDisk(masterSheet(2), nil, grown, logged(t, 2, update, sum, commitRec)...), 2, "1(a:70@2) of 3")
}

func TestRecoverWrongImages(t *testing.T) {
	m := imageOf(t, "3[1(a:1 b:70@4) c 2(c:1)] free 5 of 6")
	wantFound(t, storeDisk(nil, masterSheet(3), m), 3, shapeOfImage(m))
	for page := range m.Pages {
		for _, place := range []int{0, 1, 2, 4, 100, 507, 508, 511} {
			spoilt := copiedImage(m)
			spoilt.Pages[page][place] ^= 1
			wantNotFound(t, storeDisk(nil, masterSheet(3), spoilt), impl.ErrCorrupt, fmt.Sprintf("page %d byte %d", page, place))
			wantFound(t, storeDisk(nil, nil, spoilt), 0, newTree)
		}
	}
	wantNotFound(t, storeDisk(nil, masterSheet(3), impl.Image{}), impl.ErrCorrupt, "no pages")
}

func TestRecoverWrongDisks(t *testing.T) {
	good := storeDisk(nil, masterSheet(3), imageOf(t, "1(a:5) of 2"))
	good.Blocks = append(good.Blocks, make([][]byte, impl.MaxBlocks-len(good.Blocks))...)
	wantFound(t, good, 3, "1(a:5) of 2")
	wantNotFound(t, impl.Disk{Blocks: append(good.Blocks, nil)}, impl.ErrBad, "a block too many")
	for _, size := range []int{1, 511, 513} {
		for _, place := range []int{0, 2, 4, 301, 302, 511} {
			wrong := copiedDisk(good)
			wrong.Blocks[place] = ofByte(0, size)
			wantNotFound(t, wrong, impl.ErrBad, fmt.Sprintf("block %d of %d bytes", place, size))
		}
		wantNotFound(t, impl.Disk{Blocks: [][]byte{ofByte(0, size)}}, impl.ErrBad, "a disk of one wrong block")
	}
}

func TestRecoverAnswersApart(t *testing.T) {
	recs := append(pageUpdates(t, "1(a:5) of 2", "1(a:5 b:7) of 2"), commitRec)
	d := storeDisk(nil, masterSheet(3), imageOf(t, "1(a:5) of 2"), logged(t, 3, recs...)...)
	m, _, _ := impl.Recover(d)
	bytesApart(t, "pages that were recovered", slices.Concat(m.Pages, d.Blocks))
	fresh, _, _ := impl.Recover(impl.Disk{})
	bytesApart(t, "pages of an empty disk", fresh.Pages)
}

// TestRecoverByChance spoils the disks of stores.
func TestRecoverByChance(t *testing.T) {
	t.Parallel()
	var met tally
	for run := range 800 {
		g := newStoreGrower(180000 + run)
		g.calm = true
		out := impl.StoreRun(g.script(g.pick(5, 20, 40)))
		d := out.Disk
		for range g.pick(0, 1, 1, 2, 5) {
			if len(d.Blocks) == 0 {
				break
			}
			g.spoilDisk(&d)
		}
		wantRecovered(t, d)
		_, epoch, code := impl.Recover(d)
		met.add(fmt.Sprintf("code %d", code))
		met.add(fmt.Sprintf("epoch %d", min(epoch, 1)))
	}
	met.wantAtLeast(t, map[string]int{"code 0": 300, "code 1": 10, "code 28": 100, "epoch 0": 20, "epoch 1": 300})
}

// spoilDisk changes a block that is likely to be read, some with a right sum behind it.
func (g *storeGrower) spoilDisk(d *impl.Disk) {
	place := min(g.pick(0, 1, 2, 3, 4, 302, 303, 304, 310), len(d.Blocks)-1)
	b := d.Blocks[place]
	switch {
	case g.chance(30):
		d.Blocks[place] = b[:g.pick(0, 1, 511)%(len(b)+1)]
	case g.chance(8):
		d.Blocks = d.Blocks[:place]
	case g.chance(8):
		other := below(g.numberSource, len(d.Blocks))
		d.Blocks[place], d.Blocks[other] = d.Blocks[other], d.Blocks[place]
	case len(b) == 512:
		b[g.pick(0, 4, 5, 6, 8, 10, 11, 12, 20, 100, below(g.numberSource, 512))] ^= byte(g.pick(1, 2, 4, 128, 255))
		if !g.chance(3) {
			summed(impl.Image{Pages: [][]byte{b}})
		}
	}
}
