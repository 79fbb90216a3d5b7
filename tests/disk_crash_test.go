package tests

import (
	"bytes"
	"fmt"
	"math"
	"slices"
	"testing"

	"loop.example/g00001/impl"
)

// ofByte is so many of one byte.
func ofByte(b byte, size int) []byte { return bytes.Repeat([]byte{b}, size) }

func writeOf(block int, b byte) impl.Write {
	return impl.Write{Block: block, Data: ofByte(b, impl.BlockSize)}
}

// diskOf has blocks of one byte each, but for the empty ones.
func diskOf(marks string) impl.Disk {
	var d impl.Disk
	for i := range len(marks) {
		switch marks[i] {
		case '-':
			d.Blocks = append(d.Blocks, nil)
		case '0':
			d.Blocks = append(d.Blocks, ofByte(0, impl.BlockSize))
		default:
			d.Blocks = append(d.Blocks, ofByte(marks[i], impl.BlockSize))
		}
	}
	return d
}

// toldDisk tells of each block its bytes in runs, such as a512 b64.a448; noughts are 0.
func toldDisk(d impl.Disk) string {
	told := ""
	for i, b := range d.Blocks {
		if i > 0 {
			told += " "
		}
		for from := 0; from < len(b); {
			to := from
			for to < len(b) && b[to] == b[from] {
				to++
			}
			if from > 0 {
				told += "."
			}
			told += fmt.Sprintf("%c%d", max(b[from], '0'), to-from)
			from = to
		}
	}
	return told
}

func wantCrash(t *testing.T, d impl.Disk, pending []impl.Write, choices []int, want string) {
	t.Helper()
	got, code := wantSameCrash(t, d, pending, choices)
	if code != impl.OK || toldDisk(got) != want {
		t.Errorf("%s with %v: %s %d, want %s", toldDisk(d), choices, toldDisk(got), code, want)
	}
}

// wantSameCrash holds DiskCrash against chapter 14 once more, and asks that nothing was written into.
func wantSameCrash(t *testing.T, d impl.Disk, pending []impl.Write, choices []int) (impl.Disk, int) {
	t.Helper()
	before, writes, numbers := copiedDisk(d), copiedWrites(pending), slices.Clone(choices)
	got, code := impl.DiskCrash(d, pending, choices)
	want, wantCode := wantedCrash(before, writes, numbers)
	if code != wantCode || !sameDisk(got, want) {
		t.Fatalf("%d, want %d: %s", code, wantCode, firstBlockApart(got, want))
	}
	if !sameDisk(d, before) || !slices.EqualFunc(pending, writes, sameWrite) || !slices.Equal(choices, numbers) {
		t.Fatalf("DiskCrash has written into an argument")
	}
	return got, code
}

func copiedWrites(list []impl.Write) []impl.Write {
	var copied []impl.Write
	for _, w := range list {
		copied = append(copied, impl.Write{Block: w.Block, Data: slices.Clone(w.Data)})
	}
	return copied
}

func sameWrite(a, b impl.Write) bool { return a.Block == b.Block && bytes.Equal(a.Data, b.Data) }

func TestDiskConstants(t *testing.T) {
	if impl.BlockSize != 512 || impl.MaxBlocks != 512 || impl.PoolFrames != 8 || impl.MaxPool != 4000 {
		t.Errorf("bounds of disks and pools")
	}
}

func TestDiskCrashChoices(t *testing.T) {
	parts := []string{"a512", "b64.a448", "b128.a384", "b192.a320", "b256.a256", "b320.a192", "b384.a128", "b448.a64", "b512"}
	for c, want := range parts {
		for _, choice := range []int{c, c + 9, c + 900, -(c + 1), -(c + 10), -(c + 901)} {
			wantCrash(t, diskOf("a"), []impl.Write{writeOf(0, 'b')}, []int{choice}, want)
		}
	}
	wantCrash(t, diskOf("a"), []impl.Write{writeOf(0, 'b')}, []int{math.MaxInt}, parts[7])
	wantCrash(t, diskOf("a"), []impl.Write{writeOf(0, 'b')}, []int{math.MinInt}, parts[7])
	wantCrash(t, diskOf("a"), []impl.Write{writeOf(0, 'b')}, []int{math.MaxInt - 1}, parts[6])
	wantCrash(t, diskOf("a"), []impl.Write{writeOf(0, 'b')}, []int{math.MinInt + 1}, parts[6])
}

func TestDiskCrashMissingChoices(t *testing.T) {
	pending := []impl.Write{writeOf(0, 'x'), writeOf(1, 'y'), writeOf(2, 'z')}
	wantCrash(t, diskOf("abc"), pending, nil, "a512 b512 c512")
	wantCrash(t, diskOf("abc"), pending, []int{8}, "x512 b512 c512")
	wantCrash(t, diskOf("abc"), pending, []int{0, 8}, "a512 y512 c512")
	wantCrash(t, diskOf("abc"), pending, []int{-9, -2, -5}, "x512 y64.b448 z256.c256")
	wantCrash(t, diskOf("abc"), pending, []int{8, 8, 8, 8, 8}, "x512 y512 z512")
	wantCrash(t, diskOf("abc"), nil, []int{8, 8}, "a512 b512 c512")
	wantCrash(t, diskOf("abc"), nil, nil, "a512 b512 c512")
}

func TestDiskCrashOfOneBlockTwice(t *testing.T) {
	pending := []impl.Write{writeOf(1, 'x'), writeOf(0, 'w'), writeOf(1, 'y'), writeOf(1, 'z')}
	wantCrash(t, diskOf("ab"), pending, []int{8, 8, 5, 2}, "w512 z128.y192.x192")
	wantCrash(t, diskOf("ab"), pending, []int{3, 0, 5, 2}, "a512 z128.y192.b192")
	wantCrash(t, diskOf("ab"), pending, []int{6, 0, 5, 0}, "a512 y320.x64.b128")
	wantCrash(t, diskOf("ab"), pending, []int{1, 1, 2, 8}, "w64.a448 z512")
}

func TestDiskCrashBehindTheLastBlock(t *testing.T) {
	wantCrash(t, impl.Disk{}, []impl.Write{writeOf(3, 'x')}, []int{1}, "0512 0512 0512 x64.0448")
	wantCrash(t, diskOf("a"), []impl.Write{writeOf(2, 'x'), writeOf(4, 'y')}, []int{8, 0}, "a512 0512 x512")
	wantCrash(t, diskOf("a"), []impl.Write{writeOf(2, 'x'), writeOf(4, 0)}, []int{0, 8}, "a512")
	got, code := impl.DiskCrash(impl.Disk{}, []impl.Write{writeOf(impl.MaxBlocks-1, 'x')}, []int{8})
	if code != impl.OK || len(got.Blocks) != impl.MaxBlocks || got.Blocks[impl.MaxBlocks-1][511] != 'x' || got.Blocks[impl.MaxBlocks-2][0] != 0 {
		t.Errorf("the last block of all: %d, %d blocks", code, len(got.Blocks))
	}
}

func TestDiskCrashEmptyBlocks(t *testing.T) {
	wantCrash(t, diskOf("-a-b"), nil, nil, "0512 a512 0512 b512")
	wantCrash(t, diskOf("-"), []impl.Write{writeOf(0, 'x')}, []int{2}, "x128.0384")
	wantCrash(t, diskOf("-a-"), nil, nil, "0512 a512")
	wantCrash(t, diskOf("a0-00-"), nil, nil, "a512")
	wantCrash(t, diskOf("0a0b0"), nil, nil, "0512 a512 0512 b512")
	wantCrash(t, diskOf("---00"), nil, nil, "")
	wantCrash(t, impl.Disk{}, nil, nil, "")
	wantCrash(t, diskOf("ab"), []impl.Write{writeOf(1, 0)}, []int{8}, "a512")
	wantCrash(t, diskOf("ab"), []impl.Write{writeOf(1, 0)}, []int{7}, "a512 0448.b64")
	wantCrash(t, diskOf("ab"), []impl.Write{writeOf(1, 0), writeOf(0, 0)}, []int{8, 8}, "")
	last := impl.Disk{Blocks: [][]byte{ofByte(0, 512), append(ofByte(0, 511), 1)}}
	wantCrash(t, last, nil, nil, "0512 0511.01")
}

func TestDiskCrashOfWrongArguments(t *testing.T) {
	good := []impl.Write{writeOf(0, 'x')}
	wrong := func(d impl.Disk, pending []impl.Write, what string) {
		t.Helper()
		if got, code := wantSameCrash(t, d, pending, []int{8}); code != impl.ErrBad || len(got.Blocks) != 0 {
			t.Errorf("%s: %d, %d blocks", what, code, len(got.Blocks))
		}
	}
	right := func(d impl.Disk, pending []impl.Write, what string) {
		t.Helper()
		if _, code := wantSameCrash(t, d, pending, []int{8}); code != impl.OK {
			t.Errorf("%s: %d", what, code)
		}
	}
	right(impl.Disk{Blocks: make([][]byte, impl.MaxBlocks)}, good, "MaxBlocks blocks")
	wrong(impl.Disk{Blocks: make([][]byte, impl.MaxBlocks+1)}, good, "one more")
	for _, size := range []int{1, 64, 511, 513, 1024} {
		wrong(impl.Disk{Blocks: [][]byte{ofByte(1, size)}}, good, fmt.Sprint("a block of ", size))
		wrong(impl.Disk{Blocks: [][]byte{ofByte(1, 512), nil, ofByte(0, size)}}, good, fmt.Sprint("a last block of ", size))
		wrong(diskOf("a"), []impl.Write{{Block: 0, Data: ofByte(1, size)}}, fmt.Sprint("a write of ", size))
		wrong(diskOf("a"), append(good, impl.Write{Block: 1, Data: ofByte(0, size)}), fmt.Sprint("a last write of ", size))
	}
	wrong(diskOf("a"), []impl.Write{{Block: 0}}, "an empty write")
	right(diskOf("a"), slices.Repeat(good, impl.MaxBlocks), "MaxBlocks writes")
	wrong(diskOf("a"), slices.Repeat(good, impl.MaxBlocks+1), "one more")
	for _, block := range []int{-1, impl.MaxBlocks, math.MinInt, math.MaxInt} {
		wrong(diskOf("a"), []impl.Write{writeOf(block, 'x')}, fmt.Sprint("block ", block))
		wrong(diskOf("a"), append(good, writeOf(block, 'x')), fmt.Sprint("at last block ", block))
	}
	right(diskOf("a"), []impl.Write{writeOf(impl.MaxBlocks-1, 'x')}, "the last block")
}

func TestDiskCrashAnswersApart(t *testing.T) {
	data := ofByte('x', 512)
	d := diskOf("ab-c")
	got, _ := impl.DiskCrash(d, []impl.Write{{Block: 1, Data: data}, {Block: 2, Data: data}}, []int{8, 8})
	lists := append(slices.Clone(got.Blocks), data)
	bytesApart(t, "blocks of a crashed disk", append(lists, d.Blocks...))
}

func (g grower) grownDisk() impl.Disk {
	var d impl.Disk
	for range g.pick(0, 1, 2, 5, 5) {
		b := ofByte(byte(g.pick(0, 'a', 'b')), 512)
		if g.chance(3) {
			b = nil
		}
		d.Blocks = append(d.Blocks, b)
	}
	return d
}

func TestDiskCrashByChance(t *testing.T) {
	t.Parallel()
	g := newStoreGrower(77)
	var met tally
	for range 4000 {
		d := g.grownDisk()
		var pending []impl.Write
		for range g.pick(0, 1, 3, 6) {
			pending = append(pending, impl.Write{Block: g.pick(0, 1, 2, 3, 4, 5, 6), Data: grownBytes(g.numberSource, 512)})
		}
		if g.chance(10) && len(pending) > 0 {
			w := &pending[below(g.numberSource, len(pending))]
			w.Block = g.pick(-1, 511, 512, math.MinInt, math.MaxInt)
			w.Data = w.Data[:g.pick(512, 512, 511, 0)]
		}
		if g.chance(20) && len(d.Blocks) > 0 {
			d.Blocks[below(g.numberSource, len(d.Blocks))] = ofByte(3, g.pick(0, 1, 511, 513))
		}
		_, code := wantSameCrash(t, d, pending, g.choices())
		met.add(fmt.Sprint(code))
	}
	met.wantAtLeast(t, map[string]int{"0": 3000, "1": 200})
}
