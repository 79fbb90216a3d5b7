package tests

import (
	"bytes"
	"fmt"
	"slices"
	"strconv"
	"strings"
	"testing"

	"loop.example/g00001/impl"
)

// script reads operations, such as open; put a 12; commit; arm 3 8 -1. A key is written as in a shape, a value is its size,
// or stands behind =.
func script(text string) []impl.StoreOp {
	var ops []impl.StoreOp
	for _, line := range strings.Split(text, ";") {
		words := strings.Fields(line)
		kind := 1 + slices.Index([]string{"open", "put", "drop", "get", "scan", "commit", "abort", "check", "arm", "fail", "crash"}, words[0])
		op := impl.StoreOp{Kind: kind}
		switch kind {
		case impl.SPut, impl.SDrop, impl.SGet:
			op.Key, op.Val = scriptPair(words[1:])
		case impl.SArm, impl.SFail, impl.SCrash:
			op.Choices = numbersIn(words[1:])
		}
		if kind == impl.SArm || kind == impl.SFail {
			op.N, op.Choices = op.Choices[0], op.Choices[1:]
		}
		ops = append(ops, op)
	}
	return ops
}

func scriptPair(words []string) (key, val []byte) {
	if len(words) == 0 {
		return nil, nil
	}
	long := longKey(words[0])
	if len(words) == 1 {
		return []byte(long), nil
	}
	if text, literal := strings.CutPrefix(words[1], "="); literal {
		return []byte(long), []byte(text)
	}
	size, _ := strconv.Atoi(words[1])
	return []byte(long), []byte(valueOf(long, size))
}

func numbersIn(words []string) []int {
	var list []int
	for _, word := range words {
		n, err := strconv.Atoi(word)
		if err != nil {
			panic("no number: " + word)
		}
		list = append(list, n)
	}
	return list
}

// toldObs is an observation in a line: code, reads/writes/syncs, what was found.
func toldObs(o impl.StoreObs) string {
	told := fmt.Sprintf("%d %d/%d/%d", o.Code, o.Reads, o.Writes, o.Syncs)
	if o.Found || len(o.Val) > 0 {
		told += strings.TrimRight(fmt.Sprintf(" %v %s", o.Found, toldValue(o.Val)), " ")
	}
	for _, pair := range o.Pairs {
		told += " " + shortKey(string(pair.Key)) + "=" + toldValue(pair.Val)
	}
	return told
}

func toldValue(val []byte) string {
	if len(val) > 12 {
		return fmt.Sprintf("#%d", len(val))
	}
	return string(val)
}

func toldOp(op impl.StoreOp) string {
	return fmt.Sprintf("%d N %d, key %s, %d bytes, %v", op.Kind, op.N, shortKey(string(op.Key)), len(op.Val), op.Choices)
}

// ran is StoreRun of a script; a code of its own is a fault.
func ran(t *testing.T, text string) impl.StoreOut {
	t.Helper()
	out := impl.StoreRun(script(text))
	if out.Code != impl.OK || len(out.Obs) != len(script(text)) {
		t.Fatalf("%s: %d, %d answers", text, out.Code, len(out.Obs))
	}
	return out
}

// wantRun asks for what is told of each operation, one ; behind the other; an empty one is any.
func wantRun(t *testing.T, text, want string) impl.StoreOut {
	t.Helper()
	out := ran(t, text)
	lines, wanted := strings.Split(text, ";"), strings.Split(want, ";")
	if len(lines) != len(wanted) {
		t.Fatalf("%s: %d operations, %d answers are told", text, len(lines), len(wanted))
	}
	for i, line := range wanted {
		if told := toldObs(out.Obs[i]); strings.TrimSpace(line) != "" && told != strings.TrimSpace(line) {
			t.Errorf("%s\n%d,%s: %s, want%s", text, i, lines[i], told, line)
		}
	}
	return out
}

func sameObs(a, b impl.StoreObs) bool {
	return a.Code == b.Code && a.Found == b.Found && bytes.Equal(a.Val, b.Val) && samePairs(a.Pairs, b.Pairs) && a.Reads == b.Reads && a.Writes == b.Writes && a.Syncs == b.Syncs
}

func sameDisk(a, b impl.Disk) bool { return slices.EqualFunc(a.Blocks, b.Blocks, bytes.Equal) }

func copiedDisk(d impl.Disk) impl.Disk {
	return impl.Disk{Blocks: copiedImage(impl.Image{Pages: d.Blocks}).Pages}
}

// wantSameRun holds StoreRun against chapter 15 once more, and gives what that has met.
func wantSameRun(t *testing.T, ops []impl.StoreOp) (impl.StoreOut, map[string]int) {
	t.Helper()
	got := impl.StoreRun(ops)
	want, met := wantedRun(ops)
	if got.Code != want.Code || len(got.Obs) != len(want.Obs) {
		t.Fatalf("%d, %d answers; want %d, %d", got.Code, len(got.Obs), want.Code, len(want.Obs))
	}
	for i := range want.Obs {
		if !sameObs(got.Obs[i], want.Obs[i]) {
			t.Fatalf("%s\n%s, want %s", toldOps(ops[:i+1]), toldObs(got.Obs[i]), toldObs(want.Obs[i]))
		}
	}
	if !sameDisk(got.Disk, want.Disk) {
		t.Fatalf("%s\nthe disks differ: %s", toldOps(ops), firstBlockApart(got.Disk, want.Disk))
	}
	return got, met
}

func toldOps(ops []impl.StoreOp) string {
	var lines []string
	for i, op := range ops {
		lines = append(lines, fmt.Sprintf("%d: %s", i, toldOp(op)))
	}
	return strings.Join(lines, "\n")
}

func firstBlockApart(a, b impl.Disk) string {
	for i := range min(len(a.Blocks), len(b.Blocks)) {
		if !bytes.Equal(a.Blocks[i], b.Blocks[i]) {
			return fmt.Sprintf("block %d\n%v\n%v", i, a.Blocks[i], b.Blocks[i])
		}
	}
	return fmt.Sprintf("%d and %d blocks", len(a.Blocks), len(b.Blocks))
}
