package tests

import (
	"encoding/binary"
	"hash/crc32"
	"maps"
	"slices"
	"strings"

	"loop.example/g00001/impl"
)

// shelf is a disk, chapter 14 once more: a block that isn't there is noughts.
type shelf map[int]string

// readShelf tells also whether the disk is valid.
func readShelf(d impl.Disk) (shelf, bool) {
	s := shelf{}
	for i, b := range d.Blocks {
		if i >= impl.MaxBlocks || len(b) != 0 && len(b) != impl.BlockSize {
			return nil, false
		}
		if len(b) > 0 {
			s[i] = string(b)
		}
	}
	return s, true
}

func noughts(size int) string { return strings.Repeat("\x00", size) }

func (s shelf) at(number int) string {
	if text, there := s[number]; there {
		return text
	}
	return noughts(impl.BlockSize)
}

func (s shelf) disk() impl.Disk {
	size := 0
	for number, text := range s {
		if text != noughts(impl.BlockSize) {
			size = max(size, number+1)
		}
	}
	var d impl.Disk
	for number := range size {
		d.Blocks = append(d.Blocks, []byte(s.at(number)))
	}
	return d
}

// land does so many of nine parts of each write.
func (s shelf) land(pending []impl.Write, parts func(i int) int) {
	for i, w := range pending {
		done := 64 * parts(i)
		s[w.Block] = string(w.Data[:done]) + s.at(w.Block)[done:]
	}
}

func (s shelf) crash(pending []impl.Write, choices []int) {
	s.land(pending, func(i int) int { return wantedParts(choices, i) })
}

func wantedParts(choices []int, i int) int {
	switch {
	case i >= len(choices):
		return 0
	case choices[i] < 0:
		return ^choices[i] % 9
	}
	return choices[i] % 9
}

// wantedCrash is what DiskCrash answers.
func wantedCrash(d impl.Disk, pending []impl.Write, choices []int) (impl.Disk, int) {
	s, ok := readShelf(d)
	if !ok || len(pending) > 512 {
		return impl.Disk{}, impl.ErrBad
	}
	for _, w := range pending {
		if w.Block < 0 || w.Block > 511 || len(w.Data) != 512 {
			return impl.Disk{}, impl.ErrBad
		}
	}
	s.crash(pending, choices)
	return s.disk(), impl.OK
}

// slots are a pool: marks and dirt are kept by the page.
type slots struct {
	pages         []int
	marked, dirty map[int]bool
	hand          int
}

const emptySlot = -5

func newSlots() *slots {
	return &slots{slices.Repeat([]int{emptySlot}, 8), map[int]bool{}, map[int]bool{}, 0}
}

func (s *slots) do(kind, page int) (read, wrote int) {
	read, wrote = -1, -1
	if !slices.Contains(s.pages, page) {
		for s.marked[s.pages[s.hand]] {
			delete(s.marked, s.pages[s.hand])
			s.hand = (s.hand + 1) % 8
		}
		if left := s.pages[s.hand]; s.dirty[left] {
			wrote = left
			delete(s.dirty, left)
		}
		s.pages[s.hand] = page
		s.hand = (s.hand + 1) % 8
		if kind < 3 {
			read = page
		}
	}
	s.marked[page] = true
	if kind > 1 {
		s.dirty[page] = true
	}
	return read, wrote
}

func (s *slots) clean() []int {
	pages := slices.Sorted(maps.Keys(s.dirty))
	clear(s.dirty)
	return pages
}

// wantedPool is what PoolRun answers.
func wantedPool(ops []impl.PoolOp) ([]impl.PoolOut, int) {
	if len(ops) > 4000 {
		return nil, impl.ErrBig
	}
	s := newSlots()
	var outs []impl.PoolOut
	for _, op := range ops {
		switch {
		case op.Kind == 4:
			outs = append(outs, impl.PoolOut{Read: -1, Wrote: -1, All: s.clean()})
		case op.Kind < 1 || op.Kind > 4 || op.Page < 0 || op.Page > 299:
			return nil, impl.ErrBad
		default:
			read, wrote := s.do(op.Kind, op.Page)
			outs = append(outs, impl.PoolOut{Read: read, Wrote: wrote})
		}
	}
	return outs, impl.OK
}

// wantedRecordOK tells which records are valid.
func wantedRecordOK(r impl.LogRec) bool {
	inPage := r.Page >= 0 && r.Page < 300
	switch r.Kind {
	case 1:
		return inPage && r.Off == 0 && len(r.Before) == 512 && len(r.After) == 0
	case 2:
		return inPage && len(r.Before) > 0 && len(r.Before) == len(r.After) && len(r.Before) <= 512 && r.Off >= 0 && r.Off <= 512-len(r.Before)
	}
	return r.Kind == 3 && r.Page == 0 && r.Off == 0 && len(r.Before)+len(r.After) == 0
}

func wantedRecordBytes(r impl.LogRec) string {
	switch r.Kind {
	case 1:
		return string(inBytes(1, two(r.Page), string(r.Before)))
	case 2:
		return string(inBytes(2, two(r.Page), two(r.Off), two(len(r.Before)), string(r.Before), string(r.After)))
	}
	return "\x03"
}

// logSheet is a block of the log.
func logSheet(epoch, seq int, piece string) []byte {
	return sheet(76, four(epoch), four(seq), two(len(piece)), piece)
}

func masterSheet(epoch int) []byte { return sheet(77, four(epoch)) }

func wantedPack(epoch, seq int, recs []impl.LogRec) ([][]byte, int) {
	if epoch < 1 || epoch > 1000000000 || seq < 0 || seq > 209 {
		return nil, impl.ErrBad
	}
	var content strings.Builder
	for _, r := range recs {
		if !wantedRecordOK(r) {
			return nil, impl.ErrBad
		}
		content.WriteString(wantedRecordBytes(r))
	}
	var list [][]byte
	for rest := content.String(); rest != ""; rest = rest[min(497, len(rest)):] {
		list = append(list, logSheet(epoch, seq+len(list), rest[:min(497, len(rest))]))
	}
	if seq+len(list) > 210 {
		return nil, impl.ErrFull
	}
	return list, impl.OK
}

func rightSum(text string) bool {
	return binary.BigEndian.Uint32([]byte(text[508:])) == crc32.ChecksumIEEE([]byte(text[:508]))
}

func fourAt(text string, at int) int { return int(binary.BigEndian.Uint32([]byte(text[at:]))) }

// wantedLog is what LogScan answers.
func wantedLog(d impl.Disk, epoch int) ([]impl.LogRec, int) {
	s, ok := readShelf(d)
	if !ok || epoch < 1 || epoch > 1000000000 {
		return nil, 0
	}
	return s.log(epoch)
}

func (s shelf) log(epoch int) ([]impl.LogRec, int) {
	content, count := "", 0
	for ; count < 210; count++ {
		text := s.at(302 + count)
		size := numberIn([]byte(text), 9)
		if text[0] != 76 || fourAt(text, 1) != epoch || fourAt(text, 5) != count || size < 1 || size > 497 || !rightSum(text) || strings.Trim(text[11+size:508], "\x00") != "" {
			break
		}
		content += text[11 : 11+size]
	}
	var recs []impl.LogRec
	for content != "" {
		r, size := firstRecord(content)
		if size > len(content) || !wantedRecordOK(r) {
			break
		}
		recs = append(recs, r)
		content = content[size:]
	}
	return recs, count
}

// firstRecord tells also how long it is, which is more than there is where it is cut off.
func firstRecord(content string) (impl.LogRec, int) {
	padded := []byte(content + noughts(2000))
	switch content[0] {
	case 1:
		return impl.LogRec{Kind: 1, Page: numberIn(padded, 1), Before: padded[3:515]}, 515
	case 2:
		size := numberIn(padded, 5)
		if size > 512 {
			return impl.LogRec{}, 0
		}
		return impl.LogRec{Kind: 2, Page: numberIn(padded, 1), Off: numberIn(padded, 3), Before: padded[7 : 7+size], After: padded[7+size : 7+2*size]}, 7 + 2*size
	}
	return impl.LogRec{Kind: int(content[0])}, 1
}

func (s shelf) epoch() int {
	last := 0
	for place := range 2 {
		text := s.at(place)
		epoch := fourAt(text, 1)
		if text == string(masterSheet(epoch)) && epoch%2 == place && epoch <= 1000000000 {
			last = max(last, epoch)
		}
	}
	return last
}

// wantedRecover is what Recover answers.
func wantedRecover(d impl.Disk) (impl.Image, int, int) {
	s, ok := readShelf(d)
	if !ok {
		return impl.Image{}, 0, impl.ErrBad
	}
	return s.recovered()
}

func (s shelf) recovered() (impl.Image, int, int) {
	epoch := s.epoch()
	if epoch == 0 {
		return impl.Image{Pages: [][]byte{sheet(1, two(1), two(0), two(2)), sheet(2)}}, 0, impl.OK
	}
	var pages [][]byte
	for number := range 300 {
		pages = append(pages, []byte(s.at(2+number)))
	}
	recs, _ := s.log(epoch)
	committed := 0
	for i, r := range recs {
		switch r.Kind {
		case 1:
			pages[r.Page] = slices.Clone(r.Before)
		case 2:
			copy(pages[r.Page][r.Off:], r.After)
		case 3:
			committed = i
		}
	}
	for i := len(recs) - 1; i >= committed; i-- {
		if recs[i].Kind == 2 {
			copy(pages[recs[i].Page][recs[i].Off:], recs[i].Before)
		}
	}
	count := numberIn(pages[0], 5)
	if count > 300 {
		return impl.Image{}, 0, impl.ErrCorrupt
	}
	m := impl.Image{Pages: pages[:count]}
	if _, ok := readWood(m); !ok {
		return impl.Image{}, 0, impl.ErrCorrupt
	}
	return m, epoch, impl.OK
}
