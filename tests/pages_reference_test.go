package tests

import (
	"encoding/binary"
	"fmt"
	"hash/crc32"
	"slices"
	"strings"

	"loop.example/g00001/impl"
)

// wood is an image as a tree of parts, chapter 13 once more: it is read from pages, changed, and laid out on pages again.
type wood struct {
	top  *bough
	free []int // the head of the list first
	size int
}

type bough struct {
	page int
	leaf bool
	keys []string
	vals []kept
	kids []*bough
}

// kept is a value, and the overflow pages of a long one.
type kept struct {
	text  string
	pages []int
}

const inUse = impl.PageSize - 4

// sheet is a page of these parts, with its sum.
func sheet(parts ...any) []byte {
	p := inBytes(parts...)
	p = append(p, make([]byte, max(0, inUse-len(p)))...)
	return binary.BigEndian.AppendUint32(p, crc32.ChecksumIEEE(p))
}

// inBytes writes parts: an int is a byte, a two is two of them, a four four.
func inBytes(parts ...any) []byte {
	var p []byte
	for _, part := range parts {
		switch part := part.(type) {
		case int:
			p = append(p, byte(part))
		case two:
			p = binary.BigEndian.AppendUint16(p, uint16(part))
		case four:
			p = binary.BigEndian.AppendUint32(p, uint32(part))
		case string:
			p = append(p, part...)
		}
	}
	return p
}

type four int

type two int

func commonBeginning(keys []string) string {
	if len(keys) == 0 {
		return ""
	}
	for size := len(keys[0]); ; size-- {
		if !slices.ContainsFunc(keys, func(key string) bool { return !strings.HasPrefix(key, keys[0][:size]) }) {
			return keys[0][:size]
		}
	}
}

// used counts the bytes of a page that are in use.
func (b *bough) used() int {
	prefix := len(commonBeginning(b.keys))
	size := 1 + 2 + 1 + prefix
	if !b.leaf {
		size += 2
	}
	for i, key := range b.keys {
		size += 1 + len(key) - prefix + 2
		if b.leaf {
			size += lenInLeaf(b.vals[i])
		}
	}
	return size
}

func lenInLeaf(v kept) int {
	if len(v.text) > impl.MaxInline {
		return 2
	}
	return len(v.text)
}

func (w *wood) image() impl.Image {
	pages := make([][]byte, w.size)
	list := append(slices.Clone(w.free), 0)
	pages[0] = sheet(1, two(w.top.page), two(list[0]), two(w.size))
	for i, page := range w.free {
		pages[page] = sheet(5, two(list[i+1]))
	}
	w.top.layOut(pages)
	return impl.Image{Pages: pages}
}

func (b *bough) layOut(pages [][]byte) {
	prefix := commonBeginning(b.keys)
	parts := []any{3, two(len(b.keys)), len(prefix), prefix}
	if b.leaf {
		parts[0] = 2
	} else {
		parts = append(parts, two(b.kids[0].page))
	}
	for i, key := range b.keys {
		parts = append(parts, len(key)-len(prefix), key[len(prefix):])
		if b.leaf {
			parts = append(parts, two(len(b.vals[i].text)), b.vals[i].layOut(pages))
		} else {
			parts = append(parts, two(b.kids[i+1].page))
		}
	}
	pages[b.page] = sheet(parts...)
	for _, kid := range b.kids {
		kid.layOut(pages)
	}
}

func (v kept) layOut(pages [][]byte) any {
	if len(v.text) <= impl.MaxInline {
		return v.text
	}
	list := append(slices.Clone(v.pages), 0)
	for i, page := range v.pages {
		piece := v.text[i*impl.OverData : min(len(v.text), (i+1)*impl.OverData)]
		pages[page] = sheet(4, two(list[i+1]), two(len(piece)), piece)
	}
	return two(v.pages[0])
}

// woodReader reads an image; what is not as the chapter says throws.
type woodReader struct {
	pages [][]byte
	seen  map[int]bool
	deep  map[int]bool
}

func must(holds bool) {
	if !holds {
		panic("not valid")
	}
}

// readWood tells also whether the image is valid.
func readWood(m impl.Image) (w *wood, ok bool) {
	defer func() {
		if recover() != nil {
			w, ok = nil, false
		}
	}()
	must(len(m.Pages) >= 2 && len(m.Pages) <= impl.MaxPages)
	for _, p := range m.Pages {
		must(len(p) == impl.PageSize && binary.BigEndian.Uint32(p[inUse:]) == crc32.ChecksumIEEE(p[:inUse]))
	}
	r := woodReader{m.Pages, map[int]bool{}, map[int]bool{}}
	w = &wood{size: len(m.Pages)}
	head := m.Pages[0]
	must(head[0] == 1 && numberIn(head, 5) == w.size && onlyNoughts(head, 7))
	w.top = r.boughAt(numberIn(head, 1), "", "", false, 1)
	must(w.top.leaf || len(w.top.keys) > 0)
	must(len(r.deep) == 1)
	for page := numberIn(head, 3); page != 0; page = numberIn(m.Pages[page], 1) {
		r.come(page, 5)
		must(onlyNoughts(m.Pages[page], 3))
		w.free = append(w.free, page)
	}
	must(len(r.seen) == w.size-1)
	return w, true
}

func numberIn(p []byte, at int) int { return int(p[at])*256 + int(p[at+1]) }

func onlyNoughts(p []byte, from int) bool {
	return from <= inUse && !slices.ContainsFunc(p[from:inUse], func(b byte) bool { return b != 0 })
}

func (r woodReader) come(page int, kind byte) {
	must(page != 0 && !r.seen[page] && r.pages[page][0] == kind)
	r.seen[page] = true
}

// boughAt reads what is below a page: its keys are not less than low and, if there is an end, less than high.
func (r woodReader) boughAt(page int, low, high string, end bool, depth int) *bough {
	p := r.pages[page]
	b := &bough{page: page, leaf: p[0] == 2}
	if b.leaf {
		r.come(page, 2)
		r.deep[depth] = true
		must(numberIn(p, 1) > 0 || depth == 1)
	} else {
		r.come(page, 3)
	}
	prefix := string(p[4 : 4+int(p[3])])
	at := 4 + len(prefix)
	var kids []int
	if !b.leaf {
		kids = append(kids, numberIn(p, at))
		at += 2
	}
	for range numberIn(p, 1) {
		rest := int(p[at])
		key := prefix + string(p[at+1:at+1+rest])
		must(len(key) <= impl.MaxKey && key >= low && (!end || key < high))
		must(len(b.keys) == 0 || b.keys[len(b.keys)-1] < key)
		b.keys = append(b.keys, key)
		at += 1 + rest
		if b.leaf {
			at += r.value(b, at)
		} else {
			kids = append(kids, numberIn(p, at))
			at += 2
		}
		must(at <= inUse)
	}
	must(prefix == commonBeginning(b.keys) && onlyNoughts(p, at))
	for i, kid := range kids {
		kidLow, kidHigh, kidEnd := low, high, end
		if i > 0 {
			kidLow = b.keys[i-1]
		}
		if i < len(b.keys) {
			kidHigh, kidEnd = b.keys[i], true
		}
		b.kids = append(b.kids, r.boughAt(kid, kidLow, kidHigh, kidEnd, depth+1))
	}
	return b
}

// value reads what stands behind a key of a leaf, and tells how many bytes that are there.
func (r woodReader) value(b *bough, at int) int {
	p := r.pages[b.page]
	size := numberIn(p, at)
	must(size <= impl.MaxVal)
	if size <= impl.MaxInline {
		b.vals = append(b.vals, kept{text: string(p[at+2 : at+2+size])})
		return 2 + size
	}
	var v kept
	for page := numberIn(p, at+2); page != 0; page = numberIn(r.pages[page], 1) {
		r.come(page, 4)
		over := r.pages[page]
		count := numberIn(over, 3)
		must(count >= 1 && (count == impl.OverData || numberIn(over, 1) == 0 && count < impl.OverData) && onlyNoughts(over, 5+count))
		v.text += string(over[5 : 5+count])
		v.pages = append(v.pages, page)
	}
	must(len(v.text) == size)
	b.vals = append(b.vals, v)
	return 4
}

func (w *wood) give(pages ...int) {
	for _, page := range pages {
		w.free = append([]int{page}, w.free...)
	}
}

// full is thrown where no page is left.
type full struct{}

func (w *wood) takePage() int {
	if len(w.free) > 0 {
		page := w.free[0]
		w.free = w.free[1:]
		return page
	}
	if w.size == impl.MaxPages {
		panic(full{})
	}
	w.size++
	return w.size - 1
}

// wantedPut is what KvPut answers.
func wantedPut(m impl.Image, key, val string) (image impl.Image, code int) {
	w, ok := readWood(m)
	if !ok || len(key) > impl.MaxKey || len(val) > impl.MaxVal {
		return impl.Image{}, impl.ErrBad
	}
	defer func() {
		if recover() == (full{}) {
			image, code = impl.Image{}, impl.ErrFull
		}
	}()
	if up, right := w.putBelow(w.top, key, val); right != nil {
		w.top = &bough{page: w.takePage(), keys: []string{up}, kids: []*bough{w.top, right}}
	}
	return w.image(), impl.OK
}

// putBelow gives the key that goes up and the right part, if the bough was split.
func (w *wood) putBelow(b *bough, key, val string) (string, *bough) {
	at, there := slices.BinarySearch(b.keys, key)
	if !b.leaf {
		if there {
			at++
		}
		up, right := w.putBelow(b.kids[at], key, val)
		if right == nil {
			return "", nil
		}
		b.keys, b.kids = slices.Insert(b.keys, at, up), slices.Insert(b.kids, at+1, right)
		return w.splitIfNeeded(b)
	}
	if there {
		w.give(b.vals[at].pages...)
		b.keys, b.vals = slices.Delete(b.keys, at, at+1), slices.Delete(b.vals, at, at+1)
	}
	v := kept{text: val}
	for rest := len(val); len(val) > impl.MaxInline && rest > 0; rest -= impl.OverData {
		v.pages = append(v.pages, w.takePage())
	}
	b.keys, b.vals = slices.Insert(b.keys, at, key), slices.Insert(b.vals, at, v)
	return w.splitIfNeeded(b)
}

func (w *wood) splitIfNeeded(b *bough) (string, *bough) {
	if b.used() <= inUse {
		return "", nil
	}
	right := &bough{page: w.takePage(), leaf: b.leaf}
	best, gap := -1, 0
	for i := range b.keys {
		left, other := b.firstPart(i), b.lastPart(i)
		if b.leaf && i == 0 || left.used() > inUse || other.used() > inUse {
			continue
		}
		apart := left.used() - other.used()
		if apart < 0 {
			apart = -apart
		}
		if best < 0 || apart < gap {
			best, gap = i, apart
		}
	}
	up := b.keys[best]
	for size := 0; b.leaf && size <= len(up); size++ {
		if up[:size] > b.keys[best-1] {
			up = up[:size]
		}
	}
	last := b.lastPart(best)
	right.keys, right.vals, right.kids = last.keys, last.vals, last.kids
	first := b.firstPart(best)
	b.keys, b.vals, b.kids = first.keys, first.vals, first.kids
	return up, right
}

func (b *bough) firstPart(i int) *bough {
	if b.leaf {
		return &bough{leaf: true, keys: slices.Clone(b.keys[:i]), vals: slices.Clone(b.vals[:i])}
	}
	return &bough{keys: slices.Clone(b.keys[:i]), kids: slices.Clone(b.kids[:i+1])}
}

func (b *bough) lastPart(i int) *bough {
	if b.leaf {
		return &bough{leaf: true, keys: slices.Clone(b.keys[i:]), vals: slices.Clone(b.vals[i:])}
	}
	return &bough{keys: slices.Clone(b.keys[i+1:]), kids: slices.Clone(b.kids[i+1:])}
}

// wantedDrop is what KvDrop answers.
func wantedDrop(m impl.Image, key string) (impl.Image, bool, int) {
	w, ok := readWood(m)
	if !ok || len(key) > impl.MaxKey {
		return impl.Image{}, false, impl.ErrBad
	}
	there := w.dropBelow(w.top, key)
	for !w.top.leaf && len(w.top.kids) == 1 {
		w.give(w.top.page)
		w.top = w.top.kids[0]
	}
	return w.image(), there, impl.OK
}

func (w *wood) dropBelow(b *bough, key string) bool {
	at, there := slices.BinarySearch(b.keys, key)
	if b.leaf {
		if there {
			w.give(b.vals[at].pages...)
			b.keys, b.vals = slices.Delete(b.keys, at, at+1), slices.Delete(b.vals, at, at+1)
		}
		return there
	}
	if there {
		at++
	}
	there = w.dropBelow(b.kids[at], key)
	if kid := b.kids[at]; len(kid.keys) == 0 && len(kid.kids) == 0 {
		w.give(kid.page)
		b.kids = slices.Delete(b.kids, at, at+1)
		if ahead := max(at-1, 0); ahead < len(b.keys) {
			b.keys = slices.Delete(b.keys, ahead, ahead+1)
		}
	}
	return there
}

// wantedGet is what KvGet answers of a valid image.
func wantedGet(m impl.Image, key string) (string, bool, []int) {
	w, _ := readWood(m)
	pages, b := []int{0}, w.top
	for {
		pages = append(pages, b.page)
		at, there := slices.BinarySearch(b.keys, key)
		switch {
		case b.leaf && !there:
			return "", false, pages
		case b.leaf:
			return b.vals[at].text, true, append(pages, b.vals[at].pages...)
		case there:
			at++
		}
		b = b.kids[at]
	}
}

// pairs are those of the leaves, in order.
func (b *bough) pairs() []impl.Pair {
	var list []impl.Pair
	for i := range b.vals {
		list = append(list, impl.Pair{Key: []byte(b.keys[i]), Val: []byte(b.vals[i].text)})
	}
	for _, kid := range b.kids {
		list = append(list, kid.pairs()...)
	}
	return list
}

// shapeOfImage tells an image in a line: of a leaf its page and its keys with how long their values are and where, of an inner page
// kids with keys between; then the free pages, and how many pages there are.
func shapeOfImage(m impl.Image) string {
	w, ok := readWood(m)
	if !ok {
		return "not valid"
	}
	text := w.top.shape()
	if len(w.free) > 0 {
		text += " free " + withCommas(w.free)
	}
	return fmt.Sprintf("%s of %d", text, w.size)
}

func withCommas(numbers []int) string {
	return strings.ReplaceAll(strings.Trim(fmt.Sprint(numbers), "[]"), " ", ",")
}

func (b *bough) shape() string {
	var parts []string
	for i, key := range b.keys {
		switch {
		case !b.leaf:
			parts = append(parts, b.kids[i].shape(), shortKey(key))
		case len(b.vals[i].pages) > 0:
			parts = append(parts, fmt.Sprintf("%s:%d@%s", shortKey(key), len(b.vals[i].text), withCommas(b.vals[i].pages)))
		default:
			parts = append(parts, fmt.Sprintf("%s:%d", shortKey(key), len(b.vals[i].text)))
		}
	}
	if b.leaf {
		return fmt.Sprintf("%d(%s)", b.page, strings.Join(parts, " "))
	}
	return fmt.Sprintf("%d[%s]", b.page, strings.Join(append(parts, b.kids[len(b.kids)-1].shape()), " "))
}

// shortKey tells letters that stand more than three times in a row by their number.
func shortKey(key string) string {
	var text string
	for i := 0; i < len(key); {
		run := 1
		for i+run < len(key) && key[i+run] == key[i] {
			run++
		}
		one := strings.Trim(fmt.Sprintf("%q", key[i:i+1]), `"`)
		if run > 3 {
			text += fmt.Sprintf("%s*%d", one, run)
		} else {
			text += strings.Repeat(one, run)
		}
		i += run
	}
	return text
}
