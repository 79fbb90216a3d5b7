package tests

import (
	"encoding/binary"
	"hash/crc32"
	"maps"
	"slices"
	"strings"
	"testing"

	"loop.example/g00001/impl"
)

// woodGrower makes keys, values, and valid images of all forms, also of such as no put or drop would leave.
type woodGrower struct {
	grower
	style int
	bulky bool // many values are long
}

// key has letters at both ends of the bytes; by the style it is short, or long, or begins as all others do.
func (g woodGrower) key() string {
	letters := []string{"\x00", "a", "b", "c", "\xff"}
	var text string
	switch g.style {
	case 0:
		text = ""
	case 1:
		text = strings.Repeat("p", g.pick(0, 100, 116, 116, 116))
	case 2:
		text = strings.Repeat("q", g.pick(0, 1, 10, 30, 60, 90))
	case 3:
		text = "k"
	case 4:
		text = string(rune('A'+below(g.numberSource, 12))) + strings.Repeat("m", g.pick(60, 114, 114))
	}
	for range below(g.numberSource, 5) {
		text += letters[below(g.numberSource, len(letters))]
	}
	if g.style == 3 {
		text += string(rune('0' + below(g.numberSource, 60)))
	}
	if g.style == 2 && g.chance(3) {
		text += strings.Repeat("z", impl.MaxKey)
	}
	return text[:min(len(text), impl.MaxKey)]
}

func (g woodGrower) value() string {
	size := g.pick(0, 0, 1, 2, 5, 30, 60, 63, impl.MaxInline)
	if g.chance(6) {
		size = g.pick(impl.MaxInline+1, 100, impl.OverData-1, impl.OverData, impl.OverData+1, 2*impl.OverData, 2*impl.OverData+1, impl.MaxVal-1, impl.MaxVal)
	}
	if g.bulky && !g.chance(6) {
		size = g.pick(impl.OverData, 5*impl.OverData, impl.MaxVal-1, impl.MaxVal)
	}
	return string(grownBytes(g.numberSource, size))
}

// leaves cuts some pairs, in order, into leaves.
func (g woodGrower) leaves(count int) []*bough {
	pairs := map[string]string{}
	for range count {
		pairs[g.key()] = g.value()
	}
	list := []*bough{{leaf: true}}
	stop := g.pick(2, 4, 30)
	for _, key := range slices.Sorted(maps.Keys(pairs)) {
		last := list[len(list)-1]
		grown := &bough{leaf: true, keys: append(slices.Clone(last.keys), key), vals: append(slices.Clone(last.vals), kept{text: pairs[key]})}
		if len(last.keys) > 0 && (grown.used() > inUse || g.chance(stop)) {
			list = append(list, &bough{leaf: true, keys: []string{key}, vals: []kept{{text: pairs[key]}}})
		} else {
			list[len(list)-1] = grown
		}
	}
	return list
}

// between is a key that stands between two boughs: the shortest one, or a longer one.
func (g woodGrower) between(left, right *bough) string {
	last, first := left.last(), right.first()
	size := len(commonBeginning([]string{last, first})) + 1
	return first[:size+below(g.numberSource, len(first)-size+1)*g.flag()]
}

func (b *bough) first() string {
	if b.leaf {
		return b.keys[0]
	}
	return b.kids[0].first()
}

func (b *bough) last() string {
	if b.leaf {
		return b.keys[len(b.keys)-1]
	}
	return b.kids[len(b.kids)-1].last()
}

// above puts boughs together to a level above them; some have one kid.
func (g woodGrower) above(kids []*bough) []*bough {
	var list []*bough
	stop := g.pick(1, 3, 30)
	for _, kid := range kids {
		if len(list) > 0 && !g.chance(stop) {
			last := list[len(list)-1]
			grown := &bough{keys: append(slices.Clone(last.keys), g.between(last, kid)), kids: append(slices.Clone(last.kids), kid)}
			if grown.used() <= inUse {
				list[len(list)-1] = grown
				continue
			}
		}
		list = append(list, &bough{kids: []*bough{kid}})
	}
	return list
}

// wood puts levels upon levels until one bough is left; page numbers stand in any order.
func (g woodGrower) wood(count int) *wood {
	level := g.leaves(count)
	for len(level) > 1 {
		level = g.above(level)
	}
	top := level[0]
	for !top.leaf && len(top.keys) == 0 {
		top = top.kids[0]
	}
	w := &wood{top: top, size: 1}
	w.number(top)
	for range below(g.numberSource, 4) {
		w.free = append(w.free, w.size)
		w.size++
	}
	places := append([]int{0}, make([]int, w.size-1)...)
	for i := 1; i < w.size; i++ {
		at := 1 + below(g.numberSource, i)
		places[i], places[at] = places[at], i
	}
	w.top.move(places)
	for i := range w.free {
		w.free[i] = places[w.free[i]]
	}
	return w
}

func (w *wood) number(b *bough) {
	b.page = w.size
	w.size++
	for i := range b.vals {
		for rest := len(b.vals[i].text); rest > 0 && len(b.vals[i].text) > impl.MaxInline; rest -= impl.OverData {
			b.vals[i].pages = append(b.vals[i].pages, w.size)
			w.size++
		}
	}
	for _, kid := range b.kids {
		w.number(kid)
	}
}

func (b *bough) move(places []int) {
	b.page = places[b.page]
	for _, v := range b.vals {
		for i := range v.pages {
			v.pages[i] = places[v.pages[i]]
		}
	}
	for _, kid := range b.kids {
		kid.move(places)
	}
}

// grownImage is valid.
func (g woodGrower) grownImage(most int) impl.Image {
	for {
		if w := g.wood(below(g.numberSource, most)); w.size <= impl.MaxPages {
			return w.image()
		}
	}
}

func copiedImage(m impl.Image) impl.Image {
	var pages [][]byte
	for _, p := range m.Pages {
		pages = append(pages, slices.Clone(p))
	}
	return impl.Image{Pages: pages}
}

func sameImage(a, b impl.Image) bool {
	return slices.EqualFunc(a.Pages, b.Pages, func(a, b []byte) bool { return slices.Equal(a, b) })
}

// summed has the right sums at the ends of its pages.
func summed(m impl.Image) impl.Image {
	for _, p := range m.Pages {
		if len(p) >= 4 {
			binary.BigEndian.PutUint32(p[len(p)-4:], crc32.ChecksumIEEE(p[:len(p)-4]))
		}
	}
	return m
}

// spoilt is another image: most are not valid, though their sums are right.
func (g woodGrower) spoilt(m impl.Image) impl.Image {
	m = copiedImage(m)
	at := below(g.numberSource, len(m.Pages))
	p := m.Pages[at]
	used := inUse - len(slices.Collect(noughtsAtEnd(p)))
	place := below(g.numberSource, min(inUse, used+3))
	switch below(g.numberSource, 12) {
	case 0:
		p[below(g.numberSource, len(p))] ^= 1 << below(g.numberSource, 8)
		return m
	case 1, 2, 3:
		p[place] += byte(g.pick(1, -1, 2))
	case 4, 5:
		p[place] = byte(g.pick(0, 1, 2, 3, 4, 5, below(g.numberSource, 256)))
	case 6:
		p[2] = byte(below(g.numberSource, len(m.Pages)+1))
	case 7:
		other := below(g.numberSource, len(m.Pages))
		m.Pages[at], m.Pages[other] = m.Pages[other], m.Pages[at]
	case 8:
		m.Pages = append(m.Pages, slices.Clone(p))
		m.Pages[0][6] = byte(len(m.Pages))
	case 9:
		m.Pages = slices.Delete(m.Pages, at, at+1)
	case 10:
		m.Pages[at] = append(p, make([]byte, g.pick(1, 4, 512))...)
	case 11:
		m.Pages[at] = p[:below(g.numberSource, len(p))]
	}
	return summed(m)
}

// noughtsAtEnd are those ahead of the sum.
func noughtsAtEnd(p []byte) func(yield func(b byte) bool) {
	return func(yield func(b byte) bool) {
		for i := inUse - 1; i >= 0 && p[i] == 0 && yield(p[i]); i-- {
		}
	}
}

// imageOf reads what shapeOfImage tells; a letter and *12 are twelve such letters.
func imageOf(t *testing.T, shape string) impl.Image {
	t.Helper()
	r := &shapeReader{rest: shape}
	w := &wood{top: r.bough()}
	if r.take(" free ") {
		w.free = r.numbers()
	}
	r.take(" of ")
	w.size = r.number()
	m := w.image()
	if got := shapeOfImage(m); got != shape {
		t.Fatalf("%s is read as %s", shape, got)
	}
	return m
}

type shapeReader struct{ rest string }

func (r *shapeReader) take(mark string) bool {
	rest, is := strings.CutPrefix(r.rest, mark)
	r.rest = rest
	return is
}

func (r *shapeReader) number() int {
	n := 0
	for r.rest != "" && r.rest[0] >= '0' && r.rest[0] <= '9' {
		n = 10*n + int(r.rest[0]-'0')
		r.rest = r.rest[1:]
	}
	return n
}

func (r *shapeReader) numbers() []int {
	list := []int{r.number()}
	for r.take(",") {
		list = append(list, r.number())
	}
	return list
}

func (r *shapeReader) key() string {
	at := strings.IndexAny(r.rest, ": ")
	text := longKey(r.rest[:at])
	r.rest = r.rest[at:]
	return text
}

// longKey writes out what shortKey tells.
func longKey(text string) string {
	r := &shapeReader{rest: text}
	var key string
	for r.rest != "" {
		one := r.rest[:1]
		r.rest = r.rest[1:]
		if r.take("*") {
			one = strings.Repeat(one, r.number())
		}
		key += one
	}
	return key
}

func (r *shapeReader) bough() *bough {
	b := &bough{page: r.number()}
	if b.leaf = r.take("("); b.leaf {
		for !r.take(")") {
			r.take(" ")
			key := r.key()
			r.take(":")
			v := kept{text: valueOf(key, r.number())}
			if r.take("@") {
				v.pages = r.numbers()
			}
			b.keys, b.vals = append(b.keys, key), append(b.vals, v)
		}
		return b
	}
	r.take("[")
	b.kids = append(b.kids, r.bough())
	for r.take(" ") {
		b.keys = append(b.keys, r.key())
		r.take(" ")
		b.kids = append(b.kids, r.bough())
	}
	r.take("]")
	return b
}

// valueOf is so long, and others begin otherwise.
func valueOf(key string, size int) string {
	letters := strings.Repeat("value of "+key+", ", 1+size/10)
	return letters[:size]
}
