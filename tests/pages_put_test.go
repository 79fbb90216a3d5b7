package tests

import (
	"strings"
	"testing"

	"loop.example/g00001/impl"
)

// putCase: what becomes of an image when a value of that size is put under a key.
type putCase struct {
	what, from, key string
	size            int
	want            string
}

func wantPutShapes(t *testing.T, cases []putCase) {
	t.Helper()
	for _, c := range cases {
		key := longKey(c.key)
		got, code := wantPut(t, imageOf(t, c.from), key, valueOf(key, c.size))
		if shape := shapeOfImage(got); code != impl.OK || shape != c.want {
			t.Errorf("%s: %d\n%s\nwant\n%s", c.what, code, shape, c.want)
		}
		if val, there, _, _ := impl.KvGet(got, []byte(key)); !there || string(val) != valueOf(key, c.size) {
			t.Errorf("%s: %s has %q", c.what, c.key, val)
		}
	}
}

func TestKvNew(t *testing.T) {
	want := impl.Image{Pages: [][]byte{sheet(1, two(1), two(0), two(2)), sheet(2, two(0), 0)}}
	if m := impl.KvNew(); !sameImage(m, want) || !impl.KvOK(m) || shapeOfImage(m) != "1() of 2" {
		t.Errorf("an empty tree: %s", shapeOfImage(m))
	}
	one, other := impl.KvNew(), impl.KvNew()
	clear(one.Pages[1])
	if !sameImage(other, want) {
		t.Errorf("two empty trees share memory")
	}
}

// TestKvPutByteByByte has the prefix grow and shrink, keys and values without bytes, and each kind of page.
func TestKvPutByteByByte(t *testing.T) {
	long := strings.Repeat("0123456789", 51) + "x"
	steps := []struct {
		key, val string
		want     []byte
	}{
		{"abc", "x", sheet(2, two(1), 3, "abc", 0, two(1), "x")},
		{"ab", "", sheet(2, two(2), 2, "ab", 0, two(0), 1, "c", two(1), "x")},
		{"abd\x00", "yz", sheet(2, two(3), 2, "ab", 0, two(0), 1, "c", two(1), "x", 2, "d\x00", two(2), "yz")},
		{"\xff", "\xff", sheet(2, two(4), 0, 2, "ab", two(0), 3, "abc", two(1), "x", 4, "abd\x00", two(2), "yz", 1, "\xff", two(1), "\xff")},
		{"ab", long, sheet(2, two(4), 0, 2, "ab", two(511), two(2), 3, "abc", two(1), "x", 4, "abd\x00", two(2), "yz", 1, "\xff", two(1), "\xff")},
		{"", "e", sheet(2, two(5), 0, 0, two(1), "e", 2, "ab", two(511), two(2), 3, "abc", two(1), "x", 4, "abd\x00", two(2), "yz", 1, "\xff", two(1), "\xff")},
	}
	m := impl.KvNew()
	for _, s := range steps {
		code := 0
		m, code = impl.KvPut(m, []byte(s.key), []byte(s.val))
		if code != impl.OK || string(m.Pages[1]) != string(s.want) {
			t.Fatalf("%q: %d %v", s.key, code, m.Pages[1])
		}
	}
	want := impl.Image{Pages: [][]byte{sheet(1, two(1), two(0), two(4)), steps[5].want, sheet(4, two(3), two(500), long[:500]), sheet(4, two(0), two(11), long[500:])}}
	if !sameImage(m, want) {
		t.Errorf("a long value: %s", shapeOfImage(m))
	}
	m, code := impl.KvPut(m, []byte("ab"), []byte("short"))
	if code != impl.OK || string(m.Pages[0]) != string(sheet(1, two(1), two(3), two(4))) || string(m.Pages[2]) != string(sheet(5, two(0))) || string(m.Pages[3]) != string(sheet(5, two(2))) {
		t.Errorf("a short value in its place: %d %s", code, shapeOfImage(m))
	}
}

func TestKvPutOfLongValues(t *testing.T) {
	empty := "1() of 2"
	wantPutShapes(t, []putCase{
		{"no bytes", empty, "k", 0, "1(k:0) of 2"},
		{"MaxInline bytes", empty, "k", impl.MaxInline, "1(k:64) of 2"},
		{"one more", empty, "k", impl.MaxInline + 1, "1(k:65@2) of 3"},
		{"one less than OverData", empty, "k", impl.OverData - 1, "1(k:499@2) of 3"},
		{"OverData", empty, "k", impl.OverData, "1(k:500@2) of 3"},
		{"one more", empty, "k", impl.OverData + 1, "1(k:501@2,3) of 4"},
		{"twice OverData", empty, "k", 2 * impl.OverData, "1(k:1000@2,3) of 4"},
		{"one more", empty, "k", 2*impl.OverData + 1, "1(k:1001@2,3,4) of 5"},
		{"MaxVal", empty, "k", impl.MaxVal, "1(k:4000@2,3,4,5,6,7,8,9) of 10"},
		{"pages that are free", "1(a:70@3) free 4,2 of 5", "k", 1400, "1(a:70@3 k:1400@4,2,5) of 6"},
		{"more free pages than are taken", "3(a:1) free 4,2,1 of 5", "k", 1000, "3(a:1 k:1000@4,2) free 1 of 5"},
	})
}

// TestKvPutOfAKeyThatIsThere: the last page that was freed is the first that is taken again.
func TestKvPutOfAKeyThatIsThere(t *testing.T) {
	from := "1(j:1 k:1200@2,3,4 l:70@5) free 6 of 7"
	wantPutShapes(t, []putCase{
		{"a short one for a short one", from, "j", 2, "1(j:2 k:1200@2,3,4 l:70@5) free 6 of 7"},
		{"a short one for a long one", from, "k", 2, "1(j:1 k:2 l:70@5) free 4,3,2,6 of 7"},
		{"a long one for a short one", from, "j", 600, "1(j:600@6,7 k:1200@2,3,4 l:70@5) of 8"},
		{"a long one, as long", from, "k", 1200, "1(j:1 k:1200@4,3,2 l:70@5) free 6 of 7"},
		{"a long one, one page less", from, "k", 1000, "1(j:1 k:1000@4,3 l:70@5) free 2,6 of 7"},
		{"a long one, two pages more", from, "k", 2001, "1(j:1 k:2001@4,3,2,6,7 l:70@5) of 8"},
		{"one page for one page", from, "l", 500, "1(j:1 k:1200@2,3,4 l:500@5) free 6 of 7"},
		{"the only key", "1(k:65@2) of 3", "k", 0, "1(k:0) free 2 of 3"},
		{"a value that makes the leaf split", "1(a:64 b:64 c:64 d:64 e:64 f:64 g:64 h:0) of 2", "h", 64, "3[1(a:64 b:64 c:64 d:64) e 2(e:64 f:64 g:64 h:64)] of 4"},
		{"a long value that stands in less of the leaf", "1(a:64 b:64 c:64 d:64 e:64 f:64 g:64 h:0) of 2", "g", 65, "1(a:64 b:64 c:64 d:64 e:64 f:64 g:65@2 h:0) of 3"},
	})
}

func TestKvPutSplitsALeaf(t *testing.T) {
	seven := "1(b:64 c:64 d:64 f:64 g:64 h:64 i:64) of 2"
	wantPutShapes(t, []putCase{
		{"as much as fits", "1(b:64 c:64 d:64 f:64 g:64 h:64 i:64) of 2", "j", 24, "1(b:64 c:64 d:64 f:64 g:64 h:64 i:64 j:24) of 2"},
		{"one byte more", "1(b:64 c:64 d:64 f:64 g:64 h:64 i:64) of 2", "j", 25, "3[1(b:64 c:64 d:64 f:64) g 2(g:64 h:64 i:64 j:25)] of 4"},
		{"the key behind all", seven, "j", 64, "3[1(b:64 c:64 d:64 f:64) g 2(g:64 h:64 i:64 j:64)] of 4"},
		{"the key ahead of all", seven, "a", 64, "3[1(a:64 b:64 c:64 d:64) f 2(f:64 g:64 h:64 i:64)] of 4"},
		{"the key first on the right", seven, "e", 64, "3[1(b:64 c:64 d:64 e:64) f 2(f:64 g:64 h:64 i:64)] of 4"},
		{"overflow pages are taken first, then the right part, then the root", "1(b:64 c:64 d:64 f:64 g:64 h:64 i:64 j:22) of 2", "k", 501, "5[1(b:64 c:64 d:64 f:64) g 4(g:64 h:64 i:64 j:22 k:501@2,3)] of 6"},
		{"so they are of free pages", "2(b:64 c:64 d:64 f:64 g:64 h:64 i:64 j:22) free 6,5,4,3,1 of 7", "k", 501, "3[2(b:64 c:64 d:64 f:64) g 4(g:64 h:64 i:64 j:22 k:501@6,5)] free 1 of 7"},
		{"a tie of two cuts", "1(a*120:64 b*120:64) of 2", "c*120", 64, "3[1(a*120:64) b 2(b*120:64 c*120:64)] of 4"},
		{"a tie in the midst of nine", "1(a:56 b:56 c:56 d:56 e:56 f:56 g:56 h:56) of 2", "i", 56, "3[1(a:56 b:56 c:56 d:56) e 2(e:56 f:56 g:56 h:56 i:56)] of 4"},
		{"a byte less on the left tells more than a tie", "1(a:55 b:56 c:56 d:56 e:56 f:56 g:56 h:56) of 2", "i", 56, "3[1(a:55 b:56 c:56 d:56 e:56) f 2(f:56 g:56 h:56 i:56)] of 4"},
		{"each part has a prefix of its own", "1(m*100a:0 m*100b:0 n*100a:0 n*100b:0) of 2", "n*100c", 0, "3[1(m*100a:0 m*100b:0) n 2(n*100a:0 n*100b:0 n*100c:0)] of 4"},
		{"three keys that begin alike, and one that is long", "1(m*119a:64 m*119b:64 m*119c:64) of 2", "z*120", 64, "3[1(m*119a:64 m*119b:64) m*119c 2(m*119c:64 z*120:64)] of 4"},
		{"the right part of many keys", "1(a:64 b:64 c:64 d:0 e:0 f:0 g:64 h:64 i:64 j:64 k:0) of 2", "l", 64, "3[1(a:64 b:64 c:64 d:0 e:0 f:0 g:64) h 2(h:64 i:64 j:64 k:0 l:64)] of 4"},
		{"a leaf below a root", "3[1(a:1) b 2(b:64 c:64 d:64 f:64 g:64 h:64 i:64)] of 4", "e", 64, "3[1(a:1) b 2(b:64 c:64 d:64 e:64) f 4(f:64 g:64 h:64 i:64)] of 5"},
		{"the first leaf below a root", "3[1(b:64 c:64 d:64 f:64 g:64 h:64 i:64) p 2(p:1)] free 4 of 5", "e", 64, "3[1(b:64 c:64 d:64 e:64) f 4(f:64 g:64 h:64 i:64) p 2(p:1)] of 5"},
		{"a leaf in the midst", "4[1(a:1) b 2(b:64 c:64 d:64 f:64 g:64 h:64 i:64) p 3(p:1)] of 5", "e", 64, "4[1(a:1) b 2(b:64 c:64 d:64 e:64) f 5(f:64 g:64 h:64 i:64) p 3(p:1)] of 6"},
		{"a leaf below a page with one kid", "5[1[2(a:1)] b 3[4(b:64 c:64 d:64 f:64 g:64 h:64 i:64)]] of 6", "e", 64, "5[1[2(a:1)] b 3[4(b:64 c:64 d:64 e:64) f 6(f:64 g:64 h:64 i:64)]] of 7"},
	})
}

// TestKvPutGoesToTheKidOfAKey: a key that is that of the page above belongs behind it.
func TestKvPutGoesToTheKidOfAKey(t *testing.T) {
	from := "4[1(b:1) d 2(e:1) g 3(h:1)] of 5"
	wantPutShapes(t, []putCase{
		{"ahead of all", from, "a", 0, "4[1(a:0 b:1) d 2(e:1) g 3(h:1)] of 5"},
		{"just less than a key", from, "cz", 0, "4[1(b:1 cz:0) d 2(e:1) g 3(h:1)] of 5"},
		{"a key", from, "d", 0, "4[1(b:1) d 2(d:0 e:1) g 3(h:1)] of 5"},
		{"behind a key", from, "f", 0, "4[1(b:1) d 2(e:1 f:0) g 3(h:1)] of 5"},
		{"the last key", from, "g", 0, "4[1(b:1) d 2(e:1) g 3(g:0 h:1)] of 5"},
		{"behind all", from, "z", 0, "4[1(b:1) d 2(e:1) g 3(h:1 z:0)] of 5"},
		{"no bytes", from, "", 0, "4[1(:0 b:1) d 2(e:1) g 3(h:1)] of 5"},
	})
}

// TestTheShortestKeyBetween has eight keys of which the fourth and the fifth are these.
func TestTheShortestKeyBetween(t *testing.T) {
	for _, c := range []struct{ left, right, want string }{
		{"d", "e", "e"}, {"d", "eeeee", "e"}, {"dzzz", "e", "e"}, {"da", "dab", "dab"}, {"da", "da\x00", "da\x00"}, {"dab", "dac", "dac"}, {"dabx", "dacy", "dac"},
		{"d\xff\xff", "e\x00", "e"}, {"d", "da", "da"}, {"d", "daaa", "da"}, {"dabc", "dabcdef", "dabcd"}, {"dd\x00", "dd\x01", "dd\x01"},
		{strings.Repeat("d", 119), strings.Repeat("d", 120), strings.Repeat("d", 120)},
		{strings.Repeat("d", 60) + "a", strings.Repeat("d", 60) + strings.Repeat("b", 60), strings.Repeat("d", 60) + "b"},
	} {
		size := min(impl.MaxInline, (478-len(c.left)-len(c.right))/7)
		leaf := &bough{page: 1, leaf: true, keys: []string{"a", "b", "c", c.left, c.right, "f", "g"}}
		for range leaf.keys {
			leaf.vals = append(leaf.vals, kept{text: strings.Repeat("v", size)})
		}
		m, code := wantPut(t, (&wood{top: leaf, size: 2}).image(), "h", strings.Repeat("v", impl.MaxInline))
		w, ok := readWood(m)
		if code != impl.OK || !ok || len(w.top.keys) != 1 || w.top.kids[1].first() != c.right {
			t.Fatalf("%q and %q: %s", c.left, c.right, shapeOfImage(m))
		}
		if w.top.keys[0] != c.want {
			t.Errorf("between %q and %q: %q, want %q", c.left, c.right, w.top.keys[0], c.want)
		}
	}
}

// TestTheBestCutThatFits: a key that begins otherwise makes each key beside it longer by 118 bytes. Five with it would be
// nearest to the half.
func TestTheBestCutThatFits(t *testing.T) {
	leaf := &bough{page: 1, leaf: true}
	for i := range 96 {
		leaf.keys = append(leaf.keys, strings.Repeat("p", 118)+string([]byte{byte(i + 1)}))
		leaf.vals = append(leaf.vals, kept{})
	}
	m := (&wood{top: leaf, size: 2}).image()
	for size, want := range map[int]int{11: 5, 12: 5, 13: 4, 14: 4} {
		got, code := wantPut(t, m, "A", strings.Repeat("v", size))
		if code != impl.OK || numberIn(got.Pages[1], 1) != want || numberIn(got.Pages[2], 1) != 97-want {
			t.Errorf("%d bytes: %d on the left, want %d, code %d", size, numberIn(got.Pages[1], 1), want, code)
		}
		got, code = wantPut(t, m, "z", strings.Repeat("v", size))
		if code != impl.OK || numberIn(got.Pages[1], 1) != 97-want || numberIn(got.Pages[2], 1) != want {
			t.Errorf("%d bytes: %d on the right, want %d, code %d", size, numberIn(got.Pages[2], 1), want, code)
		}
	}
}

func TestKvPutSplitsAnInnerPage(t *testing.T) {
	full := "2(c*119e:64 c*119f:64 c*119g:64 c*119i:64 c*119j:64)"
	left, right := "2(c*119e:64 c*119f:64 c*119g:64)", "(c*119h:64 c*119i:64 c*119j:64)"
	wantPutShapes(t, []putCase{
		{
			"the root, in the midst", "6[1(a:0) b*120 " + full + " d*120 3(e:0) f*120 4(g:0) h*120 5(i:0)] of 7", "c*119h", 64,
			"9[6[1(a:0) b*120 " + left + " c*119h 7" + right + "] d*120 8[3(e:0) f*120 4(g:0) h*120 5(i:0)]] of 10",
		},
		{
			"free pages are taken", "6[1(a:0) b*120 " + full + " d*120 3(e:0) f*120 4(g:0) h*120 5(i:0)] free 9,7,8 of 10", "c*119h", 64,
			"8[6[1(a:0) b*120 " + left + " c*119h 9" + right + "] d*120 7[3(e:0) f*120 4(g:0) h*120 5(i:0)]] of 10",
		},
		{
			"the key that came goes up", "6[1(a:0) b*120 7(bc:0) c*117aa " + full + " d*120 4(g:0) h*120 5(i:0)] free 3 of 8", "c*119h", 64,
			"9[6[1(a:0) b*120 7(bc:0) c*117aa " + left + "] c*119h 8[3" + right + " d*120 4(g:0) h*120 5(i:0)]] of 10",
		},
		{
			"a page below the root", "9[6[1(a:0) b*120 " + full + " d*120 3(e:0) f*120 4(g:0) h*120 5(i:0)] m 7[8(n:0)]] of 10", "c*119h", 64,
			"9[6[1(a:0) b*120 " + left + " c*119h 10" + right + "] d*120 11[3(e:0) f*120 4(g:0) h*120 5(i:0)] m 7[8(n:0)]] of 12",
		},
		{
			"as many keys as fit", "6[1(a:0) b*120 " + full + " d*120 3(e:0) f*120 4(g:0)] free 5 of 7", "c*119h", 64,
			"6[1(a:0) b*120 " + left + " c*119h 5" + right + " d*120 3(e:0) f*120 4(g:0)] of 7",
		},
	})
}

// TestKvPutSplitsAnInnerPageAtATie: five keys fit, of six either the third or the fourth may go up.
func TestKvPutSplitsAnInnerPageAtATie(t *testing.T) {
	full := "2(c*89e:64 c*89f:64 c*89g:64 c*89i:64 c*89j:64 c*89k:64)"
	left, right := "2(c*89e:64 c*89f:64 c*89g:64)", "(c*89h:64 c*89i:64 c*89j:64 c*89k:64)"
	wantPutShapes(t, []putCase{
		{
			"alike", "7[1(a:0) b*90 " + full + " d*90 3(e:0) f*90 4(g:0) h*90 5(i:0) j*90 6(k:0)] of 8", "c*89h", 64,
			"10[7[1(a:0) b*90 " + left + " c*89h 8" + right + "] d*90 9[3(e:0) f*90 4(g:0) h*90 5(i:0) j*90 6(k:0)]] of 11",
		},
		{
			"the first is shorter", "7[1(a:0) b*89 " + full + " d*90 3(e:0) f*90 4(g:0) h*90 5(i:0) j*90 6(k:0)] of 8", "c*89h", 64,
			"10[7[1(a:0) b*89 " + left + " c*89h 8" + right + " d*90 3(e:0)] f*90 9[4(g:0) h*90 5(i:0) j*90 6(k:0)]] of 11",
		},
	})
}

// TestTheBestCutOfAnInnerPageThatFits: as of a leaf, a key comes that begins otherwise than all.
func TestTheBestCutOfAnInnerPageThatFits(t *testing.T) {
	for size, want := range map[int]int{14: 5, 15: 5, 16: 4, 17: 4} {
		for _, letter := range []string{"b", "z"} {
			m, begin := manyKids(t, letter, size)
			got, code := wantPut(t, m, begin+"d", strings.Repeat("v", impl.MaxInline))
			left, right := numberIn(got.Pages[1], 1), numberIn(got.Pages[len(m.Pages)+1], 1)
			if code != impl.OK || letter == "b" && left != want || letter == "z" && right != want || left+right != 95 || len(got.Pages) != len(m.Pages)+3 {
				t.Errorf("a key of %d letters %s: %d on the left, %d on the right, want %d, code %d", size, letter, left, right, want, code)
			}
		}
	}
}

// manyKids has an inner page of 95 keys of which 117 bytes are alike, and at one end a leaf that is full, whose keys have so many
// bytes and begin otherwise.
func manyKids(t *testing.T, letter string, size int) (m impl.Image, begin string) {
	t.Helper()
	top := &bough{page: 1}
	w := &wood{top: top, size: 2}
	begin = strings.Repeat(letter, size-1)
	end := &bough{page: w.takePage(), leaf: true}
	for _, last := range "acefghi" {
		end.keys, end.vals = append(end.keys, begin+string(last)), append(end.vals, kept{text: strings.Repeat("v", impl.MaxInline)})
	}
	first := 1
	if letter < "p" {
		first, top.kids = 0, append(top.kids, end)
	} else {
		top.kids = append(top.kids, &bough{page: w.takePage(), leaf: true, keys: []string{"a"}, vals: []kept{{}}})
	}
	for i := range 95 {
		key := strings.Repeat("p", 117) + string([]byte{byte(i + 1)})
		kid := &bough{page: w.takePage(), leaf: true, keys: []string{key}, vals: []kept{{}}}
		if first == 1 && i == 94 {
			kid = end
		}
		top.keys, top.kids = append(top.keys, key), append(top.kids, kid)
	}
	w.size -= first
	m = w.image()
	if !impl.KvOK(m) || top.used() != 503 {
		t.Fatalf("%d bytes are in use: %v", top.used(), impl.KvOK(m))
	}
	return m, begin
}

// manyPages is an image of so many pages: a leaf, of which each key but the last has eight overflow pages.
func manyPages(t *testing.T, size int) impl.Image {
	t.Helper()
	w := &wood{top: &bough{page: 1, leaf: true}, size: 2}
	for i := 0; w.size < size; i++ {
		v := kept{text: strings.Repeat("v", min(8, size-w.size)*impl.OverData)}
		for range len(v.text) / impl.OverData {
			v.pages = append(v.pages, w.takePage())
		}
		w.top.keys, w.top.vals = append(w.top.keys, "k"+string(rune('A'+i))), append(w.top.vals, v)
	}
	m := w.image()
	if !impl.KvOK(m) || len(m.Pages) != size {
		t.Fatalf("an image of %d pages: %s", size, shapeOfImage(m))
	}
	return m
}

func TestKvPutAtMaxPages(t *testing.T) {
	for size := impl.MaxPages - 8; size <= impl.MaxPages; size++ {
		m := manyPages(t, size)
		for pages := 1; pages <= 8; pages++ {
			got, code := wantPut(t, m, "z", strings.Repeat("w", pages*impl.OverData))
			if fits := size+pages <= impl.MaxPages; fits != (code == impl.OK) || !fits && code != impl.ErrFull || fits && len(got.Pages) != size+pages {
				t.Errorf("%d pages and %d: %d, %d pages", size, pages, code, len(got.Pages))
			}
		}
	}
	m := manyPages(t, impl.MaxPages)
	before := copiedImage(m)
	if got, code := impl.KvPut(m, []byte("z"), make([]byte, impl.MaxInline+1)); code != impl.ErrFull || len(got.Pages) != 0 || !sameImage(m, before) {
		t.Errorf("one page too many: %d", code)
	}
	if got, code := wantPut(t, m, "z", "short"); code != impl.OK || len(got.Pages) != impl.MaxPages {
		t.Errorf("a short value in a full image: %d", code)
	}
	if got, code := wantPut(t, m, "kA", strings.Repeat("w", impl.MaxVal)); code != impl.OK || len(got.Pages) != impl.MaxPages {
		t.Errorf("a value as long as the one that was there: %d", code)
	}
	if _, code := wantPut(t, m, "kB", strings.Repeat("w", 100)); code != impl.OK {
		t.Errorf("a value shorter than the one that was there: %d", code)
	}
	less, _ := wantDrop(t, m, "kA")
	if _, code := wantPut(t, less, "z", strings.Repeat("w", impl.MaxVal)); code != impl.OK {
		t.Errorf("as many pages as are free: %d", code)
	}
}

// TestKvPutSplitsAtMaxPages has a leaf that is full: it and the root need two pages.
func TestKvPutSplitsAtMaxPages(t *testing.T) {
	for size, want := range map[int]int{impl.MaxPages - 3: impl.OK, impl.MaxPages - 2: impl.OK, impl.MaxPages - 1: impl.ErrFull, impl.MaxPages: impl.ErrFull} {
		m := manyPages(t, size)
		code, last := impl.OK, m
		for i := 0; code == impl.OK && pagesOfKind(m, 3) == 0; i++ {
			last = m
			m, code = wantPut(t, m, "z"+string(rune('A'+i)), strings.Repeat("w", impl.MaxInline))
		}
		if code != want || want == impl.ErrFull && (len(m.Pages) > 0 || !impl.KvOK(last)) {
			t.Errorf("%d pages: %d", size, code)
		}
	}
}

func TestKvPutOfWrongArguments(t *testing.T) {
	m := impl.KvNew()
	longest, _ := wantPut(t, m, strings.Repeat("k", impl.MaxKey), strings.Repeat("v", impl.MaxVal))
	if !impl.KvOK(longest) || len(longest.Pages) != 10 {
		t.Errorf("the longest key and value: %s", shapeOfImage(longest))
	}
	for _, c := range []struct{ key, val int }{{impl.MaxKey + 1, 0}, {0, impl.MaxVal + 1}, {impl.MaxKey + 1, impl.MaxVal + 1}, {1 << 16, 1}, {1, 1 << 16}} {
		for _, m := range []impl.Image{m, longest, manyPages(t, impl.MaxPages)} {
			if got, code := impl.KvPut(m, make([]byte, c.key), make([]byte, c.val)); code != impl.ErrBad || len(got.Pages) != 0 {
				t.Errorf("a key of %d bytes, a value of %d: %d", c.key, c.val, code)
			}
		}
	}
}
