package tests

import (
	"fmt"
	"math"
	"slices"
	"strings"
	"testing"

	"loop.example/g00001/impl"
)

func TestKvDrop(t *testing.T) {
	deep := "9[8[7[1(a:1)]] b 6[5[2(b:1)]]] free 3,4 of 10"
	for _, c := range []struct{ what, from, key, want string }{
		{"an entry of a leaf", "3[1(a:1 b:1) c 2(c:1)] of 4", "b", "3[1(a:1) c 2(c:1)] of 4"},
		{"the first entry of a leaf", "3[1(a:1) c 2(c:1 d:1)] of 4", "c", "3[1(a:1) c 2(d:1)] of 4"},
		{"a leaf goes, then the root, which has one kid", "3[1(a:1 b:1) c 2(c:1)] of 4", "c", "1(a:1 b:1) free 3,2 of 4"},
		{"the first leaf goes, then the root", "3[1(a:1) c 2(c:1 d:1)] of 4", "a", "2(c:1 d:1) free 3,1 of 4"},
		{"the first kid, with the key behind", "4[1(a:1) b 2(b:1) c 3(c:1)] of 5", "a", "4[2(b:1) c 3(c:1)] free 1 of 5"},
		{"a kid in the midst, with the key ahead", "4[1(a:1) b 2(b:1) c 3(c:1)] of 5", "b", "4[1(a:1) c 3(c:1)] free 2 of 5"},
		{"the last kid", "4[1(a:1) b 2(b:1) c 3(c:1)] of 5", "c", "4[1(a:1) b 2(b:1)] free 3 of 5"},
		{"a long value", "1(a:1200@4,2,3 b:70@5) free 6 of 7", "a", "1(b:70@5) free 3,2,4,6 of 7"},
		{"a long value, a leaf, a root", "3[1(a:1) b 2(b:1200@4,5,6)] of 7", "b", "1(a:1) free 3,2,6,5,4 of 7"},
		{"a page with one kid goes with it", "9[8[1(a:1) b 2(b:1)] c 7[3(c:1)]] free 4,5,6 of 10", "c", "8[1(a:1) b 2(b:1)] free 9,7,3,4,5,6 of 10"},
		{"a page with one kid, the first", "9[7[3(a:1)] c 8[1(c:1) d 2(d:1)]] free 4,5,6 of 10", "a", "8[1(c:1) d 2(d:1)] free 9,7,3,4,5,6 of 10"},
		{"a page below the root keeps one kid", "9[8[1(a:1)] b 7[2(b:1) c 3(c:1)]] free 4,5,6 of 10", "b", "9[8[1(a:1)] b 7[3(c:1)]] free 2,4,5,6 of 10"},
		{"a page with one kid in the midst of three", "9[8[1(a:1)] b 7[2(b:1)] c 6[3(c:1)]] free 4,5 of 10", "b", "9[8[1(a:1)] c 6[3(c:1)]] free 7,2,4,5 of 10"},
		{"the root becomes lower by several pages", deep, "b", "1(a:1) free 7,8,9,6,5,2,3,4 of 10"},
		{"the same, from the other side", deep, "a", "2(b:1) free 5,6,9,8,7,1,3,4 of 10"},
		{"the root becomes lower by two, and stays an inner page", "9[8[7[1(a:1) b 2(b:1)]] c 6[5[3(c:65@4)]]] of 10", "c", "7[1(a:1) b 2(b:1)] free 8,9,6,5,3,4 of 10"},
		{"the last key", "3(a:5) free 1,2 of 4", "a", "3() free 1,2 of 4"},
		{"the last key, a long one", "1(a:501@2,3) of 4", "a", "1() free 3,2 of 4"},
		{"a key without bytes", "1(:1 a:1) of 2", "", "1(a:1) of 2"},
		{"the prefix becomes longer", "1(aab:1 aac:1 b:1) of 2", "b", "1(aab:1 aac:1) of 2"},
		{"a prefix of an inner page becomes longer", "5[1(a:1) aab 2(aab:1) aac 3(aac:1) b 4(b:1)] of 6", "b", "5[1(a:1) aab 2(aab:1) aac 3(aac:1)] free 4 of 6"},
		{"a key that is that of the page above", "3[1(a:1) b 2(b:1 c:1)] of 4", "b", "3[1(a:1) b 2(c:1)] of 4"},
	} {
		got, there := wantDrop(t, imageOf(t, c.from), longKey(c.key))
		if shape := shapeOfImage(got); !there || shape != c.want {
			t.Errorf("%s: %v\n%s\nwant\n%s", c.what, there, shape, c.want)
		}
	}
}

func TestKvDropByteByByte(t *testing.T) {
	m := imageOf(t, "3[1(aab:1 aac:70@4 b:1) c 2(c:1)] of 5")
	m, there, code := impl.KvDrop(m, []byte("b"))
	if !there || code != impl.OK || string(m.Pages[1]) != string(sheet(2, two(2), 2, "aa", 1, "b", two(1), "v", 1, "c", two(70), two(4))) {
		t.Errorf("a leaf with a longer prefix: %v %d %v", there, code, m.Pages[1])
	}
	m, there, code = impl.KvDrop(m, []byte("aac"))
	if !there || code != impl.OK || string(m.Pages[1]) != string(sheet(2, two(1), 3, "aab", 0, two(1), "v")) || string(m.Pages[4]) != string(sheet(5, two(0))) {
		t.Errorf("a long value: %v %d %v", there, code, m.Pages[1])
	}
	m, there, code = impl.KvDrop(m, []byte("c"))
	want := impl.Image{Pages: [][]byte{sheet(1, two(1), two(3), two(5)), sheet(2, two(1), 3, "aab", 0, two(1), "v"), sheet(5, two(4)), sheet(5, two(2)), sheet(5, two(0))}}
	if !there || code != impl.OK || !sameImage(m, want) {
		t.Errorf("a leaf and the root: %v %d %s", there, code, shapeOfImage(m))
	}
	m, there, code = impl.KvDrop(m, []byte("aab"))
	want.Pages[1] = sheet(2, two(0), 0)
	if !there || code != impl.OK || !sameImage(m, want) {
		t.Errorf("the last key: %v %d %s", there, code, shapeOfImage(m))
	}
}

func TestKvDropOfAKeyThatIsNotThere(t *testing.T) {
	for _, shape := range []string{"1() of 2", "1(b:1) of 2", "4[1(b:1) d 2(e:1200@5,6,7) g 3(h:1)] free 8 of 9"} {
		m := imageOf(t, shape)
		for _, key := range []string{"", "a", "ba", "d", "f", "g", "z", "e\x00", strings.Repeat("z", impl.MaxKey)} {
			got, there, code := impl.KvDrop(m, []byte(key))
			if there || code != impl.OK || !sameImage(got, m) {
				t.Errorf("%s without %s: %v %d %s", shape, shortKey(key), there, code, shapeOfImage(got))
			}
		}
	}
}

// TestPutAndDropOfAll drops in several orders what was put: an empty tree is left, and all pages else are free.
func TestPutAndDropOfAll(t *testing.T) {
	for order := range 3 {
		m, held := impl.KvNew(), map[string]string{}
		var keys []string
		for i := range 70 {
			key := fmt.Sprintf("key %03d", i*37%70)
			keys = append(keys, key)
			held[key] = strings.Repeat("v", []int{5, 64, 65, 700}[i%4])
			m, _ = wantPut(t, m, key, held[key])
		}
		wantScan(t, m, pairsOf(held), "", "", impl.MaxScan)
		most := len(m.Pages)
		switch order {
		case 1:
			slices.Sort(keys)
		case 2:
			slices.Sort(keys)
			slices.Reverse(keys)
		}
		for _, key := range keys {
			m, _ = wantDrop(t, m, key)
			delete(held, key)
			wantScan(t, m, pairsOf(held), "", "", impl.MaxScan)
		}
		w, ok := readWood(m)
		if !ok || !w.top.leaf || len(w.top.keys) != 0 || len(w.free) != most-2 || len(m.Pages) != most {
			t.Errorf("order %d: %s", order, shapeOfImage(m))
		}
	}
}

func TestKvGetTellsThePagesItRead(t *testing.T) {
	m := imageOf(t, "7[8[1(ab:1 ac:600@3,2) b 4(b:0)] c 9[5(ca:1 cb:1 cc:65@6)]] free 10,11 of 12")
	for _, c := range []struct {
		key   string
		there bool
		size  int
		pages []int
	}{
		{"", false, 0, []int{0, 7, 8, 1}}, {"a", false, 0, []int{0, 7, 8, 1}}, {"ab", true, 1, []int{0, 7, 8, 1}}, {"abc", false, 0, []int{0, 7, 8, 1}},
		{"ac", true, 600, []int{0, 7, 8, 1, 3, 2}}, {"ac\x00", false, 0, []int{0, 7, 8, 1}}, {"b", true, 0, []int{0, 7, 8, 4}}, {"bz", false, 0, []int{0, 7, 8, 4}},
		{"c", false, 0, []int{0, 7, 9, 5}}, {"ca", true, 1, []int{0, 7, 9, 5}}, {"cc", true, 65, []int{0, 7, 9, 5, 6}}, {"d", false, 0, []int{0, 7, 9, 5}},
	} {
		val, there, pages, code := impl.KvGet(m, []byte(c.key))
		if code != impl.OK || there != c.there || string(val) != valueOf(c.key, c.size) || !slices.Equal(pages, c.pages) {
			t.Errorf("%q: %d bytes %v %v %d", c.key, len(val), there, pages, code)
		}
	}
	val, there, pages, code := impl.KvGet(impl.KvNew(), []byte("a"))
	if code != impl.OK || there || len(val) != 0 || !slices.Equal(pages, []int{0, 1}) {
		t.Errorf("of an empty tree: %v %v %v %d", val, there, pages, code)
	}
	longest, _ := impl.KvPut(impl.KvNew(), []byte(strings.Repeat("k", impl.MaxKey)), []byte(valueOf("k", impl.MaxVal)))
	val, there, pages, code = impl.KvGet(longest, []byte(strings.Repeat("k", impl.MaxKey)))
	if code != impl.OK || !there || string(val) != valueOf("k", impl.MaxVal) || !slices.Equal(pages, []int{0, 1, 2, 3, 4, 5, 6, 7, 8, 9}) {
		t.Errorf("the longest key and value: %d bytes %v %v %d", len(val), there, pages, code)
	}
}

func TestKvScan(t *testing.T) {
	m := imageOf(t, "7[8[1(ab:1 ac:600@3,2) b 4(b:0)] c 9[5(ca:1 cb:1 cc:65@6)]] free 10,11 of 12")
	all := []string{"ab", "ac", "b", "ca", "cb", "cc"}
	sizes := map[string]int{"ab": 1, "ac": 600, "b": 0, "ca": 1, "cb": 1, "cc": 65}
	for _, c := range []struct {
		from, to string
		most     int
		want     []string
	}{
		{"", "", impl.MaxScan, all}, {"", "", 6, all}, {"", "", 5, all[:5]}, {"", "", 1, all[:1]}, {"", "", 0, nil},
		{"ab", "", 9, all}, {"ab\x00", "", 9, all[1:]}, {"b", "", 9, all[2:]}, {"b\x00", "", 9, all[3:]}, {"cc", "", 9, all[5:]}, {"cd", "", 9, nil}, {"zz", "", 9, nil},
		{"", "ab", 9, nil}, {"", "ab\x00", 9, all[:1]}, {"", "b", 9, all[:2]}, {"", "c", 9, all[:3]}, {"", "cc", 9, all[:5]}, {"", "d", 9, all}, {"", "\x00", 9, nil},
		{"ac", "cb", 9, all[1:4]}, {"ac", "cb", 3, all[1:4]}, {"ac", "cb", 2, all[1:3]}, {"ac", "cb", 0, nil}, {"b", "b", 9, nil}, {"b", "b\x00", 9, all[2:3]}, {"cb", "ac", 9, nil}, {"bb", "bz", 9, nil},
		{strings.Repeat("a", impl.MaxKey), strings.Repeat("c", impl.MaxKey), impl.MaxScan, all}, {"", strings.Repeat("b", impl.MaxKey), 9, all[:3]},
	} {
		got, code := impl.KvScan(m, []byte(c.from), []byte(c.to), c.most)
		var keys []string
		for _, pair := range got {
			key := string(pair.Key)
			keys = append(keys, key)
			if string(pair.Val) != valueOf(key, sizes[key]) {
				t.Errorf("%q has %q", key, pair.Val)
			}
		}
		if code != impl.OK || !slices.Equal(keys, c.want) {
			t.Errorf("from %q to %q, %d: %v %d, want %v", shortKey(c.from), shortKey(c.to), c.most, keys, code, c.want)
		}
	}
}

// TestKvScanAtMaxScan has more pairs than a scan may tell.
func TestKvScanAtMaxScan(t *testing.T) {
	g := woodGrower{grower: grower{&numberSource{state: 1429}}}
	level := []*bough{{leaf: true}}
	held := map[string]string{}
	for i := range impl.MaxScan + 50 {
		key, last := fmt.Sprintf("%02x%02x", i/100, i%100), level[len(level)-1]
		held[key] = ""
		if len(last.keys) == 100 {
			last = &bough{leaf: true}
			level = append(level, last)
		}
		last.keys, last.vals = append(last.keys, key), append(last.vals, kept{})
	}
	for len(level) > 1 {
		level = g.above(level)
	}
	w := &wood{top: level[0], size: 1}
	w.number(w.top)
	m, all := w.image(), pairsOf(held)
	for _, most := range []int{0, 1, impl.MaxScan - 1, impl.MaxScan} {
		if got := wantScan(t, m, all, "", "", most); got != most {
			t.Errorf("at most %d: %d", most, got)
		}
	}
	if got := wantScan(t, m, all, "01", "", impl.MaxScan); got != impl.MaxScan+50-100 {
		t.Errorf("from the second leaf on: %d", got)
	}
	wantScan(t, m, all, "01", "0a05", impl.MaxScan)
}

func TestWrongArgumentsOfTrees(t *testing.T) {
	m := imageOf(t, "3[1(a:1) b 2(b:1)] of 4")
	long := make([]byte, impl.MaxKey+1)
	if val, there, pages, code := impl.KvGet(m, long); code != impl.ErrBad || there || len(val)+len(pages) > 0 {
		t.Errorf("KvGet of a long key: %v %v %v %d", val, there, pages, code)
	}
	if val, there, pages, code := impl.KvGet(m, long[1:]); code != impl.OK || there || len(val) > 0 || len(pages) != 3 {
		t.Errorf("KvGet of the longest key: %v %v %v %d", val, there, pages, code)
	}
	if got, there, code := impl.KvDrop(m, long); code != impl.ErrBad || there || len(got.Pages) > 0 {
		t.Errorf("KvDrop of a long key: %v %d", there, code)
	}
	if got, there, code := impl.KvDrop(m, long[1:]); code != impl.OK || there || !sameImage(got, m) {
		t.Errorf("KvDrop of the longest key: %v %d", there, code)
	}
	for _, c := range []struct {
		from, to []byte
		most     int
	}{{long, nil, 1}, {nil, long, 1}, {long, long, 1}, {nil, nil, -1}, {nil, nil, impl.MaxScan + 1}, {nil, nil, math.MaxInt}, {nil, nil, math.MinInt}, {long, nil, 0}} {
		if pairs, code := impl.KvScan(m, c.from, c.to, c.most); code != impl.ErrBad || len(pairs) > 0 {
			t.Errorf("from %d bytes to %d, %d: %v %d", len(c.from), len(c.to), c.most, pairs, code)
		}
	}
	if pairs, code := impl.KvScan(m, long[1:], long[1:], 1); code != impl.OK || len(pairs) > 0 {
		t.Errorf("from and to the longest key: %v %d", pairs, code)
	}
}

// bytesApart asks that no two lists share memory, nor what is behind their ends.
func bytesApart(t *testing.T, what string, lists [][]byte) {
	t.Helper()
	for i, list := range lists {
		kept := make([]string, len(lists))
		for k := range lists {
			kept[k] = string(lists[k])
		}
		for k := range list {
			list[k] ^= 255
		}
		more := append(list, 1, 2, 3, 4)
		for k := range more {
			more[k] ^= 85
		}
		for k := range lists {
			if k != i && string(lists[k]) != kept[k] {
				t.Fatalf("%s: list %d shares memory with list %d", what, k, i)
			}
		}
	}
}

func TestAnswersOfTreesAreNewMemory(t *testing.T) {
	shape := "7[8[1(ab:1 ac:600@3,2) b 4(b:0)] c 9[5(ca:1 cb:1 cc:65@6)]] free 10,11 of 12"
	key, val := []byte("ad"), []byte(valueOf("ad", 601))
	for _, val := range [][]byte{val, val[:64], val[:65], {}} {
		m, key, val := imageOf(t, shape), slices.Clone(key), slices.Clone(val)
		got, _ := impl.KvPut(m, key, val)
		bytesApart(t, "KvPut", slices.Concat(m.Pages, got.Pages, [][]byte{key, val}))
	}
	for _, key := range []string{"ac", "b", "cc", "none"} {
		m, key := imageOf(t, shape), []byte(key)
		got, _, _ := impl.KvDrop(m, key)
		bytesApart(t, "KvDrop", slices.Concat(m.Pages, got.Pages, [][]byte{key}))
	}
	for _, key := range []string{"ab", "ac", "b", "cc"} {
		m, key := imageOf(t, shape), []byte(key)
		got, _, _, _ := impl.KvGet(m, key)
		bytesApart(t, "KvGet", append(slices.Clone(m.Pages), key, got))
	}
	m, from, to := imageOf(t, shape), []byte("ab"), []byte("cd")
	lists := append(slices.Clone(m.Pages), from, to)
	pairs, _ := impl.KvScan(m, from, to, 9)
	for _, pair := range pairs {
		lists = append(lists, pair.Key, pair.Val)
	}
	bytesApart(t, "KvScan", lists)
}
