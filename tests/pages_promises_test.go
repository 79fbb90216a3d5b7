package tests

import (
	"bytes"
	"fmt"
	"maps"
	"slices"
	"testing"

	"loop.example/g00001/impl"
)

// wantPut asks KvPut for what chapter 13 once more answers, and that nothing was written into.
func wantPut(t *testing.T, m impl.Image, key, val string) (impl.Image, int) {
	t.Helper()
	before := copiedImage(m)
	got, code := impl.KvPut(m, []byte(key), []byte(val))
	want, wantCode := wantedPut(before, key, val)
	if code != wantCode || !sameImage(got, want) {
		t.Fatalf("%s\nwith %s, %d bytes: %d\n%s\nwant %d\n%s", shapeOfImage(m), shortKey(key), len(val), code, shapeOfImage(got), wantCode, shapeOfImage(want))
	}
	if !sameImage(m, before) {
		t.Fatalf("KvPut has written into an image")
	}
	return got, code
}

func wantDrop(t *testing.T, m impl.Image, key string) (impl.Image, bool) {
	t.Helper()
	before := copiedImage(m)
	got, there, code := impl.KvDrop(m, []byte(key))
	want, wantThere, wantCode := wantedDrop(before, key)
	if code != wantCode || there != wantThere || !sameImage(got, want) {
		t.Fatalf("%s\nwithout %s: %v %d\n%s\nwant %v %d\n%s", shapeOfImage(m), shortKey(key), there, code, shapeOfImage(got), wantThere, wantCode, shapeOfImage(want))
	}
	if !sameImage(m, before) {
		t.Fatalf("KvDrop has written into an image")
	}
	return got, there
}

func wantGet(t *testing.T, m impl.Image, key string) bool {
	t.Helper()
	val, there, pages, code := impl.KvGet(m, []byte(key))
	want, wantThere, wantPages := wantedGet(m, key)
	if code != impl.OK || there != wantThere || string(val) != want || !slices.Equal(pages, wantPages) {
		t.Fatalf("%s\nof %s: %d bytes %v %v %d, want %d bytes %v %v", shapeOfImage(m), shortKey(key), len(val), there, pages, code, len(want), wantThere, wantPages)
	}
	return there
}

// wantScan asks for pairs that are picked from all pairs one by one.
func wantScan(t *testing.T, m impl.Image, all []impl.Pair, from, to string, most int) int {
	t.Helper()
	got, code := impl.KvScan(m, []byte(from), []byte(to), most)
	var want []impl.Pair
	for _, pair := range all {
		if string(pair.Key) >= from && (to == "" || string(pair.Key) < to) && len(want) < most {
			want = append(want, pair)
		}
	}
	if code != impl.OK || !samePairs(got, want) {
		t.Fatalf("%s\nfrom %s to %s, %d: %d pairs %d, want %d", shapeOfImage(m), shortKey(from), shortKey(to), most, len(got), code, len(want))
	}
	return len(got)
}

func samePairs(a, b []impl.Pair) bool {
	return slices.EqualFunc(a, b, func(a, b impl.Pair) bool { return bytes.Equal(a.Key, b.Key) && bytes.Equal(a.Val, b.Val) })
}

// pairsOf are those of a map, in order.
func pairsOf(held map[string]string) []impl.Pair {
	var list []impl.Pair
	for _, key := range slices.Sorted(maps.Keys(held)) {
		list = append(list, impl.Pair{Key: []byte(key), Val: []byte(held[key])})
	}
	return list
}

func heldIn(m impl.Image) map[string]string {
	w, _ := readWood(m)
	held := map[string]string{}
	for _, pair := range w.top.pairs() {
		held[string(pair.Key)] = string(pair.Val)
	}
	return held
}

// wantHeld asks for all pairs, in one scan and by some questions.
func wantHeld(t *testing.T, g woodGrower, m impl.Image, held map[string]string) {
	t.Helper()
	if !impl.KvOK(m) {
		t.Fatalf("an image that isn't valid: %s", shapeOfImage(m))
	}
	all := pairsOf(held)
	wantScan(t, m, all, "", "", impl.MaxScan)
	wantScan(t, m, all, g.key(), g.key(), g.pick(0, 1, 2, 5, impl.MaxScan))
	for key := range held {
		if val, there, _, code := impl.KvGet(m, []byte(key)); code != impl.OK || !there || string(val) != held[key] {
			t.Fatalf("%s\nof %s: %d bytes %v %d", shapeOfImage(m), shortKey(key), len(val), there, code)
		}
		break
	}
	key := g.key()
	if _, is := held[key]; wantGet(t, m, key) != is {
		t.Fatalf("%s\nof %s: %v", shapeOfImage(m), shortKey(key), !is)
	}
}

// TestPromise15ByChance puts and drops, from an empty tree or from any image that is valid.
func TestPromise15ByChance(t *testing.T) {
	t.Parallel()
	var met tally
	t.Run("all", func(t *testing.T) {
		for run := range 15 {
			t.Run(fmt.Sprint(run), func(t *testing.T) {
				t.Parallel()
				g := woodGrower{grower{&numberSource{state: uint64(1301 + run)}}, run % 5, run%5 == 3}
				m := impl.KvNew()
				if run >= 10 {
					m = g.grownImage(60)
				}
				held := heldIn(m)
				for round := 0; round < 480; round++ {
					m = changedImage(t, g, m, held, round%240 < 130, &met)
					wantHeld(t, g, m, held)
				}
			})
		}
	})
	met.wantAtLeast(t, map[string]int{
		"put": 1000, "put again": 300, "drop": 500, "drop nothing": 100, "full": 10, "nodes +1": 100, "nodes +2": 10, "nodes +3": 3, "inners +1": 10, "inners +2": 3,
		"nodes -1": 60, "nodes -2": 20, "nodes -3": 3, "inners -1": 20, "inners -2": 1,
	})
}

// changedImage does one put or drop; growing says what is more likely.
func changedImage(t *testing.T, g woodGrower, m impl.Image, held map[string]string, growing bool, met *tally) impl.Image {
	t.Helper()
	key := g.key()
	keys := slices.Sorted(maps.Keys(held))
	if len(keys) > 0 && g.chance(3) || !growing && len(keys) > 0 {
		key = keys[below(g.numberSource, len(keys))]
	}
	_, was := held[key]
	if growing && !g.chance(6) || !growing && g.chance(6) {
		val := g.value()
		grown, code := wantPut(t, m, key, val)
		if code == impl.ErrFull {
			met.add("full")
			return m
		}
		held[key] = val
		met.add(map[bool]string{true: "put again", false: "put"}[was])
		tellNodes(m, grown, met)
		return grown
	}
	less, there := wantDrop(t, m, key)
	if there != was {
		t.Fatalf("%s was there: %v, is told: %v", shortKey(key), was, there)
	}
	delete(held, key)
	met.add(map[bool]string{true: "drop", false: "drop nothing"}[was])
	tellNodes(m, less, met)
	return less
}

// tellNodes counts how many nodes, and inner ones, a change has added or freed.
func tellNodes(before, behind impl.Image, met *tally) {
	leaves, inners := pagesOfKind(behind, 2)-pagesOfKind(before, 2), pagesOfKind(behind, 3)-pagesOfKind(before, 3)
	met.add(fmt.Sprintf("nodes %+d", leaves+inners))
	met.add(fmt.Sprintf("inners %+d", inners))
}

func pagesOfKind(m impl.Image, kind byte) int {
	count := 0
	for _, p := range m.Pages {
		if p[0] == kind {
			count++
		}
	}
	return count
}

// TestPromise15OfAnyImage does one change to each of many images, which need not be such as puts and drops leave.
func TestPromise15OfAnyImage(t *testing.T) {
	t.Parallel()
	var met tally
	t.Run("all", func(t *testing.T) {
		for run := range 10 {
			t.Run(fmt.Sprint(run), func(t *testing.T) {
				t.Parallel()
				g := woodGrower{grower{&numberSource{state: uint64(1361 + run)}}, run % 5, false}
				for round := 0; round < 400; round++ {
					m := g.grownImage([]int{5, 40, 150}[round%3])
					held := heldIn(m)
					m = changedImage(t, g, m, held, round%2 == 0, &met)
					wantHeld(t, g, m, held)
				}
			})
		}
	})
	met.wantAtLeast(t, map[string]int{"put": 700, "put again": 300, "drop": 700, "nodes +1": 50, "nodes +2": 5, "nodes -1": 100, "nodes -2": 20, "nodes -3": 3, "nodes -4": 1})
}

// TestValidImagesByChance spoils images in many ways: whether they are still valid is asked of chapter 13 once more.
func TestValidImagesByChance(t *testing.T) {
	t.Parallel()
	var met tally
	t.Run("all", func(t *testing.T) {
		for run := range 10 {
			t.Run(fmt.Sprint(run), func(t *testing.T) {
				t.Parallel()
				g := woodGrower{grower{&numberSource{state: uint64(1399 + run)}}, run % 5, false}
				for round := 0; round < 600; round++ {
					m := g.grownImage([]int{3, 20, 60}[round%3])
					if !impl.KvOK(m) {
						t.Fatalf("not valid: %s", shapeOfImage(m))
					}
					for range 3 {
						m = g.spoilt(m)
						_, want := readWood(m)
						if got := impl.KvOK(m); got != want {
							t.Fatalf("%v, want %v: %s", got, want, shapeOfImage(m))
						}
						met.add(fmt.Sprint(want))
						if want == false {
							wantBad(t, m)
							break
						}
					}
				}
			})
		}
	})
	met.wantAtLeast(t, map[string]int{"true": 300, "false": 4000})
}

// wantBad asks all functions for ErrBad and nothing else.
func wantBad(t *testing.T, m impl.Image) {
	t.Helper()
	before := copiedImage(m)
	val, there, pages, code := impl.KvGet(m, []byte("a"))
	if code != impl.ErrBad || there || len(val)+len(pages) > 0 {
		t.Fatalf("KvGet: %v %v %v %d", val, there, pages, code)
	}
	if got, code := impl.KvPut(m, []byte("a"), []byte("b")); code != impl.ErrBad || len(got.Pages) > 0 {
		t.Fatalf("KvPut: %d pages, %d", len(got.Pages), code)
	}
	if got, there, code := impl.KvDrop(m, []byte("a")); code != impl.ErrBad || there || len(got.Pages) > 0 {
		t.Fatalf("KvDrop: %d pages, %v %d", len(got.Pages), there, code)
	}
	if pairs, code := impl.KvScan(m, nil, nil, 5); code != impl.ErrBad || len(pairs) > 0 {
		t.Fatalf("KvScan: %d pairs, %d", len(pairs), code)
	}
	if impl.KvOK(m) || !sameImage(m, before) {
		t.Fatalf("KvOK, or an image that was written into")
	}
}

// TestPromise15OfRowsBetween keeps rows under the keys of their first values.
func TestPromise15OfRowsBetween(t *testing.T) {
	t.Parallel()
	for _, values := range eachKind() {
		m := impl.KvNew()
		var rows [][]impl.Value
		for i, v := range values {
			key, code := impl.KeyBytes([]impl.Value{v})
			if code != impl.OK {
				continue
			}
			rows = slices.DeleteFunc(rows, func(row []impl.Value) bool { return row[0] == v })
			rows = append(rows, []impl.Value{v, intv(i), null, textv("row")})
			row, _ := impl.RowBytes(rows[len(rows)-1])
			m, code = impl.KvPut(m, key, row)
			if code != impl.OK {
				t.Fatalf("a row is put: %d", code)
			}
		}
		slices.SortFunc(rows, func(a, b []impl.Value) int { return orderOf(a[0], b[0]) })
		for _, low := range rows {
			for _, high := range rows {
				wantRowsBetween(t, m, rows, low[0], high[0])
			}
		}
	}
}

func orderOf(a, b impl.Value) int {
	order, _ := impl.Compare(a, b)
	return order
}

func wantRowsBetween(t *testing.T, m impl.Image, rows [][]impl.Value, low, high impl.Value) {
	t.Helper()
	from, _ := impl.KeyBytes([]impl.Value{low})
	to, _ := impl.KeyBytes([]impl.Value{high})
	pairs, code := impl.KvScan(m, from, to, impl.MaxScan)
	var got, want [][]impl.Value
	for _, pair := range pairs {
		row, _ := impl.RowValues(pair.Val)
		got = append(got, row)
	}
	for _, row := range rows {
		if orderOf(row[0], low) >= 0 && orderOf(row[0], high) < 0 {
			want = append(want, row)
		}
	}
	if code != impl.OK || !slices.EqualFunc(got, want, slices.Equal[[]impl.Value]) {
		t.Fatalf("from %v to %v: %v %d, want %v", low, high, got, code, want)
	}
}
