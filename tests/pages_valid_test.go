package tests

import (
	"fmt"
	"slices"
	"strings"
	"testing"

	"loop.example/g00001/impl"
)

// smallWood has pages of all kinds: two levels of inner pages, of which one has one kid, long values, free pages.
func smallWood() impl.Image {
	return impl.Image{Pages: [][]byte{
		sheet(1, two(7), two(10), two(12)),
		sheet(2, two(2), 1, "a", 1, "b", two(1), "x", 1, "c", two(600), two(2)),
		sheet(4, two(3), two(500), strings.Repeat("v", 500)),
		sheet(4, two(0), two(100), strings.Repeat("w", 100)),
		sheet(2, two(1), 1, "b", 0, two(0)),
		sheet(2, two(3), 1, "c", 1, "a", two(1), "1", 1, "b", two(1), "2", 1, "c", two(65), two(6)),
		sheet(4, two(0), two(65), strings.Repeat("u", 65)),
		sheet(3, two(1), 1, "c", two(8), 0, two(9)),
		sheet(3, two(1), 1, "b", two(1), 0, two(4)),
		sheet(3, two(0), 0, two(5)),
		sheet(5, two(11)),
		sheet(5, two(0)),
	}}
}

const smallShape = "7[8[1(ab:1 ac:600@2,3) b 4(b:0)] c 9[5(ca:1 cb:1 cc:65@6)]] free 10,11 of 12"

// otherPages stand in place of some.
type otherPages map[int][]byte

func (c otherPages) of(m impl.Image) impl.Image {
	m = copiedImage(m)
	for number, p := range c {
		for len(m.Pages) <= number {
			m.Pages = append(m.Pages, nil)
		}
		m.Pages[number] = p
	}
	return m
}

func wantValidImage(t *testing.T, what string, m impl.Image, shape string) {
	t.Helper()
	if got := shapeOfImage(m); !impl.KvOK(m) || got != shape {
		t.Errorf("%s: %v, %s, want %s", what, impl.KvOK(m), got, shape)
	}
}

// wantNoImage asks the reference, too: what is broken here should be broken.
func wantNoImage(t *testing.T, what string, m impl.Image) {
	t.Helper()
	if _, ok := readWood(m); ok || impl.KvOK(m) {
		t.Errorf("%s: %v, and %v by the reference", what, impl.KvOK(m), ok)
		return
	}
	wantBad(t, m)
}

func TestValidImages(t *testing.T) {
	wantValidImage(t, "all kinds of pages", smallWood(), smallShape)
	longKeys := func(size int) otherPages {
		key := strings.Repeat("b", size)
		return otherPages{4: sheet(2, two(1), size, key, 0, two(0))}
	}
	for what, c := range map[string]struct {
		pages otherPages
		shape string
	}{
		"the longest key": {longKeys(impl.MaxKey), strings.Replace(smallShape, "(b:0)", "(b*120:0)", 1)},
		"keys above that are longer than they must be": {
			otherPages{7: sheet(3, two(1), 2, "bz", two(8), 0, two(9)), 8: sheet(3, two(1), 3, "acz", two(1), 0, two(4))}, strings.NewReplacer(" b ", " acz ", " c ", " bz ").Replace(smallShape),
		},
		"a key above that is the next key": {otherPages{7: sheet(3, two(1), 2, "ca", two(8), 0, two(9))}, strings.Replace(smallShape, " c ", " ca ", 1)},
		"a key above of MaxKey bytes": {
			otherPages{7: sheet(3, two(1), 120, strings.Repeat("b", 120), two(8), 0, two(9))}, strings.Replace(smallShape, " c ", " b*120 ", 1),
		},
		"a value of MaxInline bytes": {otherPages{4: sheet(2, two(1), 1, "b", 0, two(64), strings.Repeat("z", 64))}, strings.Replace(smallShape, "(b:0)", "(b:64)", 1)},
		"a value of OverData bytes":  {otherPages{5: sheet(2, two(1), 1, "c", 0, two(500), two(6)), 6: sheet(4, two(0), two(500), strings.Repeat("u", 500))}, strings.Replace(smallShape, "ca:1 cb:1 cc:65@6", "c:500@6", 1)},
		"free pages in another order": {
			otherPages{0: sheet(1, two(7), two(11), two(12)), 10: sheet(5, two(0)), 11: sheet(5, two(10))}, strings.Replace(smallShape, "10,11", "11,10", 1),
		},
		"a key without bytes": {
			otherPages{1: sheet(2, two(2), 0, 0, two(1), "x", 2, "ac", two(600), two(2))}, strings.Replace(smallShape, "ab:1", ":1", 1),
		},
	} {
		wantValidImage(t, what, c.pages.of(smallWood()), c.shape)
	}
	wantValidImage(t, "an empty leaf that is the root", imageOf(t, "2() free 1 of 3"), "2() free 1 of 3")
}

func TestImagesWithAWrongHeader(t *testing.T) {
	for what, p := range map[string][]byte{
		"no kind":                           sheet(0, two(7), two(10), two(12)),
		"a leaf":                            sheet(2, two(0), 0),
		"a free page":                       sheet(5, two(0)),
		"the root is page 0":                sheet(1, two(0), two(10), two(12)),
		"the root is behind the last":       sheet(1, two(12), two(10), two(12)),
		"the root has the greatest number":  sheet(1, two(65535), two(10), two(12)),
		"the root is a page below it":       sheet(1, two(8), two(10), two(12)),
		"the root is a leaf":                sheet(1, two(1), two(10), two(12)),
		"the root is an overflow page":      sheet(1, two(2), two(10), two(12)),
		"the root is a free page":           sheet(1, two(10), two(10), two(12)),
		"no free page":                      sheet(1, two(7), two(0), two(12)),
		"not all free pages":                sheet(1, two(7), two(11), two(12)),
		"the free page is a leaf":           sheet(1, two(7), two(4), two(12)),
		"the free page is an overflow page": sheet(1, two(7), two(6), two(12)),
		"the free page is behind the last":  sheet(1, two(7), two(12), two(12)),
		"one page less":                     sheet(1, two(7), two(10), two(11)),
		"one page more":                     sheet(1, two(7), two(10), two(13)),
		"no number of pages":                sheet(1, two(7), two(10)),
		"a byte behind":                     sheet(1, two(7), two(10), two(12), 1),
		"a byte ahead of the sum":           sheet(1, two(7), two(10), two(12), strings.Repeat("\x00", 500), 1),
	} {
		wantNoImage(t, what, otherPages{0: p}.of(smallWood()))
	}
	twice := smallWood()
	twice.Pages[11] = slices.Clone(twice.Pages[0])
	wantNoImage(t, "a second header in place of a free page", twice)
}

func TestImagesWithAWrongLeaf(t *testing.T) {
	long := strings.Repeat("b", impl.MaxKey+1)
	for what, c := range map[string]otherPages{
		"no prefix":                           {1: sheet(2, two(2), 0, 2, "ab", two(1), "x", 2, "ac", two(600), two(2))},
		"a prefix that isn't the longest":     {5: sheet(2, two(2), 1, "c", 2, "ab", two(0), 2, "ac", two(65), two(6))},
		"the only key has no prefix":          {4: sheet(2, two(1), 0, 1, "b", two(0))},
		"the only key has a shorter prefix":   {4: sheet(2, two(1), 1, "b", 1, "b", two(0))},
		"the prefix goes over the end":        {4: sheet(2, two(1), 255, strings.Repeat("b", 255), 0, two(0))},
		"keys that fall":                      {5: sheet(2, two(3), 1, "c", 1, "b", two(1), "1", 1, "a", two(1), "2", 1, "c", two(65), two(6))},
		"a key twice":                         {5: sheet(2, two(3), 1, "c", 1, "a", two(1), "1", 1, "a", two(1), "2", 1, "c", two(65), two(6))},
		"a key behind a longer one":           {5: sheet(2, two(2), 1, "c", 1, "a", two(65), two(6), 0, two(0))},
		"a key that isn't less than the next": {4: sheet(2, two(1), 1, "c", 0, two(0))},
		"a key that is far behind":            {4: sheet(2, two(1), 1, "z", 0, two(0))},
		"a key that is less than its first":   {4: sheet(2, two(1), 2, "az", 0, two(0))},
		"a key that is far ahead":             {4: sheet(2, two(1), 1, "A", 0, two(0))},
		"a key of another part of the tree":   {5: sheet(2, two(1), 2, "bb", 0, two(65), two(6))},
		"a key that is not less, one above":   {1: sheet(2, two(2), 0, 2, "ab", two(1), "x", 1, "b", two(600), two(2))},
		"a key of more than MaxKey bytes":     {4: sheet(2, two(1), len(long), long, 0, two(0))},
		"one entry less":                      {1: sheet(2, two(1), 1, "a", 1, "b", two(1), "x", 1, "c", two(600), two(2))},
		"one entry more":                      {4: sheet(2, two(2), 1, "b", 0, two(0))},
		"entries without end":                 {4: sheet(2, two(65535), 1, "b", 0, two(0))},
		"an empty leaf that isn't the root":   {4: sheet(2, two(0), 0)},
		"a byte behind the last entry":        {4: sheet(2, two(1), 1, "b", 0, two(0), 1)},
		"a byte ahead of the sum":             {4: sheet(2, two(1), 1, "b", 0, two(0), strings.Repeat("\x00", 500), 1)},
		"a value longer than MaxVal":          {5: sheet(2, two(1), 1, "c", 0, two(4001), two(6))},
		"a value of the greatest length":      {5: sheet(2, two(1), 1, "c", 0, two(65535), two(6))},
		"a long value without page":           {5: sheet(2, two(1), 1, "c", 0, two(65), two(0))},
		"a long value in page 12":             {5: sheet(2, two(1), 1, "c", 0, two(65), two(12))},
		"a long value in a leaf":              {5: sheet(2, two(1), 1, "c", 0, two(65), two(5))},
		"a long value in a free page":         {5: sheet(2, two(1), 1, "c", 0, two(65), two(10))},
		"a value that stands in a leaf no more": {
			5: sheet(2, two(1), 1, "c", 0, two(64), two(6)), 6: sheet(4, two(0), two(64), strings.Repeat("u", 64)),
		},
		"another kind": {4: sheet(6, two(1), 1, "b", 0, two(0))},
	} {
		wantNoImage(t, what, c.of(smallWood()))
	}
	wantNoImage(t, "an empty root with a prefix", otherPages{1: sheet(2, two(0), 1, "a")}.of(impl.KvNew()))
}

// TestALeafThatEndsInItsSum: what its last entry tells of would be the sum's bytes, or behind the page.
func TestALeafThatEndsInItsSum(t *testing.T) {
	of := func(last ...any) impl.Image {
		parts := []any{2, two(8), 0}
		for i := range 7 {
			parts = append(parts, 1, string(rune('a'+i)), two(59), strings.Repeat("v", 59))
		}
		return otherPages{1: sheet(append(parts, last...)...)}.of(impl.KvNew())
	}
	for _, c := range []struct {
		last []any
		want bool
	}{
		{[]any{1, "h", two(59), strings.Repeat("v", 59)}, true},
		{[]any{1, "h", two(59), strings.Repeat("\x00", 59)}, true},
		{[]any{60, strings.Repeat("h", 60), two(0)}, true},
		{[]any{60, strings.Repeat("h", 59) + "\x00", two(0)}, true},
		{[]any{1, "h", two(60), strings.Repeat("v", 59)}, false},
		{[]any{1, "h", two(60), strings.Repeat("\x00", 59)}, false},
		{[]any{1, "h", two(61), strings.Repeat("v", 59)}, false},
		{[]any{1, "h", two(61), strings.Repeat("\x00", 59)}, false},
		{[]any{1, "h", two(64), strings.Repeat("\x00", 59)}, false},
		{[]any{57, strings.Repeat("h", 57), two(5), "\x00\x00\x00"}, false},
		{[]any{60, strings.Repeat("h", 60), two(1)}, false},
		{[]any{60, strings.Repeat("h", 60), two(65)}, false},
		{[]any{61, strings.Repeat("h", 61), 0}, false},
		{[]any{62, strings.Repeat("h", 62)}, false},
		{[]any{63, strings.Repeat("h", 62)}, false},
		{[]any{120, strings.Repeat("h", 62)}, false},
	} {
		m := of(c.last...)
		if _, ok := readWood(m); len(m.Pages[1]) != impl.PageSize || ok != c.want || impl.KvOK(m) != c.want {
			t.Errorf("%v: %d bytes, %v, %v by the reference", c.last, len(m.Pages[1]), impl.KvOK(m), ok)
		}
	}
}

// TestAPageWithoutItsLastByte: the byte that is not there would be 0.
func TestAPageWithoutItsLastByte(t *testing.T) {
	for i := range 65536 {
		p := sheet(2, two(1), 1, "a", 0, two(2), two(i))
		if p[impl.PageSize-1] == 0 {
			wantValidImage(t, "the whole page", otherPages{1: p}.of(impl.KvNew()), "1(a:2) of 2")
			wantNoImage(t, "a page without its last byte", otherPages{1: p[:impl.PageSize-1]}.of(impl.KvNew()))
			return
		}
	}
}

func TestImagesWithAWrongInnerPage(t *testing.T) {
	long := strings.Repeat("b", impl.MaxKey+1)
	for what, c := range map[string]otherPages{
		"no prefix":                        {8: sheet(3, two(1), 0, two(1), 1, "b", two(4))},
		"the first kid is page 0":          {8: sheet(3, two(1), 1, "b", two(0), 0, two(4))},
		"the next kid is page 0":           {8: sheet(3, two(1), 1, "b", two(1), 0, two(0))},
		"a kid behind the last page":       {8: sheet(3, two(1), 1, "b", two(1), 0, two(12))},
		"a kid twice":                      {8: sheet(3, two(1), 1, "b", two(1), 0, two(1))},
		"a kid of another page":            {9: sheet(3, two(0), 0, two(4))},
		"a kid that is itself":             {9: sheet(3, two(0), 0, two(9))},
		"a kid that is above":              {9: sheet(3, two(0), 0, two(7))},
		"a kid that is an overflow page":   {9: sheet(3, two(0), 0, two(6))},
		"a kid that is a free page":        {9: sheet(3, two(0), 0, two(10))},
		"the kids in another order":        {8: sheet(3, two(1), 1, "b", two(4), 0, two(1))},
		"a key less than those ahead":      {8: sheet(3, two(1), 1, "a", two(1), 0, two(4))},
		"a key that is the one ahead":      {8: sheet(3, two(1), 2, "ac", two(1), 0, two(4))},
		"a key greater than those behind":  {8: sheet(3, two(1), 2, "ba", two(1), 0, two(4))},
		"a key of the root that is less":   {7: sheet(3, two(1), 1, "b", two(8), 0, two(9))},
		"a key of the root that is more":   {7: sheet(3, two(1), 2, "cb", two(8), 0, two(9))},
		"a key of more than MaxKey bytes":  {7: sheet(3, two(1), len(long), long, two(8), 0, two(9))},
		"one key less":                     {8: sheet(3, two(0), 1, "b", two(1), 0, two(4))},
		"one key more":                     {8: sheet(3, two(2), 1, "b", two(1), 0, two(4))},
		"keys without end":                 {8: sheet(3, two(65535), 1, "b", two(1), 0, two(4))},
		"a prefix without key":             {9: sheet(3, two(0), 1, "c", two(5))},
		"a byte behind the last kid":       {9: sheet(3, two(0), 0, two(5), 1)},
		"a byte ahead of the sum":          {9: sheet(3, two(0), 0, two(5), strings.Repeat("\x00", 501), 1)},
		"a key above without bytes":        {8: sheet(3, two(1), 0, two(1), 0, two(4))},
		"another kind":                     {9: sheet(4, two(0), 0, two(5))},
		"the first kid is below no more":   {7: sheet(3, two(0), 0, two(8)), 9: sheet(5, two(5)), 5: sheet(5, two(6)), 6: sheet(5, two(0)), 11: sheet(5, two(9))},
		"leaves that are not equally deep": {7: sheet(3, two(1), 1, "c", two(8), 0, two(5)), 11: sheet(5, two(9)), 9: sheet(5, two(0))},
	} {
		wantNoImage(t, what, c.of(smallWood()))
	}
	wantNoImage(t, "a root with one kid", impl.Image{Pages: [][]byte{sheet(1, two(1), two(0), two(3)), sheet(3, two(0), 0, two(2)), sheet(2, two(1), 1, "a", 0, two(0))}})
	wantNoImage(t, "a root with one kid that has two", impl.Image{Pages: [][]byte{
		sheet(1, two(1), two(0), two(5)), sheet(3, two(0), 0, two(2)), sheet(3, two(1), 1, "b", two(3), 0, two(4)), sheet(2, two(1), 1, "a", 0, two(0)), sheet(2, two(1), 1, "b", 0, two(0)),
	}})
	wantNoImage(t, "keys that fall", impl.Image{Pages: [][]byte{
		sheet(1, two(1), two(0), two(5)), sheet(3, two(2), 0, two(2), 1, "c", two(3), 1, "b", two(4)), sheet(2, two(1), 1, "a", 0, two(0)), sheet(2, two(1), 1, "b", 0, two(0)), sheet(2, two(1), 1, "c", 0, two(0)),
	}})
	wantNoImage(t, "a prefix that isn't the longest", impl.Image{Pages: [][]byte{
		sheet(1, two(1), two(0), two(5)), sheet(3, two(2), 0, two(2), 2, "ab", two(3), 2, "ac", two(4)), sheet(2, two(1), 1, "a", 0, two(0)), sheet(2, two(1), 2, "ab", 0, two(0)), sheet(2, two(1), 2, "ac", 0, two(0)),
	}})
}

func TestImagesWithAWrongOverflowPage(t *testing.T) {
	v, w, u := strings.Repeat("v", 503), strings.Repeat("w", 200), strings.Repeat("u", 503)
	of := func(size, page int) []byte {
		return sheet(2, two(2), 1, "a", 1, "b", two(1), "x", 1, "c", two(size), two(page))
	}
	for what, c := range map[string]otherPages{
		"too few bytes in the first":           {2: sheet(4, two(3), two(499), v[:499]), 3: sheet(4, two(0), two(101), w[:101])},
		"too many bytes in the first":          {2: sheet(4, two(3), two(501), v[:501]), 3: sheet(4, two(0), two(99), w[:99])},
		"no bytes in the last":                 {1: of(500, 2), 3: sheet(4, two(0), two(0))},
		"too many bytes in the last":           {5: sheet(2, two(1), 1, "c", 0, two(503), two(6)), 6: sheet(4, two(0), two(503), u)},
		"one byte too many in the last":        {5: sheet(2, two(1), 1, "c", 0, two(501), two(6)), 6: sheet(4, two(0), two(501), u[:501])},
		"a value of one byte less":             {1: of(599, 2)},
		"a value of one byte more":             {1: of(601, 2)},
		"a value of a page less":               {1: of(100, 2)},
		"a value of a page more":               {1: of(1100, 2)},
		"the second page alone":                {1: of(100, 3)},
		"the first page is the last":           {2: sheet(4, two(0), two(500), v[:500])},
		"the last page is not the last":        {3: sheet(4, two(10), two(100), w[:100])},
		"the last page leads to the first":     {3: sheet(4, two(2), two(100), w[:100])},
		"a page leads to itself":               {2: sheet(4, two(2), two(500), v[:500])},
		"a page leads to a leaf":               {2: sheet(4, two(4), two(500), v[:500])},
		"a page leads behind the last":         {2: sheet(4, two(12), two(500), v[:500])},
		"a page of two values":                 {5: sheet(2, two(1), 1, "c", 0, two(100), two(3)), 6: sheet(5, two(0)), 11: sheet(5, two(6))},
		"a page that nothing leads to":         {5: sheet(2, two(1), 1, "c", 0, two(0))},
		"a free page":                          {6: sheet(5, two(0))},
		"another kind":                         {6: sheet(3, two(0), two(65), u[:65])},
		"one byte less":                        {6: sheet(4, two(0), two(64), u[:64])},
		"one byte less, that stands there":     {6: sheet(4, two(0), two(64), u[:65])},
		"one byte more":                        {6: sheet(4, two(0), two(66), u[:66])},
		"a byte behind":                        {6: sheet(4, two(0), two(65), u[:65], 1)},
		"a byte ahead of the sum":              {6: sheet(4, two(0), two(65), u[:65], strings.Repeat("\x00", 437), 1)},
		"as many bytes as no page has":         {6: sheet(4, two(0), two(65535), u[:65])},
		"a value of more than MaxVal, in full": tooLongValue(),
	} {
		wantNoImage(t, what, c.of(smallWood()))
	}
}

// tooLongValue has MaxVal bytes and one in nine pages, all else is as it should be.
func tooLongValue() otherPages {
	c := otherPages{0: sheet(1, two(7), two(10), two(20)), 5: sheet(2, two(1), 1, "c", 0, two(impl.MaxVal+1), two(6))}
	pages := []int{6, 12, 13, 14, 15, 16, 17, 18, 19, 0}
	for i, page := range pages[:8] {
		c[page] = sheet(4, two(pages[i+1]), two(impl.OverData), strings.Repeat("u", impl.OverData))
	}
	c[19] = sheet(4, two(0), two(1), "u")
	return c
}

func TestImagesWithAWrongFreePage(t *testing.T) {
	for what, c := range map[string]otherPages{
		"a list that goes round":        {11: sheet(5, two(10))},
		"a page that leads to itself":   {10: sheet(5, two(10))},
		"a page that is not in it":      {10: sheet(5, two(0))},
		"a page behind the last":        {11: sheet(5, two(12))},
		"the header":                    {11: sheet(5, two(0)), 10: sheet(5, two(0))},
		"a leaf":                        {11: sheet(5, two(4))},
		"an inner page":                 {11: sheet(5, two(9))},
		"an overflow page":              {11: sheet(5, two(3))},
		"another kind":                  {11: sheet(6, two(0))},
		"an overflow page in its place": {11: sheet(4, two(0), two(1), "x")},
		"a byte behind":                 {11: sheet(5, two(0), 1)},
		"a byte ahead of the sum":       {11: sheet(5, two(0), strings.Repeat("\x00", 504), 1)},
		"a page of noughts":             {11: sheet(0)},
		"a page of noughts, no sum":     {11: make([]byte, impl.PageSize)},
	} {
		wantNoImage(t, what, c.of(smallWood()))
	}
}

func TestImagesOfWrongSizes(t *testing.T) {
	m := smallWood()
	for number := range m.Pages {
		for what, p := range map[string][]byte{"none": nil, "one byte less": m.Pages[number][:511], "one byte more": append(slices.Clone(m.Pages[number]), 0), "two pages": append(slices.Clone(m.Pages[number]), m.Pages[number]...)} {
			wantNoImage(t, fmt.Sprintf("page %d: %s", number, what), otherPages{number: p}.of(m))
		}
	}
	wantNoImage(t, "no pages", impl.Image{})
	wantNoImage(t, "the header alone", impl.Image{Pages: [][]byte{sheet(1, two(1), two(0), two(1))}})
	wantNoImage(t, "the header alone, which tells of two", impl.Image{Pages: [][]byte{sheet(1, two(1), two(0), two(2))}})
	wantNoImage(t, "a leaf alone", impl.Image{Pages: [][]byte{sheet(2, two(0), 0)}})
	wantNoImage(t, "a page less", impl.Image{Pages: m.Pages[:11]})
	wantNoImage(t, "a page more", impl.Image{Pages: append(slices.Clone(m.Pages), sheet(5, two(0)))})
	wantNoImage(t, "a page more, and the header tells of it", otherPages{0: sheet(1, two(7), two(10), two(13))}.of(impl.Image{Pages: append(slices.Clone(m.Pages), sheet(5, two(0)))}))
	for _, size := range []int{impl.MaxPages, impl.MaxPages + 1} {
		w := &wood{top: &bough{page: 1, leaf: true}, size: size}
		for page := 2; page < size; page++ {
			w.free = append(w.free, page)
		}
		if got := impl.KvOK(w.image()); got != (size == impl.MaxPages) {
			t.Errorf("%d pages: %v", size, got)
		}
	}
}

// TestEachByteOfAnImage changes each byte: without its sum nothing is valid, with it the reference is asked.
func TestEachByteOfAnImage(t *testing.T) {
	t.Parallel()
	valid := 0
	for number, p := range smallWood().Pages {
		for at := range p {
			m := smallWood()
			m.Pages[number][at]++
			if impl.KvOK(m) {
				t.Fatalf("page %d is valid with another byte %d", number, at)
			}
			for _, by := range []byte{0, 254, 255} {
				m.Pages[number][at] += by
				_, want := readWood(summed(m))
				if at < inUse && impl.KvOK(m) != want {
					t.Fatalf("page %d with %d at %d: %v, want %v", number, m.Pages[number][at], at, !want, want)
				}
				if want {
					valid++
				}
			}
		}
	}
	if valid < 1000 {
		t.Errorf("%d changes leave a valid image", valid)
	}
}

// TestPromise1OfTrees hands in images that are made of anything.
func TestPromise1OfTrees(t *testing.T) {
	t.Parallel()
	g := woodGrower{grower: grower{&numberSource{state: 1433}}, style: 3}
	for range 1500 {
		var m impl.Image
		for range below(g.numberSource, 6) {
			p := grownBytes(g.numberSource, g.pick(0, 1, 3, 7, 508, 511, 512, 512, 512, 512, 513))
			if len(p) > 7 {
				p[0], p[1], p[3], p[5] = byte(below(g.numberSource, 7)), 0, 0, 0
			}
			m.Pages = append(m.Pages, p)
		}
		if g.chance(2) {
			m = summed(m)
		}
		wantNoImage(t, "an image of anything", m)
	}
	for _, size := range []int{0, 1, impl.MaxKey, impl.MaxKey + 1, 1 << 20} {
		key := make([]byte, size)
		m := smallWood()
		impl.KvGet(m, key)
		impl.KvPut(m, key, key)
		impl.KvDrop(m, key)
		impl.KvScan(m, key, key, size)
		if !sameImage(m, smallWood()) || slices.ContainsFunc(key, func(b byte) bool { return b != 0 }) {
			t.Errorf("an argument was written into")
		}
	}
}
