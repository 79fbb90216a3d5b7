package tests

import (
	"bytes"
	"hash/crc32"
	"math"
	"slices"
	"strings"
	"sync"
	"testing"

	"loop.example/g00001/impl"
)

// eachKindAsRow has numbers on both sides of where a varint is a byte longer, and the least and the greatest.
func eachKindAsRow() []byteCase {
	one := func(v impl.Value, want ...byte) byteCase {
		return byteCase{[]impl.Value{v}, append([]byte{1}, want...)}
	}
	long := func(s string, size ...byte) byteCase {
		return one(textv(s), slices.Concat([]byte{3}, size, []byte(s))...)
	}
	return []byteCase{
		{nil, []byte{0}},
		one(null, 0),
		one(intv(0), 1, 0), one(intv(-1), 1, 1), one(intv(1), 1, 2), one(intv(63), 1, 126), one(intv(-64), 1, 127),
		one(intv(64), 1, 128, 1), one(intv(-65), 1, 129, 1), one(intv(8191), 1, 254, 127), one(intv(-8192), 1, 255, 127),
		one(intv(8192), 1, 128, 128, 1), one(intv(-8193), 1, 129, 128, 1),
		one(intv(1<<62-1), 1, 254, 255, 255, 255, 255, 255, 255, 255, 127), one(intv(-1<<62), 1, 255, 255, 255, 255, 255, 255, 255, 255, 127),
		one(intv(1<<62), 1, 128, 128, 128, 128, 128, 128, 128, 128, 128, 1),
		one(intv(math.MaxInt), 1, 254, 255, 255, 255, 255, 255, 255, 255, 255, 1),
		one(intv(math.MinInt), 1, 255, 255, 255, 255, 255, 255, 255, 255, 255, 1),
		one(decv(0), 2, 0), one(decv(-64), 2, 127),
		one(decv(impl.MaxDec), 2, 0xfe, 0xff, 0x9f, 0xf6, 0xf4, 0xac, 0xdb, 0xe0, 0x1b), one(decv(-impl.MaxDec), 2, 0xfd, 0xff, 0x9f, 0xf6, 0xf4, 0xac, 0xdb, 0xe0, 0x1b),
		one(datev(0), 5, 0), one(datev(impl.MaxDate), 5, 0xc0, 0x82, 0xe6, 0x02), one(datev(impl.MinDate), 5, 0xf3, 0xe4, 0x57),
		one(boolv(false), 4, 0), one(boolv(true), 4, 1),
		one(textv(""), 3, 0), one(textv("a\x00é"), 3, 4, 97, 0, 0xc3, 0xa9),
		long(strings.Repeat("x", 127), 127), long(strings.Repeat("x", 128), 128, 1), long(strings.Repeat("x", 255), 255, 1),
		long(strings.Repeat("𝄞", 255), 0xfc, 7),
		{[]impl.Value{null, intv(-1), textv("ab"), boolv(true), intv(64), datev(1), decv(1)}, []byte{7, 0, 1, 1, 3, 2, 97, 98, 4, 1, 1, 128, 1, 5, 2, 2, 2}},
	}
}

func TestRowBytesAndRowValuesOfEachKind(t *testing.T) {
	for _, c := range eachKindAsRow() {
		got, code := impl.RowBytes(c.vals)
		if code != impl.OK || !bytes.Equal(got, c.want) {
			t.Errorf("the row of %v: %v %d", c.vals, got, code)
		}
		back, code := impl.RowValues(c.want)
		if code != impl.OK || !slices.Equal(back, c.vals) {
			t.Errorf("the values of row %v: %v %d", c.want, back, code)
		}
	}
}

// rowOf has so many bytes as a row, of which 3070 are those of three texts.
func rowOf(size int) []impl.Value {
	rest := size - 3070 - 3
	last := strings.Repeat("𝄞", rest/4) + strings.Repeat("a", rest%4)
	return append(manyOf(textv(strings.Repeat("𝄞", impl.MaxChars)), 3), textv(last))
}

func TestRowBytesAtItsBounds(t *testing.T) {
	for _, vals := range [][]impl.Value{rowOf(impl.MaxVal), rowOf(impl.MaxVal - 1), manyOf(intv(math.MinInt), impl.MaxParts), manyOf(null, impl.MaxParts)} {
		got, code := impl.RowBytes(vals)
		if code != impl.OK {
			t.Errorf("%d values: %d bytes, %d", len(vals), len(got), code)
		}
		if back, code := impl.RowValues(got); code != impl.OK || !slices.Equal(back, vals) {
			t.Errorf("%d values are read back as %v, %d", len(vals), back, code)
		}
	}
	if got, _ := impl.RowBytes(rowOf(impl.MaxVal)); len(got) != impl.MaxVal {
		t.Errorf("a row of MaxVal bytes has %d", len(got))
	}
	wrong := []struct {
		vals []impl.Value
		code int
	}{
		{rowOf(impl.MaxVal + 1), impl.ErrBig},
		{manyOf(textv(strings.Repeat("𝄞", impl.MaxChars)), impl.MaxParts), impl.ErrBig},
		{manyOf(null, impl.MaxParts+1), impl.ErrBad},
		{manyOf(null, 256), impl.ErrBad},
		{append(rowOf(impl.MaxVal+1), datev(math.MaxInt)), impl.ErrBad},
		{manyOf(textv(strings.Repeat("𝄞", impl.MaxChars)), impl.MaxParts+1), impl.ErrBad},
	}
	for _, c := range wrong {
		if got, code := impl.RowBytes(c.vals); code != c.code || len(got) != 0 {
			t.Errorf("%d values: %v %d", len(c.vals), got, code)
		}
	}
}

func TestRowValuesOfWrongBytes(t *testing.T) {
	tooLong, _ := impl.RowBytes(rowOf(impl.MaxVal))
	// The last text has a letter more.
	tooLong = append(tooLong, 97)
	tooLong[3070+1]++
	wrong := map[string][]byte{
		"nothing":                                {},
		"a value that is not there":              {1},
		"two values, of which one is there":      {2, 0},
		"something behind no value":              {0, 0},
		"something behind a value":               {1, 4, 1, 0},
		"an Int without number":                  {1, 1},
		"a varint that ends":                     {1, 1, 128},
		"a longer varint of 0":                   {1, 1, 128, 0},
		"a longer varint of 1":                   {1, 1, 129, 0},
		"a longer varint of 64":                  {1, 1, 128, 129, 0},
		"a varint of 65 bits":                    {1, 1, 255, 255, 255, 255, 255, 255, 255, 255, 255, 2},
		"a varint of 65 bits, and one":           {1, 1, 128, 128, 128, 128, 128, 128, 128, 128, 128, 3},
		"a varint of 11 bytes":                   {1, 1, 255, 255, 255, 255, 255, 255, 255, 255, 255, 129, 0},
		"a varint of 11 bytes of 1":              {1, 1, 129, 128, 128, 128, 128, 128, 128, 128, 128, 128, 0},
		"a Dec above the greatest":               {1, 2, 0x80, 0x80, 0xa0, 0xf6, 0xf4, 0xac, 0xdb, 0xe0, 0x1b},
		"a Dec below the least":                  {1, 2, 0xff, 0xff, 0x9f, 0xf6, 0xf4, 0xac, 0xdb, 0xe0, 0x1b},
		"a Dec of 64 bits":                       {1, 2, 254, 255, 255, 255, 255, 255, 255, 255, 255, 1},
		"a day behind the last":                  {1, 5, 0xc2, 0x82, 0xe6, 0x02},
		"a day ahead of the first":               {1, 5, 0xf5, 0xe4, 0x57},
		"a longer varint of a day":               {1, 5, 0xf3, 0xe4, 0xd7, 0},
		"a Bool of 2":                            {1, 4, 2},
		"a Bool that ends":                       {1, 4},
		"kind 6":                                 {1, 6},
		"kind 16":                                {1, 16, 0},
		"kind 255":                               {1, 255, 0},
		"a text without length":                  {1, 3},
		"a text that ends":                       {1, 3, 2, 97},
		"a text with a longer length":            {1, 3, 129, 0, 97},
		"an empty text with a longer length":     {1, 3, 128, 0},
		"a text of 2 to the 63 bytes":            {1, 3, 128, 128, 128, 128, 128, 128, 128, 128, 128, 1},
		"a text of 2 to the 64 bytes, but one":   {1, 3, 255, 255, 255, 255, 255, 255, 255, 255, 255, 1},
		"a text of MaxInt bytes":                 {1, 3, 255, 255, 255, 255, 255, 255, 255, 255, 127},
		"a text that is no UTF-8":                {1, 3, 1, 255},
		"a text of more characters than it may":  append([]byte{1, 3, 128, 2}, bytes.Repeat([]byte{97}, 256)...),
		"seventeen values":                       append([]byte{17}, make([]byte, 17)...),
		"seventeen values that are not there":    {17},
		"a row of 255 values":                    append([]byte{255}, make([]byte, 255)...),
		"more bytes than a row may have":         tooLong,
		"noughts, more than a row may have":      append([]byte{16}, make([]byte, impl.MaxVal)...),
		"a row ahead of another":                 {1, 0, 1, 0},
		"a NULL with a number":                   {1, 0, 1},
		"an Int with a Dec's kind twice written": {1, 1, 2, 2},
	}
	for what, b := range wrong {
		if got, code := impl.RowValues(b); code != impl.ErrCorrupt || len(got) != 0 {
			t.Errorf("%s: %v %d", what, got, code)
		}
	}
	for i := range badTexts() {
		b := append([]byte{1, 3, byte(len(badTexts()[i]))}, badTexts()[i]...)
		if got, code := impl.RowValues(b); code != impl.ErrCorrupt || len(got) != 0 {
			t.Errorf("%v: %v %d", b, got, code)
		}
	}
}

func TestSum32(t *testing.T) {
	known := map[string]int{
		"": 0, "123456789": 3421780262, "a": 3904355907, "abc": 891568578, "\x00": 3523407757, "\xff": 4278190080,
		strings.Repeat("\x00", 32): 420107693, strings.Repeat("\xff", 32): 4285311755,
		"The quick brown fox jumps over the lazy dog": 1095738169,
	}
	for text, want := range known {
		if got := impl.Sum32([]byte(text)); got != want {
			t.Errorf("the sum of %q: %d, want %d", text, got, want)
		}
	}
	if impl.Sum32(nil) != 0 {
		t.Errorf("the sum of nil")
	}
	for one := range 256 {
		if got := impl.Sum32([]byte{byte(one)}); got != wantedSum([]byte{byte(one)}) {
			t.Errorf("the sum of byte %d: %d", one, got)
		}
	}
}

// wantedSum is the document's sum, bit by bit.
func wantedSum(b []byte) int {
	sum := 4294967295
	for _, one := range b {
		sum ^= int(one)
		for range 8 {
			if sum%2 == 1 {
				sum = sum/2 ^ 3988292384
			} else {
				sum /= 2
			}
		}
	}
	return 4294967295 - sum
}

func TestSum32ByChance(t *testing.T) {
	numbers := &numberSource{state: 1201}
	for range 400 {
		b := grownBytes(numbers, below(numbers, 700))
		if got := impl.Sum32(b); got != wantedSum(b) || got != int(crc32.ChecksumIEEE(b)) {
			t.Fatalf("the sum of %v: %d", b, got)
		}
	}
}

func grownBytes(numbers *numberSource, size int) []byte {
	b := make([]byte, size)
	for i := range b {
		b[i] = byte(below(numbers, 256))
	}
	return b
}

// TestSumsAtOnce has many that ask for the first sum together.
func TestSumsAtOnce(t *testing.T) {
	t.Parallel()
	var all sync.WaitGroup
	var got [16]int
	for i := range got {
		all.Go(func() { got[i] = impl.Sum32([]byte("123456789")) })
	}
	all.Wait()
	for i := range got {
		if got[i] != 3421780262 {
			t.Errorf("sum %d: %d", i, got[i])
		}
	}
}
