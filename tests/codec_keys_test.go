package tests

import (
	"bytes"
	"math"
	"slices"
	"strings"
	"testing"

	"loop.example/g00001/impl"
)

type byteCase struct {
	vals []impl.Value
	want []byte
}

// eachKindAsKey has the least and the greatest number of each kind, and what stands around 0.
func eachKindAsKey() []byteCase {
	one := func(v impl.Value, want ...byte) byteCase { return byteCase{[]impl.Value{v}, want} }
	return []byteCase{
		{nil, nil},
		one(null, 0),
		one(intv(0), 16, 128, 0, 0, 0, 0, 0, 0, 0),
		one(intv(1), 16, 128, 0, 0, 0, 0, 0, 0, 1),
		one(intv(-1), 16, 127, 255, 255, 255, 255, 255, 255, 255),
		one(intv(0x0102030405060708), 16, 129, 2, 3, 4, 5, 6, 7, 8),
		one(intv(math.MaxInt), 16, 255, 255, 255, 255, 255, 255, 255, 255),
		one(intv(math.MinInt), 16, 0, 0, 0, 0, 0, 0, 0, 0),
		one(decv(0), 32, 128, 0, 0, 0, 0, 0, 0, 0),
		one(decv(5), 32, 128, 0, 0, 0, 0, 0, 0, 5),
		one(decv(impl.MaxDec), 32, 0x8d, 0xe0, 0xb6, 0xb3, 0xa7, 0x63, 0xff, 0xff),
		one(decv(-impl.MaxDec), 32, 0x72, 0x1f, 0x49, 0x4c, 0x58, 0x9c, 0, 1),
		one(textv(""), 48, 0, 1),
		one(textv("a"), 48, 97, 0, 1),
		one(textv("\x00"), 48, 0, 255, 0, 1),
		one(textv("\x00\x00"), 48, 0, 255, 0, 255, 0, 1),
		one(textv("a\x00b"), 48, 97, 0, 255, 98, 0, 1),
		one(textv("\x01\x00\x01"), 48, 1, 0, 255, 1, 0, 1),
		one(textv("é\U0010ffff"), 48, 0xc3, 0xa9, 0xf4, 0x8f, 0xbf, 0xbf, 0, 1),
		one(boolv(false), 64, 0),
		one(boolv(true), 64, 1),
		one(datev(0), 80, 128, 0, 0, 0),
		one(datev(-1), 80, 127, 255, 255, 255),
		one(datev(impl.MinDate), 80, 0x7f, 0xf5, 0x06, 0xc6),
		one(datev(impl.MaxDate), 80, 0x80, 0x2c, 0xc0, 0xa0),
		{[]impl.Value{null, boolv(true), null, textv("")}, []byte{0, 64, 1, 0, 48, 0, 1}},
		{[]impl.Value{textv("a"), textv("b"), datev(1)}, []byte{48, 97, 0, 1, 48, 98, 0, 1, 80, 128, 0, 0, 1}},
	}
}

func TestKeyBytesAndKeyValuesOfEachKind(t *testing.T) {
	for _, c := range eachKindAsKey() {
		got, code := impl.KeyBytes(c.vals)
		if code != impl.OK || !bytes.Equal(got, c.want) {
			t.Errorf("the key of %v: %v %d", c.vals, got, code)
		}
		back, code := impl.KeyValues(c.want)
		if code != impl.OK || !slices.Equal(back, c.vals) {
			t.Errorf("the values of key %v: %v %d", c.want, back, code)
		}
	}
}

func manyOf(v impl.Value, count int) []impl.Value { return slices.Repeat([]impl.Value{v}, count) }

// keysAtBounds have just MaxParts values, or just MaxKey bytes.
func keysAtBounds() [][]impl.Value {
	return [][]impl.Value{
		manyOf(null, impl.MaxParts),
		append(manyOf(intv(7), 13), boolv(true), null),
		{textv(strings.Repeat("a", impl.MaxKey-3))},
		{textv(strings.Repeat("\x00", 58)), null},
		{textv(strings.Repeat("水", 39))},
		append(manyOf(datev(3), 15), manyOf(textv(strings.Repeat("b", 42)), 1)...),
	}
}

func TestKeyBytesAtItsBounds(t *testing.T) {
	for _, vals := range keysAtBounds() {
		got, code := impl.KeyBytes(vals)
		if code != impl.OK || len(vals) != impl.MaxParts && len(got) != impl.MaxKey {
			t.Errorf("%v: %d bytes, %d", vals, len(got), code)
		}
		if back, code := impl.KeyValues(got); code != impl.OK || !slices.Equal(back, vals) {
			t.Errorf("%v is read back as %v, %d", vals, back, code)
		}
	}
	tooMany, tooLong := manyOf(null, impl.MaxParts+1), append(manyOf(intv(7), 13), boolv(true), null, null)
	wrong := []struct {
		vals []impl.Value
		code int
	}{
		{tooMany, impl.ErrBad},
		{tooLong, impl.ErrBig},
		{[]impl.Value{textv(strings.Repeat("a", impl.MaxKey-2))}, impl.ErrBig},
		{[]impl.Value{textv(strings.Repeat("\x00", 59))}, impl.ErrBig},
		{manyOf(intv(0), impl.MaxParts), impl.ErrBig},
		{manyOf(intv(0), impl.MaxParts+1), impl.ErrBad},
		{manyOf(textv(strings.Repeat("𝄞", impl.MaxChars)), impl.MaxParts), impl.ErrBig},
		{append(slices.Clone(tooLong), boolish(2)), impl.ErrBad},
		{append(slices.Clone(tooMany), boolish(2)), impl.ErrBad},
	}
	for _, c := range wrong {
		if got, code := impl.KeyBytes(c.vals); code != c.code || len(got) != 0 {
			t.Errorf("%d values: %v %d", len(c.vals), got, code)
		}
	}
}

func TestKeyBytesOfWrongValues(t *testing.T) {
	for _, v := range invalidValues() {
		for _, vals := range [][]impl.Value{{v}, {intv(1), v}, {v, textv("a")}} {
			if got, code := impl.KeyBytes(vals); code != impl.ErrBad || len(got) != 0 {
				t.Errorf("the key of %v: %v %d", vals, got, code)
			}
			if got, code := impl.RowBytes(vals); code != impl.ErrBad || len(got) != 0 {
				t.Errorf("the row of %v: %v %d", vals, got, code)
			}
		}
	}
}

func TestKeyValuesOfWrongBytes(t *testing.T) {
	maxInt := []byte{255, 255, 255, 255, 255, 255, 255, 255}
	wrong := map[string][]byte{
		"an Int that ends":               {16, 128, 0, 0, 0, 0, 0, 0},
		"an Int without number":          {16},
		"a Dec that ends":                {32, 128, 0, 0, 0, 0, 0, 0},
		"a Bool that ends":               {64},
		"a Date that ends":               {80, 128, 0, 0},
		"a text that ends":               {48, 97},
		"a text without its end":         {48},
		"a text that ends in its end":    {48, 97, 0},
		"a text that goes on and ends":   {48, 97, 0, 255},
		"a 2 behind 0":                   {48, 97, 0, 2},
		"a 0 behind 0":                   {48, 97, 0, 0},
		"a 254 behind 0":                 {48, 97, 0, 254, 0, 1},
		"kind 1":                         {1},
		"kind 15":                        {15},
		"kind 17":                        append([]byte{17}, maxInt...),
		"kind 65":                        {65, 1},
		"kind 96":                        {96},
		"kind 255":                       {255},
		"a kind behind a value":          {64, 1, 3},
		"something behind an Int":        {16, 128, 0, 0, 0, 0, 0, 0, 1, 1},
		"something behind a text":        {48, 0, 1, 1},
		"a Bool of 2":                    {64, 2},
		"a Bool of 255":                  {64, 255},
		"a day behind the last":          {80, 0x80, 0x2c, 0xc0, 0xa1},
		"a day ahead of the first":       {80, 0x7f, 0xf5, 0x06, 0xc5},
		"the least day of 4 bytes":       {80, 0, 0, 0, 0},
		"the greatest day of 4 bytes":    {80, 255, 255, 255, 255},
		"a Dec above the greatest":       {32, 0x8d, 0xe0, 0xb6, 0xb3, 0xa7, 0x64, 0, 0},
		"a Dec below the least":          {32, 0x72, 0x1f, 0x49, 0x4c, 0x58, 0x9c, 0, 0},
		"a Dec of all bits":              append([]byte{32}, maxInt...),
		"a text that is no UTF-8":        {48, 255, 0, 1},
		"a text that is UTF-8 in parts":  {48, 0xc3, 0, 255, 0xa9, 0, 1},
		"more values than a key may":     make([]byte, impl.MaxParts+1),
		"more bytes than a key may have": append(append([]byte{48}, bytes.Repeat([]byte{97}, impl.MaxKey-2)...), 0, 1),
	}
	for what, b := range wrong {
		if got, code := impl.KeyValues(b); code != impl.ErrCorrupt || len(got) != 0 {
			t.Errorf("%s: %v %d", what, got, code)
		}
	}
	for i := range badTexts() {
		b := append(append([]byte{48}, badTexts()[i]...), 0, 1)
		if got, code := impl.KeyValues(b); code != impl.ErrCorrupt || len(got) != 0 {
			t.Errorf("%v: %v %d", b, got, code)
		}
	}
}
