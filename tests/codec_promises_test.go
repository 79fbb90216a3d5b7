package tests

import (
	"bytes"
	"encoding/binary"
	"fmt"
	"math"
	"math/big"
	"slices"
	"strings"
	"testing"
	"unicode/utf8"

	"loop.example/g00001/impl"
)

// wantedKeyBytes is chapter 12 once more: the bytes of a key and the code.
func wantedKeyBytes(vals []impl.Value) ([]byte, int) {
	var key []byte
	for _, v := range vals {
		key = append(key, []byte{0, 16, 32, 48, 64, 80}[max(0, min(v.Kind, 5))])
		switch v.Kind {
		case impl.Int, impl.Dec:
			key = append(key, shifted(v.N, 63, 8)...)
		case impl.Date:
			key = append(key, shifted(v.N, 31, 4)...)
		case impl.Text:
			key = append(key, strings.ReplaceAll(v.S, "\x00", "\x00\xff")+"\x00\x01"...)
		case impl.Bool:
			key = append(key, byte(v.N))
		}
	}
	return ifItMayBe(vals, key, impl.MaxKey)
}

func ifItMayBe(vals []impl.Value, b []byte, most int) ([]byte, int) {
	switch {
	case len(vals) > impl.MaxParts || slices.ContainsFunc(vals, func(v impl.Value) bool { return !impl.ValueOK(v) }):
		return nil, impl.ErrBad
	case len(b) > most:
		return nil, impl.ErrBig
	}
	return b, impl.OK
}

// shifted is a number and a power of 2, in so many bytes as far as they take it.
func shifted(n, power, size int) []byte {
	sum := new(big.Int).Add(big.NewInt(int64(n)), new(big.Int).Lsh(big.NewInt(1), uint(power)))
	if sum.Sign() < 0 || sum.BitLen() > 8*size {
		return nil
	}
	return sum.FillBytes(make([]byte, size))
}

// wantedRowBytes is chapter 12 once more: the bytes of a row and the code.
func wantedRowBytes(vals []impl.Value) ([]byte, int) {
	row := []byte{byte(len(vals))}
	for _, v := range vals {
		row = append(row, byte(v.Kind))
		switch v.Kind {
		case impl.Int, impl.Dec, impl.Date:
			row = binary.AppendVarint(row, int64(v.N))
		case impl.Text:
			row = append(binary.AppendUvarint(row, uint64(len(v.S))), v.S...)
		case impl.Bool:
			row = append(row, byte(v.N))
		}
	}
	return ifItMayBe(vals, row, impl.MaxVal)
}

// wantedKeyValues reads a key from the front and looks for each fault at its place.
func wantedKeyValues(b []byte) ([]impl.Value, bool) {
	if len(b) > impl.MaxKey {
		return nil, false
	}
	var vals []impl.Value
	for len(b) > 0 {
		v, size := wantedKeyValue(b)
		if size == 0 || len(vals) == impl.MaxParts {
			return nil, false
		}
		vals, b = append(vals, v), b[size:]
	}
	return vals, true
}

func wantedKeyValue(b []byte) (impl.Value, int) {
	sizes := map[byte]int{0: 1, 16: 9, 32: 9, 64: 2, 80: 5}
	size, is := sizes[b[0]]
	switch {
	case b[0] == 48:
		return wantedKeyText(b)
	case !is || len(b) < size:
		return null, 0
	case b[0] == 0:
		return null, 1
	case b[0] == 16:
		return intv(int(binary.BigEndian.Uint64(b[1:]) - 1<<63)), 9
	case b[0] == 32:
		n := int(binary.BigEndian.Uint64(b[1:]) - 1<<63)
		if n > impl.MaxDec || n < -impl.MaxDec {
			return null, 0
		}
		return decv(n), 9
	case b[0] == 64:
		if b[1] > 1 {
			return null, 0
		}
		return boolv(b[1] == 1), 2
	}
	n := int(binary.BigEndian.Uint32(b[1:])) - 1<<31
	if n > impl.MaxDate || n < impl.MinDate {
		return null, 0
	}
	return datev(n), 5
}

func wantedKeyText(b []byte) (impl.Value, int) {
	end := bytes.Index(bytes.ReplaceAll(b[1:], []byte{0, 255}, []byte{2, 2}), []byte{0})
	if end < 0 || end+2 >= len(b) || b[end+2] != 1 {
		return null, 0
	}
	text := strings.ReplaceAll(string(b[1:end+1]), "\x00\xff", "\x00")
	if !utf8.ValidString(text) || utf8.RuneCountInString(text) > impl.MaxChars {
		return null, 0
	}
	return textv(text), end + 3
}

// wantedRowValues reads a row from the front and looks for each fault at its place.
func wantedRowValues(b []byte) ([]impl.Value, bool) {
	if len(b) == 0 || len(b) > impl.MaxVal || b[0] > impl.MaxParts {
		return nil, false
	}
	count := int(b[0])
	b = b[1:]
	var vals []impl.Value
	for range count {
		v, size := wantedRowValue(b)
		if size == 0 {
			return nil, false
		}
		vals, b = append(vals, v), b[size:]
	}
	return vals, len(b) == 0
}

func wantedRowValue(b []byte) (impl.Value, int) {
	if len(b) == 0 || b[0] == 0 {
		return null, min(len(b), 1)
	}
	kind := int(b[0])
	switch kind {
	case impl.Bool:
		if len(b) < 2 || b[1] > 1 {
			return null, 0
		}
		return boolv(b[1] == 1), 2
	case impl.Text:
		length, size := shortestUvarint(b[1:])
		if size == 0 || length > uint64(len(b)-1-size) {
			return null, 0
		}
		text := string(b[1+size : 1+size+int(length)])
		if !utf8.ValidString(text) || utf8.RuneCountInString(text) > impl.MaxChars {
			return null, 0
		}
		return textv(text), 1 + size + int(length)
	case impl.Int, impl.Dec, impl.Date:
		_, size := shortestUvarint(b[1:])
		n, _ := binary.Varint(b[1:])
		least, most := []int{math.MinInt, -impl.MaxDec, 0, 0, impl.MinDate}[kind-1], []int{math.MaxInt, impl.MaxDec, 0, 0, impl.MaxDate}[kind-1]
		if size == 0 || int(n) < least || int(n) > most {
			return null, 0
		}
		return impl.Value{Kind: kind, N: int(n)}, 1 + size
	}
	return null, 0
}

func shortestUvarint(b []byte) (uint64, int) {
	n, size := binary.Uvarint(b)
	if size <= 0 || size > 1 && b[size-1] == 0 {
		return 0, 0
	}
	return n, size
}

// wantCodec holds what becomes of values against chapter 12 once more, and what is read back against the values.
func wantCodec(t *testing.T, vals []impl.Value, met *tally) {
	t.Helper()
	key, code := impl.KeyBytes(vals)
	want, wantCode := wantedKeyBytes(vals)
	if code != wantCode || !bytes.Equal(key, want) {
		t.Fatalf("the key of %v: %v %d, want %v %d", vals, key, code, want, wantCode)
	}
	met.add(fmt.Sprintf("key %d", code))
	if back, again := impl.KeyValues(key); code == impl.OK && (again != impl.OK || !slices.Equal(back, vals)) {
		t.Fatalf("the key of %v is read back as %v %d", vals, back, again)
	}
	row, code := impl.RowBytes(vals)
	want, wantCode = wantedRowBytes(vals)
	if code != wantCode || !bytes.Equal(row, want) {
		t.Fatalf("the row of %v: %v %d, want %v %d", vals, row, code, want, wantCode)
	}
	met.add(fmt.Sprintf("row %d", code))
	if back, again := impl.RowValues(row); code == impl.OK && (again != impl.OK || !slices.Equal(back, vals)) {
		t.Fatalf("the row of %v is read back as %v %d", vals, back, again)
	}
	wantReading(t, spoiltBytes(key, len(vals)), met)
	wantReading(t, spoiltBytes(row, len(row)+1), met)
}

// wantReading holds what any bytes are read as against chapter 12 once more.
func wantReading(t *testing.T, b []byte, met *tally) {
	t.Helper()
	vals, code := impl.KeyValues(b)
	want, ok := wantedKeyValues(b)
	if code != codeIf(!ok, impl.ErrCorrupt) || !slices.Equal(vals, want) {
		t.Fatalf("%v as a key: %v %d, want %v", b, vals, code, want)
	}
	met.add(fmt.Sprintf("key read %d", code))
	vals, code = impl.RowValues(b)
	want, ok = wantedRowValues(b)
	if code != codeIf(!ok, impl.ErrCorrupt) || !ok && vals != nil || ok && !slices.Equal(vals, want) {
		t.Fatalf("%v as a row: %v %d, want %v", b, vals, code, want)
	}
	met.add(fmt.Sprintf("row read %d", code))
}

func codeIf(holds bool, code int) int {
	if holds {
		return code
	}
	return impl.OK
}

// spoiltBytes are others, of which many are read as something: how is any number.
func spoiltBytes(b []byte, how int) []byte {
	b = slices.Clone(b)
	numbers := &numberSource{state: uint64(how + len(b))}
	for _, one := range b {
		numbers.state += uint64(one)
		numbers.next()
	}
	if len(b) == 0 {
		return grownBytes(numbers, below(numbers, 12))
	}
	at := below(numbers, len(b))
	switch below(numbers, 6) {
	case 0:
		return b[:at]
	case 1:
		return append(b, grownBytes(numbers, 1+below(numbers, 3))...)
	case 2:
		return slices.Delete(b, at, at+1)
	case 3:
		return slices.Insert(b, at, byte(below(numbers, 256)))
	case 4:
		b[at] ^= 1 << below(numbers, 8)
		return b
	}
	b[at] = []byte{0, 1, 2, 16, 32, 48, 64, 80, 128, 255}[below(numbers, 10)]
	return b
}

// codecValues are those that a list for a key or a row is made of: most are short.
func codecValues(numbers *numberSource, count int) []impl.Value {
	valid, invalid := validValues(), invalidValues()
	var vals []impl.Value
	for range count {
		v := valid[below(numbers, len(valid))]
		switch below(numbers, 8) {
		case 0, 1:
			v = intv(numbers.next())
		case 2:
			v = null
		case 3:
			v = textv(strings.Repeat("\x00", below(numbers, 3)) + strings.Repeat("水b", below(numbers, 3)))
		case 4:
			v = []impl.Value{boolv(true), boolv(false), datev(numbers.next() % impl.MinDate), decv(numbers.nextDec())}[below(numbers, 4)]
		}
		if below(numbers, 60) == 0 {
			v = invalid[below(numbers, len(invalid))]
		}
		vals = append(vals, v)
	}
	return vals
}

// TestPromise14ByChance writes and reads keys and rows, and reads bytes that are nearly keys and rows.
func TestPromise14ByChance(t *testing.T) {
	t.Parallel()
	numbers := &numberSource{state: 1213}
	var met tally
	for _, v := range append(validValues(), invalidValues()...) {
		wantCodec(t, []impl.Value{v}, &met)
	}
	for round := 0; round < 20000; round++ {
		most := []int{3, 6, 20}[round%3]
		vals := codecValues(numbers, below(numbers, most))
		for i := range vals {
			if round%9 == 2 && below(numbers, 3) > 0 {
				vals[i] = textv(strings.Repeat("𝄞\x00", 100+below(numbers, 20)))
			}
		}
		wantCodec(t, vals, &met)
		wantReading(t, grownBytes(numbers, below(numbers, 6)), &met)
	}
	met.wantAtLeast(t, map[string]int{
		"key 0": 9000, "key 1": 1000, "key 5": 1500, "row 0": 10000, "row 1": 1000, "row 5": 400,
		"key read 0": 1000, "key read 28": 20000, "row read 0": 1000, "row read 28": 20000,
	})
}

// TestEveryBeginningOfKeysAndRows cuts each at every place, and puts each byte behind.
func TestEveryBeginningOfKeysAndRows(t *testing.T) {
	var met tally
	for _, c := range append(eachKindAsKey(), eachKindAsRow()...) {
		for at := range c.want {
			wantReading(t, c.want[:at], &met)
		}
		for one := range 256 {
			wantReading(t, append(slices.Clone(c.want), byte(one)), &met)
		}
	}
	for _, vals := range keysAtBounds() {
		key, _ := impl.KeyBytes(vals)
		for at := range len(key) + 1 {
			wantReading(t, key[:at], &met)
		}
	}
	met.wantAtLeast(t, map[string]int{"key read 0": 100, "row read 0": 1})
}

// wantSameOrder asks that the keys of two lists stand as the first values that are not alike.
func wantSameOrder(t *testing.T, a, b []impl.Value) {
	t.Helper()
	one, code := impl.KeyBytes(a)
	other, also := impl.KeyBytes(b)
	if code != impl.OK || also != impl.OK {
		return
	}
	want := 0
	for i := 0; i < len(a) && want == 0; i++ {
		want, _ = impl.Compare(a[i], b[i])
	}
	if got := bytes.Compare(one, other); got != want {
		t.Fatalf("the keys of %v and %v stand as %d, the values as %d", a, b, got, want)
	}
}

func eachKind() [][]impl.Value {
	texts := append(textValues(), textv("a\x00"), textv("a\x00\x00"), textv("a\x01"), textv("a\x00b"), textv("\x00\x01"), textv("\x01\x00"), textv("\x00a"), textv("ab"), textv("a b"))
	return [][]impl.Value{intValues(), decValues(), texts, boolValues(), dateValues()}
}

// TestPromise14OfOrder has all pairs of values of a kind, and NULL.
func TestPromise14OfOrder(t *testing.T) {
	t.Parallel()
	for _, values := range eachKind() {
		values = append(values, null)
		for _, a := range values {
			for _, b := range values {
				wantSameOrder(t, []impl.Value{a}, []impl.Value{b})
			}
		}
	}
}

// TestPromise14OfListsInOrder has lists of the same kinds, or NULL, which begin alike more often than not.
func TestPromise14OfListsInOrder(t *testing.T) {
	t.Parallel()
	numbers := &numberSource{state: 1217}
	kinds := eachKind()
	for range 20000 {
		var a, b []impl.Value
		for range 1 + below(numbers, 4) {
			values := kinds[below(numbers, len(kinds))]
			one, other := values[below(numbers, len(values))], values[below(numbers, len(values))]
			switch below(numbers, 4) {
			case 0:
				one = null
			case 1, 2:
				other = one
			}
			a, b = append(a, one), append(b, other)
		}
		wantSameOrder(t, a, b)
		wantSameOrder(t, b, a)
	}
}

// TestPromise1OfKeysAndRows hands in many values and long bytes, and looks at what was handed in.
func TestPromise1OfKeysAndRows(t *testing.T) {
	many := slices.Repeat(append(validValues(), invalidValues()...), 40)
	if b, code := impl.KeyBytes(many); b != nil || code != impl.ErrBad {
		t.Errorf("many values as a key: %d", code)
	}
	if b, code := impl.RowBytes(many); b != nil || code != impl.ErrBad {
		t.Errorf("many values as a row: %d", code)
	}
	for one := range 256 {
		long := bytes.Repeat([]byte{byte(one)}, 1<<20)
		if vals, code := impl.KeyValues(long); vals != nil || code != impl.ErrCorrupt {
			t.Errorf("many bytes %d as a key: %d", one, code)
		}
		if vals, code := impl.RowValues(long); vals != nil || code != impl.ErrCorrupt {
			t.Errorf("many bytes %d as a row: %d", one, code)
		}
	}
	vals := []impl.Value{intv(5), textv("a\x00b"), null}
	key, _ := impl.KeyBytes(vals)
	row, _ := impl.RowBytes(vals)
	keptKey, keptRow := slices.Clone(key), slices.Clone(row)
	fromKey, _ := impl.KeyValues(key)
	fromRow, _ := impl.RowValues(row)
	impl.Sum32(key)
	if !bytes.Equal(key, keptKey) || !bytes.Equal(row, keptRow) {
		t.Errorf("bytes that were read were written into")
	}
	clear(key)
	clear(row)
	if !slices.Equal(fromKey, vals) || !slices.Equal(fromRow, vals) {
		t.Errorf("values share memory with the bytes they were read from")
	}
	fromKey[0] = null
	if vals[0] != intv(5) {
		t.Errorf("values were written into")
	}
}
