package tests

import (
	"math"
	"strings"
	"testing"

	"loop.example/g00001/impl"
)

func TestCastKind(t *testing.T) {
	wanted := [6][6]bool{
		impl.Null: {true, true, true, true, true, true},
		impl.Int:  {impl.Int: true, impl.Dec: true, impl.Text: true},
		impl.Dec:  {impl.Int: true, impl.Dec: true, impl.Text: true},
		impl.Text: {impl.Int: true, impl.Dec: true, impl.Text: true, impl.Bool: true, impl.Date: true},
		impl.Bool: {impl.Text: true, impl.Bool: true},
		impl.Date: {impl.Text: true, impl.Date: true},
	}
	for _, from := range oddNumbers() {
		for _, to := range oddNumbers() {
			want := from >= 0 && from <= impl.Date && to >= 0 && to <= impl.Date && wanted[from][to]
			if impl.CastKind(from, to) != want {
				t.Errorf("CastKind %d %d: %v", from, to, !want)
			}
		}
	}
	for _, v := range validValues() {
		for kind := impl.Null; kind <= impl.Date; kind++ {
			got, code := impl.Cast(v, kind)
			if (code == impl.ErrType) == wanted[v.Kind][kind] || code == impl.OK && v != null && got.Kind != kind {
				t.Errorf("Cast of %v to %d: %v %d", v, kind, got, code)
			}
			if v.Kind == kind && got != v {
				t.Errorf("Cast of %v to its own kind: %v", v, got)
			}
		}
	}
}

func TestCastOfNumbers(t *testing.T) {
	const most = impl.MaxDec / impl.Scale
	cases := []struct {
		v    impl.Value
		kind int
		want impl.Value
		code int
	}{
		{intv(0), impl.Dec, decv(0), 0}, {intv(-3), impl.Dec, decv(-30000), 0}, {intv(most), impl.Dec, decv(most * impl.Scale), 0},
		{intv(-most), impl.Dec, decv(-most * impl.Scale), 0}, {intv(most + 1), impl.Dec, null, impl.ErrOverflow}, {intv(-most - 1), impl.Dec, null, impl.ErrOverflow},
		{intv(math.MaxInt), impl.Dec, null, impl.ErrOverflow}, {intv(math.MinInt), impl.Dec, null, impl.ErrOverflow},
		{decv(4999), impl.Int, intv(0), 0}, {decv(5000), impl.Int, intv(1), 0}, {decv(-4999), impl.Int, intv(0), 0}, {decv(-5000), impl.Int, intv(-1), 0},
		{decv(24999), impl.Int, intv(2), 0}, {decv(25000), impl.Int, intv(3), 0}, {decv(-25000), impl.Int, intv(-3), 0},
		{decv(impl.MaxDec), impl.Int, intv(most + 1), 0}, {decv(-impl.MaxDec), impl.Int, intv(-most - 1), 0},
	}
	for i, c := range cases {
		if v, code := impl.Cast(c.v, c.kind); v != c.want || code != c.code {
			t.Errorf("case %d: %v %d", i, v, code)
		}
	}
}

func TestCastFromText(t *testing.T) {
	cases := []struct {
		s    string
		want impl.Value
	}{
		{"0", intv(0)}, {"-0", intv(0)}, {"007", intv(7)}, {"0000000000000000012", intv(12)}, {"-0000000000000000012", intv(-12)},
		{"9223372036854775807", intv(math.MaxInt)}, {"-9223372036854775808", intv(math.MinInt)},
		{"0", decv(0)}, {"-0", decv(0)}, {"-0.0", decv(0)}, {"1.5", decv(15000)}, {"1.0001", decv(10001)}, {"1.01", decv(10100)}, {"-0.0001", decv(-1)},
		{"00000000000001", decv(10000)}, {"99999999999999.9999", decv(impl.MaxDec)}, {"-99999999999999.9999", decv(-impl.MaxDec)},
		{"true", boolv(true)}, {"false", boolv(false)},
		{"0001-01-01", datev(impl.MinDate)}, {"9999-12-31", datev(impl.MaxDate)}, {"1970-01-01", datev(0)}, {"2000-02-29", datev(11016)}, {"1969-12-31", datev(-1)},
	}
	for _, c := range cases {
		if v, code := impl.Cast(textv(c.s), c.want.Kind); v != c.want || code != impl.OK {
			t.Errorf("%q: %v %d", c.s, v, code)
		}
	}
}

func TestCastRefusesTexts(t *testing.T) {
	wrong := map[int][]string{
		impl.Int: {"", "-", "+1", "--1", " 1", "1 ", "1.0", "1e3", "0x1", "1_0", "a", "1a", "9223372036854775808", "-9223372036854775809",
			"00000000000000000001", "99999999999999999999", "１", "٣", "true", strings.Repeat("1", impl.MaxChars)},
		impl.Dec: {"", "-", ".", "-.", "1.", ".5", "-.5", "+1.5", "1.23456", "1..2", "1.2.3", "1.-2", "--1.5", "100000000000000", "000000000000001",
			"1,5", " 1.5", "1.5 ", "1.5a", "1.½", "1e2", strings.Repeat("1", impl.MaxChars)},
		impl.Bool: {"", "TRUE", "True", "t", "f", "0", "1", " true", "true ", "falsee", "NULL"},
		impl.Date: {"", "2021-02-29", "1900-02-29", "2020-00-10", "2020-13-01", "2020-01-00", "2020-01-32", "2020-04-31", "0000-01-01", "10000-01-01",
			"2020-1-01", "2020-01-1", "2020/01/01", "20200101", "2020-01-01 ", " 2020-01-01", "-001-01-01", "2020-01--1", "2020-0a-01", "+020-01-01", "202é-01-01",
			"2020-01-0é", "2020x01-01", "2020-01x01"},
	}
	for kind, texts := range wrong {
		for _, s := range texts {
			if v, code := impl.Cast(textv(s), kind); v != null || code != impl.ErrCast {
				t.Errorf("%q to %d: %v %d", s, kind, v, code)
			}
		}
	}
}

func TestShowAndPlain(t *testing.T) {
	cases := []struct {
		v           impl.Value
		show, plain string
	}{
		{null, "NULL", "NULL"}, {intv(0), "0", "0"}, {intv(-7), "-7", "-7"}, {intv(math.MaxInt), "9223372036854775807", "9223372036854775807"},
		{intv(math.MinInt), "-9223372036854775808", "-9223372036854775808"},
		{decv(0), "0.0", "0"}, {decv(-20000), "-2.0", "-2"}, {decv(1), "0.0001", "0.0001"}, {decv(-1), "-0.0001", "-0.0001"}, {decv(10100), "1.01", "1.01"},
		{decv(-12500), "-1.25", "-1.25"}, {decv(100000), "10.0", "10"}, {decv(impl.MaxDec), "99999999999999.9999", "99999999999999.9999"},
		{decv(-impl.MaxDec), "-99999999999999.9999", "-99999999999999.9999"},
		{textv(""), "''", ""}, {textv("'"), "''''", "'"}, {textv("it''s é"), "'it''''s é'", "it''s é"}, {textv("NULL"), "'NULL'", "NULL"}, {textv("?"), "'?'", "?"},
		{boolv(true), "TRUE", "true"}, {boolv(false), "FALSE", "false"},
		{datev(impl.MinDate), "DATE '0001-01-01'", "0001-01-01"}, {datev(impl.MaxDate), "DATE '9999-12-31'", "9999-12-31"}, {datev(18292), "DATE '2020-01-31'", "2020-01-31"},
	}
	for _, c := range cases {
		if impl.Show(c.v) != c.show || impl.Plain(c.v) != c.plain {
			t.Errorf("%v: %q %q", c.v, impl.Show(c.v), impl.Plain(c.v))
		}
	}
	for _, v := range invalidValues() {
		if impl.Show(v) != "?" || impl.Plain(v) != "?" {
			t.Errorf("%v: %q %q", v, impl.Show(v), impl.Plain(v))
		}
	}
}
