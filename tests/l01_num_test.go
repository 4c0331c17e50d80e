package tests

import (
	"encoding/binary"
	"math"
	"strings"
	"testing"

	"loop.example/g00839/impl"
)

// turns are the numbers around each turn from one byte to the next, and the ends of int64.
func turns() []int64 {
	out := []int64{0, 1, -1, 2, -2, 63, 64, -64, -65, 300, -300, math.MinInt64, math.MinInt64 + 1, math.MaxInt64, math.MaxInt64 - 1}
	for bits := 7; bits < 64; bits += 7 {
		half := int64(1) << (bits - 1)
		for d := int64(-2); d <= 2; d++ {
			out = append(out, half+d, -half+d)
		}
	}
	return out
}

func wantNum(t *testing.T, text string, at int64, want impl.NumOut) {
	t.Helper()
	if got := impl.GetNum(text, at); got != want {
		t.Errorf("GetNum(%q, %d): got %+v, want %+v", clip(text), at, got, want)
	}
}

func clip(text string) string {
	if len(text) > 40 {
		return text[:20] + ".." + text[len(text)-20:]
	}
	return text
}

// Promise 1: numbers.
func TestPutNumBytes(t *testing.T) {
	known := []struct {
		n    int64
		want string
	}{
		{0, "\x00"}, {-1, "\x01"}, {1, "\x02"}, {-2, "\x03"}, {63, "\x7e"}, {-64, "\x7f"},
		{64, "\x80\x01"}, {-65, "\x81\x01"}, {150, "\xac\x02"},
		{8191, "\xfe\x7f"}, {-8192, "\xff\x7f"}, {8192, "\x80\x80\x01"}, {-8193, "\x81\x80\x01"},
		{math.MaxInt64, "\xfe\xff\xff\xff\xff\xff\xff\xff\xff\x01"},
		{math.MinInt64, "\xff\xff\xff\xff\xff\xff\xff\xff\xff\x01"},
	}
	for _, k := range known {
		if got := impl.PutNum(k.n); got != k.want {
			t.Errorf("PutNum(%d): got %q, want %q", k.n, got, k.want)
		}
	}
	for _, n := range turns() {
		if got, want := impl.PutNum(n), string(binary.AppendVarint(nil, n)); got != want {
			t.Errorf("PutNum(%d): got %q, want %q", n, got, want)
		}
	}
}

func TestNumbersComeBack(t *testing.T) {
	numbers := turns()
	for n := int64(-20000); n <= 20000; n += 7 {
		numbers = append(numbers, n)
	}
	for _, n := range numbers {
		b := impl.PutNum(n)
		wantNum(t, b, 0, impl.NumOut{N: n, At: int64(len(b))})
		wantNum(t, "\xff\xff"+b+"\x80", 2, impl.NumOut{N: n, At: int64(len(b)) + 2})
		for i := range b {
			wantNum(t, b[:i], 0, impl.NumOut{Code: impl.ErrShort})
		}
	}
}

func TestNumbersOneBehindTheOther(t *testing.T) {
	text := ""
	for _, n := range turns() {
		text += impl.PutNum(n)
	}
	at := int64(0)
	for _, n := range turns() {
		got := impl.GetNum(text, at)
		if got.Code != impl.OK || got.N != n {
			t.Fatalf("at %d: got %+v, want %d", at, got, n)
		}
		at = got.At
	}
	wantNum(t, text, at, impl.NumOut{Code: impl.ErrShort})
}

func TestGetNumFaults(t *testing.T) {
	nine := strings.Repeat("\x80", 9)
	full := strings.Repeat("\xff", 9)
	cases := []struct {
		text string
		at   int64
		code int64
	}{
		{"\x02", -1, impl.ErrForm}, {"\x02", math.MinInt64, impl.ErrForm}, {"", -1, impl.ErrForm},
		{"", 0, impl.ErrShort}, {"\x02", 1, impl.ErrShort}, {"\x02", 2, impl.ErrShort},
		{"\x02", math.MaxInt64, impl.ErrShort},
		{"\x80", 0, impl.ErrShort}, {nine, 0, impl.ErrShort}, {full, 0, impl.ErrShort},
		{"a" + nine, 1, impl.ErrShort},
		{"\x80\x00", 0, impl.ErrSyntax}, {"\x81\x00", 0, impl.ErrSyntax}, {"\xff\x80\x00", 0, impl.ErrSyntax},
		{nine + "\x00", 0, impl.ErrSyntax}, {full + "\x00", 0, impl.ErrSyntax},
		{nine + "\x02", 0, impl.ErrSyntax}, {full + "\x7f", 0, impl.ErrSyntax},
		{nine + "\x80", 0, impl.ErrSyntax}, {full + "\xff", 0, impl.ErrSyntax}, {full + "\x81", 0, impl.ErrSyntax},
		{full + "\xff\x01", 0, impl.ErrSyntax}, {nine + "\x80\x80\x80\x01", 0, impl.ErrSyntax},
	}
	for _, c := range cases {
		wantNum(t, c.text, c.at, impl.NumOut{Code: c.code})
	}
}

func TestGetNumSize(t *testing.T) {
	long := strings.Repeat("\x02", impl.MaxBytes)
	wantNum(t, long, 0, impl.NumOut{N: 1, At: 1})
	wantNum(t, long, impl.MaxBytes-1, impl.NumOut{N: 1, At: impl.MaxBytes})
	wantNum(t, long, impl.MaxBytes, impl.NumOut{Code: impl.ErrShort})
	for _, at := range []int64{0, -1, impl.MaxBytes + 5} {
		wantNum(t, long+"\x02", at, impl.NumOut{Code: impl.ErrSize})
	}
}

// slowNum reads a number as the document says it, byte by byte.
func slowNum(b string) impl.NumOut {
	end := strings.IndexFunc(b, func(r rune) bool { return r < 128 })
	if end < 0 {
		return impl.NumOut{Code: impl.ErrShort}
	}
	if end > 0 && b[end] == 0 {
		return impl.NumOut{Code: impl.ErrSyntax}
	}
	n, size := binary.Varint([]byte(b))
	return impl.NumOut{N: n, At: int64(size)}
}

func TestGetNumAllShortTexts(t *testing.T) {
	for a := range 256 {
		wantNum(t, string([]byte{byte(a)}), 0, slowNum(string([]byte{byte(a)})))
		for b := range 256 {
			two := []byte{byte(a), byte(b)}
			wantNum(t, string(two), 0, slowNum(string(two)))
			three := string(append(two, byte(a+b)))
			wantNum(t, three, 0, slowNum(three))
		}
	}
}

// What is read is what would have been written: no two ways of writing a number are taken.
func TestGetNumTakesOneWay(t *testing.T) {
	for last := range 256 {
		for size := 1; size <= 10; size++ {
			for _, fill := range []string{"\x80", "\xff", "\xaa"} {
				b := strings.Repeat(fill, size-1) + string([]byte{byte(last)})
				got := impl.GetNum(b, 0)
				if got.Code == impl.OK && impl.PutNum(got.N) != b[:got.At] {
					t.Errorf("%q is read as %d", b, got.N)
				}
				right := last < 128 && (last > 0 || size == 1) && (last < 2 || size < 10)
				if right != (got.Code == impl.OK) {
					t.Errorf("%q: got code %d", b, got.Code)
				}
			}
		}
	}
}
