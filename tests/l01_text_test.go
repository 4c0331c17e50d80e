package tests

import (
	"encoding/binary"
	"math"
	"strings"
	"testing"

	"loop.example/g00839/impl"
)

func wantText(t *testing.T, text string, at int64, want impl.TextOut) {
	t.Helper()
	if got := impl.GetText(text, at); got != want {
		t.Errorf("GetText(%q, %d): got code %d, at %d, %d bytes %q, want code %d, at %d, %d bytes",
			clip(text), at, got.Code, got.At, len(got.Text), clip(got.Text), want.Code, want.At, len(want.Text))
	}
}

// someText is a text of so many bytes, of all kinds.
func someText(size int) string {
	out := make([]byte, size)
	for i := range out {
		out[i] = byte(i*i*31 + i*7 + i>>3)
	}
	return string(out)
}

// Promise 1: texts that fit in.
func TestPutTextBytes(t *testing.T) {
	for _, size := range []int{0, 1, 2, 63, 64, 65, 100, 7997, 7998, 7999, impl.MaxBytes} {
		text := someText(size)
		if got, want := impl.PutText(text), string(binary.AppendVarint(nil, int64(size)))+text; got != want {
			t.Errorf("PutText of %d bytes: got %q", size, clip(got))
		}
	}
	for _, size := range []int{impl.MaxBytes + 1, impl.MaxBytes + 2, 2 * impl.MaxBytes} {
		if got := impl.PutText(someText(size)); got != "" {
			t.Errorf("PutText of %d bytes: got %q", size, clip(got))
		}
	}
}

func TestTextsComeBack(t *testing.T) {
	for _, size := range []int{0, 1, 2, 62, 63, 64, 65, 127, 128, 1000, 7990, 7997, 7998} {
		text := someText(size)
		b := impl.PutText(text)
		wantText(t, b, 0, impl.TextOut{Text: text, At: int64(len(b))})
	}
	for size := range 100 {
		b := impl.PutText(someText(size))
		wantText(t, "\xff"+b+"\xff", 1, impl.TextOut{Text: someText(size), At: int64(len(b)) + 1})
		for i := range len(b) {
			wantText(t, b[:i], 0, impl.TextOut{Code: impl.ErrShort})
		}
	}
}

func TestGetTextFaults(t *testing.T) {
	num := impl.PutNum
	cases := []struct {
		text string
		at   int64
		code int64
	}{
		{num(2) + "ab", -1, impl.ErrForm}, {"", -1, impl.ErrForm}, {"", math.MinInt64, impl.ErrForm},
		{"", 0, impl.ErrShort}, {num(2) + "ab", 3, impl.ErrShort}, {num(2) + "ab", math.MaxInt64, impl.ErrShort},
		{"\x80", 0, impl.ErrShort}, {strings.Repeat("\x80", 9), 0, impl.ErrShort},
		{"\x80\x00", 0, impl.ErrSyntax}, {"\x84\x00ab", 0, impl.ErrSyntax},
		{strings.Repeat("\x80", 9) + "\x02", 0, impl.ErrSyntax}, {strings.Repeat("\xff", 10), 0, impl.ErrSyntax},
		{num(-1), 0, impl.ErrSyntax}, {num(-1) + "ab", 0, impl.ErrSyntax}, {num(-2) + "ab", 0, impl.ErrSyntax},
		{num(math.MinInt64) + "ab", 0, impl.ErrSyntax}, {num(math.MaxInt64) + "ab", 0, impl.ErrSyntax},
		{num(impl.MaxBytes + 1), 0, impl.ErrSyntax}, {"a" + num(impl.MaxBytes+1) + "ab", 1, impl.ErrSyntax},
		{num(1<<32 + 2), 0, impl.ErrSyntax}, {num(1<<32+2) + "ab", 0, impl.ErrSyntax},
		{num(1), 0, impl.ErrShort}, {num(3) + "ab", 0, impl.ErrShort},
		{num(impl.MaxBytes) + "ab", 0, impl.ErrShort}, {num(7999) + someText(7998), 0, impl.ErrShort},
		{num(impl.MaxBytes) + someText(7998), 0, impl.ErrShort},
	}
	for _, c := range cases {
		wantText(t, c.text, c.at, impl.TextOut{Code: c.code})
	}
}

// The bytes of a text of nearly MaxBytes bytes are more than MaxBytes themselves, so they are refused.
func TestGetTextSize(t *testing.T) {
	for _, size := range []int{7999, impl.MaxBytes} {
		wantText(t, impl.PutText(someText(size)), 0, impl.TextOut{Code: impl.ErrSize})
	}
	long := strings.Repeat("\x00", impl.MaxBytes)
	wantText(t, long, impl.MaxBytes-1, impl.TextOut{At: impl.MaxBytes})
	wantText(t, long, impl.MaxBytes, impl.TextOut{Code: impl.ErrShort})
	for _, at := range []int64{0, -1, impl.MaxBytes + 5} {
		wantText(t, long+"\x00", at, impl.TextOut{Code: impl.ErrSize})
	}
}

func TestNameRight(t *testing.T) {
	right := []string{"a", "z", "a_9", "a0", "z__", "abcdefghijklmnopqrst", "m1234567890_________", strings.Repeat("a", 20)}
	for _, n := range right {
		if !impl.NameRight(n) {
			t.Errorf("%q is a name", n)
		}
	}
	wrong := []string{"", "_a", "0a", "A", "aB", "a b", "a-b", "a\x00", "\xc3\xa4", "a\xe4", " a", "a\n", strings.Repeat("a", 21),
		strings.Repeat("a", impl.MaxBytes), strings.Repeat("a", impl.MaxBytes+1)}
	for _, n := range wrong {
		if impl.NameRight(n) {
			t.Errorf("%q is no name", clip(n))
		}
	}
	for b := range 256 {
		small, other := b >= 'a' && b <= 'z', b >= '0' && b <= '9' || b == '_'
		one := string([]byte{byte(b)})
		if impl.NameRight(one) != small {
			t.Errorf("name of the byte %d alone: want %v", b, small)
		}
		if impl.NameRight("a"+one) != (small || other) || impl.NameRight("a"+one+"a") != (small || other) {
			t.Errorf("name with the byte %d: want %v", b, small || other)
		}
	}
}
