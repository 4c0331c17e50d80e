package tests

import (
	"encoding/binary"
	"hash/crc32"
	"math"
	"strings"
	"testing"

	"loop.example/g00839/impl"
)

func trueCrc(text string) int64 {
	return int64(crc32.ChecksumIEEE([]byte(text)))
}

func wantUnseal(t *testing.T, text string, want impl.TextOut) {
	t.Helper()
	if got := impl.Unseal(text); got != want {
		t.Errorf("Unseal(%q): got code %d, at %d, %d bytes %q, want code %d, %d bytes",
			clip(text), got.Code, got.At, len(got.Text), clip(got.Text), want.Code, len(want.Text))
	}
}

// Promise 2: the CRC.
func TestCrc(t *testing.T) {
	known := map[string]int64{"": 0, "123456789": 0xCBF43926, "a": 0xE8B7BE43, "\x00": 0xD202EF8D, "\xff\xff\xff\xff": 0xFFFFFFFF}
	for text, want := range known {
		if got := impl.Crc(text); got != want {
			t.Errorf("Crc(%q): got %x, want %x", text, got, want)
		}
	}
	for b := range 256 {
		one := string([]byte{byte(b)})
		if got := impl.Crc(one); got != trueCrc(one) {
			t.Errorf("Crc(%q): got %x, want %x", one, got, trueCrc(one))
		}
	}
	for _, size := range []int{2, 3, 100, 7996, 7999, impl.MaxBytes} {
		if got, want := impl.Crc(someText(size)), trueCrc(someText(size)); got != want {
			t.Errorf("Crc of %d bytes: got %x, want %x", size, got, want)
		}
	}
	if got := impl.Crc(someText(impl.MaxBytes + 1)); got != 0 {
		t.Errorf("Crc of a text that is too long: got %x", got)
	}
}

func TestCrcGoesOn(t *testing.T) {
	text := someText(300)
	for i := range len(text) + 1 {
		if got, want := impl.CrcMore(impl.Crc(text[:i]), text[i:]), trueCrc(text); got != want {
			t.Errorf("parted at %d: got %x, want %x", i, got, want)
		}
	}
	crc := impl.Crc("")
	for i := range len(text) {
		crc = impl.CrcMore(crc, text[i:i+1])
	}
	if crc != trueCrc(text) {
		t.Errorf("byte by byte: got %x, want %x", crc, trueCrc(text))
	}
	long := someText(2 * impl.MaxBytes)
	if got, want := impl.CrcMore(impl.Crc(long[:impl.MaxBytes]), long[impl.MaxBytes:]), trueCrc(long); got != want {
		t.Errorf("two of the greatest size: got %x, want %x", got, want)
	}
}

func TestCrcMoreLimits(t *testing.T) {
	for _, crc := range []int64{0, 1, 255, 1<<31 - 1, 1 << 31, 1<<32 - 1} {
		if got := impl.CrcMore(crc, ""); got != crc {
			t.Errorf("CrcMore(%x, nothing): got %x", crc, got)
		}
		want := int64(crc32.Update(uint32(crc), crc32.IEEETable, []byte("abc")))
		if got := impl.CrcMore(crc, "abc"); got != want {
			t.Errorf("CrcMore(%x): got %x, want %x", crc, got, want)
		}
		if got := impl.CrcMore(crc, someText(impl.MaxBytes+1)); got != 0 {
			t.Errorf("CrcMore(%x) of a text that is too long: got %x", crc, got)
		}
	}
	for _, crc := range []int64{-1, 1 << 32, 1<<32 + 1, 1 << 40, math.MinInt64, math.MaxInt64} {
		for _, text := range []string{"", "abc"} {
			if got := impl.CrcMore(crc, text); got != 0 {
				t.Errorf("CrcMore(%x, %q): got %x, want 0", crc, text, got)
			}
		}
	}
}

// Promise 2: what is sealed.
func TestSealedComesBack(t *testing.T) {
	for _, size := range []int{0, 1, 2, 3, 4, 5, 100, 7995, impl.MaxBytes - 4} {
		text := someText(size)
		sealed := impl.Seal(text)
		want := text + string(binary.LittleEndian.AppendUint32(nil, uint32(trueCrc(text))))
		if sealed != want {
			t.Errorf("Seal of %d bytes: got %q", size, clip(sealed))
		}
		wantUnseal(t, sealed, impl.TextOut{Text: text})
	}
	for _, text := range []string{"ab", "\x00", "\x00\x00\x00\x00", strings.Repeat("\xff", 9), impl.Seal("twice")} {
		wantUnseal(t, impl.Seal(text), impl.TextOut{Text: text})
	}
}

func TestSealLimits(t *testing.T) {
	for _, size := range []int{impl.MaxBytes - 3, impl.MaxBytes, impl.MaxBytes + 1} {
		if got := impl.Seal(someText(size)); got != "" {
			t.Errorf("Seal of %d bytes: got %q", size, clip(got))
		}
	}
	tooLong := someText(impl.MaxBytes - 3)
	tooLong += string(binary.LittleEndian.AppendUint32(nil, uint32(trueCrc(tooLong))))
	wantUnseal(t, tooLong, impl.TextOut{Code: impl.ErrSize})
	wantUnseal(t, someText(impl.MaxBytes+1), impl.TextOut{Code: impl.ErrSize})
	wantUnseal(t, someText(impl.MaxBytes), impl.TextOut{Code: impl.ErrSum})
}

func TestUnsealFaults(t *testing.T) {
	for _, short := range []string{"", "\x00", "a", "\x00\x00\x00", "abc"} {
		wantUnseal(t, short, impl.TextOut{Code: impl.ErrShort})
	}
	wantUnseal(t, "\x00\x00\x00\x00", impl.TextOut{})
	for _, wrong := range []string{"\x00\x00\x00\x01", "\x01\x00\x00\x00", "abcd", "\x00\x00\x00\x00\x00", "a\xe8\xb7\xbe\x43"} {
		wantUnseal(t, wrong, impl.TextOut{Code: impl.ErrSum})
	}
	sealed := impl.Seal("some text")
	for i := 4; i < len(sealed); i++ {
		wantUnseal(t, sealed[:i], impl.TextOut{Code: impl.ErrSum})
	}
	wantUnseal(t, sealed+"\x00", impl.TextOut{Code: impl.ErrSum})
}

func TestOneByteTurnedIsRefused(t *testing.T) {
	for _, text := range []string{"", "a", "\x00\x00\x00", someText(40)} {
		sealed := []byte(impl.Seal(text))
		for i, was := range sealed {
			for b := range 256 {
				if byte(b) == was {
					continue
				}
				sealed[i] = byte(b)
				wantUnseal(t, string(sealed), impl.TextOut{Code: impl.ErrSum})
			}
			sealed[i] = was
		}
	}
	long := []byte(impl.Seal(someText(impl.MaxBytes - 4)))
	for _, i := range []int{0, 1, 4000, impl.MaxBytes - 5, impl.MaxBytes - 4, impl.MaxBytes - 1} {
		long[i] ^= 1
		wantUnseal(t, string(long), impl.TextOut{Code: impl.ErrSum})
		long[i] ^= 1
	}
}
