package impl

import (
	"errors"
	"strconv"
)

// Constants, see chapter 1.
const (
	OK        = 0
	ErrForm   = 1
	ErrSize   = 2
	ErrSyntax = 3
	ErrShort  = 4
	ErrSum    = 5
	ErrNone   = 6
	ErrThere  = 7
	ErrRange  = 8
	ErrFull   = 9
	ErrState  = 10
	ErrSealed = 11
	ErrStale  = 12
	ErrDraws  = 13
	MaxBytes  = 8000
	MaxList   = 400
	MaxTime   = 1000000
)

const (
	maxName  = 20
	sumBytes = 4
	maxCrc   = 1<<32 - 1
	crcBend  = 0xEDB88320
)

// NumOut is a thing of chapter 2.
type NumOut struct {
	N    int64
	At   int64
	Code int64
}

// TextOut is a thing of chapter 2.
type TextOut struct {
	Text string
	At   int64
	Code int64
}

// badBytes is why bytes could not be read: the code of the first fault in them.
type badBytes struct {
	code int64
}

func (e badBytes) Error() string {
	return "bytes can not be read: code " + strconv.FormatInt(e.code, 10)
}

// codeOf tells the code of what reading told.
func codeOf(err error) int64 {
	if err == nil {
		return OK
	}
	var bad badBytes
	if errors.As(err, &bad) {
		return bad.code
	}
	return ErrForm
}

// tooLong tells whether a text is longer than any call takes.
func tooLong(text string) bool {
	return len(text) > MaxBytes
}

// joined puts texts one behind the other, in memory of its own.
func joined(parts ...string) string {
	size := 0
	for _, p := range parts {
		size += len(p)
	}
	whole := make([]byte, size)
	at := 0
	for _, p := range parts {
		at += copy(whole[at:], p)
	}
	return string(whole)
}

// folded tells 2n, or -2n-1 of an n below 0. That one is counted from n+1,
// because -n does not fit for the least n.
func folded(n int64) uint64 {
	if n >= 0 {
		return 2 * uint64(n)
	}
	return 2*uint64(-(n+1)) + 1
}

// unfolded tells the n that u is folded from.
func unfolded(u uint64) int64 {
	half := int64(u / 2)
	if u%2 == 0 {
		return half
	}
	return -half - 1
}

// PutNum: see chapter 2.
func PutNum(n int64) string {
	u := folded(n)
	var out []byte
	for u >= 128 {
		out = append(out, byte(u%128)+128)
		u /= 128
	}
	return string(append(out, byte(u)))
}

// readNum reads the number at a place that is not below 0, and tells the place
// behind it.
func readNum(text string, at int64) (int64, int64, error) {
	var u uint64
	var b byte
	var bad badBytes
	shift := 0
more:
	if at >= int64(len(text)) {
		bad.code = ErrShort
		goto wrong
	}
	b = text[at]
	at++
	u |= uint64(b%128) << shift
	// The tenth byte is the last one, whatever it is: it holds bit 63.
	if b < 128 || shift == 63 {
		goto last
	}
	shift += 7
	goto more
last:
	if shift == 63 && b > 1 || shift > 0 && b == 0 {
		bad.code = ErrSyntax
		goto wrong
	}
	return unfolded(u), at, nil
wrong:
	return 0, 0, bad
}

// readText reads the text at a place that is not below 0, and tells the place
// behind it.
func readText(text string, at int64) (string, int64, error) {
	size, from, err := readNum(text, at)
	if err != nil {
		return "", 0, err
	}
	if size < 0 || size > MaxBytes {
		return "", 0, badBytes{ErrSyntax}
	}
	if size > int64(len(text))-from {
		return "", 0, badBytes{ErrShort}
	}
	return joined(text[from : from+size]), from + size, nil
}

// placeFault tells the code of a text and a place in it that are not looked
// into, or OK.
func placeFault(text string, at int64) int64 {
	if tooLong(text) {
		return ErrSize
	}
	if at < 0 {
		return ErrForm
	}
	return OK
}

// GetNum: see chapter 2.
func GetNum(text string, at int64) NumOut {
	if code := placeFault(text, at); code != OK {
		return NumOut{Code: code}
	}
	n, behind, err := readNum(text, at)
	return NumOut{N: n, At: behind, Code: codeOf(err)}
}

// PutText: see chapter 2.
func PutText(t string) string {
	if tooLong(t) {
		return ""
	}
	return joined(PutNum(int64(len(t))), t)
}

// GetText: see chapter 2.
func GetText(text string, at int64) TextOut {
	if code := placeFault(text, at); code != OK {
		return TextOut{Code: code}
	}
	t, behind, err := readText(text, at)
	return TextOut{Text: t, At: behind, Code: codeOf(err)}
}

func isSmall(b byte) bool {
	return b >= 'a' && b <= 'z'
}

func isDigit(b byte) bool {
	return b >= '0' && b <= '9'
}

// NameRight: see chapter 2.
func NameRight(t string) bool {
	if len(t) < 1 || len(t) > maxName || !isSmall(t[0]) {
		return false
	}
	for i := 1; i < len(t); i++ {
		if !isSmall(t[i]) && !isDigit(t[i]) && t[i] != '_' {
			return false
		}
	}
	return true
}

// crcOver tells the register behind text, of the one ahead of it.
func crcOver(register uint32, text string) uint32 {
	for i := 0; i < len(text); i++ {
		// The eight bits meet the register's lowest ones one by one as it is
		// shifted, so they can be put together with it at once.
		register ^= uint32(text[i])
		for range 8 {
			low := register & 1
			register >>= 1
			if low == 1 {
				register ^= crcBend
			}
		}
	}
	return register
}

// Crc: see chapter 2.
func Crc(text string) int64 {
	return CrcMore(0, text)
}

// CrcMore: see chapter 2. The CRC of the empty text is 0, so it begins there,
// too.
func CrcMore(crc int64, text string) int64 {
	if crc < 0 || crc > maxCrc || tooLong(text) {
		return 0
	}
	return int64(^crcOver(^uint32(crc), text))
}

// sumOf tells the four bytes of a text's CRC, the lowest first.
func sumOf(text string) string {
	crc := Crc(text)
	var sum [sumBytes]byte
	for i := range sum {
		sum[i] = byte(crc % 256)
		crc /= 256
	}
	return string(sum[:])
}

// Seal: see chapter 2.
func Seal(text string) string {
	if len(text) > MaxBytes-sumBytes {
		return ""
	}
	return joined(text, sumOf(text))
}

// readSealed reads what is sealed in a text.
func readSealed(text string) (string, error) {
	if len(text) < sumBytes {
		return "", badBytes{ErrShort}
	}
	body := text[:len(text)-sumBytes]
	if text[len(body):] != sumOf(body) {
		return "", badBytes{ErrSum}
	}
	return joined(body), nil
}

// Unseal: see chapter 2.
func Unseal(text string) TextOut {
	if tooLong(text) {
		return TextOut{Code: ErrSize}
	}
	body, err := readSealed(text)
	return TextOut{Text: body, Code: codeOf(err)}
}
