package tests

import (
	"math"
	"slices"
	"strings"
	"testing"
	"unsafe"

	"loop.example/g00839/impl"
)

// someSecrets are right secrets: of each size, with bytes of 0, of 128 and above, and with bytes that are no characters.
func someSecrets() []string {
	out := []string{"\x00", "\x05", "a", "\x7f", "\x80", "\xff", "ab", "\x00\x00", "\x00a\x00", "\xc3\xa4", "\xa4\xc3", "a\xc3", "\xffz",
		"\xe2\x82\xac", "\xe2\x82", "a\u00e4b", "\xed\xa0\x80", "plain as it is 1", "\ufffd", strings.Repeat("\x00", 16), strings.Repeat("\xff", 16)}
	for size := 1; size <= 16; size++ {
		out = append(out, someText(size), someText(40 + size)[40:])
	}
	return out
}

// wrongSecrets are texts that are no secrets.
func wrongSecrets() []string {
	return []string{"", someText(17), "plain as it is 17", strings.Repeat("\x00", 17), strings.Repeat("\u00e4", 16), someText(100), someText(impl.MaxBytes)}
}

// wrongNeeds are numbers that can not be need, nor many.
func wrongNeeds() []int64 {
	return []int64{0, -1, 21, 22, 256, 257, 1<<32 + 2, -1 << 32, math.MinInt64, math.MinInt64 + 1, math.MaxInt64, math.MaxInt64 - 1}
}

// manyFor are some right numbers of parts for a need.
func manyFor(need int64) []int64 {
	return []int64{need, need + 1, 19, 20}
}

// someDraws are so many bytes, of which no run is another one.
func someDraws(many int64, seed int) string {
	out := make([]byte, many)
	for i := range out {
		out[i] = byte((i+1)*(seed*2+37) + i*i*(seed+3) + seed)
	}
	return string(out)
}

// slowPolyOf is the polynomial of the i-th byte of a secret, with what is 0 at its end.
func slowPolyOf(secret string, i int, need int64, draws string) []int64 {
	each := int(need - 1)
	out := []int64{int64(secret[i])}
	for _, d := range []byte(draws[i*each : (i+1)*each]) {
		out = append(out, int64(d))
	}
	return out
}

// slowPart is the Text of a part at X.
func slowPart(secret string, need int64, draws string, x int64) string {
	text := make([]byte, len(secret))
	for i := range text {
		text[i] = byte(slowEval(slowPolyOf(secret, i, need, draws), x))
	}
	return string(text)
}

func slowSplit(secret string, need int64, many int64, draws string) []impl.Share {
	var out []impl.Share
	for x := int64(1); x <= many; x++ {
		out = append(out, impl.Share{X: x, Text: slowPart(secret, need, draws, x)})
	}
	return out
}

func wantShares(t *testing.T, what string, got impl.SharesOut, want []impl.Share) {
	t.Helper()
	if got.Code != impl.OK || !slices.Equal(got.Shares, want) {
		t.Errorf("%s: got %+v, want %+v", what, got, want)
	}
}

func wantSharesCode(t *testing.T, what string, got impl.SharesOut, code int64) {
	t.Helper()
	if got.Code != code || len(got.Shares) != 0 {
		t.Errorf("%s: got %+v, want just code %d", what, got, code)
	}
}

func wantSecret(t *testing.T, what string, got impl.SecretOut, want impl.SecretOut) {
	t.Helper()
	if got != want {
		t.Errorf("%s: got %+v, want %+v", what, got, want)
	}
}

func TestNeeds(t *testing.T) {
	for _, secret := range someSecrets() {
		for need := int64(1); need <= 10; need++ {
			wantByte(t, "Needs", int64(len(secret)), need, impl.Needs(secret, need), (need-1)*int64(len(secret)))
		}
		for _, no := range append(wrongNeeds(), 11, 20) {
			wantByte(t, "Needs", int64(len(secret)), no, impl.Needs(secret, no), -1)
		}
	}
	for _, no := range append(wrongSecrets(), someText(impl.MaxBytes+1)) {
		for _, need := range append(wrongNeeds(), 1, 2, 10, 11) {
			wantByte(t, "Needs", int64(len(no)), need, impl.Needs(no, need), -1)
		}
	}
}

func TestSplitKnown(t *testing.T) {
	wantShares(t, "one byte", impl.Split("\x05", 2, 3, "\x01"), []impl.Share{{X: 1, Text: "\x04"}, {X: 2, Text: "\x07"}, {X: 3, Text: "\x06"}})
	wantShares(t, "none needed but one", impl.Split("a\x00\xff", 1, 2, ""), []impl.Share{{X: 1, Text: "a\x00\xff"}, {X: 2, Text: "a\x00\xff"}})
	wantShares(t, "just one", impl.Split("\xe4", 1, 1, "more"), []impl.Share{{X: 1, Text: "\xe4"}})
	wantShares(t, "draws of 0", impl.Split("ab", 3, 4, "\x00\x00\x00\x00"), []impl.Share{{X: 1, Text: "ab"}, {X: 2, Text: "ab"}, {X: 3, Text: "ab"}, {X: 4, Text: "ab"}})
	wantShares(t, "draws one behind the other", impl.Split("\x00\x00", 3, 3, "\x01\x02\x04\x08"),
		[]impl.Share{{X: 1, Text: "\x03\x0c"}, {X: 2, Text: "\x0a\x28"}, {X: 3, Text: "\x09\x24"}})
}

// Each part is what the document says of it, whatever stands in the secret, and however many draws stand behind those that are used.
func TestSplitAsTheDocumentSays(t *testing.T) {
	for seed, secret := range someSecrets() {
		for _, need := range []int64{1, 2, 3, 5, 10} {
			uses := (need - 1) * int64(len(secret))
			draws := someDraws(uses, seed)
			for _, many := range manyFor(need) {
				want := slowSplit(secret, need, many, draws)
				wantShares(t, "just so many draws", impl.Split(secret, need, many, draws), want)
				wantShares(t, "more draws", impl.Split(secret, need, many, draws+"\x00\xffx"), want)
			}
		}
	}
	long := someDraws(impl.MaxBytes, 7)
	wantShares(t, "8000 draws", impl.Split("ab\xff", 10, 20, long), slowSplit("ab\xff", 10, 20, long))
}

func TestSplitRefused(t *testing.T) {
	draws := someDraws(160, 1)
	for _, no := range wrongSecrets() {
		for _, d := range []string{"", draws, someText(impl.MaxBytes)} {
			wantSharesCode(t, "no secret", impl.Split(no, 2, 3, d), impl.ErrForm)
			wantSharesCode(t, "no secret, nor need", impl.Split(no, 0, 3, d), impl.ErrForm)
		}
	}
	for _, no := range append(wrongNeeds(), 11) {
		for _, many := range append(wrongNeeds(), 1, 3, 11, 20, no) {
			wantSharesCode(t, "no need", impl.Split("ab", no, many, draws), impl.ErrForm)
			wantSharesCode(t, "no need, and no draws", impl.Split("ab", no, many, ""), impl.ErrForm)
		}
	}
	for need := int64(1); need <= 10; need++ {
		for _, many := range append(wrongNeeds(), need-1) {
			wantSharesCode(t, "no many", impl.Split("ab", need, many, draws), impl.ErrForm)
			wantSharesCode(t, "no many, and no draws", impl.Split("ab", need, many, ""), impl.ErrForm)
		}
	}
}

func TestSplitDraws(t *testing.T) {
	for _, secret := range someSecrets() {
		for need := int64(2); need <= 10; need++ {
			uses := (need - 1) * int64(len(secret))
			for _, few := range []int64{0, 1, uses / 2, uses - 1} {
				if few < uses {
					wantSharesCode(t, "too few draws", impl.Split(secret, need, 20, someDraws(few, 1)), impl.ErrDraws)
				}
			}
		}
	}
}

func TestSplitSize(t *testing.T) {
	over := someText(impl.MaxBytes + 1)
	for _, need := range []int64{0, 1, 2, 11, math.MinInt64, math.MaxInt64} {
		for _, many := range []int64{0, 3, 21, math.MinInt64} {
			wantSharesCode(t, "secret of 8001", impl.Split(over, need, many, "abc"), impl.ErrSize)
			wantSharesCode(t, "draws of 8001", impl.Split("ab", need, many, over), impl.ErrSize)
			wantSharesCode(t, "draws of 8001, no secret", impl.Split("", need, many, over), impl.ErrSize)
			wantSharesCode(t, "both of 8001", impl.Split(over, need, many, over), impl.ErrSize)
		}
	}
}

// chosen are the parts of which the bits of a number say so.
func chosen(l []impl.Share, bits int) []impl.Share {
	var out []impl.Share
	for i, s := range l {
		if bits>>i&1 == 1 {
			out = append(out, s)
		}
	}
	return out
}

// inAllOrders calls with each order of a list.
func inAllOrders(l []impl.Share, at int, call func([]impl.Share)) {
	if at == len(l) {
		call(l)
		return
	}
	for i := at; i < len(l); i++ {
		l[at], l[i] = l[i], l[at]
		inAllOrders(l, at+1, call)
		l[at], l[i] = l[i], l[at]
	}
}

// Promise 5: whichever parts, so many as are needed and more.
func TestWhicheverPartsMakeTheSecret(t *testing.T) {
	for seed, secret := range someSecrets() {
		need := int64(seed%5 + 1)
		l := impl.Split(secret, need, 7, someDraws(impl.Needs(secret, need), seed)).Shares
		for bits := range 1 << 7 {
			some := chosen(l, bits)
			if int64(len(some)) < need {
				continue
			}
			wantSecret(t, "some parts", impl.Combine(some), impl.SecretOut{Secret: secret})
			slices.Reverse(some)
			wantSecret(t, "some parts, turned round", impl.Combine(some), impl.SecretOut{Secret: secret})
		}
	}
}

// Promise 5: in whatever order.
func TestPartsInAllOrdersMakeTheSecret(t *testing.T) {
	for need := int64(1); need <= 4; need++ {
		l := impl.Split("\x00s\xff", need, 5, someDraws(impl.Needs("\x00s\xff", need), 5)).Shares
		for bits := range 1 << 5 {
			if some := chosen(l, bits); int64(len(some)) >= need {
				inAllOrders(some, 0, func(order []impl.Share) {
					wantSecret(t, "in some order", impl.Combine(order), impl.SecretOut{Secret: "\x00s\xff"})
				})
			}
		}
	}
}

func TestPartsOfEachNeedMakeTheSecret(t *testing.T) {
	for seed, secret := range someSecrets() {
		for need := int64(1); need <= 10; need++ {
			draws := someDraws(impl.Needs(secret, need), seed)
			l := impl.Split(secret, need, 20, draws).Shares
			for first := 0; first < 20; first += 3 {
				turned := append(slices.Clone(l[first:]), l[:first]...)
				for _, many := range []int64{need, need + 1, 19, 20} {
					wantSecret(t, "parts", impl.Combine(turned[:many]), impl.SecretOut{Secret: secret})
				}
			}
			var far []impl.Share
			for i := range need {
				far = append(far, impl.Share{X: 255 - i*9, Text: slowPart(secret, need, draws, 255-i*9)})
			}
			wantSecret(t, "parts at other places", impl.Combine(far), impl.SecretOut{Secret: secret})
		}
	}
}

// Whatever parts there are, be they of one secret or not: for each byte it is AtZero.
func TestCombineIsAtZero(t *testing.T) {
	for size := 1; size <= 16; size += 5 {
		for many := 1; many <= 20; many++ {
			var l []impl.Share
			for i := range many {
				l = append(l, impl.Share{X: int64(i*37%255) + 1, Text: someText(size + i*7)[i*7:]})
			}
			want := make([]byte, size)
			for k := range want {
				var points []impl.Point
				for _, s := range l {
					points = append(points, impl.Point{X: s.X, Y: int64(s.Text[k])})
				}
				want[k] = byte(slowEval(impl.Through(points).Poly, 0))
			}
			wantSecret(t, "parts of no one secret", impl.Combine(l), impl.SecretOut{Secret: string(want)})
		}
	}
}

func TestCombineEdges(t *testing.T) {
	wantSecret(t, "one part", impl.Combine([]impl.Share{{X: 255, Text: "\x00\xff"}}), impl.SecretOut{Secret: "\x00\xff"})
	wantSecret(t, "one part of 16", impl.Combine([]impl.Share{{X: 1, Text: someText(16)}}), impl.SecretOut{Secret: someText(16)})
	wantSecret(t, "1 and 255", impl.Combine([]impl.Share{{X: 255, Text: "ab"}, {X: 1, Text: "ab"}}), impl.SecretOut{Secret: "ab"})
	wantSecret(t, "all 0", impl.Combine([]impl.Share{{X: 3, Text: "\x00"}, {X: 1, Text: "\x00"}}), impl.SecretOut{Secret: "\x00"})
}

// someParts are so many right parts of one size, no two of one X.
func someParts(many int, size int) []impl.Share {
	var out []impl.Share
	for i := range many {
		out = append(out, impl.Share{X: int64(i*13%255) + 1, Text: someText(size + i)[i:]})
	}
	return out
}

func TestCombineForm(t *testing.T) {
	cases := [][]impl.Share{nil, {}, someParts(21, 3), someParts(100, 3), make([]impl.Share, 1), make([]impl.Share, impl.MaxList), someParts(255, 16)}
	for _, no := range append(noBytes(), 0) {
		for at := range 3 {
			l := someParts(3, 4)
			l[at].X = no
			cases = append(cases, l)
		}
	}
	for _, no := range append(wrongSecrets(), someText(impl.MaxBytes+1)) {
		for at := range 3 {
			l := someParts(3, 4)
			l[at].Text = no
			cases = append(cases, l)
		}
	}
	for _, l := range cases {
		wantSecret(t, "no right parts", impl.Combine(l), impl.SecretOut{Code: impl.ErrForm})
	}
}

func TestCombineSize(t *testing.T) {
	wantSecret(t, "400", impl.Combine(someParts(impl.MaxList, 3)), impl.SecretOut{Code: impl.ErrForm})
	wantSecret(t, "401", impl.Combine(someParts(impl.MaxList+1, 3)), impl.SecretOut{Code: impl.ErrSize})
	wantSecret(t, "401 that are not right", impl.Combine(make([]impl.Share, impl.MaxList+1)), impl.SecretOut{Code: impl.ErrSize})
}

// Faults of several kinds: the first one in the order of the document is told, wherever in the list they stand.
func TestCombineOrderOfFaults(t *testing.T) {
	a, alike, long := impl.Share{X: 7, Text: "a"}, impl.Share{X: 7, Text: "b"}, impl.Share{X: 9, Text: "ab"}
	noPlace, noText := impl.Share{X: 256, Text: "a"}, impl.Share{X: 3}
	both := impl.Share{X: 7, Text: "abc"}
	cases := []struct {
		l    []impl.Share
		code int64
	}{
		{[]impl.Share{a, alike}, impl.ErrThere}, {[]impl.Share{a, a}, impl.ErrThere}, {[]impl.Share{a, both}, impl.ErrThere},
		{[]impl.Share{a, long}, impl.ErrState}, {[]impl.Share{long, a}, impl.ErrState},
		{[]impl.Share{a, long, alike}, impl.ErrThere}, {[]impl.Share{long, a, alike}, impl.ErrThere},
		{[]impl.Share{a, alike, noPlace}, impl.ErrForm}, {[]impl.Share{a, long, noPlace}, impl.ErrForm},
		{[]impl.Share{a, alike, noText}, impl.ErrForm}, {[]impl.Share{a, long, noText}, impl.ErrForm},
		{[]impl.Share{noText, noText}, impl.ErrForm}, {[]impl.Share{noPlace, noPlace}, impl.ErrForm},
		{slices.Repeat([]impl.Share{a}, 20), impl.ErrThere}, {slices.Repeat([]impl.Share{a, long}, 11), impl.ErrForm},
		{append(someParts(19, 3), long), impl.ErrState}, {append(someParts(19, 3), someParts(1, 3)...), impl.ErrThere},
		{append([]impl.Share{long}, someParts(19, 3)...), impl.ErrState},
	}
	for _, c := range cases {
		wantSecret(t, "several faults", impl.Combine(c.l), impl.SecretOut{Code: c.code})
	}
	l := someParts(20, 3)
	l[19].X = l[0].X
	wantSecret(t, "the first and the last alike", impl.Combine(l), impl.SecretOut{Code: impl.ErrThere})
}

func TestPartsStayAsTheyWere(t *testing.T) {
	fill := impl.Share{X: 77, Text: "fill"}
	for _, many := range []int{1, 2, 19, 20} {
		was := someParts(many, 5)
		l := withRoom(was, fill)
		first := impl.Combine(l)
		wantAsItWas(t, "parts", l, was, fill)
		overwrite(l, fill)
		wantSecret(t, "again", impl.Combine(was), first)
	}
}

// shareMemory tells whether two texts lie in the same memory. Of texts of one byte it is not asked: these lie where nothing can change.
func shareMemory(a string, b string) bool {
	if len(a) < 2 || len(b) < 2 {
		return false
	}
	from, to := uintptr(unsafe.Pointer(unsafe.StringData(a))), uintptr(unsafe.Pointer(unsafe.StringData(b)))
	return from < to+uintptr(len(b)) && to < from+uintptr(len(a))
}

func TestPartsAreNewMemory(t *testing.T) {
	for _, need := range []int64{1, 2, 10} {
		for _, secret := range []string{someText(16), "plain as it is 1"} {
			draws := someDraws(impl.Needs(secret, need), 3)
			l := impl.Split(secret, need, 20, draws).Shares
			told := slices.Clone(l)
			out := impl.Combine(l)
			for i, s := range l {
				if shareMemory(s.Text, secret) || shareMemory(s.Text, draws) || shareMemory(s.Text, out.Secret) {
					t.Errorf("need %d: the Text of part %d shares memory", need, i)
				}
			}
			overwrite(l, impl.Share{X: 5, Text: "other"})
			wantShares(t, "again", impl.Split(secret, need, 20, draws), told)
		}
	}
}
