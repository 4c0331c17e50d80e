package tests

import (
	"encoding/binary"
	"math"
	"slices"
	"strings"
	"testing"

	"loop.example/g00839/impl"
)

// slowBody is what is in an envelope of some numbers, and a Text, be they right or not.
func slowBody(numbers []int64, text string) string {
	var out []byte
	for _, n := range append(slices.Clone(numbers), int64(len(text))) {
		out = binary.AppendVarint(out, n)
	}
	return string(out) + text
}

func slowSeal(text string) string {
	return string(binary.LittleEndian.AppendUint32([]byte(text), uint32(trueCrc(text))))
}

func numbersOf(e impl.Env) []int64 {
	return []int64{e.Gen, e.Need, e.Many, e.X}
}

func slowEnvBytes(e impl.Env) string {
	return slowSeal(slowBody(numbersOf(e), e.Text))
}

// slowEnvRight asks of each number whether it is one of those that it may be.
func slowEnvRight(e impl.Env) bool {
	for need := int64(1); need <= 10; need++ {
		for many := need; many <= 20; many++ {
			if e.Need == need && e.Many == many {
				return e.Gen > 0 && e.Gen < 1000 && e.X > 0 && e.X < many+1 && e.Text != "" && len(e.Text) < 17
			}
		}
	}
	return false
}

// envTexts are right Texts: short and long, with bytes of 0, of 128 and above.
func envTexts() []string {
	return []string{"\x00", "a", "\xff", "\x80\x00", "some text", "\x00\x00\x00", someText(15), someText(16), strings.Repeat("\x00", 16), strings.Repeat("\xff", 16)}
}

// rightEnvs are right envelopes, of all the edges.
func rightEnvs() []impl.Env {
	var out []impl.Env
	for _, gen := range []int64{1, 2, 63, 64, 500, 998, 999} {
		for need := int64(1); need <= 10; need++ {
			for _, many := range manyFor(need) {
				for _, x := range []int64{1, (many + 1) / 2, many} {
					texts := envTexts()
					out = append(out, impl.Env{Gen: gen, Need: need, Many: many, X: x, Text: texts[(gen+need*3+many+x)%int64(len(texts))]})
				}
			}
		}
	}
	for _, text := range append(envTexts(), someSecrets()...) {
		out = append(out, impl.Env{Gen: 1, Need: 2, Many: 3, X: 2, Text: text})
	}
	return out
}

// wrongGens are numbers that can not be Gen; some could be, if just their lowest bits were looked at.
func wrongGens() []int64 {
	return []int64{0, -1, 1000, 1001, -999, 1<<16 + 1, 1<<32 + 1, -1 << 32, math.MinInt64, math.MinInt64 + 1, math.MaxInt64, math.MaxInt64 - 1}
}

// wrongEnvs are those in which one thing is not right, and some in which all are not.
func wrongEnvs() []impl.Env {
	out := []impl.Env{{}, {Gen: -1, Need: -1, Many: -1, X: -1}, {Gen: 1, Need: 5, Many: 4, X: 4, Text: "a"}, {Gen: 1, Need: 11, Many: 11, X: 1, Text: "a"}}
	for _, e := range []impl.Env{{Gen: 1, Need: 1, Many: 1, X: 1, Text: "a"}, {Gen: 999, Need: 10, Many: 20, X: 20, Text: someText(16)}, {Gen: 70, Need: 2, Many: 3, X: 2, Text: "\x00\xff"}} {
		for _, no := range wrongGens() {
			wrong := e
			wrong.Gen = no
			out = append(out, wrong)
		}
		for _, no := range append(wrongNeeds(), 11, 20) {
			wrong := e
			wrong.Need = no
			out = append(out, wrong)
		}
		for _, no := range append(wrongNeeds(), e.Need-1) {
			wrong := e
			wrong.X, wrong.Many = 1, no
			out = append(out, wrong)
		}
		for _, no := range append(wrongNeeds(), e.Many+1) {
			wrong := e
			wrong.X = no
			out = append(out, wrong)
		}
		for _, no := range append(wrongSecrets(), someText(impl.MaxBytes-30), someText(impl.MaxBytes+1)) {
			wrong := e
			wrong.Text = no
			out = append(out, wrong)
		}
	}
	return out
}

func wantEnv(t *testing.T, what string, bytes string, want impl.EnvOut) {
	t.Helper()
	if got := impl.EnvRead(bytes); got != want {
		t.Errorf("%s: EnvRead(%q): got %+v, want %+v", what, clip(bytes), got, want)
	}
}

func wantEnvCode(t *testing.T, what string, bytes string, code int64) {
	t.Helper()
	wantEnv(t, what, bytes, impl.EnvOut{Code: code})
}

func TestEnvRight(t *testing.T) {
	for _, e := range rightEnvs() {
		if !impl.EnvRight(e) {
			t.Errorf("%+v is right", e)
		}
	}
	for _, e := range wrongEnvs() {
		if impl.EnvRight(e) {
			t.Errorf("%+v is not right", e)
		}
	}
}

func TestEnvRightOfAllSmallNumbers(t *testing.T) {
	for need := int64(-1); need <= 12; need++ {
		for many := int64(-1); many <= 23; many++ {
			for x := int64(-1); x <= 23; x++ {
				e := impl.Env{Gen: 7, Need: need, Many: many, X: x, Text: "ab"}
				if impl.EnvRight(e) != slowEnvRight(e) {
					t.Errorf("is %+v right? %v", e, impl.EnvRight(e))
				}
			}
		}
	}
	for gen := int64(-2); gen <= 1100; gen++ {
		e := impl.Env{Gen: gen, Need: 2, Many: 3, X: 2, Text: "ab"}
		if impl.EnvRight(e) != slowEnvRight(e) {
			t.Errorf("is %+v right? %v", e, impl.EnvRight(e))
		}
	}
}

func TestEnvBytes(t *testing.T) {
	known := impl.EnvBytes(impl.Env{Gen: 999, Need: 1, Many: 20, X: 3, Text: "\x00\xff"})
	if body := "\xce\x0f\x02\x28\x06\x04\x00\xff"; known != slowSeal(body) {
		t.Errorf("got %q, want %q sealed", known, body)
	}
	for _, e := range rightEnvs() {
		if got, want := impl.EnvBytes(e), slowEnvBytes(e); got != want {
			t.Errorf("EnvBytes(%+v): got %q, want %q", e, got, want)
		}
	}
	for _, e := range wrongEnvs() {
		if got := impl.EnvBytes(e); got != "" {
			t.Errorf("EnvBytes(%+v), which is not right: got %q", e, clip(got))
		}
	}
}

// Promise 6: a right envelope comes back from its bytes.
func TestEnvelopesComeBack(t *testing.T) {
	for _, e := range rightEnvs() {
		wantEnv(t, "from its bytes", impl.EnvBytes(e), impl.EnvOut{Env: e})
		wantEnv(t, "from the bytes that the document tells", slowEnvBytes(e), impl.EnvOut{Env: e})
	}
	for gen := int64(1); gen <= 999; gen++ {
		e := impl.Env{Gen: gen, Need: gen%10 + 1, Many: gen%11 + 10, X: gen%10 + 1, Text: someText(int(gen%16) + 1)}
		wantEnv(t, "from its bytes", impl.EnvBytes(e), impl.EnvOut{Env: e})
	}
}

// Promise 6: with one byte turned it is not read, whichever byte it is, and whatever it is turned to.
func TestEnvelopeWithOneByteTurned(t *testing.T) {
	for _, e := range []impl.Env{{Gen: 1, Need: 2, Many: 3, X: 2, Text: "ab"}, {Gen: 999, Need: 10, Many: 20, X: 20, Text: someText(16)},
		{Gen: 64, Need: 1, Many: 1, X: 1, Text: "\x00"}, {Gen: 300, Need: 3, Many: 19, X: 7, Text: strings.Repeat("\xff", 16)}} {
		bytes := []byte(impl.EnvBytes(e))
		for i, was := range bytes {
			for b := range 256 {
				if bytes[i] = byte(b); bytes[i] != was {
					wantEnvCode(t, "one byte turned", string(bytes), impl.ErrSum)
				}
			}
			bytes[i] = was
		}
		wantEnv(t, "turned back", string(bytes), impl.EnvOut{Env: e})
	}
}

func TestEnvReadShort(t *testing.T) {
	for _, short := range []string{"", "\x00", "ab", "abc", "\x00\x00\x00"} {
		wantEnvCode(t, "fewer than four bytes", short, impl.ErrShort)
	}
	wantEnvCode(t, "nothing, sealed", "\x00\x00\x00\x00", impl.ErrSyntax)
	wantEnvCode(t, "four bytes", "abcd", impl.ErrSum)
	wantEnvCode(t, "four bytes", "\x00\x00\x00\x01", impl.ErrSum)
	for b := range 256 {
		wantEnvCode(t, "one byte, sealed", slowSeal(string([]byte{byte(b)})), impl.ErrSyntax)
	}
}

func TestEnvReadLong(t *testing.T) {
	body := slowBody([]int64{1, 2, 3, 2}, "ab")
	for _, size := range []int{100, impl.MaxBytes - 5, impl.MaxBytes - 4} {
		wantEnvCode(t, "long, sealed", slowSeal(someText(size)), impl.ErrSyntax)
		wantEnvCode(t, "much behind it, sealed", slowSeal(body+someText(size-len(body))), impl.ErrSyntax)
	}
	wantEnvCode(t, "8000, not sealed", someText(impl.MaxBytes), impl.ErrSum)
	for _, over := range []string{someText(impl.MaxBytes + 1), slowSeal(someText(impl.MaxBytes - 3)), slowSeal(body + someText(impl.MaxBytes)), strings.Repeat("\x00", impl.MaxBytes+1)} {
		wantEnvCode(t, "more than 8000", over, impl.ErrSize)
	}
}

// What is in it ends within a number, or within the Text, or goes on behind it.
func TestEnvReadCutOrGoingOn(t *testing.T) {
	for _, e := range []impl.Env{{Gen: 1, Need: 2, Many: 3, X: 2, Text: "ab"}, {Gen: 999, Need: 10, Many: 20, X: 20, Text: someText(16)}} {
		body := slowBody(numbersOf(e), e.Text)
		for i := range body {
			wantEnvCode(t, "cut, sealed", slowSeal(body[:i]), impl.ErrSyntax)
			wantEnvCode(t, "begun too late, sealed", slowSeal(body[i+1:]), impl.ErrSyntax)
		}
		for b := range 256 {
			wantEnvCode(t, "one more, sealed", slowSeal(body+string([]byte{byte(b)})), impl.ErrSyntax)
		}
		wantEnvCode(t, "twice, sealed", slowSeal(body+body), impl.ErrSyntax)
		wantEnvCode(t, "sealed twice", slowSeal(slowSeal(body)), impl.ErrSyntax)
		wantEnvCode(t, "one more, not sealed", slowSeal(body)+"x", impl.ErrSum)
	}
}

// A number has more bytes than are needed, or is none at all, wherever in the envelope.
func TestEnvReadNumbersWrittenWrongly(t *testing.T) {
	nine := strings.Repeat("\x80", 9)
	for at := range 5 {
		for _, n := range []string{"\x84\x00", "\x84\x80\x00", "\x84" + strings.Repeat("\x80", 8) + "\x00", nine + "\x02", nine + "\x80", strings.Repeat("\xff", 10)} {
			parts := []string{"\x04", "\x04", "\x04", "\x04", "\x04", "ab"}
			wantEnv(t, "written rightly", slowSeal(strings.Join(parts, "")), impl.EnvOut{Env: impl.Env{Gen: 2, Need: 2, Many: 2, X: 2, Text: "ab"}})
			parts[at] = n
			wantEnvCode(t, "written wrongly", slowSeal(strings.Join(parts, "")), impl.ErrSyntax)
		}
	}
	for _, size := range []int64{0, 1, 3, 17, -1, -2, impl.MaxBytes, impl.MaxBytes + 1, 1<<32 + 2, math.MinInt64, math.MaxInt64} {
		bad := "\x02\x02\x02\x02" + string(binary.AppendVarint(nil, size)) + "ab"
		wantEnvCode(t, "a length that is not that of what is behind it", slowSeal(bad), impl.ErrSyntax)
	}
}

// Bytes of an envelope that is out of its bounds, or has numbers below 0.
func TestEnvReadNotRight(t *testing.T) {
	for _, e := range wrongEnvs() {
		bytes := slowEnvBytes(e)
		if len(bytes) > impl.MaxBytes {
			wantEnvCode(t, "more than 8000", bytes, impl.ErrSize)
			continue
		}
		wantEnvCode(t, "not right, sealed", bytes, impl.ErrSyntax)
	}
}

// What Unseal tells comes first, whatever is in it.
func TestEnvReadUnsealComesFirst(t *testing.T) {
	for _, e := range append(wrongEnvs(), impl.Env{Gen: 1, Need: 2, Many: 3, X: 2, Text: "ab"}) {
		bytes := []byte(slowEnvBytes(e))
		bytes[len(bytes)-1] ^= 4
		wantEnvCode(t, "not sealed", string(bytes), impl.Unseal(string(bytes)).Code)
		if code := impl.Unseal(string(bytes)).Code; code != impl.ErrSum && code != impl.ErrSize {
			t.Errorf("Unseal of what is not sealed: got code %d", code)
		}
	}
}

// slowEnvRead takes what stands in it, and asks whether that would have been written so.
func slowEnvRead(body string) impl.EnvOut {
	var numbers [5]int64
	rest := []byte(body)
	for i := range numbers {
		n, size := binary.Varint(rest)
		numbers[i], rest = n, rest[max(size, 0):]
	}
	e := impl.Env{Gen: numbers[0], Need: numbers[1], Many: numbers[2], X: numbers[3], Text: string(rest)}
	if !slowEnvRight(e) || slowBody(numbersOf(e), e.Text) != body {
		return impl.EnvOut{Code: impl.ErrSyntax}
	}
	return impl.EnvOut{Env: e}
}

// Each byte of what is sealed in it is turned to each other one, and sealed again.
func TestEnvReadOfBytesTurnedAheadOfTheSeal(t *testing.T) {
	read := 0
	for _, e := range []impl.Env{{Gen: 1, Need: 2, Many: 3, X: 2, Text: "ab"}, {Gen: 999, Need: 3, Many: 20, X: 20, Text: someText(16)}, {Gen: 64, Need: 10, Many: 20, X: 10, Text: "\x00"}} {
		body := []byte(slowBody(numbersOf(e), e.Text))
		for i, was := range body {
			for b := range 256 {
				body[i] = byte(b)
				want := slowEnvRead(string(body))
				wantEnv(t, "turned and sealed again", slowSeal(string(body)), want)
				if want.Code == impl.OK {
					read++
				}
			}
			body[i] = was
		}
	}
	if read < 256*19 {
		t.Errorf("just %d were to be read", read)
	}
}

// someShares are so many Shares of X from 1 to 20, of right Texts.
func someShares(many int) []impl.Share {
	var out []impl.Share
	texts := envTexts()
	for i := range many {
		out = append(out, impl.Share{X: int64(i*7%20) + 1, Text: texts[i%len(texts)]})
	}
	return out
}

func slowEnvelopes(gen int64, need int64, many int64, l []impl.Share) []impl.Env {
	var out []impl.Env
	for _, s := range l {
		out = append(out, impl.Env{Gen: gen, Need: need, Many: many, X: s.X, Text: s.Text})
	}
	return out
}

func wantEnvelopes(t *testing.T, what string, got []impl.Env, want []impl.Env) {
	t.Helper()
	if !slices.Equal(got, want) {
		t.Errorf("%s: got %+v, want %+v", what, got, want)
	}
}

func TestEnvelopes(t *testing.T) {
	for _, gen := range []int64{1, 2, 998, 999} {
		for _, need := range []int64{1, 2, 9, 10} {
			for many := range 21 {
				l := someShares(many)
				wantEnvelopes(t, "of some", impl.Envelopes(gen, need, 20, l), slowEnvelopes(gen, need, 20, l))
			}
		}
	}
	alike := []impl.Share{{X: 2, Text: "ab"}, {X: 1, Text: "\x00\xff\x00"}, {X: 2, Text: "c"}, {X: 2, Text: "ab"}}
	wantEnvelopes(t, "alike, and not as long", impl.Envelopes(5, 2, 2, alike), slowEnvelopes(5, 2, 2, alike))
}

func TestEnvelopesOfASplit(t *testing.T) {
	for need := int64(1); need <= 10; need++ {
		for _, many := range manyFor(need) {
			l := impl.Split("\x00key\xff", need, many, someDraws(45, int(many))).Shares
			envs := impl.Envelopes(7, need, many, l)
			wantEnvelopes(t, "of a split", envs, slowEnvelopes(7, need, many, l))
			for _, e := range envs {
				wantEnv(t, "of a split", impl.EnvBytes(e), impl.EnvOut{Env: e})
			}
		}
	}
}

func TestEnvelopesNone(t *testing.T) {
	for _, numbers := range [][3]int64{{1, 2, 3}, {0, 0, 0}, {1000, 11, 21}, {math.MinInt64, math.MaxInt64, -1}} {
		for _, l := range [][]impl.Share{nil, {}, someShares(21), someShares(impl.MaxList), someShares(impl.MaxList + 1), make([]impl.Share, impl.MaxList+1)} {
			wantEnvelopes(t, "of none, or too many", impl.Envelopes(numbers[0], numbers[1], numbers[2], l), nil)
		}
	}
	for _, many := range []int{21, 22, 255, impl.MaxList, impl.MaxList + 1} {
		wantEnvelopes(t, "of too many", impl.Envelopes(1, 1, 20, someShares(many)), nil)
	}
}

// One among them makes no right envelope, wherever it stands: then there is none at all.
func TestEnvelopesOneNotRight(t *testing.T) {
	wrong := []impl.Share{{}, {X: 0, Text: "a"}, {X: 3}}
	for _, no := range append(wrongNeeds(), 20) {
		wrong = append(wrong, impl.Share{X: no, Text: "a"})
	}
	for _, no := range append(wrongSecrets(), someText(impl.MaxBytes+1)) {
		wrong = append(wrong, impl.Share{X: 1, Text: no})
	}
	for _, many := range []int{1, 2, 19, 20} {
		for _, no := range wrong {
			for at := range many {
				l := someShares(many)
				for i := range l {
					l[i].X = int64(i%19) + 1
				}
				wantEnvelopes(t, "all right", impl.Envelopes(3, 2, 19, l), slowEnvelopes(3, 2, 19, l))
				l[at] = no
				wantEnvelopes(t, "one not right", impl.Envelopes(3, 2, 19, l), nil)
			}
		}
	}
}

func TestEnvelopesNumbersNotRight(t *testing.T) {
	for _, many := range []int{1, 2, 20} {
		l := someShares(many)
		for _, no := range wrongGens() {
			wantEnvelopes(t, "no Gen", impl.Envelopes(no, 2, 20, l), nil)
		}
		for _, no := range append(wrongNeeds(), 11) {
			wantEnvelopes(t, "no Need", impl.Envelopes(1, no, 20, l), nil)
		}
		for _, no := range append(wrongNeeds(), 1) {
			wantEnvelopes(t, "no Many", impl.Envelopes(1, 2, no, l), nil)
		}
	}
}

func TestSharesStayAsTheyWere(t *testing.T) {
	fill := impl.Share{X: 77, Text: "fill"}
	for _, many := range []int{0, 1, 2, 19, 20} {
		was := someShares(many)
		l := withRoom(was, fill)
		envs := impl.Envelopes(7, 2, 20, l)
		wantAsItWas(t, "shares", l, was, fill)
		overwrite(l, fill)
		wantEnvelopes(t, "when what was handed in changes", envs, slowEnvelopes(7, 2, 20, was))
		l = withRoom(was, fill)
		overwrite(envs, impl.Env{X: 5, Text: "other"})
		wantAsItWas(t, "shares, when what was told changes", l, was, fill)
		wantEnvelopes(t, "again", impl.Envelopes(7, 2, 20, l), slowEnvelopes(7, 2, 20, was))
	}
}

func TestEnvelopesAreNewMemory(t *testing.T) {
	l := impl.Split(someText(16), 2, 20, someText(16)).Shares
	for i, e := range impl.Envelopes(7, 2, 20, l) {
		bytes := impl.EnvBytes(e)
		if shareMemory(e.Text, l[i].Text) || shareMemory(bytes, e.Text) || shareMemory(bytes, impl.EnvRead(bytes).Env.Text) {
			t.Errorf("envelope %d shares memory", i)
		}
	}
}
