package tests

import (
	"math"
	"slices"
	"strings"
	"testing"

	"loop.example/g00839/impl"
)

// slowHide adds, to each byte's polynomial, what is 0 at each x, and the sum of both secrets' bytes at 0.
func slowHide(secret string, other string, need int64, xs []int64, draws string) string {
	gone := []int64{1}
	for _, x := range xs {
		gone = slowTimes(gone, []int64{1, slowPow(x, 254)})
	}
	var out []byte
	for i := range len(secret) {
		sum := make([]int64, need)
		copy(sum, slowPolyOf(secret, i, need, draws))
		for k, g := range gone {
			sum[k] ^= slowMul(g, int64(secret[i]^other[i]))
		}
		for _, b := range sum[1:] {
			out = append(out, byte(b))
		}
	}
	return string(out)
}

// otherSecrets are secrets of the same length.
func otherSecrets(secret string) []string {
	size := len(secret)
	turned := []byte(secret)
	for i := range turned {
		turned[i] = ^turned[i]
	}
	return []string{secret, strings.Repeat("\x00", size), strings.Repeat("\xff", size), strings.Repeat("o", size), string(turned), someText(99 + size)[99:]}
}

// placesOf are the places that the bits of a number say, from 1 on.
func placesOf(bits int) []int64 {
	var out []int64
	for x := int64(1); bits > 0; x++ {
		if bits&1 == 1 {
			out = append(out, x)
		}
		bits >>= 1
	}
	return out
}

func TestHideKnown(t *testing.T) {
	cases := []struct {
		secret, other string
		need          int64
		xs            []int64
		draws, want   string
	}{
		{"\x05", "\x09", 2, nil, "\x01", "\x01"}, {"\x05", "\x09", 2, []int64{}, "\x01", "\x01"},
		{"\x05", "\x09", 2, []int64{1}, "\x01", "\x0d"}, {"\x05", "\x09", 2, []int64{2}, "\x01", "\x07"},
		{"a", "b", 1, nil, "", ""}, {"a", "b", 1, nil, "more", ""}, {"ab", "cd", 2, nil, "xymore", "xy"},
		{"ab", "ab", 3, []int64{1, 2}, "wxyz", "wxyz"}, {"\x00", "\x00", 3, []int64{255}, "\x00\x00", "\x00\x00"},
		{"\x01", "\x00", 2, []int64{1}, "\x01", "\x00"}, {"\x01", "\x00", 3, []int64{1}, "\x01\x00", "\x00\x00"},
	}
	for _, c := range cases {
		wantSecret(t, "Hide", impl.Hide(c.secret, c.other, c.need, c.xs, c.draws), impl.SecretOut{Secret: c.want})
	}
}

// Promise 5: of fewer parts, whichever they are, and any other secret, there are draws of which it has just these parts.
func TestFewerPartsAreThoseOfAnyOtherSecret(t *testing.T) {
	for seed, secret := range someSecrets() {
		need := int64(seed%5 + 1)
		draws := someDraws(impl.Needs(secret, need), seed)
		l := impl.Split(secret, need, 7, draws).Shares
		for bits := range 1 << 7 {
			xs := placesOf(bits)
			if int64(len(xs)) >= need {
				continue
			}
			for _, other := range otherSecrets(secret) {
				out := impl.Hide(secret, other, need, xs, draws)
				wantSecret(t, "Hide", out, impl.SecretOut{Secret: slowHide(secret, other, need, xs, draws)})
				made := impl.Split(other, need, 7, out.Secret).Shares
				if !slices.Equal(chosen(made, bits), chosen(l, bits)) {
					t.Fatalf("Hide(%q, %q, %d, %v, %q): the parts are not the same", secret, other, need, xs, draws)
				}
				wantSecret(t, "there and back", impl.Hide(other, secret, need, xs, out.Secret), impl.SecretOut{Secret: draws})
			}
		}
	}
}

func TestHideOfEachNeed(t *testing.T) {
	for seed, secret := range someSecrets() {
		for need := int64(1); need <= 10; need++ {
			draws := someDraws(impl.Needs(secret, need), seed)
			for _, many := range []int64{0, 1, need - 1} {
				if many >= need {
					continue
				}
				xs := somePlaces(int(many), int64(seed))
				for _, other := range otherSecrets(secret)[:4] {
					out := impl.Hide(secret, other, need, xs, draws)
					wantSecret(t, "Hide", out, impl.SecretOut{Secret: slowHide(secret, other, need, xs, draws)})
					wantSecret(t, "more draws", impl.Hide(secret, other, need, xs, draws+"\xff\x00"), out)
					slices.Reverse(xs)
					wantSecret(t, "places turned round", impl.Hide(secret, other, need, xs, draws), out)
					for _, x := range xs {
						if got, want := slowPart(other, need, out.Secret, x), slowPart(secret, need, draws, x); got != want {
							t.Fatalf("Hide(%q, %q, %d, %v) at %d: got %q, want %q", secret, other, need, xs, x, got, want)
						}
					}
				}
			}
		}
	}
}

// Promise 5: just one for each. Of one byte, and one part of two that are needed, all draws of all secrets are tried.
func TestJustOneDrawForEachSecretOfTwo(t *testing.T) {
	var draws [256][256]byte
	for s := range 256 {
		var seen [3][256]bool
		for d := range 256 {
			for i, part := range impl.Split(string([]byte{byte(s)}), 2, 3, string([]byte{byte(d)})).Shares {
				y := part.Text[0]
				if seen[i][y] {
					t.Fatalf("secret %d: two draws have the part %q at %d", s, y, part.X)
				}
				seen[i][y] = true
				if i == 1 {
					draws[s][y] = byte(d)
				}
			}
		}
	}
	for s := range 256 {
		for y := range 256 {
			other := (s*7 + y*3 + 1) & 255
			out := impl.Hide(string([]byte{byte(s)}), string([]byte{byte(other)}), 2, []int64{2}, string([]byte{draws[s][y]}))
			wantSecret(t, "the only draw", out, impl.SecretOut{Secret: string([]byte{draws[other][y]})})
		}
	}
}

// Promise 5: just one for each. Of one byte, and two parts of three that are needed, all draws of two secrets are tried.
func TestJustOneDrawForEachSecretOfThree(t *testing.T) {
	var draws [2][1 << 16]string
	secrets := [2]string{"\x00", "\xc9"}
	for s, secret := range secrets {
		for d := range 1 << 16 {
			two := string([]byte{byte(d), byte(d >> 8)})
			l := impl.Split(secret, 3, 3, two).Shares
			parts := int(l[0].Text[0]) | int(l[2].Text[0])<<8
			if draws[s][parts] != "" {
				t.Fatalf("secret %q: two draws have the same parts", secret)
			}
			draws[s][parts] = two
		}
	}
	for parts := 0; parts < 1<<16; parts += 7 {
		out := impl.Hide(secrets[0], secrets[1], 3, []int64{1, 3}, draws[0][parts])
		wantSecret(t, "the only draws", out, impl.SecretOut{Secret: draws[1][parts]})
	}
}

// Of still fewer parts there are more draws; each of the one secret goes with just one of the other.
func TestEachDrawGoesWithJustOne(t *testing.T) {
	for _, xs := range [][]int64{nil, {2}, {255, 1}} {
		seen := map[string]bool{}
		for d := range 1 << 16 {
			out := impl.Hide("\x07", "\xf0", 3, xs, string([]byte{byte(d), byte(d >> 8)}))
			if out.Code != impl.OK || len(out.Secret) != 2 || seen[out.Secret] {
				t.Fatalf("places %v, draws %d: got %+v, which is told already, or no draws", xs, d, out)
			}
			seen[out.Secret] = true
		}
	}
}

// hideCase is a call of Hide.
type hideCase struct {
	secret, other string
	need          int64
	xs            []int64
	draws         string
}

func wantHideCode(t *testing.T, c hideCase, code int64) {
	t.Helper()
	got := impl.Hide(c.secret, c.other, c.need, c.xs, c.draws)
	if got != (impl.SecretOut{Code: code}) {
		t.Errorf("Hide(%q, %q, %d, %v, %q): got %+v, want just code %d", clip(c.secret), clip(c.other), c.need, c.xs, clip(c.draws), got, code)
	}
}

func TestHideSecretsRefused(t *testing.T) {
	draws := someDraws(160, 2)
	for _, d := range []string{"", draws} {
		for _, no := range wrongSecrets() {
			wantHideCode(t, hideCase{no, "ab", 3, nil, d}, impl.ErrForm)
			wantHideCode(t, hideCase{"ab", no, 3, nil, d}, impl.ErrForm)
			wantHideCode(t, hideCase{no, no, 3, nil, d}, impl.ErrForm)
			wantHideCode(t, hideCase{no, no, 1, nil, d}, impl.ErrForm)
		}
		for size := 1; size <= 16; size++ {
			for more := size + 1; more <= 16; more++ {
				wantHideCode(t, hideCase{someText(size), someText(more), 2, nil, d}, impl.ErrForm)
				wantHideCode(t, hideCase{someText(more), someText(size), 1, nil, d}, impl.ErrForm)
			}
		}
		wantHideCode(t, hideCase{"\u00e4", "a", 2, nil, d}, impl.ErrForm)
	}
}

func TestHideNumbersRefused(t *testing.T) {
	draws := someDraws(160, 2)
	for _, d := range []string{"", draws} {
		for _, no := range append(wrongNeeds(), 11) {
			wantHideCode(t, hideCase{"ab", "cd", no, nil, d}, impl.ErrForm)
			wantHideCode(t, hideCase{"ab", "cd", no, []int64{1}, d}, impl.ErrForm)
		}
		for need := 1; need <= 10; need++ {
			for _, many := range []int{need, need + 1, 20, 21, 255, impl.MaxList} {
				wantHideCode(t, hideCase{"ab", "cd", int64(need), somePlaces(many, 3), d}, impl.ErrForm)
			}
		}
		for _, no := range append(noBytes(), 0) {
			for at := range 3 {
				xs := []int64{1, 2, 3}
				xs[at] = no
				wantHideCode(t, hideCase{"ab", "cd", 4, xs, d}, impl.ErrForm)
			}
		}
		for _, xs := range [][]int64{{1, 1}, {0}, {0, 0}, {255, 3, 255}, {3, 255, 255}, {5, 1, 2, 3, 4, 6, 7, 8, 5}} {
			wantHideCode(t, hideCase{"ab", "cd", 10, xs, d}, impl.ErrForm)
		}
	}
}

func TestHideDraws(t *testing.T) {
	for _, secret := range someSecrets() {
		for need := int64(2); need <= 10; need++ {
			uses := (need - 1) * int64(len(secret))
			for _, few := range []int64{0, uses / 2, uses - 1} {
				for _, xs := range [][]int64{nil, somePlaces(int(need-1), 1)} {
					wantHideCode(t, hideCase{secret, secret, need, xs, someDraws(few, 1)}, impl.ErrDraws)
				}
			}
		}
	}
	long := someDraws(impl.MaxBytes, 7)
	wantSecret(t, "8000 draws", impl.Hide("ab\xff", "\x00cd", 10, []int64{9, 1}, long), impl.SecretOut{Secret: slowHide("ab\xff", "\x00cd", 10, []int64{9, 1}, long)})
}

func TestHideSize(t *testing.T) {
	over, many := someText(impl.MaxBytes+1), somePlaces(impl.MaxList+1, 0)
	right := hideCase{"ab", "cd", 3, []int64{1, 2}, "wxyz"}
	wrong := hideCase{"", "abc", 0, []int64{0, 0}, ""}
	for _, base := range []hideCase{right, wrong, {"ab", "cd", math.MinInt64, nil, ""}, {"ab", "cd", math.MaxInt64, nil, ""}} {
		for i := range 4 {
			c := base
			switch i {
			case 0:
				c.secret = over
			case 1:
				c.other = over
			case 2:
				c.xs = many
			case 3:
				c.draws = over
			}
			wantHideCode(t, c, impl.ErrSize)
		}
	}
	wantHideCode(t, hideCase{over, over, 3, many, over}, impl.ErrSize)
	wantHideCode(t, hideCase{"ab", "cd", 3, make([]int64, impl.MaxList), "wxyz"}, impl.ErrForm)
	wantHideCode(t, hideCase{"ab", "cd", 3, make([]int64, impl.MaxList+1), "wxyz"}, impl.ErrSize)
}

func TestHidePlacesStayAsTheyWere(t *testing.T) {
	for _, many := range []int{0, 1, 4, 9} {
		was := somePlaces(many, 9)
		xs := withRoom(was, 77)
		draws := someDraws(9*16, 4)
		out := impl.Hide(someText(16), strings.Repeat("o", 16), 10, xs, draws)
		wantAsItWas(t, "places", xs, was, 77)
		overwrite(xs, 99)
		wantSecret(t, "again", impl.Hide(someText(16), strings.Repeat("o", 16), 10, was, draws), out)
	}
	for _, need := range []int64{2, 10} {
		secret, draws := someText(16), someDraws((need-1)*16, 4)
		if shareMemory(impl.Hide(secret, secret, need, nil, draws).Secret, draws) {
			t.Errorf("need %d: what is told shares memory with draws", need)
		}
	}
}
