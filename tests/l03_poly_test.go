package tests

import (
	"math"
	"slices"
	"testing"

	"loop.example/g00839/impl"
)

// somePoly is a right polynomial of so many bytes, of all kinds.
func somePoly(size int, seed int) []int64 {
	out := make([]int64, size)
	for i := range out {
		out[i] = int64((i*i*37 + i*seed*11 + seed*seed*5 + i>>2) & 255)
	}
	if size > 0 && out[size-1] == 0 {
		out[size-1] = int64(1 + seed&127)
	}
	return out
}

// somePolys are right polynomials of all sizes that are told of in chapter 4.
func somePolys() [][]int64 {
	out := [][]int64{nil, {}, {1}, {255}, {0, 1}, {0, 0, 255}, {1, 0, 1}}
	for _, size := range []int{1, 2, 3, 5, 10, 20, 30, 31, 59, 60} {
		out = append(out, somePoly(size, size), somePoly(size, size+100))
	}
	return out
}

// wrongPolys are lists that are no right polynomials.
func wrongPolys() [][]int64 {
	out := [][]int64{{0}, {0, 0}, {1, 0}, {5, 7, 0}, append(somePoly(59, 1), 0), append(somePoly(60, 1), 0),
		somePoly(61, 1), somePoly(61, 2), somePoly(200, 1), somePoly(impl.MaxList, 1)}
	for _, no := range noBytes() {
		out = append(out, []int64{no}, []int64{no, 2, 3}, []int64{1, no, 3}, []int64{1, 2, no})
	}
	return out
}

// slowEval adds each byte times its power of x.
func slowEval(p []int64, x int64) int64 {
	sum := int64(0)
	for i, c := range p {
		sum ^= slowMul(c, slowPow(x, int64(i)))
	}
	return sum
}

// slowTimes multiplies each byte by each other one.
func slowTimes(p []int64, q []int64) []int64 {
	if len(p) == 0 || len(q) == 0 {
		return nil
	}
	out := make([]int64, len(p)+len(q)-1)
	for i, a := range p {
		for k, b := range q {
			out[i+k] ^= slowMul(a, b)
		}
	}
	return out
}

func slowPlus(p []int64, q []int64) []int64 {
	if len(p) < len(q) {
		p, q = q, p
	}
	out := slices.Clone(p)
	for i, b := range q {
		out[i] ^= b
	}
	for len(out) > 0 && out[len(out)-1] == 0 {
		out = out[:len(out)-1]
	}
	return out
}

func wantPoly(t *testing.T, what string, got impl.PolyOut, want []int64) {
	t.Helper()
	if got.Code != impl.OK || !slices.Equal(got.Poly, want) {
		t.Errorf("%s: got %v, want %v", what, got, want)
	}
}

func wantPolyCode(t *testing.T, what string, got impl.PolyOut, code int64) {
	t.Helper()
	if got.Code != code || len(got.Poly) != 0 {
		t.Errorf("%s: got %v, want just code %d", what, got, code)
	}
}

func TestPolyRight(t *testing.T) {
	for _, p := range somePolys() {
		if !impl.PolyRight(p) {
			t.Errorf("%v is right", p)
		}
	}
	for _, p := range append(wrongPolys(), somePoly(impl.MaxList+1, 1)) {
		if impl.PolyRight(p) {
			t.Errorf("%v is not right", p)
		}
	}
}

func TestEval(t *testing.T) {
	for _, p := range somePolys() {
		for x := range int64(256) {
			wantByte(t, "Eval", int64(len(p)), x, impl.Eval(p, x), slowEval(p, x))
		}
		for _, no := range noBytes() {
			wantByte(t, "Eval", int64(len(p)), no, impl.Eval(p, no), -1)
		}
	}
	for _, p := range append(wrongPolys(), somePoly(impl.MaxList+1, 1)) {
		for _, x := range []int64{0, 1, 255, -1, 256, math.MaxInt64} {
			if got := impl.Eval(p, x); got != -1 {
				t.Errorf("Eval(%v, %d): got %d", p, x, got)
			}
		}
	}
}

func TestEvalKnown(t *testing.T) {
	known := []struct {
		p       []int64
		x, want int64
	}{
		{nil, 0, 0}, {nil, 255, 0}, {[]int64{7}, 0, 7}, {[]int64{7}, 99, 7}, {[]int64{5, 1}, 3, 6},
		{[]int64{0, 2}, 128, 27}, {[]int64{0, 0, 1}, 128, 154}, {[]int64{9, 0x57}, 0x83, 0xC8},
	}
	for _, k := range known {
		wantByte(t, "Eval", int64(len(k.p)), k.x, impl.Eval(k.p, k.x), k.want)
	}
}

// Promise 4: sums and products are what they are at each place.
func TestSumsAndProductsAtEachPlace(t *testing.T) {
	for _, p := range somePolys() {
		for _, q := range somePolys() {
			sum := impl.PolyAdd(p, q)
			wantPoly(t, "sum", sum, slowPlus(p, q))
			places := []int64{0, 1, 2, 3, 77, 128, 254, 255}
			for _, x := range places {
				wantByte(t, "sum at", int64(len(sum.Poly)), x, impl.Eval(sum.Poly, x), slowEval(p, x)^slowEval(q, x))
			}
			product := impl.PolyMul(p, q)
			if len(p) > 0 && len(q) > 0 && len(p)+len(q) > 61 {
				wantPolyCode(t, "product", product, impl.ErrFull)
				continue
			}
			wantPoly(t, "product", product, slowTimes(p, q))
			for _, x := range places {
				wantByte(t, "product at", int64(len(product.Poly)), x, impl.Eval(product.Poly, x), slowMul(slowEval(p, x), slowEval(q, x)))
			}
		}
	}
}

func TestPolyAddEdges(t *testing.T) {
	long := somePoly(60, 3)
	wantPoly(t, "none and none", impl.PolyAdd(nil, []int64{}), nil)
	wantPoly(t, "none and one", impl.PolyAdd(nil, []int64{200}), []int64{200})
	wantPoly(t, "one and none", impl.PolyAdd([]int64{200}, nil), []int64{200})
	wantPoly(t, "one twice", impl.PolyAdd([]int64{200}, []int64{200}), nil)
	wantPoly(t, "60 twice", impl.PolyAdd(long, long), nil)
	wantPoly(t, "all but the first go", impl.PolyAdd([]int64{1, 2, 3}, []int64{5, 2, 3}), []int64{4})
	wantPoly(t, "the last goes", impl.PolyAdd([]int64{1, 2, 3}, []int64{1, 7, 3}), []int64{0, 5})
	wantPoly(t, "the middle goes", impl.PolyAdd([]int64{1, 2, 3}, []int64{0, 2}), []int64{1, 0, 3})
	wantPoly(t, "60 and one", impl.PolyAdd(long, []int64{long[0]}), append([]int64{0}, long[1:]...))
}

func TestPolyMulEdges(t *testing.T) {
	one := []int64{1}
	for _, size := range []int{0, 1, 30, 60} {
		p := somePoly(size, 9)
		wantPoly(t, "times 1", impl.PolyMul(p, one), p)
		wantPoly(t, "1 times", impl.PolyMul(one, p), p)
		wantPoly(t, "times none", impl.PolyMul(p, nil), nil)
		wantPoly(t, "none times", impl.PolyMul([]int64{}, p), nil)
	}
	for size := 1; size <= 60; size++ {
		p, fits, over := somePoly(size, 1), somePoly(61-size, 2), somePoly(62-size, 2)
		wantPoly(t, "of 60", impl.PolyMul(p, fits), slowTimes(p, fits))
		if size > 1 {
			wantPolyCode(t, "of 61", impl.PolyMul(p, over), impl.ErrFull)
		}
	}
	wantPolyCode(t, "60 times 60", impl.PolyMul(somePoly(60, 1), somePoly(60, 2)), impl.ErrFull)
}

func TestPolyPairsRefused(t *testing.T) {
	for _, call := range []func([]int64, []int64) impl.PolyOut{impl.PolyAdd, impl.PolyMul} {
		for _, no := range wrongPolys() {
			for _, q := range [][]int64{nil, {1}, somePoly(60, 1), no} {
				wantPolyCode(t, "wrong first", call(no, q), impl.ErrForm)
				wantPolyCode(t, "wrong second", call(q, no), impl.ErrForm)
			}
		}
		over := somePoly(impl.MaxList+1, 1)
		for _, q := range [][]int64{nil, {1}, {0}, {-1}, somePoly(60, 1), somePoly(impl.MaxList, 1), over} {
			wantPolyCode(t, "401 first", call(over, q), impl.ErrSize)
			wantPolyCode(t, "401 second", call(q, over), impl.ErrSize)
		}
	}
}

// withRoom is the same list, with memory behind it in which a careless call could write.
func withRoom[T any](l []T, fill T) []T {
	room := slices.Repeat([]T{fill}, len(l)+70)
	copy(room, l)
	return room[:len(l)]
}

func wantAsItWas[T comparable](t *testing.T, what string, l []T, was []T, fill T) {
	t.Helper()
	if !slices.Equal(l, was) {
		t.Errorf("%s: changed to %v", what, l)
	}
	for _, x := range l[len(l):cap(l)] {
		if x != fill {
			t.Errorf("%s: something is written behind it", what)
			return
		}
	}
}

func TestPolyAnswersAreNewMemory(t *testing.T) {
	for _, call := range []func([]int64, []int64) impl.PolyOut{impl.PolyAdd, impl.PolyMul} {
		for _, sizes := range [][2]int{{0, 5}, {5, 0}, {1, 20}, {20, 1}, {7, 7}, {30, 31}} {
			was, wasToo := somePoly(sizes[0], 4), somePoly(sizes[1], 5)
			if sizes[0] == 1 {
				was[0] = 1
			}
			p, q := withRoom(was, 77), withRoom(wasToo, 77)
			out := call(p, q)
			told := slices.Clone(out.Poly)
			wantAsItWas(t, "first", p, was, 77)
			wantAsItWas(t, "second", q, wasToo, 77)
			overwrite(p, 99)
			overwrite(q, 99)
			if !slices.Equal(out.Poly, told) {
				t.Errorf("sizes %v: an argument that changes changes the answer", sizes)
			}
			p, q = withRoom(was, 77), withRoom(wasToo, 77)
			overwrite(call(p, q).Poly, 99)
			wantAsItWas(t, "first", p, was, 77)
			wantAsItWas(t, "second", q, wasToo, 77)
		}
	}
}

func overwrite[T any](l []T, with T) {
	l = l[:cap(l)]
	for i := range l {
		l[i] = with
	}
}
