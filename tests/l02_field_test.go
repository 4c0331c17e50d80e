package tests

import (
	"math"
	"os"
	"os/exec"
	"sync"
	"testing"

	"loop.example/g00839/impl"
)

// noBytes are numbers that are no bytes; some of them would be, if just their lowest bits were looked at.
func noBytes() []int64 {
	return []int64{-1, -2, -255, -256, 256, 257, 283, 511, 512, 1 << 8, 1 << 16, 1<<32 + 1, -1 << 32,
		math.MinInt64, math.MinInt64 + 1, math.MaxInt64, math.MaxInt64 - 1}
}

func wantByte(t *testing.T, what string, a int64, b int64, got int64, want int64) {
	t.Helper()
	if got != want {
		t.Errorf("%s(%d, %d): got %d, want %d", what, a, b, got, want)
	}
}

// slowMul multiplies as the document says it: all the bits first, what stands above the eighth one then.
func slowMul(a int64, b int64) int64 {
	sum := int64(0)
	for bit := range 8 {
		if b>>bit&1 == 1 {
			sum ^= a << bit
		}
	}
	for bit := 14; bit >= 8; bit-- {
		if sum>>bit&1 == 1 {
			sum ^= 0b100011011 << (bit - 8)
		}
	}
	return sum
}

// slowPow squares, so that it is done soon for each n.
func slowPow(a int64, n int64) int64 {
	out := int64(1)
	for ; n > 0; n >>= 1 {
		if n&1 == 1 {
			out = slowMul(out, a)
		}
		a = slowMul(a, a)
	}
	return out
}

func TestBend(t *testing.T) {
	if impl.Bend != 0b100011011 {
		t.Errorf("Bend: got %b", impl.Bend)
	}
}

// Promise 3: products.
func TestMulKnown(t *testing.T) {
	known := [][3]int64{
		{0, 0, 0}, {0, 1, 0}, {0, 255, 0}, {1, 1, 1}, {1, 255, 255}, {2, 127, 254}, {2, 128, 27}, {3, 7, 9},
		{128, 128, 154}, {255, 255, 19}, {0x57, 0x83, 0xC1}, {0x57, 0x13, 0xFE}, {0x53, 0xCA, 1},
	}
	for _, k := range known {
		wantByte(t, "Mul", k[0], k[1], impl.Mul(k[0], k[1]), k[2])
		wantByte(t, "Mul", k[1], k[0], impl.Mul(k[1], k[0]), k[2])
	}
}

func TestMulAll(t *testing.T) {
	for a := range int64(256) {
		for b := range int64(256) {
			got := impl.Mul(a, b)
			wantByte(t, "Mul", a, b, got, slowMul(a, b))
			if back := impl.Mul(b, a); got != back {
				t.Errorf("Mul(%d, %d) is %d, exchanged it is %d", a, b, got, back)
			}
		}
	}
}

func TestMulParted(t *testing.T) {
	for a := range int64(256) {
		for b := range int64(256) {
			ab := impl.Mul(a, b)
			for c := a % 5; c < 256; c += 5 {
				if got, want := impl.Mul(a, b^c), ab^impl.Mul(a, c); got != want {
					t.Fatalf("%d times the sum of %d and %d: got %d, parted %d", a, b, c, got, want)
				}
				if got, want := impl.Mul(ab, c), impl.Mul(a, impl.Mul(b, c)); got != want {
					t.Fatalf("%d times %d times %d: got %d, parted %d", a, b, c, got, want)
				}
			}
		}
	}
}

func TestMulNoBytes(t *testing.T) {
	for _, no := range noBytes() {
		for _, b := range append(noBytes(), 0, 1, 2, 255) {
			wantByte(t, "Mul", no, b, impl.Mul(no, b), -1)
			wantByte(t, "Mul", b, no, impl.Mul(b, no), -1)
		}
	}
}

// Promise 3: each but 0 has one that it makes 1 with.
func TestInvAll(t *testing.T) {
	wantByte(t, "Inv", 0, 0, impl.Inv(0), -1)
	wantByte(t, "Inv", 1, 0, impl.Inv(1), 1)
	wantByte(t, "Inv", 0x53, 0, impl.Inv(0x53), 0xCA)
	var seen [256]bool
	for a := int64(1); a < 256; a++ {
		in := impl.Inv(a)
		if in < 1 || in > 255 || seen[in] {
			t.Fatalf("Inv(%d): got %d, which is no byte above 0, or one that was told already", a, in)
		}
		seen[in] = true
		wantByte(t, "Mul by Inv", a, in, slowMul(a, in), 1)
		wantByte(t, "Mul by Inv", a, in, impl.Mul(a, in), 1)
		wantByte(t, "Inv of Inv", a, in, impl.Inv(in), a)
	}
	for _, no := range noBytes() {
		wantByte(t, "Inv", no, 0, impl.Inv(no), -1)
	}
}

func TestDivAll(t *testing.T) {
	for a := range int64(256) {
		wantByte(t, "Div", a, 0, impl.Div(a, 0), -1)
		for b := int64(1); b < 256; b++ {
			wantByte(t, "Div", slowMul(a, b), b, impl.Div(slowMul(a, b), b), a)
		}
	}
}

func TestDivNoBytes(t *testing.T) {
	for _, no := range noBytes() {
		for _, b := range append(noBytes(), 0, 1, 2, 255) {
			wantByte(t, "Div", no, b, impl.Div(no, b), -1)
			wantByte(t, "Div", b, no, impl.Div(b, no), -1)
		}
	}
}

// Promise 3: each but 0 comes to 1 by itself 255 times.
func TestPowComesToOne(t *testing.T) {
	for a := int64(1); a < 256; a++ {
		wantByte(t, "Pow", a, 255, impl.Pow(a, 255), 1)
		wantByte(t, "Pow", a, 256, impl.Pow(a, 256), a)
		wantByte(t, "Pow", a, 254, impl.Pow(a, 254), impl.Inv(a))
	}
}

func TestPowFactorByFactor(t *testing.T) {
	for a := range int64(256) {
		want := int64(1)
		for n := range int64(600) {
			wantByte(t, "Pow", a, n, impl.Pow(a, n), want)
			want = slowMul(want, a)
		}
	}
}

func TestPowGreat(t *testing.T) {
	great := []int64{1 << 20, 1 << 32, 1<<32 + 1, math.MaxInt64 / 255, math.MaxInt64/255*255 - 1,
		math.MaxInt64 / 255 * 255, math.MaxInt64 - 1, math.MaxInt64}
	for a := range int64(256) {
		for _, n := range great {
			wantByte(t, "Pow", a, n, impl.Pow(a, n), slowPow(a, n))
		}
	}
}

func TestPowRefused(t *testing.T) {
	below := []int64{-1, -2, -254, -255, -256, math.MinInt64, math.MinInt64 + 1}
	for _, n := range below {
		for _, a := range append(noBytes(), 0, 1, 2, 255) {
			wantByte(t, "Pow", a, n, impl.Pow(a, n), -1)
		}
	}
	for _, no := range noBytes() {
		for _, n := range []int64{0, 1, 2, 255, 256, math.MaxInt64} {
			wantByte(t, "Pow", no, n, impl.Pow(no, n), -1)
		}
	}
}

// firstCallRight tells whether the call of that name is right, whatever was called ahead of it.
func firstCallRight(name string) bool {
	switch name {
	case "Mul":
		return impl.Mul(0x57, 0x83) == 0xC1
	case "Pow":
		return impl.Pow(2, 8) == 27
	case "Inv":
		return impl.Inv(0x53) == 0xCA
	case "Div":
		return impl.Div(27, 128) == 2
	}
	return manyAtOnce()
}

// manyAtOnce tells whether each of many that call at one time is answered rightly.
func manyAtOnce() bool {
	var right [64]bool
	var all sync.WaitGroup
	for i := range right {
		all.Go(func() {
			a := int64(i + 1)
			right[i] = impl.Mul(a, 255) == slowMul(a, 255) && impl.Div(slowMul(a, 77), 77) == a && impl.Pow(a, 3) == slowPow(a, 3)
		})
	}
	all.Wait()
	for _, r := range right {
		if !r {
			return false
		}
	}
	return true
}

// Each call is tried in a process of its own, because in this one another test may have called already.
func TestFirstCall(t *testing.T) {
	if name := os.Getenv("FIRST_CALL"); name != "" {
		if !firstCallRight(name) {
			t.Errorf("%s, called first, is not right", name)
		}
		return
	}
	for _, name := range []string{"Mul", "Pow", "Inv", "Div", "Many"} {
		again := exec.Command(os.Args[0], "-test.run=^TestFirstCall$")
		again.Env = append(os.Environ(), "FIRST_CALL="+name)
		if out, err := again.CombinedOutput(); err != nil {
			t.Errorf("%s: %v\n%s", name, err, out)
		}
	}
}
