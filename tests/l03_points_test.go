package tests

import (
	"slices"
	"testing"

	"loop.example/g00839/impl"
)

// somePoints are so many right points, no two of one X, of a first X.
func somePoints(many int, first int64) []impl.Point {
	var out []impl.Point
	for i := range int64(many) {
		out = append(out, impl.Point{X: (first + i*41) & 255, Y: (i*i*97 + first*3 + 5) & 255})
	}
	return out
}

// pointsOn are points of a polynomial, at so many places.
func pointsOn(p []int64, many int, first int64) []impl.Point {
	out := somePoints(many, first)
	for i := range out {
		out[i].Y = slowEval(p, out[i].X)
	}
	return out
}

// wrongPoints are lists that are no right points.
func wrongPoints() [][]impl.Point {
	out := [][]impl.Point{nil, {}, somePoints(21, 0), somePoints(100, 0), {{X: 1, Y: 2}, {X: 1, Y: 2}}, {{X: 1, Y: 2}, {X: 1, Y: 3}},
		{{X: 0}, {X: 0}}, {{X: 0}, {X: 9}, {X: 0}}, {{X: 255, Y: 1}, {X: 3}, {X: 255}}, make([]impl.Point, 2)}
	many := somePoints(20, 3)
	many[19].X = many[0].X
	out = append(out, many, make([]impl.Point, impl.MaxList))
	for _, no := range noBytes() {
		for at := range 3 {
			x, y := somePoints(3, 8), somePoints(3, 8)
			x[at].X, y[at].Y = no, no
			out = append(out, x, y)
		}
	}
	return out
}

// wantThrough is what is right of a polynomial through points: that it is right, short, and through each.
func wantThrough(t *testing.T, l []impl.Point) {
	t.Helper()
	out := impl.Through(l)
	if out.Code != impl.OK || !impl.PolyRight(out.Poly) || len(out.Poly) > len(l) {
		t.Errorf("through %v: got %v", l, out)
	}
	for _, p := range l {
		wantByte(t, "through a point, at", p.X, 0, slowEval(out.Poly, p.X), p.Y)
	}
	wantByte(t, "AtZero", int64(len(l)), 0, impl.AtZero(l), slowEval(out.Poly, 0))
}

func TestThroughSomePoints(t *testing.T) {
	for many := 1; many <= 20; many++ {
		for first := range int64(256) {
			wantThrough(t, somePoints(many, first))
		}
	}
	for x := range int64(256) {
		for y := range int64(256) {
			wantPoly(t, "through one", impl.Through([]impl.Point{{X: x, Y: y}}), slowPlus([]int64{y}, nil))
			wantByte(t, "AtZero", x, y, impl.AtZero([]impl.Point{{X: x, Y: y}}), y)
		}
	}
}

func TestThroughKnown(t *testing.T) {
	wantPoly(t, "two", impl.Through([]impl.Point{{X: 1, Y: 4}, {X: 2, Y: 7}}), []int64{5, 1})
	wantPoly(t, "two, exchanged", impl.Through([]impl.Point{{X: 2, Y: 7}, {X: 1, Y: 4}}), []int64{5, 1})
	wantPoly(t, "one Y", impl.Through([]impl.Point{{X: 1, Y: 9}, {X: 2, Y: 9}, {X: 0, Y: 9}}), []int64{9})
	wantPoly(t, "all 0", impl.Through([]impl.Point{{X: 1}, {X: 2}, {X: 0}}), nil)
	wantPoly(t, "one, 0", impl.Through([]impl.Point{{X: 200}}), nil)
	wantPoly(t, "through 0", impl.Through([]impl.Point{{X: 0}, {X: 1, Y: 1}}), []int64{0, 1})
	wantByte(t, "AtZero", 0, 0, impl.AtZero([]impl.Point{{X: 1, Y: 4}, {X: 2, Y: 7}}), 5)
	wantByte(t, "AtZero", 0, 0, impl.AtZero([]impl.Point{{X: 7, Y: 3}, {X: 0, Y: 200}}), 200)
	wantByte(t, "AtZero", 0, 0, impl.AtZero([]impl.Point{{X: 7}}), 0)
}

// Promise 4: there is just one that is as short. Of two points, all of two bytes are tried.
func TestJustOneLineThroughTwoPoints(t *testing.T) {
	for _, l := range [][]impl.Point{{{X: 0, Y: 0}, {X: 1, Y: 0}}, {{X: 3, Y: 200}, {X: 0, Y: 9}}, {{X: 255, Y: 255}, {X: 254, Y: 1}}} {
		var through [][]int64
		for a := range int64(256) {
			for b := range int64(256) {
				if slowEval([]int64{a, b}, l[0].X) == l[0].Y && slowEval([]int64{a, b}, l[1].X) == l[1].Y {
					through = append(through, slowPlus([]int64{a, b}, nil))
				}
			}
		}
		if len(through) != 1 {
			t.Fatalf("through %v: %v", l, through)
		}
		wantPoly(t, "through two", impl.Through(l), through[0])
	}
}

// Promise 4: each polynomial is found again from as many points as it has bytes, and from more, in whatever order.
func TestPolynomialsComeBackFromPoints(t *testing.T) {
	for size := range 21 {
		for seed := range 6 {
			p := somePoly(size, seed)
			for many := max(size, 1); many <= 20; many++ {
				l := pointsOn(p, many, int64(seed*size))
				wantPoly(t, "from points", impl.Through(l), p)
				wantByte(t, "AtZero from points", int64(size), int64(many), impl.AtZero(l), slowEval(p, 0))
				slices.Reverse(l)
				wantPoly(t, "from points, turned round", impl.Through(l), p)
				l = append(l[many/3:], l[:many/3]...)
				wantPoly(t, "from points, turned on", impl.Through(l), p)
			}
		}
	}
}

func TestPointsRefused(t *testing.T) {
	for _, l := range wrongPoints() {
		wantPolyCode(t, "through no right points", impl.Through(l), impl.ErrForm)
		wantByte(t, "AtZero of no right points", int64(len(l)), 0, impl.AtZero(l), -1)
	}
	over := make([]impl.Point, impl.MaxList+1)
	wantPolyCode(t, "through 401", impl.Through(over), impl.ErrSize)
	wantByte(t, "AtZero", int64(len(over)), 0, impl.AtZero(over), -1)
}

func TestPointsStayAsTheyWere(t *testing.T) {
	fill := impl.Point{X: 77, Y: 77}
	for _, many := range []int{1, 2, 7, 20} {
		was := somePoints(many, 9)
		l := withRoom(was, fill)
		out := impl.Through(l)
		told := slices.Clone(out.Poly)
		impl.AtZero(l)
		wantAsItWas(t, "points", l, was, fill)
		overwrite(l, fill)
		if !slices.Equal(out.Poly, told) {
			t.Errorf("%d points that change change the answer", many)
		}
	}
}

// somePlaces are so many places to vanish at, no two alike.
func somePlaces(many int, first int64) []int64 {
	var out []int64
	for i := range int64(many) {
		out = append(out, (first+i*53)%255+1)
	}
	return out
}

// Promise 4: what Vanish tells is 0 where it is to be, and 1 at 0.
func TestVanish(t *testing.T) {
	for many := range 21 {
		for first := range int64(40) {
			xs := somePlaces(many, first*7)
			out := impl.Vanish(xs)
			if out.Code != impl.OK || len(out.Poly) != many+1 || !impl.PolyRight(out.Poly) {
				t.Fatalf("Vanish(%v): got %v", xs, out)
			}
			wantByte(t, "Vanish at", 0, 0, slowEval(out.Poly, 0), 1)
			for x := int64(1); x < 256; x++ {
				if isZero := slowEval(out.Poly, x) == 0; isZero != slices.Contains(xs, x) {
					t.Fatalf("Vanish(%v) at %d: is it 0? %v", xs, x, isZero)
				}
			}
			back := slices.Clone(xs)
			slices.Reverse(back)
			wantPoly(t, "Vanish, turned round", impl.Vanish(back), out.Poly)
		}
	}
}

func TestVanishKnown(t *testing.T) {
	wantPoly(t, "none", impl.Vanish(nil), []int64{1})
	wantPoly(t, "none", impl.Vanish([]int64{}), []int64{1})
	wantPoly(t, "of 1", impl.Vanish([]int64{1}), []int64{1, 1})
	for x := int64(1); x < 256; x++ {
		wantPoly(t, "of one", impl.Vanish([]int64{x}), []int64{1, slowPow(x, 254)})
	}
}

func TestVanishRefused(t *testing.T) {
	cases := [][]int64{{0}, {0, 1}, {1, 0, 2}, {1, 2, 0}, {1, 1}, {255, 3, 255}, {0, 0}, somePlaces(21, 0), make([]int64, impl.MaxList)}
	alike := somePlaces(20, 5)
	alike[19] = alike[0]
	cases = append(cases, alike)
	for _, no := range noBytes() {
		cases = append(cases, []int64{no}, []int64{no, 2, 3}, []int64{1, no, 3}, []int64{1, 2, no})
	}
	for _, xs := range cases {
		wantPolyCode(t, "Vanish of no right places", impl.Vanish(xs), impl.ErrForm)
	}
	wantPolyCode(t, "Vanish of 401", impl.Vanish(make([]int64, impl.MaxList+1)), impl.ErrSize)
	wantPolyCode(t, "Vanish of 401", impl.Vanish(somePlaces(impl.MaxList+1, 0)), impl.ErrSize)
}

func TestPlacesStayAsTheyWere(t *testing.T) {
	for _, many := range []int{0, 1, 7, 20} {
		was := somePlaces(many, 9)
		xs := withRoom(was, 77)
		out := impl.Vanish(xs)
		told := slices.Clone(out.Poly)
		wantAsItWas(t, "places", xs, was, 77)
		overwrite(xs, 99)
		if !slices.Equal(out.Poly, told) {
			t.Errorf("%d places that change change the answer", many)
		}
		overwrite(out.Poly, 99)
		wantPoly(t, "Vanish again", impl.Vanish(was), told)
	}
}
