package coin_test

import (
	"math"
	"math/big"
	"slices"
	"testing"

	"jobber/api"
	"jobber/coin"
)

// edges are numbers at which sums, products and rests turn.
func edges() []int64 {
	l := []int64{0, math.MinInt64, math.MinInt64 + 1}
	for _, n := range []int64{1, 2, 3, 4, 5, 6, 7, 10, 1<<31 - 1, 1 << 31, 1<<32 - 1, 1 << 32, 1<<32 + 1, 3037000499, 3037000500, 1 << 40, api.Million, 1<<62 - 1, 1 << 62, 1<<62 + 1, math.MaxInt64 - 1, math.MaxInt64} {
		l = append(l, n, -n)
	}
	return l
}

// fewEdges are those of edges that are gone over four by four.
func fewEdges() []int64 {
	return []int64{0, 1, -1, 2, -2, 3, -3, 1 << 32, -1 << 32, 1<<61 - 1, 1 << 62, -1 << 62, 1<<62 + 1, math.MaxInt64, -math.MaxInt64, math.MinInt64}
}

var rounds = []int{api.Down, api.Up, api.Even}

func whole(n int64) *big.Int { return big.NewInt(n) }

// fits tells what a call answers whose exact answer is x.
func fits(x *big.Int) (int64, api.Errno) {
	if !x.IsInt64() {
		return 0, api.ErrBig
	}
	return x.Int64(), api.OK
}

// rounded tells p by c in words of its own: by the greatest whole number that is not above it, and twice the rest.
func rounded(p, c *big.Int, round int) *big.Int {
	if c.Sign() < 0 {
		p, c = new(big.Int).Neg(p), new(big.Int).Neg(c)
	}
	down, rest := new(big.Int).DivMod(p, c, new(big.Int))
	up := new(big.Int).Set(down)
	if rest.Sign() != 0 {
		up.Add(up, whole(1))
	}
	switch half := new(big.Int).Lsh(rest, 1).Cmp(c); {
	case round == api.Down, round == api.Even && half < 0:
		return down
	case round == api.Up, half > 0:
		return up
	}
	if down.Bit(0) == 0 {
		return down
	}
	return up
}

func TestP1_1OfTwo(t *testing.T) {
	for _, a := range edges() {
		for _, b := range edges() {
			check := func(name string, exact *big.Int, n int64, e api.Errno) {
				if m, f := fits(exact); n != m || e != f {
					t.Fatalf("%s(%d, %d) = %d, %d, want %d, %d", name, a, b, n, int(e), m, int(f))
				}
			}
			n, e := coin.Add(a, b)
			check("Add", new(big.Int).Add(whole(a), whole(b)), n, e)
			n, e = coin.Sub(a, b)
			check("Sub", new(big.Int).Sub(whole(a), whole(b)), n, e)
			n, e = coin.Mul(a, b)
			check("Mul", new(big.Int).Mul(whole(a), whole(b)), n, e)
			n, e = coin.Sum(a, b)
			check("Sum", new(big.Int).Add(whole(a), whole(b)), n, e)
		}
	}
}

func TestP1_1Sum(t *testing.T) {
	const top, low = math.MaxInt64, math.MinInt64
	for _, c := range []struct {
		l    []int64
		want int64
		e    api.Errno
	}{
		{nil, 0, api.OK},
		{[]int64{}, 0, api.OK},
		{[]int64{low}, low, api.OK},
		{[]int64{3, -5, 4}, 2, api.OK},
		{[]int64{top, 1}, 0, api.ErrBig},
		{[]int64{low, -1}, 0, api.ErrBig},
		{[]int64{top, 1, -1}, top, api.OK},
		{[]int64{top, top, top, low, low, low}, -3, api.OK},
		{[]int64{low, low, low, low, top, top, top, top, 4}, 0, api.OK},
		{[]int64{low, low}, 0, api.ErrBig}, // modulo 2^64 it is 0
		{[]int64{top, top, 2}, 0, api.ErrBig},
		{[]int64{1 << 62, 1 << 62, 1 << 62, 1 << 62, 5}, 0, api.ErrBig},
	} {
		if n, e := coin.Sum(c.l...); n != c.want || e != c.e {
			t.Errorf("Sum(%v) = %d, %d, want %d, %d", c.l, n, int(e), c.want, int(c.e))
		}
	}
}

func TestP1_1SumOfMany(t *testing.T) {
	const many = 1 << 17
	var l []int64
	for range many {
		l = append(l, math.MaxInt64)
	}
	if n, e := coin.Sum(l...); n != 0 || e != api.ErrBig {
		t.Error("far above", n, int(e))
	}
	for range many {
		l = append(l, math.MinInt64)
	}
	if n, e := coin.Sum(l...); n != -many || e != api.OK {
		t.Error("back again", n, int(e))
	}
	if n, e := coin.Sum(l[many:]...); n != 0 || e != api.ErrBig {
		t.Error("far below", n, int(e))
	}
}

func TestP1_1SumLeavesItsList(t *testing.T) {
	l := []int64{5, -7, 9, 11}
	coin.Sum(l[:2]...)
	if !slices.Equal(l, []int64{5, -7, 9, 11}) {
		t.Error(l)
	}
}

func TestP1_2DivByHand(t *testing.T) {
	const top, low = math.MaxInt64, math.MinInt64
	for _, c := range []struct {
		a, b, c        int64
		down, up, even int64
	}{
		{7, 5, 2, 17, 18, 18},
		{5, 5, 2, 12, 13, 12},
		{-7, 1, 2, -4, -3, -4},
		{-5, 1, 2, -3, -2, -2},
		{7, 1, -2, -4, -3, -4},
		{-7, 1, -2, 3, 4, 4},
		{1, 1, 2, 0, 1, 0},
		{-1, 1, 2, -1, 0, 0},
		{3, 1, 2, 1, 2, 2},
		{1, 1, 3, 0, 1, 0},
		{2, 1, 3, 0, 1, 1},
		{-1, 1, 3, -1, 0, 0},
		{-2, 1, 3, -1, 0, -1},
		{1, 1, top, 0, 1, 0},
		{1, 1, low, -1, 0, 0},
		{6, 5, 3, 10, 10, 10},
		{-6, 5, 3, -10, -10, -10},
		{0, low, -3, 0, 0, 0},
		{top, top, top, top, top, top},
		{low, low, low, low, low, low},
		{low, 1, 1, low, low, low},
		{top, 1, -1, -top, -top, -top},
		{1 << 62, 1, low, -1, 0, 0},                // just one half
		{1 << 62, 3, low, -2, -1, -2},              // one half beside an odd one
		{1<<62 + 1, 1, low, -1, 0, -1},             // a little more
		{1<<62 - 1, -1, low, 0, 1, 0},              // a little less
		{top - 1, 1, top, 0, 1, 1},                 // twice the rest has no room in 64 bits
		{low + 1, 1, low, 0, 1, 1},                 // nor has it here
		{1 << 62, 6, 4, 3 << 61, 3 << 61, 3 << 61}, // nor the product
	} {
		for i, want := range []int64{c.down, c.up, c.even} {
			if n, e := coin.Div(c.a, c.b, c.c, rounds[i]); n != want || e != api.OK {
				t.Errorf("Div(%d, %d, %d, %d) = %d, %d, want %d", c.a, c.b, c.c, rounds[i], n, int(e), want)
			}
		}
	}
}

func TestP1_2DivExactly(t *testing.T) {
	for _, a := range edges() {
		for _, b := range edges() {
			p := new(big.Int).Mul(whole(a), whole(b))
			for _, c := range edges() {
				if c == 0 {
					continue
				}
				for _, round := range rounds {
					n, e := coin.Div(a, b, c, round)
					if m, f := fits(rounded(p, whole(c), round)); n != m || e != f {
						t.Fatalf("Div(%d, %d, %d, %d) = %d, %d, want %d, %d", a, b, c, round, n, int(e), m, int(f))
					}
				}
			}
		}
	}
}

func TestP1_2DivOfSmallOnes(t *testing.T) {
	for a := int64(-40); a <= 40; a++ {
		for c := int64(-12); c <= 12; c++ {
			for _, round := range rounds {
				if c == 0 {
					continue
				}
				want := rounded(whole(a), whole(c), round).Int64()
				if n, e := coin.Div(a, 1, c, round); n != want || e != api.OK {
					t.Fatalf("Div(%d, 1, %d, %d) = %d, %d, want %d", a, c, round, n, int(e), want)
				}
			}
		}
	}
}

// What has room hangs on how it is rounded: each way has a last product that fits.
func TestP1_2DivAtTheEnds(t *testing.T) {
	const top, low = math.MaxInt64, math.MinInt64
	for _, c := range []struct {
		a, b, c int64
		round   int
		want    int64
		e       api.Errno
	}{
		{1<<62 - 1, 4, 2, api.Up, top - 1, api.OK},
		// 2^64 - 1 is 3 times 6148914691236517205; half of it is 2^63 - 1/2.
		{6148914691236517205, 3, 2, api.Down, top, api.OK},
		{6148914691236517205, 3, 2, api.Up, 0, api.ErrBig},
		{6148914691236517205, 3, 2, api.Even, 0, api.ErrBig},
		{6148914691236517205, -3, 2, api.Down, low, api.OK},
		{6148914691236517205, -3, 2, api.Up, -top, api.OK},
		{6148914691236517205, -3, 2, api.Even, low, api.OK},
		// 2^64 + 1 is 274177 times 67280421310721; half of it is 2^63 + 1/2.
		{67280421310721, 274177, -2, api.Up, low, api.OK},
		{67280421310721, 274177, -2, api.Down, 0, api.ErrBig},
		{67280421310721, 274177, -2, api.Even, low, api.OK},
		{67280421310721, 274177, 2, api.Down, 0, api.ErrBig},
		{low, 1, -1, api.Down, 0, api.ErrBig},
		{low, -1, 1, api.Even, 0, api.ErrBig},
		{1 << 32, 1 << 32, 1, api.Down, 0, api.ErrBig}, // modulo 2^64 it is 0
		{low, low, 1, api.Down, 0, api.ErrBig},
		{low, low, -1, api.Up, 0, api.ErrBig},
		// The quotient is 2^64 - 1: all of its 64 bits are set.
		{6148914691236517205, 3, 1, api.Up, 0, api.ErrBig},
		// 2^65 - 1 is 253921 times 145295143558111: its half is rounded up to 2^64.
		{253921, 145295143558111, 2, api.Up, 0, api.ErrBig},
		{253921, 145295143558111, -2, api.Down, 0, api.ErrBig},
		{253921, 145295143558111, 2, api.Even, 0, api.ErrBig},
	} {
		if n, e := coin.Div(c.a, c.b, c.c, c.round); n != c.want || e != c.e {
			t.Errorf("Div(%d, %d, %d, %d) = %d, %d, want %d, %d", c.a, c.b, c.c, c.round, n, int(e), c.want, int(c.e))
		}
	}
}

func TestP1_2DivOfWrongOnes(t *testing.T) {
	for _, round := range []int{0, 4, -1, math.MaxInt, math.MinInt} {
		for _, c := range []int64{0, 1, -3} { // ErrArg is named ahead of ErrDiv and ErrBig
			if n, e := coin.Div(1<<62, 1<<62, c, round); n != 0 || e != api.ErrArg {
				t.Error(c, round, n, int(e))
			}
		}
	}
	for _, round := range rounds {
		for _, a := range []int64{0, 7, math.MinInt64} {
			if n, e := coin.Div(a, math.MinInt64, 0, round); n != 0 || e != api.ErrDiv {
				t.Error(a, round, n, int(e))
			}
		}
	}
}

func TestP1_3Less(t *testing.T) {
	for _, a := range fewEdges() {
		for _, b := range fewEdges() {
			ab := new(big.Int).Mul(whole(a), whole(b))
			for _, c := range fewEdges() {
				for _, d := range fewEdges() {
					want := ab.Cmp(new(big.Int).Mul(whole(c), whole(d))) < 0
					if coin.Less(a, b, c, d) != want {
						t.Fatalf("Less(%d, %d, %d, %d) is not %v", a, b, c, d, want)
					}
				}
			}
		}
	}
}

func TestP1_3LessByOne(t *testing.T) {
	const n = 1<<62 + 12345
	// (n - 1) times (n + 1) is n times n, less 1.
	if !coin.Less(n-1, n+1, n, n) || coin.Less(n, n, n-1, n+1) || coin.Less(n, n, n, n) {
		t.Error("above 0")
	}
	if !coin.Less(n, -n, n-1, -n-1) || coin.Less(1-n, n+1, n, -n) || coin.Less(-n, n, n, -n) {
		t.Error("below 0")
	}
}

func TestP1_3Capped(t *testing.T) {
	const top = api.MaxMoney
	for _, c := range []struct{ a, b, want int64 }{
		{0, 0, 0}, {3, 4, 7}, {top, 0, top}, {0, top, top}, {top, 1, top}, {top, top, top},
		{top - 1, 1, top}, {top - 2, 1, top - 1}, {top - 1, 2, top}, {1 << 61, 1 << 61, top}, {1<<61 - 1, 1 << 61, top - 1},
		{-1, 5, 0}, {5, -1, 0}, {-1, -1, 0}, {-1, top, 0}, {top + 1, 0, 0}, {0, top + 1, 0}, {top + 1, top + 1, 0},
		{math.MaxInt64, math.MaxInt64, 0}, {math.MinInt64, math.MinInt64, 0}, {math.MinInt64, top, 0}, {math.MaxInt64, -5, 0},
	} {
		if n := coin.Capped(c.a, c.b); n != c.want {
			t.Errorf("Capped(%d, %d) = %d, want %d", c.a, c.b, n, c.want)
		}
	}
}

func TestP1_4SumsHangOnNoOrder(t *testing.T) {
	for _, a := range edges() {
		for _, b := range edges() {
			n, e := coin.Add(a, b)
			if m, f := coin.Add(b, a); n != m || e != f {
				t.Fatal("Add", a, b)
			}
			for _, c := range edges() {
				n, e := coin.Sum(a, b, c)
				for _, l := range [][]int64{{a, c, b}, {b, a, c}, {b, c, a}, {c, a, b}, {c, b, a}} {
					if m, f := coin.Sum(l...); n != m || e != f {
						t.Fatal("Sum", a, b, c, l)
					}
				}
			}
		}
	}
}

func TestP1_4WhatWasAddedIsTakenAway(t *testing.T) {
	for _, a := range edges() {
		for _, b := range edges() {
			if n, e := coin.Add(a, b); e == api.OK {
				if m, f := coin.Sub(n, b); m != a || f != api.OK {
					t.Fatal("Sub", a, b, m, int(f))
				}
			}
			if b == math.MinInt64 {
				continue // minus it has no room
			}
			if n, e := coin.Sum(a, b, -b); n != a || e != api.OK {
				t.Fatal("Sum", a, b, n, int(e))
			}
		}
	}
}

func TestP1_4RoundedWaysLieTogether(t *testing.T) {
	for _, a := range edges() {
		for _, b := range edges() {
			for _, c := range edges() {
				down, e := coin.Div(a, b, c, api.Down)
				up, f := coin.Div(a, b, c, api.Up)
				even, g := coin.Div(a, b, c, api.Even)
				if e != api.OK || f != api.OK || g != api.OK {
					continue
				}
				if up != down && up-1 != down || even != down && even != up {
					t.Fatal(a, b, c, down, up, even)
				}
			}
		}
	}
}
