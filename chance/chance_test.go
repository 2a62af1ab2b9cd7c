package chance_test

import (
	"math"
	"math/big"
	"slices"
	"testing"

	"jobber/chance"
)

// some tells as many bytes, of which hardly two are alike.
func some(many int, seed uint64) []byte {
	l := make([]byte, many)
	for i := range l {
		seed = seed*6364136223846793005 + 1442695040888963407
		l[i] = byte(seed >> 56)
	}
	return l
}

// spans are the numbers at which another byte is needed, and those beside them.
func spans() []uint64 {
	l := []uint64{0, 1, 2, 3, 5, 10, 300, math.MaxUint64, math.MaxUint64 - 1}
	for bit := 1; bit < 64; bit++ {
		l = append(l, 1<<bit-1, 1<<bit, 1<<bit+1)
	}
	return l
}

// below tells what Below should tell of some bytes, and how many it uses, in words of its own.
func below(b []byte, n *big.Int) (*big.Int, int) {
	if n.Cmp(big.NewInt(2)) < 0 {
		return new(big.Int), 0
	}
	long, room := 0, big.NewInt(1)
	for room.Cmp(n) < 0 { // room - 1 is the greatest number of so many bytes
		room.Lsh(room, 8)
		long++
	}
	padded := make([]byte, long)
	used := copy(padded, b)
	x := new(big.Int).SetBytes(padded)
	return x.Mod(x, n), used
}

func TestP5_1ByteByByte(t *testing.T) {
	want := some(100, 1)
	s := chance.New(want)
	for i, w := range want {
		if s.Left() != len(want)-i {
			t.Fatal(i, s.Left())
		}
		if b := s.Byte(); b != w {
			t.Fatal(i, b, w)
		}
	}
	for range 3 {
		if b := s.Byte(); b != 0 || s.Left() != 0 {
			t.Fatal("behind the end", b, s.Left())
		}
	}
}

func TestP5_1BelowByHand(t *testing.T) {
	s := chance.New([]byte{7, 1, 2})
	for i, c := range []struct{ n, want uint64 }{{5, 2}, {1, 0}, {300, 258}, {300, 0}} {
		if x := s.Below(c.n); x != c.want {
			t.Error(i, x, c.want)
		}
	}
	for _, c := range []struct {
		n    uint64
		b    []byte
		want uint64
		left int
	}{
		{0, []byte{9, 9}, 0, 2},
		{1, []byte{9, 9}, 0, 2},
		{2, []byte{9, 9}, 1, 1},
		{256, []byte{255, 9}, 255, 1}, // 255 is one byte
		{257, []byte{255, 9}, (255<<8 + 9) % 257, 0},
		{1 << 16, []byte{1, 2, 3}, 258, 1},
		{1<<16 + 1, []byte{1, 2, 3}, 66051 % 65537, 0},
		{1<<16 + 1, []byte{1}, 65536 % 65537, 0}, // the bytes that lack are 0
		{math.MaxUint64, []byte{255, 255, 255, 255, 255, 255, 255, 255, 1}, 0, 1},
		{math.MaxUint64, []byte{255, 255, 255, 255, 255, 255, 255, 254, 1}, math.MaxUint64 - 1, 1},
		{1 << 56, []byte{1, 2, 3, 4, 5, 6, 7, 8}, 0x01020304050607, 1},
	} {
		s := chance.New(c.b)
		if x := s.Below(c.n); x != c.want || s.Left() != c.left {
			t.Errorf("Below(%d) of %v = %d, %d left, want %d, %d", c.n, c.b, x, s.Left(), c.want, c.left)
		}
	}
}

func TestP5_1BelowExactly(t *testing.T) {
	for many := range 12 {
		for seed := range uint64(20) {
			for _, n := range spans() {
				b := some(many, seed)
				want, used := below(b, new(big.Int).SetUint64(n))
				s := chance.New(b)
				if x := s.Below(n); x != want.Uint64() || s.Left() != many-used {
					t.Fatalf("Below(%d) of %v = %d, %d left, want %d, %d", n, b, x, s.Left(), want, many-used)
				}
			}
		}
	}
}

func TestP5_1BetweenByHand(t *testing.T) {
	const top, low = math.MaxInt64, math.MinInt64
	full := []byte{255, 255, 255, 255, 255, 255, 255, 255, 1}
	for _, c := range []struct {
		low, high int64
		b         []byte
		want      int64
		left      int
	}{
		{3, 3, full, 3, 9},
		{4, 3, full, 4, 9},
		{top, low, full, top, 9},
		{low, low, full, low, 9},
		{3, 4, []byte{7}, 4, 0},
		{-3, 3, []byte{6, 1}, 3, 1},
		{-3, 3, []byte{7, 1}, -3, 1},
		{0, 255, []byte{255, 1}, 255, 1},
		{0, 256, []byte{0, 200}, 200, 0},
		{0, top, full, top, 1},                                    // one of 2^63
		{-1, top, full, -1 + (1<<64-1)%(1<<63+1), 1},              // one of 2^63 and 1
		{low, top, full, top, 1},                                  // one of 2^64
		{low, top, []byte{0, 0, 0, 0, 0, 0, 0, 5, 1}, low + 5, 1}, // the first byte is the highest
		{low, top, []byte{128, 0, 0, 0, 0, 0, 0, 7, 1}, 7, 1},
		{low, top, []byte{128, 0, 0}, 0, 0},
		{low, top, nil, low, 0},
		{low, top - 1, full, low, 1}, // one of 2^64 less 1
		{low + 1, top, full, low + 1, 1},
	} {
		s := chance.New(c.b)
		if x := s.Between(c.low, c.high); x != c.want || s.Left() != c.left {
			t.Errorf("Between(%d, %d) of %v = %d, %d left, want %d, %d", c.low, c.high, c.b, x, s.Left(), c.want, c.left)
		}
	}
}

func TestP5_1BetweenExactly(t *testing.T) {
	var l []int64
	for bit := range 63 {
		n := int64(1) << bit
		l = append(l, n, n-1, -n, -n-1)
	}
	l = append(l, math.MaxInt64, math.MinInt64)
	for i, low := range l {
		for k, high := range l {
			b := some(9, uint64(i*len(l)+k))
			many := new(big.Int).Sub(big.NewInt(high), big.NewInt(low))
			want, used := below(b, many.Add(many, big.NewInt(1)))
			want.Add(want, big.NewInt(low))
			s := chance.New(b)
			if x := s.Between(low, high); x != want.Int64() || !want.IsInt64() || s.Left() != 9-used {
				t.Fatalf("Between(%d, %d) of %v = %d, %d left, want %d, %d", low, high, b, x, s.Left(), want, 9-used)
			}
		}
	}
}

func TestP5_1PickByHand(t *testing.T) {
	for _, c := range []struct {
		weights []int
		b       []byte
		want    int
		left    int
	}{
		{nil, []byte{9}, 0, 1},
		{[]int{0}, []byte{9}, 0, 1},
		{[]int{0, -1, 0, math.MinInt}, []byte{9}, 0, 1},
		{[]int{0, 1, 0}, []byte{9}, 1, 1}, // one alone needs no byte
		{[]int{-7, 0, 5}, []byte{4, 9}, 2, 1},
		{[]int{1, 1}, []byte{0}, 0, 0},
		{[]int{1, 1}, []byte{1}, 1, 0},
		{[]int{2, 0, 3}, []byte{1}, 0, 0},
		{[]int{2, 0, 3}, []byte{2}, 2, 0},
		{[]int{2, -3, 3}, []byte{2}, 2, 0},
		{[]int{2, 0, 3}, []byte{4}, 2, 0},
		{[]int{2, 0, 3}, []byte{5}, 0, 0},
		{[]int{0, 2, 0, 3}, nil, 1, 0}, // without a byte it is 0, and the first one is above it
		{[]int{1000, 1}, []byte{3, 231}, 0, 0},
		{[]int{1000, 1}, []byte{3, 232}, 1, 0},
		{[]int{1001, 1}, []byte{3, 231}, 0, 0},
		{[]int{1001, 1}, []byte{3, 232}, 1, 0}, // as 1000
		{[]int{1001, 1}, []byte{3, 233}, 0, 0},
		{[]int{999, 1}, []byte{3, 231}, 1, 0},
		{[]int{math.MaxInt, math.MaxInt, math.MaxInt}, []byte{7, 207}, 1, 0}, // 1999 of 3000
		{[]int{math.MaxInt, math.MaxInt, math.MaxInt}, []byte{7, 208}, 2, 0},
		{[]int{math.MinInt, math.MaxInt}, []byte{0, 0, 1}, 1, 1},
	} {
		s := chance.New(c.b)
		if x := s.Pick(c.weights...); x != c.want || s.Left() != c.left {
			t.Errorf("Pick(%v) of %v = %d, %d left, want %d, %d", c.weights, c.b, x, s.Left(), c.want, c.left)
		}
	}
}

// Each place is picked by as many of the numbers as its weight tells.
func TestP5_1PickAsOftenAsItWeighs(t *testing.T) {
	weights := []int{3, 0, 120, 1, -4, 60, 72, 0}
	picked := make([]int, len(weights))
	for b := range 256 {
		picked[chance.New([]byte{byte(b)}).Pick(weights...)]++
	}
	if !slices.Equal(picked, []int{3, 0, 120, 1, 0, 60, 72, 0}) {
		t.Error(picked)
	}
}

func TestP5_1PickOfMany(t *testing.T) {
	weights := make([]int, 70000) // 70000000 together: more than three bytes
	for i := range weights {
		weights[i] = 5000
	}
	s := chance.New([]byte{0x04, 0x2c, 0x1d, 0x7f, 9}) // 69999999
	if x := s.Pick(weights...); x != 69999 || s.Left() != 1 {
		t.Error(x, s.Left())
	}
}

func TestP5_1LeavesWhatIsHandedIn(t *testing.T) {
	b := []byte{7, 1, 2, 3, 4}
	s := chance.New(b[:3])
	b[0], b[2] = 100, 101 // the source has bytes of its own
	if s.Left() != 3 || s.Byte() != 7 || s.Byte() != 1 || s.Byte() != 2 || s.Byte() != 0 {
		t.Error("it leans on what was handed in")
	}
	if !slices.Equal(b, []byte{100, 1, 101, 3, 4}) {
		t.Error(b)
	}
	weights := []int{-5, 2000, 7, 8}
	chance.New(b).Pick(weights[:2]...)
	if !slices.Equal(weights, []int{-5, 2000, 7, 8}) {
		t.Error(weights)
	}
}

func TestP5_2Fork(t *testing.T) {
	s := chance.New([]byte{7, 1, 2, 3})
	s.Byte()
	f := s.Fork()
	if f == s || f.Left() != 3 || s.Left() != 3 {
		t.Fatal(f.Left(), s.Left())
	}
	if f.Byte() != 1 || f.Byte() != 2 || s.Left() != 3 {
		t.Error("of the fork")
	}
	g := f.Fork()
	if s.Byte() != 1 || s.Left() != 2 || f.Left() != 1 {
		t.Error("of the first")
	}
	if f.Byte() != 3 || f.Byte() != 0 || f.Left() != 0 || s.Left() != 2 || g.Left() != 1 || g.Byte() != 3 {
		t.Error("they hang on one another")
	}
	if e := f.Fork(); e == nil || e == f || e.Left() != 0 {
		t.Error("of a source that is used up")
	}
}

func TestP5_2OfNone(t *testing.T) {
	var none *chance.Source
	for i, s := range []*chance.Source{none, {}, chance.New(nil), chance.New([]byte{})} {
		if s.Left() != 0 || s.Byte() != 0 || s.Below(300) != 0 || s.Below(math.MaxUint64) != 0 {
			t.Error(i, "bytes")
		}
		if s.Between(-7, 9) != -7 || s.Between(9, -7) != 9 || s.Between(math.MinInt64, math.MaxInt64) != math.MinInt64 {
			t.Error(i, "between")
		}
		if s.Pick() != 0 || s.Pick(0, 3, 4) != 1 || s.Left() != 0 {
			t.Error(i, "pick")
		}
		if f := s.Fork(); (f == nil) != (s == nil) || f.Left() != 0 {
			t.Error(i, "fork")
		}
	}
}

// called tells what a source answers to many calls, the one behind the other.
func called(s *chance.Source) []uint64 {
	var l []uint64
	for _, n := range spans() {
		l = append(l, uint64(s.Byte()), s.Below(n), uint64(s.Between(-int64(n/3), int64(n/2))), uint64(s.Pick(5, int(n>>1), 4)), uint64(s.Left()))
	}
	return l
}

func TestP5_3TheSameOfTheSame(t *testing.T) {
	for seed := range uint64(30) {
		b := some(1500+int(seed), seed)
		s := chance.New(b)
		want := called(s.Fork())
		if !slices.Equal(called(chance.New(b)), want) || !slices.Equal(called(s), want) {
			t.Fatal(seed)
		}
	}
}

func TestP5_3InBounds(t *testing.T) {
	s := chance.New(some(60000, 3))
	for _, n := range spans() {
		for range 20 {
			if x := s.Below(n); x >= n && n > 0 {
				t.Fatal(n, x)
			}
			low, high := int64(n)-1, int64(n)+9
			if x := s.Between(low, high); low < high && (x < low || x > high) {
				t.Fatal(low, high, x)
			}
			if low = -int64(n >> 1); s.Between(low, -low) < low || s.Between(low, -low) > -low {
				t.Fatal(low)
			}
		}
	}
	if s.Left() == 0 {
		t.Error("too few bytes for this test")
	}
}
