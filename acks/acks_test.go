package acks_test

import (
	"encoding/binary"
	"math"
	"math/bits"
	"math/rand"
	"slices"
	"testing"

	"jobber/acks"
	"jobber/api"
	"jobber/codec"
)

// ack is what a replica has said.
type ack struct{ replica, version int }

// made tells a table of so many replicas, with acks.
func made(t *testing.T, replicas int, l ...ack) acks.Table {
	t.Helper()
	table, e := acks.New(replicas)
	for _, a := range l {
		if e == api.OK {
			table, e = table.Add(a.replica, a.version)
		}
	}
	if e != api.OK {
		t.Fatal(replicas, l, int(e))
	}
	return table
}

// noVersions are numbers that are no version.
func noVersions() []int {
	return []int{0, -1, -2, -32, 33, 34, 64, 65, 1<<32 + 1, 1 << 40, math.MaxInt, math.MinInt, math.MinInt + 1}
}

// noReplicas are numbers of which a table of so many has no replica.
func noReplicas(replicas int) []int {
	return []int{-1, -7, replicas, replicas + 1, 7, 8, 1 << 32, math.MaxInt, math.MinInt}
}

// sizes are how many replicas a table may be of.
func sizes() []int { return []int{1, 2, 3, 4, 5, 6, 7} }

// holds holds a table against the acks that it should have, and no other ones.
func holds(t *testing.T, table acks.Table, replicas int, l ...ack) {
	t.Helper()
	if table.Replicas() != replicas {
		t.Error("of", table.Replicas(), "replicas, want", replicas)
	}
	sets := make([]uint64, replicas)
	for v := -2; v <= 40; v++ {
		all := replicas > 0
		for i := -2; i < 10; i++ {
			want := slices.Contains(l, ack{i, v})
			if table.Has(i, v) != want {
				t.Error("Has", i, v, "of", l, !want)
			}
			if want {
				sets[i] |= 1 << (v - 1)
			}
			all = all && (want || i < 0 || i >= replicas)
		}
		if table.All(v) != all {
			t.Error("All", v, "of", l, !all)
		}
	}
	for i := -2; i < 10; i++ {
		var want uint64
		if i >= 0 && i < replicas {
			want = sets[i]
		}
		if table.Of(i) != want {
			t.Errorf("Of %d of %v: %b, want %b", i, l, table.Of(i), want)
		}
	}
	if b := written(table); !slices.Equal(b, byWords(sets...)) {
		t.Errorf("%v: %x", l, b)
	}
}

// written tells a table's bytes.
func written(table acks.Table) []byte {
	var w codec.Writer
	acks.Put(&w, table)
	return w.Bytes()
}

// byWords tells by the chapter's words the bytes of a table of such sets.
func byWords(sets ...uint64) []byte {
	b := binary.AppendUvarint(nil, uint64(len(sets)))
	for _, n := range sets {
		b = binary.AppendUvarint(b, n)
	}
	return b
}

func TestP25TheChaptersExample(t *testing.T) {
	table := made(t, 2, ack{0, 3})
	if table.All(3) {
		t.Error("one of two")
	}
	if table = made(t, 2, ack{0, 3}, ack{1, 3}); !table.All(3) {
		t.Error("both")
	}
	if n := acks.Set(1, 3); n != 5 {
		t.Error(n)
	}
}

func TestP25_1New(t *testing.T) {
	for _, n := range sizes() {
		table, e := acks.New(n)
		if e != api.OK || table == (acks.Table{}) {
			t.Error(n, int(e))
		}
		holds(t, table, n)
	}
	for _, n := range []int{0, -1, -7, 8, 9, 1<<32 + 1, math.MaxInt, math.MinInt} {
		if table, e := acks.New(n); e != api.ErrArg || table != (acks.Table{}) {
			t.Error(n, table, int(e))
		}
	}
}

func TestP25_1OfTheZeroTable(t *testing.T) {
	var none acks.Table
	holds(t, none, 0)
	for v := -1; v < 35; v++ {
		if none.Drop(v) != none || none.All(v) {
			t.Error(v)
		}
		for _, i := range noReplicas(0) {
			if table, e := none.Add(i, v); e != api.ErrArg || table != none {
				t.Error(i, v, table, int(e))
			}
		}
	}
}

func TestP25_1Bit(t *testing.T) {
	for v := 1; v <= 32; v++ {
		if n := acks.Bit(v); bits.OnesCount64(n) != 1 || bits.TrailingZeros64(n) != v-1 {
			t.Errorf("%d: %b", v, n)
		}
	}
	for _, v := range noVersions() {
		if n := acks.Bit(v); n != 0 {
			t.Errorf("%d: %b", v, n)
		}
	}
}

func TestP25_1Set(t *testing.T) {
	for _, c := range []struct {
		l    []int
		want uint64
	}{
		{nil, 0}, {[]int{}, 0}, {[]int{1}, 1}, {[]int{2, 1}, 3}, {[]int{4, 4, 4}, 8}, {[]int{32}, 1 << 31},
		{[]int{3, 1, 3, 1}, 5}, {[]int{0, 2, 33, -1}, 2}, {noVersions(), 0}, {append(noVersions(), 5), 16},
	} {
		if n := acks.Set(c.l...); n != c.want {
			t.Errorf("%v: %b", c.l, n)
		}
	}
	var all []int
	for v := range 100 {
		all = append(all, 50-v)
	}
	was := slices.Clone(all)
	if n := acks.Set(all...); n != 1<<32-1 || !slices.Equal(all, was) {
		t.Errorf("%b", n)
	}
}

func TestP25_1AddEach(t *testing.T) {
	for _, n := range sizes() {
		empty := made(t, n)
		for i := range n {
			for v := 1; v <= 32; v++ {
				table, e := empty.Add(i, v)
				if e != api.OK || table.Of(i) != acks.Bit(v) || !table.Has(i, v) || table.All(v) != (n == 1) {
					t.Fatal(n, i, v, int(e))
				}
			}
		}
		holds(t, empty, n) // it is a value
	}
	holds(t, made(t, 3, ack{2, 32}, ack{0, 1}, ack{2, 1}), 3, ack{0, 1}, ack{2, 1}, ack{2, 32})
}

func TestP25_1AddOfNone(t *testing.T) {
	for _, n := range sizes() {
		was := made(t, n, ack{0, 5}, ack{n - 1, 32})
		check := func(i, v int) {
			if table, e := was.Add(i, v); e != api.ErrArg || table != was {
				t.Error(n, i, v, table, int(e))
			}
			if was.Has(i, v) {
				t.Error("Has", n, i, v)
			}
		}
		for _, i := range noReplicas(n) {
			for _, v := range append(noVersions(), 1, 5, 32) {
				check(i, v)
			}
			if was.Of(i) != 0 {
				t.Error("Of", n, i)
			}
		}
		for _, v := range noVersions() {
			for i := range n {
				check(i, v)
			}
			if was.All(v) || was.Drop(v) != was {
				t.Error("All, or Drop", n, v)
			}
		}
	}
}

func TestP25_1AllButOne(t *testing.T) {
	for _, n := range sizes() {
		var l []ack
		for i := range n {
			l = append(l, ack{i, 7}, ack{i, 32})
		}
		if table := made(t, n, l...); !table.All(7) || !table.All(32) || table.All(1) || table.All(31) {
			t.Error("all of", n)
		}
		for i := range l {
			rest := slices.Delete(slices.Clone(l), i, i+1)
			table := made(t, n, rest...)
			if table.All(7) != (i%2 == 1) || table.All(32) != (i%2 == 0) {
				t.Error(n, "but", l[i])
			}
		}
	}
}

func TestP25_1Drop(t *testing.T) {
	table := made(t, 3, ack{0, 1}, ack{0, 2}, ack{1, 2}, ack{2, 2}, ack{2, 32})
	was := table
	holds(t, table.Drop(2), 3, ack{0, 1}, ack{2, 32})
	holds(t, table.Drop(32), 3, ack{0, 1}, ack{0, 2}, ack{1, 2}, ack{2, 2})
	holds(t, table.Drop(1).Drop(2).Drop(32), 3)
	for v := 3; v < 32; v++ {
		if table.Drop(v) != table {
			t.Error("none of it was there", v)
		}
	}
	if table != was {
		t.Error("it was turned")
	}
	if again, e := table.Drop(2).Add(1, 2); e != api.OK || !again.Has(1, 2) || again.Has(0, 2) {
		t.Error("said anew")
	}
}

func TestP25_1TheSameByGosOwn(t *testing.T) {
	seen := map[acks.Table]int{}
	for i, table := range []acks.Table{
		{}, made(t, 1), made(t, 2), made(t, 7), made(t, 2, ack{0, 1}), made(t, 3, ack{0, 1}), made(t, 2, ack{1, 1}),
		made(t, 2, ack{0, 2}), made(t, 2, ack{0, 1}, ack{1, 1}), made(t, 7, ack{6, 32}), made(t, 7, ack{6, 31}), made(t, 7, ack{5, 32}),
	} {
		if j, there := seen[table]; there {
			t.Error(i, "is", j)
		}
		seen[table] = i
	}
	one := made(t, 2, ack{0, 1}, ack{1, 32}, ack{0, 4})
	for i, other := range []acks.Table{
		made(t, 2, ack{0, 4}, ack{0, 1}, ack{1, 32}),
		made(t, 2, ack{0, 4}, ack{0, 4}, ack{0, 1}, ack{1, 32}, ack{0, 1}),
		made(t, 2, ack{0, 4}, ack{1, 9}, ack{0, 9}, ack{0, 1}, ack{1, 32}).Drop(9),
	} {
		if one != other {
			t.Error(i, other)
		}
	}
	if made(t, 2, ack{0, 1}).Drop(1) != made(t, 2) {
		t.Error("dropped")
	}
}

func TestP25_2Put(t *testing.T) {
	for _, c := range []struct {
		table acks.Table
		want  string
	}{
		{acks.Table{}, "\x00"},
		{made(t, 1), "\x01\x00"},
		{made(t, 2, ack{0, 1}, ack{0, 3}), "\x02\x05\x00"},
		{made(t, 3, ack{2, 8}, ack{0, 7}), "\x03\x40\x00\x80\x01"},
		{made(t, 1, ack{0, 32}), "\x01\x80\x80\x80\x80\x08"},
		{made(t, 7, ack{6, 2}), "\x07\x00\x00\x00\x00\x00\x00\x02"},
	} {
		if b := written(c.table); string(b) != c.want {
			t.Errorf("%x, want %x", b, c.want)
		}
		var w codec.Writer
		w.Nat(300)
		acks.Put(&w, c.table)
		acks.Put(&w, c.table)
		if string(w.Bytes()) != "\xac\x02"+c.want+c.want {
			t.Errorf("behind what is there: %x", w.Bytes())
		}
		acks.Put(nil, c.table)
	}
}

// none holds that no table is read, and that the reader is bad then.
func none(t *testing.T, d *codec.Reader, why ...any) {
	t.Helper()
	if table, ok := acks.Read(d); ok || table != (acks.Table{}) {
		t.Error(why, "it was read", table)
	}
	if d != nil && (!d.Bad() || d.Left() != 0 || d.End() != api.ErrForm) {
		t.Error(why, "the reader is good")
	}
}

func TestP25_2Read(t *testing.T) {
	for _, l := range [][]uint64{{0}, {1<<32 - 1}, {1, 2}, {5, 0, 1 << 31}, {0, 0, 0, 0, 0, 0, 3}, slices.Repeat([]uint64{1<<32 - 1}, 7)} {
		d := codec.Open(slices.Concat([]byte{9}, byWords(l...), byWords(l...), []byte{7}))
		d.Nat(9)
		one, ok := acks.Read(d)
		two, fine := acks.Read(d)
		if !ok || !fine || one != two || d.Bad() || d.Left() != 1 || one.Replicas() != len(l) {
			t.Fatal(l, one, two, d.Left())
		}
		for i, n := range l {
			if one.Of(i) != n {
				t.Error(l, i, one.Of(i))
			}
		}
	}
}

func TestP25_2ReadWhereNoneIs(t *testing.T) {
	none(t, nil, "nil")
	none(t, &codec.Reader{}, "plain")
	none(t, codec.Open(nil), "of nothing")
	none(t, codec.Open(byWords()), "of no replica")
	none(t, codec.Open(append(byWords(), 1, 2, 3)), "of no replica, with something behind")
	none(t, codec.Open(byWords(make([]uint64, 8)...)), "of 8 replicas")
	none(t, codec.Open(append(binary.AppendUvarint(nil, math.MaxUint64), make([]byte, 100)...)), "of more than there are")
	none(t, codec.Open(append(binary.AppendUvarint(nil, 1<<32+1), make([]byte, 100)...)), "of more than there are")
	bad := codec.Open(byWords(1, 2))
	bad.Fail()
	none(t, bad, "bad ahead of it")
	for i := range 7 {
		for _, n := range []uint64{1 << 32, 1<<32 + 1, 1 << 33, 1 << 63, math.MaxUint64} {
			l := make([]uint64, 7)
			l[i] = n
			none(t, codec.Open(append(byWords(l...), 9)), "a version of above 32", i)
		}
	}
	full := byWords(slices.Repeat([]uint64{1 << 31}, 7)...)
	for n := range full {
		none(t, codec.Open(full[:n]), "torn", n)
		none(t, codec.Open(full[:n:n]), "torn", n)
	}
	for i, b := range [][]byte{{0x81, 0, 5}, {1, 0x80, 0}, {2, 1, 0x81, 0}, {2, 0x81, 0, 1}} {
		none(t, codec.Open(append(b, 1)), "not in its one form", i)
	}
}

func TestP25_3OrderAndHowOftenCountForNothing(t *testing.T) {
	src := rand.New(rand.NewSource(25))
	for range 300 {
		n := 1 + src.Intn(7)
		var l []ack
		for range src.Intn(60) {
			l = append(l, ack{src.Intn(n), 1 + src.Intn(32)})
		}
		one := made(t, n, l...)
		again := append(slices.Clone(l), l...)
		src.Shuffle(len(again), func(i, j int) { again[i], again[j] = again[j], again[i] })
		if other := made(t, n, again...); one != other {
			t.Fatal(l, again)
		}
		holds(t, one, n, l...)
	}
}

// A table has what a plain list of acks has, call by call, and is read as it was written.
func TestP25_3AgainstAList(t *testing.T) {
	src := rand.New(rand.NewSource(253))
	for range 60 {
		n := 1 + src.Intn(7)
		table, l := made(t, n), []ack{}
		for range 150 {
			a := ack{src.Intn(n+2) - 1, src.Intn(35) - 1}
			if src.Intn(3) == 0 {
				a.version = 1 + src.Intn(3)
			}
			if src.Intn(8) == 0 {
				table = table.Drop(a.version)
				l = slices.DeleteFunc(l, func(b ack) bool { return b.version == a.version })
			} else {
				want := api.OK
				if a.replica < 0 || a.replica >= n || a.version < 1 || a.version > 32 {
					want = api.ErrArg
				} else {
					l = append(l, a)
				}
				next, e := table.Add(a.replica, a.version)
				if e != want || e != api.OK && next != table {
					t.Fatal(a, int(e), int(want))
				}
				table = next
			}
			d := codec.Open(written(table))
			if read, ok := acks.Read(d); !ok || read != table || d.End() != api.OK {
				t.Fatal(read, ok)
			}
		}
		holds(t, table, n, l...)
	}
}

func TestP25_3WhatIsReadWrittenAgainIsThoseBytes(t *testing.T) {
	src := rand.New(rand.NewSource(254))
	read := 0
	for range 20000 {
		b := make([]byte, 1+src.Intn(12))
		for i := range b {
			b[i] = byte(src.Intn(256))
		}
		b[0] = byte(src.Intn(9))
		was := slices.Clone(b)
		d := codec.Open(b)
		table, ok := acks.Read(d)
		if !slices.Equal(b, was) {
			t.Fatal("what was handed in is changed")
		}
		if !ok {
			continue
		}
		read++
		if !slices.Equal(written(table), b[:len(b)-d.Left()]) {
			t.Fatalf("%x is not %x", written(table), b)
		}
	}
	if read < 500 {
		t.Error("hardly anything was read:", read)
	}
}
