package parcel_test

import (
	"bytes"
	"encoding/binary"
	"hash/crc32"
	"slices"
	"strings"
	"testing"

	"jobber/api"
	"jobber/parcel"
)

// piece is what is told of a parcel.
type piece struct {
	kind byte
	body string
}

// chances tells the same bytes every time.
func chances() func() byte {
	seed := uint32(1)
	return func() byte {
		seed = seed*1664525 + 1013904223
		return byte(seed >> 24)
	}
}

// some tells so many bytes.
func some(n int) []byte {
	next := chances()
	b := make([]byte, n)
	for i := range b {
		b[i] = next()
	}
	return b
}

// sealed tells bytes with their sum behind them, in words of its own.
func sealed(b string) []byte {
	return binary.LittleEndian.AppendUint32([]byte(b), crc32.ChecksumIEEE([]byte(b)))
}

// written tells a parcel's bytes, in words of its own.
func written(p piece) []byte {
	return sealed(string(binary.AppendUvarint([]byte{p.kind}, uint64(len(p.body)))) + p.body)
}

// together tells parcels' bytes, one behind the other.
func together(l ...piece) []byte {
	var b []byte
	for _, p := range l {
		b = append(b, written(p)...)
	}
	return b
}

// told tells what Each goes over.
func told(b []byte) []piece {
	var l []piece
	for kind, body := range parcel.Each(b) {
		l = append(l, piece{kind, string(body)})
	}
	return l
}

// lengths are those at which a number needs another byte, and the limit.
func lengths() []int {
	return []int{0, 1, 2, 3, 4, 5, 126, 127, 128, 129, 1<<14 - 1, 1 << 14, 1<<14 + 1, api.MaxText - 1, api.MaxText}
}

// line are parcels of all lengths of numbers, and of kinds at both ends.
func line() []piece {
	return []piece{{1, ""}, {2, "a"}, {255, "\x00"}, {128, "\x00\x00\x00\x00"}, {7, strings.Repeat("jobber", 40)}, {7, "\xff\xff\xff\xff"}, {1, ""}, {9, string(some(1 << 14))}, {3, "end"}}
}

func checkTake(t *testing.T, name string, b []byte, want piece, size int, e api.Errno) {
	t.Helper()
	was := slices.Clone(b)
	kind, body, n, f := parcel.Take(b)
	if kind != want.kind || string(body) != want.body || n != size || f != e {
		t.Errorf("%s: %d, %d bytes, %d, %d, want %d, %d bytes, %d, %d", name, kind, len(body), n, int(f), want.kind, len(want.body), size, int(e))
	}
	if !bytes.Equal(b, was) {
		t.Errorf("%s: changed", name)
	}
}

func TestP3_1SumByHand(t *testing.T) {
	for _, c := range []struct {
		b    string
		want uint32
	}{
		{"", 0},
		{"123456789", 0xcbf43926},
		{"\x00", 0xd202ef8d},
		{"a", 0xe8b7be43},
		{"\x00\x00\x00\x00", 0x2144df1c},
		{"\xff\xff\xff\xff", 0xffffffff},
	} {
		if n := parcel.Sum([]byte(c.b)); n != c.want {
			t.Errorf("%q: %x, want %x", c.b, n, c.want)
		}
	}
	if parcel.Sum(nil) != 0 {
		t.Error("nil")
	}
}

func TestP3_1SumOfAny(t *testing.T) {
	for a := range 256 {
		for b := range 256 {
			l := []byte{byte(a), byte(b)}
			if n := parcel.Sum(l); n != crc32.ChecksumIEEE(l) {
				t.Fatalf("%x: %x", l, n)
			}
		}
	}
	room := some(1 << 16)
	was := slices.Clone(room)
	for n := 1; n <= len(room); n += n/3 + 1 {
		if parcel.Sum(room[:n]) != crc32.ChecksumIEEE(room[:n]) {
			t.Fatal(n)
		}
	}
	if !bytes.Equal(room, was) {
		t.Error("changed")
	}
}

func TestP3_1WrapByHand(t *testing.T) {
	for _, c := range []struct {
		kind       byte
		body, want string
	}{
		{1, "", "\x01\x00\xbe\x23\xc2\x58"},
		{2, "ab", "\x02\x02ab"},
		{255, "\x00", "\xff\x01\x00"},
		{128, strings.Repeat("x", 127), "\x80\x7f" + strings.Repeat("x", 127)},
		{127, strings.Repeat("x", 128), "\x7f\x80\x01" + strings.Repeat("x", 128)},
		{5, strings.Repeat("y", api.MaxText), "\x05\x80\x80\x04" + strings.Repeat("y", api.MaxText)},
	} {
		want := []byte(c.want)
		if c.body != "" { // the sum is told by another's words
			want = sealed(c.want)
		}
		if b, e := parcel.Wrap(c.kind, []byte(c.body)); !bytes.Equal(b, want) || e != api.OK {
			t.Errorf("%d, %d bytes: %d, %.20x", c.kind, len(c.body), int(e), b)
		}
	}
	if b, e := parcel.Wrap(1, nil); string(b) != "\x01\x00\xbe\x23\xc2\x58" || e != api.OK {
		t.Errorf("nil: %x, %d", b, int(e))
	}
}

func TestP3_1WrapOfAny(t *testing.T) {
	for kind := 1; kind < 256; kind++ {
		for _, n := range []int{0, 3, 200} {
			p := piece{byte(kind), string(some(n))}
			if b, e := parcel.Wrap(p.kind, []byte(p.body)); !bytes.Equal(b, written(p)) || e != api.OK {
				t.Fatal(kind, n, int(e))
			}
		}
	}
	for _, n := range lengths() {
		p := piece{77, string(some(n))}
		if b, e := parcel.Wrap(p.kind, []byte(p.body)); !bytes.Equal(b, written(p)) || e != api.OK {
			t.Fatal(n, int(e))
		}
	}
}

func TestP3_1WrapOfWrongOnes(t *testing.T) {
	for _, c := range []struct {
		kind byte
		n    int
		e    api.Errno
	}{{0, 0, api.ErrArg}, {0, 5, api.ErrArg}, {0, api.MaxText + 1, api.ErrArg}, {1, api.MaxText + 1, api.ErrLong}, {255, 2 * api.MaxText, api.ErrLong}} {
		if b, e := parcel.Wrap(c.kind, make([]byte, c.n)); len(b) != 0 || e != c.e {
			t.Error(c, len(b), int(e))
		}
	}
}

func TestP3_1WrapHasMemoryOfItsOwn(t *testing.T) {
	room := []byte("abcdefghijklmnop")
	b, _ := parcel.Wrap(1, room[:3])
	if string(room) != "abcdefghijklmnop" {
		t.Errorf("changed: %q", room)
	}
	clear(room)
	if !bytes.Equal(b, written(piece{1, "abc"})) {
		t.Errorf("kept: %x", b)
	}
}

func TestP3_2TakeOfWholeOnes(t *testing.T) {
	for _, n := range lengths() {
		for _, kind := range []byte{1, 2, 127, 128, 255} {
			p := piece{kind, string(some(n))}
			b := written(p)
			checkTake(t, "alone", b, p, len(b), api.OK)
			for _, behind := range []string{"\x00", "\x01", "\xff\xff\xff\xff\xff", string(b)} {
				checkTake(t, "ahead of others", append(slices.Clone(b), behind...), p, len(b), api.OK)
			}
		}
	}
}

func TestP3_2TakeOfWrongOnes(t *testing.T) {
	long, zeros := strings.Repeat("\xff", 8), strings.Repeat("\x80", 8)
	whole := string(written(piece{9, "body"}))
	for _, c := range []struct {
		name, b string
		e       api.Errno
	}{
		{"nothing", "", api.ErrTorn},
		{"kind 0", "\x00", api.ErrForm},
		{"kind 0, and a sum", string(sealed("\x00\x02ab")), api.ErrForm},
		{"kind 0, and no number", "\x00\x80\x00", api.ErrForm},
		{"kind 0, too long", "\x00\x81\x80\x04", api.ErrForm},
		{"no number yet", "\x01", api.ErrTorn},
		{"a number's first byte", "\x01\x80", api.ErrTorn},
		{"two of them", "\x01\xff\xff", api.ErrTorn},
		{"9 of them", "\x01" + long + "\xff", api.ErrTorn},
		{"9 of 0", "\x01" + zeros + "\x80", api.ErrTorn},
		{"10 of them", "\x01" + long + "\xff\xff", api.ErrForm},
		{"10 of 0", "\x01" + zeros + "\x80\x80", api.ErrForm},
		{"11 of them", "\x01" + long + "\xff\xff\xff", api.ErrForm},
		{"10 of them, and an end", "\x01" + long + "\xff\xff\x00", api.ErrForm},
		{"2^64 - 1", "\x01" + long + "\xff\x01", api.ErrLong},
		{"2^64", "\x01" + zeros + "\x80\x02", api.ErrForm},
		{"more than 2^64", "\x01" + long + "\xff\x02", api.ErrForm},
		{"2^63", "\x01" + zeros + "\x80\x01", api.ErrLong},
		{"2^63 - 1", "\x01" + long + "\x7f", api.ErrLong},
		{"2^32", "\x01\x80\x80\x80\x80\x10", api.ErrLong},
		{"another form of 0", "\x01\x80\x00", api.ErrForm},
		{"another form of 1", string(sealed("\x01\x81\x00a")), api.ErrForm},
		{"another form of 1, torn", "\x01\x81\x80", api.ErrTorn},
		{"another form of 1, longer", "\x01\x81\x80\x00", api.ErrForm},
		{"another form of 0 of 10 bytes", "\x01" + zeros + "\x80\x00", api.ErrForm},
		{"MaxText", "\x01\x80\x80\x04", api.ErrTorn},
		{"MaxText and one", "\x01\x81\x80\x04", api.ErrLong},
		{"MaxText and one, whole", string(written(piece{1, string(some(api.MaxText + 1))})), api.ErrLong},
		{"no sum", "\x01\x00", api.ErrTorn},
		{"a byte too few", whole[:len(whole)-1], api.ErrTorn},
		{"a wrong sum's beginning", "\x01\x00\xff\xff\xff", api.ErrTorn},
		{"a wrong sum", "\x01\x00\xff\xff\xff\xff", api.ErrSum},
		{"a sum of zeros", "\x01\x00\x00\x00\x00\x00", api.ErrSum},
		{"a sum the highest first", "\x01\x00\x58\xc2\x23\xbe", api.ErrSum},
		{"the body's sum", "\x09\x04body" + string(sealed("body"))[4:], api.ErrSum},
		{"another kind", "\x08" + whole[1:], api.ErrSum},
		{"another body", whole[:2] + "bodi" + whole[6:], api.ErrSum},
		{"only zeros", strings.Repeat("\x00", 99), api.ErrForm},
		{"only ones", strings.Repeat("\xff", 99), api.ErrForm},
	} {
		checkTake(t, c.name, []byte(c.b), piece{}, 0, c.e)
	}
	checkTake(t, "nil", nil, piece{}, 0, api.ErrTorn)
}

// errorOf tells, in words of its own, how bytes are refused that begin with no parcel.
func errorOf(b []byte) api.Errno {
	if len(b) == 0 {
		return api.ErrTorn
	}
	if b[0] == 0 {
		return api.ErrForm
	}
	x, n := binary.Uvarint(b[1:])
	switch {
	case n == 0 && len(b) <= 10:
		return api.ErrTorn
	case n <= 0, !bytes.Equal(binary.AppendUvarint(nil, x), b[1:1+n]):
		return api.ErrForm
	case x > api.MaxText:
		return api.ErrLong
	case uint64(len(b)) < 1+uint64(n)+x+4:
		return api.ErrTorn
	}
	return api.ErrSum
}

func TestP3_2TakeOfAny(t *testing.T) {
	next := chances()
	seen := map[api.Errno]int{}
	for range 200000 {
		b := make([]byte, next()%16)
		for i := range b {
			b[i] = []byte{0, 1, 2, 3, 0x7f, 0x80, 0xff, next()}[next()%8]
		}
		e := errorOf(b)
		seen[e]++
		checkTake(t, "any", b, piece{}, 0, e) // that a sum fits by chance is not among these
		if t.Failed() {
			t.Fatalf("%x", b)
		}
	}
	for _, e := range []api.Errno{api.ErrTorn, api.ErrForm, api.ErrLong, api.ErrSum} {
		if seen[e] < 100 {
			t.Error("too few of", int(e))
		}
	}
}

func TestP3_2TakeReadsWhatItWasGiven(t *testing.T) {
	room := written(piece{9, "body"})
	was := slices.Clone(room)
	for i := range room {
		checkTake(t, "ahead of more", room[:i], piece{}, 0, api.ErrTorn)
	}
	_, body, _, _ := parcel.Take(room)
	for i := range body {
		body[i] = 'x'
	}
	_ = append(body, "more"...)
	if !bytes.Equal(room, was) {
		t.Errorf("the body is in the parcel's memory: %x", room)
	}
	_, body, _, _ = parcel.Take(room)
	clear(room)
	if string(body) != "body" {
		t.Errorf("what was handed in is kept: %q", body)
	}
}

func TestP3_3EachAndEnd(t *testing.T) {
	l := line()
	good := together(l...)
	for _, c := range []struct {
		name, behind string
		e            api.Errno
	}{
		{"nothing", "", api.OK},
		{"a kind", "\x01", api.ErrTorn},
		{"zeros", "\x00\x00\x00\x00\x00\x00\x00", api.ErrForm},
		{"no number", "\x01\x80\x00", api.ErrForm},
		{"a long one", "\x01\x81\x80\x04", api.ErrLong},
		{"a spoilt one", "\x01\x00\xff\xff\xff\xff", api.ErrSum},
		{"a spoilt one, and a good one", "\x01\x00\xff\xff\xff\xff" + string(written(piece{1, "a"})), api.ErrSum},
		{"a 0, and a good one", "\x00" + string(written(piece{1, "a"})), api.ErrForm},
	} {
		for n := range len(l) + 1 {
			b := append(together(l[:n]...), c.behind...)
			was := slices.Clone(b)
			if got := told(b); !slices.Equal(got, l[:n]) {
				t.Errorf("%s behind %d: %d are told", c.name, n, len(got))
			}
			if at, e := parcel.End(b); at != len(b)-len(c.behind) || e != c.e {
				t.Errorf("%s behind %d: %d, %d, want %d, %d", c.name, n, at, int(e), len(b)-len(c.behind), int(c.e))
			}
			if !bytes.Equal(b, was) {
				t.Errorf("%s behind %d: changed", c.name, n)
			}
		}
	}
	room := append(slices.Clone(good), written(piece{1, "more"})...)
	if !slices.Equal(told(room[:len(good)]), l) {
		t.Error("read behind the end")
	}
	if at, e := parcel.End(room[:len(good)]); at != len(good) || e != api.OK {
		t.Error("read behind the end", at, int(e))
	}
	if at, e := parcel.End(nil); at != 0 || e != api.OK || told(nil) != nil {
		t.Error("nil", at, int(e))
	}
}

func TestP3_3EachStopsAndBeginsAgain(t *testing.T) {
	l := line()
	each := parcel.Each(together(l...))
	for stop := range l {
		var got []piece
		for kind, body := range each {
			got = append(got, piece{kind, string(body)})
			if len(got) > stop {
				break
			}
		}
		if !slices.Equal(got, l[:stop+1]) {
			t.Fatal("stopped at", stop)
		}
	}
	inner := 0
	for range each {
		for range each {
			inner++
		}
	}
	if inner != len(l)*len(l) {
		t.Error("one within the other", inner)
	}
}

func TestP3_3EachHasMemoryOfItsOwn(t *testing.T) {
	l := line()
	b := together(l...)
	each := parcel.Each(b)
	for i := range b {
		b[i] = 0xee
	}
	for range 2 {
		n := 0
		for kind, body := range each {
			if (piece{kind, string(body)}) != l[n] {
				t.Fatal(n)
			}
			for i := range body {
				body[i] = 0xdd
			}
			_ = append(body, 0xcc, 0xcc, 0xcc, 0xcc, 0xcc)
			n++
		}
		if n != len(l) {
			t.Fatal(n, "are told")
		}
	}
	for i := range b {
		if b[i] != 0xee {
			t.Fatal("written to at", i)
		}
	}
}

func TestP3_3ManySmallOnes(t *testing.T) {
	const many = api.MaxFile / 7
	b := bytes.Repeat(written(piece{3, "x"}), many)
	n := 0
	for kind, body := range parcel.Each(b) {
		if kind != 3 || string(body) != "x" {
			t.Fatal(n)
		}
		n++
	}
	if at, e := parcel.End(b); n != many || at != len(b) || e != api.OK {
		t.Error(n, at, int(e))
	}
}

func TestP3_4CutOffAnywhere(t *testing.T) {
	l := slices.DeleteFunc(line(), func(p piece) bool { return len(p.body) > 1<<10 })
	l = append(l, piece{4, string(some(200))})
	b := together(l...)
	for cut := range len(b) + 1 {
		whole, at := 0, 0
		for whole < len(l) && at+len(written(l[whole])) <= cut {
			at += len(written(l[whole]))
			whole++
		}
		want := api.ErrTorn
		if at == cut {
			want = api.OK
		}
		if got := told(b[:cut:cut]); !slices.Equal(got, l[:whole]) {
			t.Fatalf("cut off at %d: %d are told, want %d", cut, len(got), whole)
		}
		if end, e := parcel.End(b[:cut:cut]); end != at || e != want {
			t.Fatalf("cut off at %d: %d, %d, want %d, %d", cut, end, int(e), at, int(want))
		}
	}
}

func TestP3_4ALongOneCutOff(t *testing.T) {
	first := written(piece{1, "a"})
	b := append(slices.Clone(first), written(piece{2, string(some(api.MaxText))})...)
	for _, cut := range []int{1, 2, 3, 4, 5, 1000, len(b) - len(first) - 5, len(b) - len(first) - 4, len(b) - len(first) - 1} {
		if end, e := parcel.End(b[:len(first)+cut]); end != len(first) || e != api.ErrTorn {
			t.Error(cut, end, int(e))
		}
	}
}

// flipped tells b with those of the 32 bits from bit on turned that mask has, of each byte the lowest first; false, if one of them is not there, or is one of the number's.
func flipped(b []byte, bit int, mask uint32, number int) ([]byte, bool) {
	b = slices.Clone(b)
	for i := range 32 {
		if mask>>i&1 == 0 {
			continue
		}
		at := (bit + i) / 8
		if at >= len(b) || at >= 1 && at <= number {
			return nil, false
		}
		b[at] ^= 1 << ((bit + i) % 8)
	}
	return b, true
}

func TestP3_5Bursts(t *testing.T) {
	masks := []uint32{1, 3, 5, 0x80000001, 0xffffffff, 0xfffffffe, 0xaaaaaaaa, 0x55555555, 0xff, 0xff000000, 0xff0000ff, 0xedb88320, 0xdb710641}
	for i := range 32 {
		masks = append(masks, 1|1<<i, 1|1<<i|1<<(i/2), 1<<31|1<<i)
	}
	next := chances()
	for range 40 {
		masks = append(masks, 1|uint32(next())<<24|uint32(next())<<16|uint32(next())<<8)
	}
	zeros, turned := 0, 0
	for _, c := range []struct {
		p      piece
		number int // its bytes
	}{{piece{1, ""}, 1}, {piece{255, ""}, 1}, {piece{2, "ab"}, 1}, {piece{6, string(some(40))}, 1}, {piece{40, string(some(130))}, 2}, {piece{3, strings.Repeat("\x00", 50)}, 1}, {piece{3, strings.Repeat("\xff", 50)}, 1}} {
		whole := written(c.p)
		for bit := range 8 * len(whole) {
			for _, mask := range masks {
				b, is := flipped(whole, bit, mask, c.number)
				if !is {
					continue
				}
				turned++
				want := api.ErrSum
				if b[0] == 0 {
					want, zeros = api.ErrForm, zeros+1
				}
				if kind, body, n, e := parcel.Take(b); kind != 0 || len(body) != 0 || n != 0 || e != want {
					t.Fatalf("%x of %d at %d: %d, want %d", mask, len(whole), bit, int(e), int(want))
				}
				if at, e := parcel.End(b); at != 0 || e != want || told(b) != nil {
					t.Fatalf("%x of %d at %d: End %d, %d", mask, len(whole), bit, at, int(e))
				}
			}
		}
	}
	if zeros < 10 || turned < 100000 {
		t.Error("too few:", zeros, turned)
	}
}

// All that turn the kind, and what is within 32 bits of it, of a parcel so small that its number stands between.
func TestP3_5AllAroundTheNumber(t *testing.T) {
	whole := written(piece{5, ""})
	for kind := range 256 {
		for behind := range 1 << 16 {
			if kind == 5 && behind == 0 {
				continue
			}
			b := slices.Clone(whole)
			b[0] = byte(kind)
			b[2] ^= byte(behind)
			b[3] ^= byte(behind >> 8)
			want := api.ErrSum
			if kind == 0 {
				want = api.ErrForm
			}
			if _, _, _, e := parcel.Take(b); e != want {
				t.Fatalf("%x: %d", b, int(e))
			}
		}
	}
}
