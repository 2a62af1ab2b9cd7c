package codec_test

import (
	"bytes"
	"encoding/binary"
	"math"
	"slices"
	"strings"
	"testing"

	"jobber/api"
	"jobber/codec"
)

// nats are the numbers at which another byte is needed, and those beside them.
func nats() []uint64 {
	l := []uint64{0, 1, 2, 300, math.MaxUint64, math.MaxUint64 - 1}
	for bit := range 64 {
		l = append(l, 1<<bit-1, 1<<bit, 1<<bit+1)
	}
	return l
}

// ints are likewise, of both signs.
func ints() []int64 {
	l := []int64{math.MinInt64, math.MinInt64 + 1, math.MaxInt64, math.MaxInt64 - 1}
	for bit := range 63 {
		n := int64(1) << bit
		l = append(l, n, n-1, n+1, -n, -n-1, -n+1)
	}
	return l
}

// written tells what a plain writer has after some calls.
func written(calls func(w *codec.Writer)) []byte {
	var w codec.Writer
	calls(&w)
	return w.Bytes()
}

func TestP2_1ByHand(t *testing.T) {
	for _, c := range []struct {
		name, want string
		calls      func(w *codec.Writer)
	}{
		{"nothing", "", func(w *codec.Writer) {}},
		{"no numbers", "", func(w *codec.Writer) { w.Nat(); w.Int(); w.Nat([]uint64{}...) }},
		{"0", "\x00", func(w *codec.Writer) { w.Nat(0) }},
		{"127, 128", "\x7f\x80\x01", func(w *codec.Writer) { w.Nat(127, 128) }},
		{"300", "\xac\x02", func(w *codec.Writer) { w.Nat(300) }},
		{"2^14", "\x80\x80\x01", func(w *codec.Writer) { w.Nat(1 << 14) }},
		{"2^63", "\x80\x80\x80\x80\x80\x80\x80\x80\x80\x01", func(w *codec.Writer) { w.Nat(1 << 63) }},
		{"2^64 - 1", "\xff\xff\xff\xff\xff\xff\xff\xff\xff\x01", func(w *codec.Writer) { w.Nat(math.MaxUint64) }},
		{"0, -1, 1, -2, 2", "\x00\x01\x02\x03\x04", func(w *codec.Writer) { w.Int(0, -1, 1, -2, 2) }},
		{"-64, 64", "\x7f\x80\x01", func(w *codec.Writer) { w.Int(-64, 64) }},
		{"the greatest", "\xfe\xff\xff\xff\xff\xff\xff\xff\xff\x01", func(w *codec.Writer) { w.Int(math.MaxInt64) }},
		{"the least", "\xff\xff\xff\xff\xff\xff\xff\xff\xff\x01", func(w *codec.Writer) { w.Int(math.MinInt64) }},
		{"flags", "\x00\x01", func(w *codec.Writer) { w.Flag(false); w.Flag(true) }},
		{"texts", "\x00\x02ab\x01\xff\x02\x00\x80", func(w *codec.Writer) { w.Text(""); w.Text("ab"); w.Text("\xff"); w.Text("\x00\x80") }},
		{"all", "\x05\x01\x01\x03a\x00b\x07", func(w *codec.Writer) { w.Nat(5); w.Int(-1); w.Flag(true); w.Text("a\x00b"); w.Nat(7) }},
	} {
		if b := written(c.calls); string(b) != c.want {
			t.Errorf("%s: %x, want %x", c.name, b, c.want)
		}
	}
}

func TestP2_1Numbers(t *testing.T) {
	var all, whole []byte
	for _, n := range nats() {
		want := binary.AppendUvarint(nil, n)
		if b := written(func(w *codec.Writer) { w.Nat(n) }); !bytes.Equal(b, want) {
			t.Fatalf("Nat(%d): %x, want %x", n, b, want)
		}
		all = append(all, want...)
	}
	for _, n := range ints() {
		want := binary.AppendVarint(nil, n)
		if b := written(func(w *codec.Writer) { w.Int(n) }); !bytes.Equal(b, want) {
			t.Fatalf("Int(%d): %x, want %x", n, b, want)
		}
		whole = append(whole, want...)
	}
	if !bytes.Equal(written(func(w *codec.Writer) { w.Nat(nats()...) }), all) {
		t.Error("naturals behind one another")
	}
	if !bytes.Equal(written(func(w *codec.Writer) { w.Int(ints()...) }), whole) {
		t.Error("whole numbers behind one another")
	}
}

func TestP2_1LongText(t *testing.T) {
	s := strings.Repeat("jobber", 1<<15)
	if b := written(func(w *codec.Writer) { w.Text(s) }); string(b) != string(binary.AppendUvarint(nil, uint64(len(s))))+s {
		t.Error(len(b))
	}
}

func TestP2_1BytesHaveMemoryOfTheirOwn(t *testing.T) {
	var w codec.Writer
	w.Text("abc")
	b, c := w.Bytes(), w.Bytes()
	for i := range b {
		b[i] = 0xee
	}
	clear(b[len(b):cap(b)])
	w.Nat(7)
	if string(c) != "\x03abc" || string(w.Bytes()) != "\x03abc\x07" {
		t.Errorf("%x %x", c, w.Bytes())
	}
	_ = append(c, 0xdd) // its spare room is its own too
	if string(w.Bytes()) != "\x03abc\x07" {
		t.Errorf("%x", w.Bytes())
	}
}

func TestP2_1CopiesOfAWriterGoOnAlone(t *testing.T) {
	var w codec.Writer
	for n := range uint64(100) { // whichever room is spare
		was, before := w, w.Bytes()
		early := was
		w.Nat(n)
		was.Nat(n+1, n+2)
		if !bytes.Equal(w.Bytes(), append(slices.Clone(before), byte(n))) {
			t.Fatalf("%d: %x", n, w.Bytes())
		}
		if !bytes.Equal(was.Bytes(), append(slices.Clone(before), byte(n+1), byte(n+2))) {
			t.Fatalf("%d: %x", n, was.Bytes())
		}
		if !bytes.Equal(early.Bytes(), before) {
			t.Fatalf("%d: %x", n, early.Bytes())
		}
	}
}

func TestP2_1LeavesItsLists(t *testing.T) {
	n, i := []uint64{1, 300, 5}, []int64{-1, 300, 5}
	written(func(w *codec.Writer) { w.Nat(n[:2]...); w.Int(i[:2]...) })
	if !slices.Equal(n, []uint64{1, 300, 5}) || !slices.Equal(i, []int64{-1, 300, 5}) {
		t.Error(n, i)
	}
}

func TestP2_1OfNil(t *testing.T) {
	var w *codec.Writer
	w.Nat(1, 2)
	w.Int(-1)
	w.Flag(true)
	w.Text("a")
	if len(w.Bytes()) != 0 {
		t.Error("a nil writer has written")
	}
	if b := new(codec.Writer).Bytes(); len(b) != 0 {
		t.Error("a plain writer is not empty")
	}
}

// badNats are bytes that begin with no natural number.
func badNats() []string {
	long := strings.Repeat("\xff", 9)
	zeros := strings.Repeat("\x80", 9)
	l := []string{"", "\x80", "\xff\xff", "\x80\x00", "\xff\x00", "\x80\x80\x00", "\x81\x80\x00\x05", zeros, long, // too short, or not in one form
		zeros + "\x00", long + "\x00", zeros + "\x02", long + "\x02", long + "\x03", long + "\x7f", long + "\x80", zeros + "\x80\x01", // 2^64 and more
		long + "\x81\x00", long + "\x81\x01", long + "\xff", long + "\xff\xff\xff\xff\xff\xff\xff\xff\xff\xff\x01", zeros + "\x80\x00", zeros + "\x81"}
	return append(l, strings.Repeat("\x80", 1<<16)+"\x01")
}

// checkBad checks that a reader is bad, and reads nothing more.
func checkBad(t *testing.T, name string, r *codec.Reader) {
	t.Helper()
	for range 2 {
		if !r.Bad() || r.Left() != 0 || r.End() != api.ErrForm {
			t.Errorf("%s: bad %v, left %d, end %d", name, r.Bad(), r.Left(), int(r.End()))
		}
		if r.Nat(math.MaxUint64) != 0 || r.Int() != 0 || r.Flag() || r.Text(9) != "" || r.Text(0) != "" || r.Text(-1) != "" {
			t.Errorf("%s: a bad one reads", name)
		}
	}
}

func TestP2_2Numbers(t *testing.T) {
	for _, n := range nats() {
		b := append(binary.AppendUvarint(nil, n), 9)
		r := codec.Open(b)
		if m := r.Nat(n); m != n || r.Bad() || r.Left() != 1 || r.End() != api.ErrForm {
			t.Fatal(n, m, r.Bad(), r.Left())
		}
		if r.Nat(9) != 9 || r.Left() != 0 || r.End() != api.OK {
			t.Fatal("behind", n)
		}
		if n > 0 {
			r = codec.Open(b)
			if r.Nat(n-1) != 0 {
				t.Fatal("above most", n)
			}
			checkBad(t, "above most", r)
		}
	}
	for _, n := range ints() {
		r := codec.Open(binary.AppendVarint(nil, n))
		if m := r.Int(); m != n || r.End() != api.OK {
			t.Fatal(n, m, int(r.End()))
		}
	}
}

func TestP2_2NoNumbers(t *testing.T) {
	for _, s := range badNats() {
		for name, read := range map[string]func(r *codec.Reader) bool{
			"Nat":  func(r *codec.Reader) bool { return r.Nat(math.MaxUint64) == 0 },
			"Int":  func(r *codec.Reader) bool { return r.Int() == 0 },
			"Flag": func(r *codec.Reader) bool { return !r.Flag() },
			"Text": func(r *codec.Reader) bool { return r.Text(math.MaxInt) == "" },
		} {
			r := codec.Open([]byte(s))
			if r.Bad() || !read(r) {
				t.Errorf("%s of %x", name, s)
			}
			checkBad(t, name, r)
		}
	}
}

// Whatever the bytes are, just what binary tells to be a number, in as few bytes as it needs, is one.
func TestP2_2AllShortBytes(t *testing.T) {
	check := func(b ...byte) {
		want, n := binary.Uvarint(b)
		if n > 0 && !bytes.Equal(binary.AppendUvarint(nil, want), b[:n]) {
			want, n = 0, 0
		}
		r := codec.Open(b)
		if got := r.Nat(math.MaxUint64); n > 0 && (got != want || r.Bad() || r.Left() != len(b)-n) || n <= 0 && (got != 0 || !r.Bad() || r.Left() != 0) {
			t.Fatalf("%x: %d, %v, %d", b, got, r.Bad(), r.Left())
		}
	}
	check()
	for a := range 256 {
		check(byte(a))
		for b := range 256 {
			check(byte(a), byte(b))
			for _, c := range []byte{0, 1, 0x7f, 0x80, 0x81, 0xff} {
				check(byte(a), byte(b), c)
			}
		}
	}
	for a := range 256 { // the ninth and the tenth
		for b := range 256 {
			check(0xff, 0x80, 0x80, 0x80, 0x80, 0x80, 0x80, 0x80, byte(a), byte(b))
		}
	}
}

func TestP2_2Flags(t *testing.T) {
	r := codec.Open([]byte{0, 1, 2, 1})
	if r.Flag() || !r.Flag() || r.Bad() || r.Left() != 2 {
		t.Error("0 and 1")
	}
	if r.Flag() {
		t.Error("2 is true")
	}
	checkBad(t, "2", r)
}

func TestP2_2Texts(t *testing.T) {
	for _, c := range []struct {
		b    string
		most int
		want string
		left int
		bad  bool
	}{
		{"\x00", 0, "", 0, false},
		{"\x02abc", 2, "ab", 1, false},
		{"\x02abc", math.MaxInt, "ab", 1, false},
		{"\x02\xff\x00", 3, "\xff\x00", 0, false},
		{"\x02ab", 1, "", 0, true},
		{"\x01a", 0, "", 0, true},
		{"\x00", -1, "", 0, true},
		{"\x01a", -1, "", 0, true},
		{"\x01a", math.MinInt, "", 0, true},
		{"", 5, "", 0, true},
		{"\x02a", 5, "", 0, true},
		{"\x01", 5, "", 0, true},
		{"\x82\x00ab", 5, "", 0, true},
		{"\xff\xff\xff\xff\xff\xff\xff\xff\xff\x01ab", math.MaxInt, "", 0, true},     // 2^64 - 1 of them
		{"\xff\xff\xff\xff\xff\xff\xff\xff\x7fab", math.MaxInt, "", 0, true},         // 2^63 - 1
		{"\x80\x80\x80\x80\x80\x80\x80\x80\x80\x01ab", math.MaxInt, "", 0, true},     // 2^63
		{"\x80\x80\x80\x80\x80\x80\x80\x80\x80\x01ab", math.MinInt, "", 0, true},     // just as many, were most a natural one
		{"\x81\x80\x80\x80\x80\x80\x80\x80\x80\x01ab", math.MinInt + 1, "", 0, true}, // likewise
	} {
		r := codec.Open([]byte(c.b))
		if s := r.Text(c.most); s != c.want || r.Bad() != c.bad || r.Left() != c.left {
			t.Errorf("%x, most %d: %q, %v, %d", c.b, c.most, s, r.Bad(), r.Left())
		}
		if c.bad {
			checkBad(t, "text", r)
		}
	}
}

func TestP2_2FailAndEnd(t *testing.T) {
	r := codec.Open([]byte{1, 2})
	if r.Bad() || r.Left() != 2 || r.End() != api.ErrForm {
		t.Error("at the beginning")
	}
	if r.Nat(1) != 1 || r.Bad() || r.Left() != 1 || r.End() != api.ErrForm {
		t.Error("in between")
	}
	if r.Nat(2) != 2 || r.Bad() || r.Left() != 0 || r.End() != api.OK || r.End() != api.OK {
		t.Error("at the end")
	}
	r.Fail()
	checkBad(t, "failed at the end", r)
	r = codec.Open([]byte{1, 2})
	r.Fail()
	r.Fail()
	checkBad(t, "failed ahead of the end", r)
}

func TestP2_2ReadsWhatItWasGiven(t *testing.T) {
	room := []byte{0x80, 0x01, 0x01}
	r := codec.Open(room[:1])
	if r.Nat(math.MaxUint64) != 0 || !r.Bad() {
		t.Error("read behind the end")
	}
	if r = codec.Open(room[1:2]); r.Text(1) != "" || !r.Bad() {
		t.Error("read behind the end of a text")
	}
	if !bytes.Equal(room, []byte{0x80, 0x01, 0x01}) {
		t.Errorf("changed: %x", room)
	}
	b := []byte("\x02ab\x07")
	r = codec.Open(b)
	s := r.Text(2)
	clear(b)
	if s != "ab" || r.Nat(7) != 7 {
		t.Error("what was handed in is kept")
	}
}

func TestP2_2OfNilAndPlain(t *testing.T) {
	var none *codec.Reader
	none.Fail()
	if none.Nat(5) != 0 || none.Int() != 0 || none.Flag() || none.Text(5) != "" || none.Text(-1) != "" || none.Bad() || none.Left() != 0 || none.End() != api.ErrNil {
		t.Error("a nil reader")
	}
	for _, r := range []*codec.Reader{{}, codec.Open(nil), codec.Open([]byte{})} {
		if r.Bad() || r.Left() != 0 || r.End() != api.OK {
			t.Error("an empty reader is good")
		}
		if r.Nat(5) != 0 {
			t.Error("an empty reader reads")
		}
		checkBad(t, "empty", r)
	}
	plain := &codec.Reader{}
	plain.Fail()
	checkBad(t, "plain", plain)
}

func TestP2_3ReadAsWritten(t *testing.T) {
	texts := []string{"", "a", "\x00", "\xff\xfe", "grün", strings.Repeat("x", 127), strings.Repeat("y", 128), strings.Repeat("z", api.MaxText)}
	b := written(func(w *codec.Writer) {
		for _, n := range nats() {
			w.Nat(n)
			w.Int(int64(n))
			w.Flag(n%3 == 0)
			w.Text(texts[n%uint64(len(texts))])
		}
	})
	r := codec.Open(b)
	for _, n := range nats() {
		if r.Nat(math.MaxUint64) != n || r.Int() != int64(n) || r.Flag() != (n%3 == 0) || r.Text(api.MaxText) != texts[n%uint64(len(texts))] {
			t.Fatal(n)
		}
	}
	if r.End() != api.OK {
		t.Error(int(r.End()))
	}
	for i := range b[:min(len(b), 1<<11)] { // cut off anywhere, it ends too early
		r := codec.Open(b[:i])
		for range nats() {
			r.Nat(math.MaxUint64)
			r.Int()
			r.Flag()
			r.Text(api.MaxText)
		}
		if r.End() != api.ErrForm {
			t.Fatal("cut off at", i)
		}
	}
}

func TestP2_3WrittenAsRead(t *testing.T) {
	seed := uint32(1)
	next := func() byte { // the same bytes every time, many of them at the edges
		seed = seed*1664525 + 1013904223
		return []byte{0, 1, 2, 3, 0x7f, 0x80, 0x81, byte(seed >> 16)}[seed>>29]
	}
	whole := 0
	for range 200000 {
		b := make([]byte, next()%12)
		for i := range b {
			b[i] = next()
		}
		r := codec.Open(b)
		n, i, is, s := r.Nat(math.MaxUint64), r.Int(), r.Flag(), r.Text(12)
		if r.End() != api.OK {
			continue
		}
		whole++
		if again := written(func(w *codec.Writer) { w.Nat(n); w.Int(i); w.Flag(is); w.Text(s) }); !bytes.Equal(b, again) {
			t.Fatalf("%x, again %x", b, again)
		}
	}
	if whole < 1000 {
		t.Error("too few were read to their end:", whole)
	}
}
