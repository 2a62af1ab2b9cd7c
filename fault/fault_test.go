package fault_test

import (
	"errors"
	"fmt"
	"math"
	"slices"
	"strconv"
	"strings"
	"testing"

	"jobber/api"
	"jobber/fault"
)

var errElse = errors.New("something else")

// codes are all of api's, and some that it has not.
func codes() []api.Errno {
	return []api.Errno{
		api.ErrNil, api.ErrArg, api.ErrBig, api.ErrDiv, api.ErrForm, api.ErrLong, api.ErrSum, api.ErrTorn, api.ErrTick, api.ErrLot, api.ErrBand, api.ErrRules,
		api.ErrFull, api.ErrNone, api.ErrThere, api.ErrFunds, api.ErrState, api.ErrOld, api.ErrCross, api.ErrFill, api.ErrSelf, api.ErrLeft,
		api.ErrVersion, api.ErrAcks, api.ErrDown, api.ErrLead, 3, 99, -1, math.MaxInt, math.MinInt}
}

// nobody is an error whose methods panic: all of a nil one.
type nobody struct{ within error }

func (n *nobody) Error() string   { return n.within.Error() }
func (n *nobody) Unwrap() error   { return n.within }
func (n *nobody) Is(t error) bool { return n.within == t }

// pair is an error that can't be compared.
type pair struct{ l []error }

func (p pair) Error() string   { return "a pair" }
func (p pair) Unwrap() []error { return p.l }

// check holds what is told of an error against what it should be.
func check(t *testing.T, name string, err error, code api.Errno, text string, layers ...int) {
	t.Helper()
	if c := fault.Code(err); c != code {
		t.Errorf("%s: code %d, want %d", name, int(c), int(code))
	}
	if l := fault.Layers(err); !slices.Equal(l, layers) {
		t.Errorf("%s: layers %v, want %v", name, l, layers)
	}
	if s := fault.Text(err); s != text {
		t.Errorf("%s: text %q, want %q", name, s, text)
	}
}

func TestP4_1New(t *testing.T) {
	for _, layer := range []int{1, 2, 50, 98, 99, 0, -1, 100, math.MaxInt, math.MinInt} {
		if err := fault.New(layer, api.OK); err != nil {
			t.Error(layer, "of OK:", err)
		}
		for _, code := range codes() {
			f, is := fault.New(layer, code).(*fault.Fault)
			if !is || *f != (fault.Fault{Layer: layer, Code: code}) {
				t.Errorf("%d, %d: %v", layer, int(code), f)
			}
		}
	}
	if fault.New(1, api.ErrBig) == fault.New(1, api.ErrBig) {
		t.Error("two share their memory")
	}
}

func TestP4_1Wrap(t *testing.T) {
	for _, layer := range []int{1, 9, 99, 0, -1, 100, math.MaxInt, math.MinInt} {
		if err := fault.Wrap(layer, nil); err != nil {
			t.Error(layer, "of nil:", err)
		}
		for _, within := range []error{fault.New(1, api.ErrBig), fault.Wrap(2, fault.New(1, api.ErrSum)), errElse, api.ErrTorn, api.OK, fault.New(layer, api.ErrArg)} {
			f, is := fault.Wrap(layer, within).(*fault.Fault)
			if !is || *f != (fault.Fault{Layer: layer, Err: within}) {
				t.Errorf("%d, %v: %v", layer, within, f)
			}
		}
	}
	if err := fault.Wrap(9, fault.Wrap(6, fault.New(1, api.OK))); err != nil {
		t.Error("of no error:", err)
	}
	uncompared := pair{[]error{errElse}}
	if f, is := fault.Wrap(3, uncompared).(*fault.Fault); !is || f.Layer != 3 || f.Code != api.OK || len(f.Err.(pair).l) != 1 {
		t.Error("of a pair")
	}
}

func TestP4_2ByHand(t *testing.T) {
	inner := fault.New(1, api.ErrBig)
	for _, c := range []struct {
		name   string
		err    error
		code   api.Errno
		text   string
		layers []int
	}{
		{"nil", nil, api.OK, "", nil},
		{"the chapter's", fault.Wrap(9, fault.Wrap(6, inner)), api.ErrBig, "9>6>1 10", []int{9, 6, 1}},
		{"one", inner, api.ErrBig, "1 10", []int{1}},
		{"one of two digits", fault.New(42, api.ErrLead), api.ErrLead, "42 71", []int{42}},
		{"one layer twice", fault.Wrap(9, fault.New(9, api.ErrNil)), api.ErrNil, "9>9 1", []int{9, 9}},
		{"odd numbers", fault.Wrap(0, fault.New(-7, -3)), -3, "0>-7 -3", []int{0, -7}},
		{"none", errElse, api.ErrArg, " 2", nil},
		{"a number alone", api.ErrTick, api.ErrArg, " 2", nil},
		{"one within another's", fmt.Errorf("else: %w", inner), api.ErrBig, "1 10", []int{1}},
		{"another's between", fault.Wrap(8, fmt.Errorf("else: %w", fmt.Errorf("more: %w", fault.Wrap(3, inner)))), api.ErrBig, "8>3>1 10", []int{8, 3, 1}},
		{"another's text alone", fmt.Errorf("else: %v", inner), api.ErrArg, " 2", nil},
		{"the first of two", errors.Join(errElse, fault.Wrap(4, inner), fault.New(2, api.ErrSum)), api.ErrBig, "4>1 10", []int{4, 1}},
		{"within what can't be compared", pair{[]error{errElse, inner}}, api.ErrBig, "1 10", []int{1}},
		{"another's within", fault.Wrap(5, errElse), api.ErrArg, "5 2", []int{5}},
		{"a number within", fault.Wrap(7, fault.Wrap(5, api.ErrTick)), api.ErrArg, "7>5 2", []int{7, 5}},
	} {
		check(t, c.name, c.err, c.code, c.text, c.layers...)
	}
}

func TestP4_2OfEachCode(t *testing.T) {
	for _, code := range codes() {
		digits := strconv.Itoa(int(code))
		check(t, "one", fault.New(3, code), code, "3 "+digits, 3)
		check(t, "wrapped", fault.Wrap(12, fault.New(3, code)), code, "12>3 "+digits, 12, 3)
	}
}

func TestP4_2Has(t *testing.T) {
	for _, code := range codes() {
		one := fault.New(3, code)
		for _, err := range []error{one, fault.Wrap(9, one), fault.Wrap(9, fault.Wrap(8, one)), fmt.Errorf("else: %w", one), fault.Wrap(9, fmt.Errorf("else: %w", one)), errors.Join(errElse, one), errors.Join(fault.New(3, 12345), one), pair{[]error{errElse, one}}} {
			for _, other := range append(codes(), api.OK, 12346) {
				if fault.Has(err, other) != (other == code) {
					t.Fatalf("%v has %d: %v", err, int(other), other != code)
				}
			}
		}
		for _, err := range []error{nil, errElse, code, fault.Wrap(3, code), fault.Wrap(3, errElse), pair{}, fmt.Errorf("else: %v", one)} {
			if fault.Has(err, code) || fault.Has(err, api.OK) {
				t.Fatalf("%v has %d, or none", err, int(code))
			}
		}
	}
}

func TestP4_2Is(t *testing.T) {
	innermost := func(layer int, code api.Errno) *fault.Fault { return &fault.Fault{Layer: layer, Code: code} }
	f := innermost(3, api.ErrBig)
	wrapped := &fault.Fault{Layer: 9, Err: f}
	for _, c := range []struct {
		name   string
		f      *fault.Fault
		target error
		want   bool
	}{
		{"itself", f, f, true},
		{"the same", f, fault.New(3, api.ErrBig), true},
		{"of another layer", f, fault.New(4, api.ErrBig), true},
		{"another number", f, fault.New(3, api.ErrDiv), false},
		{"nil", f, nil, false},
		{"its number alone", f, api.ErrBig, false},
		{"another's", f, errElse, false},
		{"one that is wrapped", f, wrapped, false},
		{"one within another's", f, fmt.Errorf("else: %w", fault.New(3, api.ErrBig)), false},
		{"one within two", f, errors.Join(fault.New(3, api.ErrBig)), false},
		{"what can't be compared", f, pair{[]error{f}}, false},
		{"a wrapped one, of the innermost", wrapped, f, false},
		{"a wrapped one, of itself", wrapped, wrapped, false},
		{"a wrapped one, of the same", wrapped, fault.Wrap(9, f), false},
		{"a wrapped one, of what is within", &fault.Fault{Layer: 9, Err: errElse}, errElse, false},
		{"two that wrap others", &fault.Fault{Layer: 9, Err: errElse}, fault.Wrap(9, errElse), false},
		{"one with a number beside", innermost(3, api.ErrBig), &fault.Fault{Layer: 3, Code: api.ErrBig, Err: errElse}, false},
		{"with a number beside, of one", &fault.Fault{Layer: 3, Code: api.ErrBig, Err: errElse}, innermost(3, api.ErrBig), false},
	} {
		if c.f.Is(c.target) != c.want {
			t.Errorf("%s: is not %v", c.name, c.want)
		}
	}
	if !errors.Is(fault.Wrap(8, wrapped), fault.New(1, api.ErrBig)) || errors.Is(wrapped, fault.New(3, api.ErrSum)) {
		t.Error("errors.Is")
	}
}

func TestP4_2ErrorAndUnwrap(t *testing.T) {
	one := fault.New(1, api.ErrBig)
	for _, err := range []error{one, fault.Wrap(6, one), fault.Wrap(9, fault.Wrap(6, one)), fault.Wrap(5, errElse), fault.Wrap(8, fmt.Errorf("else: %w", one))} {
		if s := err.Error(); s != fault.Text(err) || s == "" {
			t.Errorf("%q, want %q", s, fault.Text(err))
		}
	}
	if s := fault.Wrap(9, fault.Wrap(6, one)).Error(); s != "9>6>1 10" {
		t.Errorf("%q", s)
	}
	if errors.Unwrap(one) != nil || errors.Unwrap(fault.Wrap(2, one)) != one || errors.Unwrap(fault.Wrap(2, errElse)) != errElse {
		t.Error("Unwrap")
	}
	var f *fault.Fault
	if !errors.As(fmt.Errorf("else: %w", fault.Wrap(2, one)), &f) || f.Layer != 2 || f.Err != one {
		t.Error("errors.As", f)
	}
}

func TestP4_2LayersHaveMemoryOfTheirOwn(t *testing.T) {
	err := fault.Wrap(9, fault.New(1, api.ErrBig))
	l := fault.Layers(err)
	l[0], l[1] = 5, 5
	_ = append(l, 7)
	check(t, "written to", err, api.ErrBig, "9>1 10", 9, 1)
}

func TestP4_2OfNilAndPlain(t *testing.T) {
	for _, f := range []*fault.Fault{nil, {}} {
		if f.Error() != "" || f.Unwrap() != nil || f.Is(nil) || f.Is(f) || f.Is(&fault.Fault{}) || f.Is(fault.New(1, api.ErrBig)) || f.Is(errElse) {
			t.Errorf("%#v tells something", f)
		}
		check(t, "alone", f, api.OK, "")
		check(t, "wrapped", fault.Wrap(3, f), api.OK, "3 0", 3)
		if fault.Has(f, api.OK) || fault.Has(f, api.ErrNil) || fault.Has(fault.Wrap(3, f), api.OK) || errors.Is(fault.New(1, api.ErrBig), f) {
			t.Errorf("%#v has something", f)
		}
	}
	if fault.Has(nil, api.OK) || fault.Has(nil, api.ErrArg) {
		t.Error("nil has something")
	}
}

// What panics in somebody else's error is as if nothing were within it.
func TestP4_2OfWhatPanics(t *testing.T) {
	var none *nobody
	f := &fault.Fault{Layer: 1, Code: api.ErrBig}
	if f.Is(none) || fault.Has(none, api.ErrBig) || fault.Has(fault.Wrap(3, none), api.ErrBig) {
		t.Error("something is found")
	}
	check(t, "alone", none, api.ErrArg, " 2")
	check(t, "wrapped", fault.Wrap(4, fault.Wrap(3, none)), api.ErrArg, "4>3 2", 4, 3)
	check(t, "not nil", fault.Wrap(3, &nobody{f}), api.ErrBig, "3>1 10", 3, 1)
	if s := fault.Wrap(4, none).Error(); s != "4 2" {
		t.Errorf("%q", s)
	}
}

func TestP4_3WrappedOften(t *testing.T) {
	ends := []error{errElse, api.ErrTick, fmt.Errorf("else: %w", fault.New(6, api.ErrTick)), errors.Join(errElse, errElse)}
	for _, code := range codes() {
		ends = append(ends, fault.New(7, code))
	}
	for _, end := range ends {
		code, layers := fault.Code(end), fault.Layers(end)
		err := end
		for i := range 120 {
			layer := 1 + i*37%99
			err = fault.Wrap(layer, err)
			layers = append([]int{layer}, layers...)
			if fault.Code(err) != code || !slices.Equal(fault.Layers(err), layers) || fault.Has(err, code) != fault.Has(end, code) {
				t.Fatalf("%v wrapped %d times: %d, %v", end, i+1, int(fault.Code(err)), fault.Layers(err))
			}
		}
	}
}

func TestP4_3WrappedAsOftenAsIsPromised(t *testing.T) {
	const many = 1<<16 - 1
	err := fault.New(99, api.ErrBig)
	for range many {
		err = fault.Wrap(5, err)
	}
	text := strings.Repeat("5>", many) + "99 10"
	if fault.Code(err) != api.ErrBig || !fault.Has(err, api.ErrBig) || fault.Has(err, api.ErrSum) || fault.Text(err) != text || err.Error() != text {
		t.Error("wrapped often")
	}
	if l := fault.Layers(err); len(l) != many+1 || l[0] != 5 || l[many-1] != 5 || l[many] != 99 {
		t.Error(len(l))
	}
}
