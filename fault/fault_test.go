package fault_test

import (
	"errors"
	"fmt"
	"math"
	"testing"

	"parterre/api"
	"parterre/fault"
)

// told is all that the package tells of an error.
type told struct {
	code  int
	spot  api.Spot
	depth int
	text  string
}

func tell(err error) told {
	return told{fault.Code(err), fault.Spot(err), fault.Depth(err), fault.Text(err)}
}

func at(line, col int) api.Spot { return api.Spot{Line: line, Col: col} }

func check(t *testing.T, name string, err error, want told) {
	t.Helper()
	if got := tell(err); got != want {
		t.Errorf("%s: told %+v, want %+v", name, got, want)
	}
}

// checkCodes asks err for the codes that it has, and for some that nothing has.
func checkCodes(t *testing.T, name string, err error, has ...int) {
	t.Helper()
	for _, code := range has {
		if !fault.Is(err, code) {
			t.Errorf("%s: code %d is missing", name, code)
		}
	}
	for _, code := range []int{0, -1, -2, 99, math.MinInt, math.MaxInt - 1} {
		if fault.Is(err, code) {
			t.Errorf("%s: code %d is told", name, code)
		}
	}
}

// Promise 1.1: New.

func TestNewOfNoCodeIsNil(t *testing.T) {
	for _, code := range []int{0, -1, -5, math.MinInt} {
		for _, place := range [][2]int{{0, 0}, {1, 1}, {-1, 7}} {
			if err := fault.New(code, place[0], place[1]); err != nil {
				t.Errorf("New(%d, %d, %d) is %v", code, place[0], place[1], err)
			}
		}
	}
}

func TestNew(t *testing.T) {
	for _, x := range []struct {
		code, line, col int
		want            told
	}{
		{2, 3, 4, told{2, at(3, 4), 1, "code 2 at 3:4"}},
		{1, 1, 1, told{1, at(1, 1), 1, "code 1 at 1:1"}},
		{12, 0, 0, told{12, at(0, 0), 1, "code 12"}},
		{1, -1, -1, told{1, at(0, 0), 1, "code 1"}},
		{1, 0, -1, told{1, at(0, 0), 1, "code 1"}},
		{1, math.MinInt, math.MinInt, told{1, at(0, 0), 1, "code 1"}},
		{1, 0, 5, told{1, at(0, 5), 1, "code 1 at 0:5"}},
		{1, 5, 0, told{1, at(5, 0), 1, "code 1 at 5:0"}},
		{1, -2, 5, told{1, at(0, 5), 1, "code 1 at 0:5"}},
		{1, 5, -2, told{1, at(5, 0), 1, "code 1 at 5:0"}},
		{math.MaxInt, math.MaxInt, math.MaxInt, told{math.MaxInt, at(math.MaxInt, math.MaxInt), 1,
			"code 9223372036854775807 at 9223372036854775807:9223372036854775807"}},
	} {
		name := fmt.Sprintf("New(%d, %d, %d)", x.code, x.line, x.col)
		err := fault.New(x.code, x.line, x.col)
		check(t, name, err, x.want)
		checkCodes(t, name, err, x.code)
	}
}

// Promise 1.1: Wrap.

func TestWrap(t *testing.T) {
	inner := fault.New(2, 3, 4)
	outer := fault.Wrap(inner, 1)
	check(t, "outer", outer, told{1, at(3, 4), 2, "code 1: code 2 at 3:4"})
	checkCodes(t, "outer", outer, 1, 2)
	check(t, "inner", inner, told{2, at(3, 4), 1, "code 2 at 3:4"})
	if fault.Is(inner, 1) {
		t.Error("the inner one was changed")
	}
	if errors.Unwrap(outer) != inner || !errors.Is(outer, inner) || errors.Is(inner, outer) {
		t.Error("the outer one is not around the inner one")
	}
	check(t, "same code", fault.Wrap(fault.Wrap(fault.New(5, 0, 0), 9), 9), told{9, at(0, 0), 3, "code 9: code 9: code 5"})
}

func TestWrapOfNoCodeIsErrItself(t *testing.T) {
	for _, code := range []int{0, -1, -7, math.MinInt} {
		for _, err := range []error{nil, fault.New(2, 3, 4), errors.New("another")} {
			if fault.Wrap(err, code) != err {
				t.Errorf("Wrap(%v, %d) is another error", err, code)
			}
		}
	}
}

func TestWrapOfNilIsNew(t *testing.T) {
	err := fault.Wrap(nil, 4)
	check(t, "of nil", err, told{4, at(0, 0), 1, "code 4"})
	checkCodes(t, "of nil", err, 4)
	if errors.Unwrap(err) != nil {
		t.Error("there is something inside")
	}
}

// Promise 1.1: Code, Spot, Is, Depth.

func TestNilAndAnother(t *testing.T) {
	check(t, "nil", nil, told{0, at(0, 0), 0, ""})
	checkCodes(t, "nil", nil)
	for _, err := range []error{
		errors.New("code 2 at 3:4"),
		errors.Join(errors.New("a"), errors.New("b")),
		fmt.Errorf("around: %w", errors.New("a")),
	} {
		check(t, err.Error(), err, told{-1, at(0, 0), 0, ""})
		checkCodes(t, err.Error(), err)
	}
}

func TestSpotIsTheOutermostPlace(t *testing.T) {
	far := fault.New(2, 9, 9)
	near := fmt.Errorf("%w, %w", fault.New(3, 1, 2), far)
	check(t, "two places", fault.Wrap(near, 4), told{4, at(1, 2), 3, "code 4: code 3 at 1:2: code 2 at 9:9"})
	nowhere := fmt.Errorf("%w, %w", fault.New(3, 0, 0), far)
	check(t, "the first nowhere", nowhere, told{3, at(9, 9), 2, "code 3: code 2 at 9:9"})
}

func TestOtherErrorsAroundAndInside(t *testing.T) {
	other := errors.New("another")
	wrapped := fault.Wrap(other, 3)
	check(t, "around another", wrapped, told{3, at(0, 0), 1, "code 3"})
	checkCodes(t, "around another", wrapped, 3)
	if !errors.Is(wrapped, other) {
		t.Error("the other one is not to be found")
	}
	between := fault.Wrap(fmt.Errorf("b: %w", fmt.Errorf("a: %w", fault.New(2, 3, 4))), 7)
	check(t, "between", between, told{7, at(3, 4), 2, "code 7: code 2 at 3:4"})
	checkCodes(t, "between", between, 2, 7)
	around := fmt.Errorf("c: %w", between)
	check(t, "around", around, told{7, at(3, 4), 2, "code 7: code 2 at 3:4"})
	checkCodes(t, "around", around, 2, 7)
}

func TestJoinedErrors(t *testing.T) {
	first := fault.Wrap(fault.New(2, 0, 0), 1)
	second := fault.Wrap(fmt.Errorf("x: %w", fault.New(4, 5, 6)), 3)
	joined := errors.Join(errors.New("another"), first, nil, second)
	want := told{1, at(5, 6), 4, "code 1: code 2: code 3: code 4 at 5:6"}
	check(t, "joined", joined, want)
	checkCodes(t, "joined", joined, 1, 2, 3, 4)
	check(t, "joined once more", errors.Join(fmt.Errorf("x: %w", joined)), want)
	check(t, "wrapped", fault.Wrap(joined, 9), told{9, at(5, 6), 5, "code 9: " + want.text})
	check(t, "nested", errors.Join(errors.Join(first), errors.Join(errors.Join(second, fault.New(8, 7, 7)))),
		told{1, at(5, 6), 5, want.text + ": code 8 at 7:7"})
}

// Promise 1.2.

func TestText(t *testing.T) {
	if got := fault.Text(fault.Wrap(fault.New(2, 3, 4), 1)); got != "code 1: code 2 at 3:4" {
		t.Error(got)
	}
	err := fault.Wrap(fault.Wrap(fault.Wrap(fault.New(api.ErrText, 120, 7), api.ErrVenue), api.ErrArg), api.ErrPinned)
	if got := fault.Text(err); got != "code 12: code 1: code 11: code 2 at 120:7" || err.Error() != got {
		t.Error(got, err)
	}
}

// Promise 1.3.

func TestHoweverFarUp(t *testing.T) {
	const layers = 100_000
	err := fault.New(2, 3, 4)
	for i := range layers {
		if err = fault.Wrap(err, 100+i); i%1000 == 0 {
			err = fmt.Errorf("told on: %w", err)
		}
		if fault.Code(err) != 100+i {
			t.Fatal(i, fault.Code(err))
		}
	}
	if fault.Depth(err) != layers+1 || fault.Spot(err) != at(3, 4) {
		t.Error(fault.Depth(err), fault.Spot(err))
	}
	checkCodes(t, "far up", err, 2, 100, 100+layers/2, 100+layers-1)
	innermost := err
	for next := err; next != nil; next = errors.Unwrap(next) {
		innermost = next
	}
	check(t, "what it came from", innermost, told{2, at(3, 4), 1, "code 2 at 3:4"})
}
