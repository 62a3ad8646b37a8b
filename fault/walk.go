package fault

import (
	"errors"
	"iter"
	"strconv"

	"parterre/api"
)

// kind is a code as an error of its own, so that errors.Is can hold one
// against another.
type kind int

// Error is the code in words.
func (k kind) Error() string { return "code " + strconv.Itoa(int(k)) }

// fault is an error of this package. It is handled by its address: what it is
// around may be of a type whose values can't be compared.
type fault struct {
	kind  kind
	spot  api.Spot // zero: nowhere
	inner error    // nil: it is around nothing
}

// Error is the fault in words.
func (f *fault) Error() string { return Text(f) }

// Unwrap is what the fault is around.
func (f *fault) Unwrap() error { return f.inner }

func (f *fault) placed() bool { return f.spot != api.Spot{} }

// faults goes through the faults in err, the outer ones first, whatever other
// errors stand around and between them; of errors that are joined, all of one
// come ahead of those of the next.
func faults(err error) iter.Seq[*fault] {
	return func(yield func(*fault) bool) { visit(err, yield) }
}

// visit hands the faults in err to yield; false: yield wants no more.
func visit(err error, yield func(*fault) bool) bool {
	for {
		f, some := outermost(err)
		if !some {
			return true
		}
		if parts := partsAhead(err, f); len(parts) > 0 {
			return visitAll(parts, yield)
		}
		if f == nil {
			return true
		}
		if !yield(f) {
			return false
		}
		err = f.inner
	}
}

func visitAll(parts []error, yield func(*fault) bool) bool {
	for _, part := range parts {
		if !visit(part, yield) {
			return false
		}
	}
	return true
}

// outermost is the first fault in err, and whether there may be any. Other
// errors' methods can panic, or say yes and hand out nothing: then there may
// be some, but none is told.
func outermost(err error) (f *fault, some bool) {
	defer func() {
		if recover() != nil {
			f, some = nil, true
		}
	}()
	some = errors.As(err, &f)
	return f, some
}

// partsAhead is what has to be looked at part by part on the way from err to
// f: errors that are joined, or what is inside err if f is not told. Nothing
// if the way is straight.
func partsAhead(err error, f *fault) []error {
	for err != error(f) {
		inside := open(err)
		if f == nil || len(inside) != 1 {
			return inside
		}
		err = inside[0]
	}
	return nil
}

// open is what is directly inside err; nothing if err's methods panic.
func open(err error) (inside []error) {
	defer func() {
		if recover() != nil {
			inside = nil
		}
	}()
	if inner := errors.Unwrap(err); inner != nil {
		return []error{inner}
	}
	var joined interface{ Unwrap() []error }
	if errors.As(err, &joined) {
		return joined.Unwrap()
	}
	return nil
}
