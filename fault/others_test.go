package fault_test

import (
	"errors"
	"testing"

	"parterre/fault"
)

// Errors of other makes, whose methods do what they should not: no call may
// panic, and only the package's own errors count (promise 1.1; rule 1 of DOC.md).

// liar claims to be whatever it is asked for, and hands out nothing.
type liar struct{ inner error }

func (liar) Error() string   { return "liar" }
func (liar) Is(error) bool   { return true }
func (liar) As(any) bool     { return true }
func (l liar) Unwrap() error { return l.inner }

// agent has no Unwrap, but asks what is inside it.
type agent struct{ inner error }

func (agent) Error() string        { return "agent" }
func (a agent) As(target any) bool { return errors.As(a.inner, target) }

// broken panics wherever it can.
type broken struct{}

func (broken) Error() string { panic("Error") }
func (broken) Is(error) bool { panic("Is") }
func (broken) As(any) bool   { panic("As") }
func (broken) Unwrap() error { panic("Unwrap") }

// pointed can't be unwrapped where it is a nil pointer.
type pointed struct{ inner error }

func (*pointed) Error() string   { return "pointed" }
func (p *pointed) Unwrap() error { return p.inner }

// row is of a type whose values can't be compared.
type row []error

func (row) Error() string     { return "row" }
func (r row) Unwrap() []error { return r }

// shy panics when it is asked, but not when it is unwrapped.
type shy struct{ row }

func (shy) As(any) bool { panic("As") }

func TestLiars(t *testing.T) {
	check(t, "alone", liar{}, told{-1, at(0, 0), 0, ""})
	checkCodes(t, "alone", liar{})
	err := fault.Wrap(liar{liar{fault.Wrap(liar{}, 2)}}, 1)
	check(t, "between", err, told{1, at(0, 0), 2, "code 1: code 2"})
	checkCodes(t, "between", err, 1, 2)
	if fault.Is(err, 3) {
		t.Error("code 3 is told")
	}
}

func TestAgents(t *testing.T) {
	err := fault.Wrap(agent{fault.Wrap(fault.New(2, 3, 4), 5)}, 1)
	check(t, "agent", err, told{1, at(3, 4), 3, "code 1: code 5: code 2 at 3:4"})
	checkCodes(t, "agent", err, 1, 2, 5)
}

func TestErrorsThatPanic(t *testing.T) {
	var nobody *pointed
	for name, err := range map[string]error{"broken": broken{}, "nil pointer": nobody} {
		check(t, name, err, told{-1, at(0, 0), 0, ""})
		checkCodes(t, name, err)
		check(t, name+" inside", fault.Wrap(err, 3), told{3, at(0, 0), 1, "code 3"})
		checkCodes(t, name+" inside", fault.Wrap(err, 3), 3)
		joined := errors.Join(err, fault.New(2, 3, 4), err)
		check(t, name+" joined", joined, told{2, at(3, 4), 1, "code 2 at 3:4"})
		checkCodes(t, name+" joined", joined, 2)
	}
	hidden := shy{row{fault.New(1, 0, 0), fault.New(2, 3, 4)}}
	check(t, "shy", hidden, told{1, at(3, 4), 2, "code 1: code 2 at 3:4"})
}

func TestErrorsThatCannotBeCompared(t *testing.T) {
	err := fault.Wrap(row{nil, row{}, row{nil}, fault.New(2, 3, 4), row{fault.New(6, 0, 0)}}, 1)
	check(t, "row", err, told{1, at(3, 4), 3, "code 1: code 2 at 3:4: code 6"})
	checkCodes(t, "row", err, 1, 2, 6)
	if errors.Is(err, fault.Wrap(row{}, 1)) {
		t.Error("two errors are one")
	}
}
