// Package fault is errors that know where: see DOC.md, chapter 1.
package fault

import (
	"errors"
	"strconv"
	"strings"

	"parterre/api"
)

// New is an error of that code at that line and column; nil of a code of 0 or below.
func New(code, line, col int) error {
	if code <= 0 {
		return nil
	}
	return &fault{kind: kind(code), spot: api.Spot{Line: max(line, 0), Col: max(col, 0)}}
}

// Wrap is an error of that code around err; err itself of a code of 0 or below.
func Wrap(err error, code int) error {
	if code <= 0 {
		return err
	}
	if err == nil {
		return New(code, 0, 0)
	}
	return &fault{kind: kind(code), inner: err}
}

// Code is the outermost fault's code; 0 of nil, -1 where there is no fault.
func Code(err error) int {
	if err == nil {
		return 0
	}
	for f := range faults(err) {
		return int(f.kind)
	}
	return -1
}

// Spot is the outermost place that is one.
func Spot(err error) api.Spot {
	for f := range faults(err) {
		if f.placed() {
			return f.spot
		}
	}
	return api.Spot{}
}

// Is tells whether a fault in err, outer or inner, has that code.
func Is(err error, code int) bool {
	if code <= 0 {
		return false
	}
	// The faults' kinds are asked, not err as a whole: an error of another
	// make may have an Is method that claims to be whatever it is asked for.
	for f := range faults(err) {
		if errors.Is(f.kind, kind(code)) {
			return true
		}
	}
	return false
}

// Depth is how many faults there are in err.
func Depth(err error) int {
	n := 0
	for range faults(err) {
		n++
	}
	return n
}

// Text tells each fault in err, the outer one first.
func Text(err error) string {
	var b strings.Builder
	for f := range faults(err) {
		if b.Len() > 0 {
			b.WriteString(": ")
		}
		b.WriteString(f.kind.Error())
		if f.placed() {
			b.WriteString(" at " + strconv.Itoa(f.spot.Line) + ":" + strconv.Itoa(f.spot.Col))
		}
	}
	return b.String()
}
