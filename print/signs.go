package print

import (
	"slices"
	"strconv"

	"parterre/api"
)

// fact is a word and its numbers, with blanks between.
func fact(word string, numbers ...int) string {
	line := []byte(word)
	for _, n := range numbers {
		line = append(line, ' ')
		line = strconv.AppendInt(line, int64(n), 10)
	}
	return string(line)
}

// word is what the line of a seat of that kind begins with.
func word(kind int) string {
	switch kind {
	case api.Plain:
		return "seat"
	case api.Wheel:
		return "wheel"
	case api.Companion:
		return "companion"
	}
	return "?"
}

// sign is what stands for a seat of v, which may be, on the map.
func sign(v api.Venue, seat, owner int) byte {
	if _, killed := slices.BinarySearch(v.Kills, seat); killed {
		return 'x'
	}
	switch {
	case owner > 0:
		return '#'
	case owner < 0:
		return '-'
	}
	return free(v.Seats[seat].Kind)
}

// free is the sign of a seat of that kind that nobody has.
func free(kind int) byte {
	switch kind {
	case api.Wheel:
		return 'w'
	case api.Companion:
		return 'c'
	}
	return '.'
}

// owner is what own tells of a seat; 0 where it tells nothing.
func owner(own []int, seat int) int {
	if seat < len(own) {
		return own[seat]
	}
	return 0
}
