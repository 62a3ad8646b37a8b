package parse_test

import (
	"errors"
	"fmt"
	"strconv"
	"strings"
	"testing"

	"parterre/api"
	"parterre/fault"
	"parterre/parse"
	"parterre/venue"
)

func spotAt(line, col int) api.Spot { return api.Spot{Line: line, Col: col} }

// checkVenue asks for the venue of s, and for no error.
func checkVenue(t *testing.T, s string, want api.Venue) {
	t.Helper()
	v, err := parse.Venue(s)
	if err != nil || !venue.Same(v, want) {
		t.Errorf("Venue(%.60q): %+v, %v, want %+v", s, v, err, want)
	}
	if code, spot := parse.Check(s); code != api.OK || spot != (api.Spot{}) {
		t.Errorf("Check(%.60q): %d at %v", s, code, spot)
	}
}

// checkCode asks for an error of s, and for no venue.
func checkCode(t *testing.T, s string, code int, spot api.Spot) {
	t.Helper()
	v, err := parse.Venue(s)
	if fault.Code(err) != code || fault.Spot(err) != spot || fault.Depth(err) != 1 {
		t.Errorf("Venue(%.60q): %v, want %d at %v", s, err, code, spot)
	}
	if !venue.Same(v, api.Venue{}) {
		t.Errorf("Venue(%.60q): %+v beside an error", s, v)
	}
	if got, at := parse.Check(s); got != code || at != spot {
		t.Errorf("Check(%.60q): %d at %v, want %d at %v", s, got, at, code, spot)
	}
}

// checkText asks for ErrText at that line and column.
func checkText(t *testing.T, s string, line, col int) {
	t.Helper()
	checkCode(t, s, api.ErrText, spotAt(line, col))
}

// words are the words that a line may begin with, each with numbers that may
// stand behind it.
func words() map[string][]string {
	return map[string][]string{
		"seat":      {"1", "-2", "3"},
		"wheel":     {"1", "-2", "3"},
		"companion": {"1", "-2", "3"},
		"gap":       {"4"},
		"radius":    {"0"},
		"kill":      {"9", "9"},
		"pole":      {"-1", "-2", "3"},
	}
}

// base is a manifest to which the lines of words may be added.
const base = "seat 9 9 9\n"

// single is the venue of one seat.
func single() api.Venue { return api.Venue{Seats: []api.Seat{{}}, Gap: 1} }

// Promise 4.1: what is told.

func TestVenueOfAllLines(t *testing.T) {
	want := api.Venue{
		Seats: []api.Seat{
			{Row: 0, X: -5, Y: 1},
			{Row: 0, X: 0, Y: 1, Kind: api.Wheel},
			{Row: 0, X: 5, Y: 1, Kind: api.Companion},
			{Row: 7, X: -5, Y: 9},
		},
		Gap: 5, Radius: 3,
		Kills: []int{0, 2, 3},
		Poles: []api.Pole{{X: 9, Y: 8, R: 7}, {X: 1, Y: 2, R: 3}, {X: 9, Y: 8, R: 7}},
	}
	lines := []string{
		"kill 7 -5", "seat 7 -5 9", "pole 9 8 7", "companion 0 5 1", "kill 0 5", "wheel 0 0 1",
		"radius 3", "seat 0 -5 1", "pole 1 2 3", "gap 5", "kill 0 -5", "pole 9 8 7",
	}
	checkVenue(t, strings.Join(lines, "\n"), want)
	checkVenue(t, strings.Join(lines, "\n")+"\n", want)
	checkVenue(t, "\n \n# seat ?\n"+strings.Join(lines, " # 5 seat\n\n\t")+"\n\r\n#", want)
	checkVenue(t, " "+strings.Join(lines, "\r\n  ")+" ", want)
	checkVenue(t, strings.ReplaceAll(strings.Join(lines, "\n"), " ", "\t \r"), want)
	back := strings.Split(strings.Join(lines, "\n"), "\n")
	back[2], back[8] = back[8], back[2] // poles stand as they are told
	want.Poles[0], want.Poles[1] = want.Poles[1], want.Poles[0]
	checkVenue(t, strings.Join(back, "\n"), want)
}

func TestWhatNeedNotBeTold(t *testing.T) {
	checkVenue(t, "gap 1\nseat 0 0 0", single())
	checkVenue(t, "seat 0 0 0\ngap 1\nradius 0", single())
	checkVenue(t, "seat -0 000 -00\ngap 0001", single())
}

func TestKillsAreOfTheSeatsThatWereTold(t *testing.T) {
	// The seats are told the other way round, so that each gets another number.
	for first := range 4 {
		for second := range 4 {
			if first == second {
				continue
			}
			s := fmt.Sprintf("gap 1\nseat 3 0 0\nkill %d 0\nseat 2 0 1\nseat 1 0 2\nkill %d 0\nseat 0 0 3\n", first, second)
			v := api.Venue{Gap: 1, Kills: []int{min(first, second), max(first, second)}}
			for row := range 4 {
				v.Seats = append(v.Seats, api.Seat{Row: row, Y: 3 - row})
			}
			checkVenue(t, s, v)
		}
	}
}

func TestAnswersShareNothing(t *testing.T) {
	const s = "seat 0 0 0\nseat 0 1 0\ngap 1\nkill 0 1\npole 0 0 1"
	a, _ := parse.Venue(s)
	b, _ := parse.Venue(s)
	a.Seats[0].Y, a.Kills[0], a.Poles[0].R = 7, 0, 7
	if b.Seats[0].Y != 0 || b.Kills[0] != 1 || b.Poles[0].R != 1 {
		t.Error("an answer was changed by way of another", b)
	}
}

// Promise 4.1: ErrLarge.

func TestTooLarge(t *testing.T) {
	const some = "gap 1\nseat 0 0 0\n"
	for _, fill := range []string{" ", "\n", "#", "\r"} {
		full := some + strings.Repeat(fill, api.MaxText-len(some))
		checkVenue(t, full, single())
		checkCode(t, full+" ", api.ErrLarge, api.Spot{})
	}
	for _, wrong := range []string{"?", "seat", "foo\n", "9999999999"} {
		checkCode(t, strings.Repeat(wrong, api.MaxText/len(wrong)+1), api.ErrLarge, api.Spot{})
		checkCode(t, wrong+strings.Repeat(" ", api.MaxText+1-len(wrong)), api.ErrLarge, api.Spot{})
	}
	checkText(t, strings.Repeat("\n", api.MaxText), api.MaxText+1, 1)
}

// Promise 4.1: token.All's ErrText, wherever it is.

func TestTokensAheadOfLines(t *testing.T) {
	for s, spot := range map[string]api.Spot{
		"?":                           spotAt(1, 1),
		"Seat 0 0 0":                  spotAt(1, 1),
		"seat 0 0 2147483648":         spotAt(1, 10),
		"seat 0 0 -2147483649\n?":     spotAt(1, 10),
		"seat5 0 0":                   spotAt(1, 5),
		"seat 5x 0":                   spotAt(1, 7),
		"seat - 0":                    spotAt(1, 6),
		"seat 1-2":                    spotAt(1, 7),
		"foo\n5\ngap\ngap 0\nkill ?":  spotAt(5, 6),
		"gap 1\ngap 1\n\xff":          spotAt(3, 1),
		"kill 0 0\nseat 0 0 0 9 \x00": spotAt(2, 14),
	} {
		checkCode(t, s, api.ErrText, spot)
	}
	checkText(t, "seat 0 0 2147483647", 1, 10) // a token, but no coordinate
}

// Promise 4.1: lines, one error each.

func TestFirstTokens(t *testing.T) {
	for _, word := range []string{"foo", "s", "sea", "seats", "kil", "kills", "gapp", "radiu", "row", "x", "5", "-5", "0"} {
		for _, behind := range []string{"", " 1", " 1 2 3", " foo", " seat 0 0 0", " 99999999 0 0 0 0"} {
			checkText(t, word+behind, 1, 1)
			checkText(t, "  "+word+behind+"\n", 1, 3)
			checkText(t, base+"gap 1\n\n\t"+word+behind+"\nseat\nfoo\n", 4, 2)
		}
	}
}

func TestTooFewNumbers(t *testing.T) {
	for word, numbers := range words() {
		for n := range numbers {
			s := strings.Join(append([]string{word}, numbers[:n]...), " ")
			for _, blank := range []string{"", " ", " \t\r", " # 5 5", "# x"} {
				end := len(s) + len(blank) + 1
				checkText(t, s+blank, 1, end)
				checkText(t, s+blank+"\n", 1, end)
				checkText(t, s+blank+"\n5 5 5", 1, end)
				checkText(t, base+" "+s+blank+"\n\nfoo", 2, end+1)
			}
		}
	}
}

func TestWordsForNumbers(t *testing.T) {
	for word, numbers := range words() {
		for n := range numbers {
			ahead := strings.Join(append([]string{word}, numbers[:n]...), " ") + "  "
			for _, other := range []string{"x", "seat", "gap", word} {
				for _, behind := range []string{"", " 5", " y y y y", "\n", " # 5\n5"} {
					checkText(t, ahead+other+behind, 1, len(ahead)+1)
					checkText(t, base+ahead+other+behind, 2, len(ahead)+1)
				}
			}
		}
	}
}

func TestTokensMore(t *testing.T) {
	for word, numbers := range words() {
		ahead := word + " " + strings.Join(numbers, " ") + "\t"
		for _, more := range []string{"5", "-5", "x", "seat 0 0 0", "5 5 x", "99999999"} {
			checkText(t, ahead+more, 1, len(ahead)+1)
			checkText(t, base+ahead+more+"\nfoo", 2, len(ahead)+1)
		}
	}
}

// numbersOf puts n in the place of a number of a line.
func numbersOf(word string, at, n int) (string, int) {
	numbers := words()[word]
	ahead := strings.Join(append([]string{word}, numbers[:at]...), " ") + " "
	return ahead + strings.Join(append([]string{strconv.Itoa(n)}, numbers[at+1:]...), " "), len(ahead) + 1
}

func TestNumbersAtTheEdges(t *testing.T) {
	const most = 1 << 20
	for _, x := range []struct {
		words     []string
		at        int
		from, to  int
		elsewhere string // with which the least and the greatest make a venue
	}{
		{[]string{"seat", "wheel", "companion"}, 0, 0, 999, "gap 1"},
		{[]string{"seat", "wheel", "companion"}, 1, -most, most, "gap 1"},
		{[]string{"seat", "wheel", "companion"}, 2, -most, most, "gap 1"},
		{[]string{"gap"}, 0, 1, most, "seat 0 0 0"},
		{[]string{"radius"}, 0, 0, most, "seat 0 0 0\ngap 1"},
		{[]string{"kill"}, 0, 0, 999, "gap 1\nseat 0 9 0\nseat 999 9 0\nseat 1 9 0\nseat 998 9 0"},
		{[]string{"kill"}, 1, -most, most, "gap 1\nseat 9 -1048576 0\nseat 9 -1048575 0\nseat 9 1048575 0\nseat 9 1048576 0"},
		{[]string{"pole"}, 0, -most, most, "seat 0 0 0\ngap 1"},
		{[]string{"pole"}, 1, -most, most, "seat 0 0 0\ngap 1"},
		{[]string{"pole"}, 2, 1, most, "seat 0 0 0\ngap 1"},
	} {
		for _, word := range x.words {
			for _, n := range []int{x.from, x.from + 1, x.to - 1, x.to} {
				s, _ := numbersOf(word, x.at, n)
				if v, err := parse.Venue(s + "\n" + x.elsewhere); err != nil || !venue.May(v) {
					t.Errorf("%q: %+v, %v", s, v, err)
				}
			}
			for _, n := range []int{-1 << 31, x.from - 1, x.to + 1, 1<<31 - 1} {
				s, col := numbersOf(word, x.at, n)
				checkText(t, s, 1, col)
				checkText(t, x.elsewhere+"\n"+s+"\n", strings.Count(x.elsewhere, "\n")+2, col)
			}
		}
	}
}

func TestTheFirstNumberIsTold(t *testing.T) {
	checkText(t, "seat 1000 1048577 1048577", 1, 6)
	checkText(t, "wheel 999 1048577 1048577", 1, 11)
	checkText(t, "companion 0 0 1048577", 1, 15)
	checkText(t, "kill -1 1048577", 1, 6)
	checkText(t, "pole 1048577 1048577 0", 1, 6)
	checkText(t, "pole 0 1048577 0", 1, 8)
}

func TestTheFormOfALineAheadOfItsNumbers(t *testing.T) {
	checkText(t, "seat 9999 x", 1, 11)
	checkText(t, "seat 9999 0", 1, 12)
	checkText(t, "seat 9999 0 0 0", 1, 15)
	checkText(t, "gap 0 0", 1, 7)
	checkText(t, "radius -1 x", 1, 11)
	checkText(t, "pole 0 0 0 0", 1, 12)
	checkText(t, "kill 1000", 1, 10)
}

// Promise 4.1: what there is already, and what is too much.

func TestSeatsOfOnePlace(t *testing.T) {
	kinds := []string{"seat", "wheel", "companion"}
	for _, a := range kinds {
		for _, b := range kinds {
			for _, y := range []string{" 3", " 4"} {
				checkText(t, a+" 1 2 3\ngap 1\n "+b+" 1 2"+y, 3, 2)
				checkText(t, "seat 0 0 0\n"+a+" 1 2 3\n"+b+" 1 2"+y+"\nfoo", 3, 1)
			}
			if _, err := parse.Venue(a + " 1 2 3\n" + b + " 2 1 3\n" + b + " 1 1 3\n" + a + " 2 2 3\ngap 1"); err != nil {
				t.Error(a, b, err)
			}
		}
	}
	checkText(t, "seat 0 0 0\nseat 0 0 1048577", 2, 10) // its numbers are told first
}

func TestASecondGapOrRadius(t *testing.T) {
	checkText(t, "gap 1\n gap 1", 2, 2)
	checkText(t, base+"gap 1\ngap 2\n", 3, 1)
	checkText(t, "gap 1\ngap 0", 2, 5)
	checkText(t, "radius 0\nradius 0", 2, 1)
	checkText(t, "radius 0\n\tradius 1", 2, 2)
	checkText(t, base+"radius 5\ngap 1\nradius 5\n", 4, 1)
	checkText(t, "radius 5\nradius -1", 2, 8)
}

// row is n seats beside one another, a line each.
func row(n int) string {
	var b strings.Builder
	for x := range n {
		fmt.Fprintf(&b, "seat 0 %d 0\n", x)
	}
	return b.String()
}

func TestHowManySeats(t *testing.T) {
	v, err := parse.Venue(row(api.MaxSeats) + "gap 1")
	if err != nil || len(v.Seats) != api.MaxSeats {
		t.Error(len(v.Seats), err)
	}
	for _, word := range []string{"seat", "wheel", "companion"} {
		checkText(t, row(api.MaxSeats)+"gap 1\n "+word+" 1 0 0", api.MaxSeats+2, 2)
		checkText(t, row(api.MaxSeats)+" "+word+" 1 0 0\nfoo", api.MaxSeats+1, 2)
		checkText(t, row(api.MaxSeats)+" "+word+" 0 0 0", api.MaxSeats+1, 2)
		checkText(t, row(api.MaxSeats)+word+" 1 0 1048577", api.MaxSeats+1, len(word)+6)
	}
}

func TestHowManyKillsAndPoles(t *testing.T) {
	kills := strings.ReplaceAll(row(api.MaxKills), " 0\n", "\n")
	kills = strings.ReplaceAll(kills, "seat", "kill")
	poles := strings.Repeat("pole 0 0 1\n", api.MaxKills)
	hall := "gap 1\n" + row(api.MaxKills+1)
	v, err := parse.Venue(kills + poles + hall)
	if err != nil || len(v.Kills) != api.MaxKills || len(v.Poles) != api.MaxKills {
		t.Error(len(v.Kills), len(v.Poles), err)
	}
	checkText(t, kills+"\n kill 0 200\n"+hall, api.MaxKills+2, 2)
	checkText(t, poles+"\n pole 5 5 5\n"+hall, api.MaxKills+2, 2)
	checkText(t, strings.Repeat("kill 5 5\n", api.MaxKills)+" kill 5 5", api.MaxKills+1, 2) // ahead of which seats they are of
	checkText(t, strings.Repeat("kill 5 5\n", api.MaxKills), api.MaxKills+1, 1)             // no seat
	checkText(t, poles+"pole 5 5 0\n", api.MaxKills+1, 10)
}

// Promise 4.1: at the end.

func TestWithoutSeatOrGap(t *testing.T) {
	for s, spot := range map[string]api.Spot{
		"":                               spotAt(1, 1),
		" ":                              spotAt(1, 2),
		"# x":                            spotAt(1, 4),
		"\n\n":                           spotAt(3, 1),
		"gap 5":                          spotAt(1, 6),
		"gap 5 # x":                      spotAt(1, 10),
		"gap 5\n ":                       spotAt(2, 2),
		"radius 0\npole 0 0 1":           spotAt(2, 11),
		"seat 0 0 0":                     spotAt(1, 11),
		"seat 0 0 0\n":                   spotAt(2, 1),
		"seat 0 0 0\nradius 5\n\t":       spotAt(3, 2),
		"kill 0 1":                       spotAt(1, 9),
		"gap 1\nkill 0 1\n":              spotAt(3, 1),
		"seat 0 0 0\nkill 5 5":           spotAt(2, 9),
		"seat 0 0 0\nkill 0 0\nkill 0 0": spotAt(3, 9),
	} {
		checkCode(t, s, api.ErrText, spot)
	}
}

func TestKillsAtTheEnd(t *testing.T) {
	hall := "gap 1\nseat 0 1 0\nwheel 1 0 0\n"
	checkText(t, hall+"kill  0 0", 4, 7)
	checkText(t, hall+"  kill 0 2\n", 4, 8)
	checkText(t, hall+"kill 0 1\nkill 0 1", 5, 1)
	checkText(t, hall+"kill 0 1\nkill 1 0\n kill 0 1", 6, 2)
	checkText(t, hall+"kill 0 1\nkill 0 0\nkill 0 1", 5, 6)
	checkText(t, hall+"kill 0 1\nkill 0 1\nkill 0 0", 5, 1)
	checkText(t, hall+"kill 0 0\nkill 0 0", 4, 6)
	checkText(t, " kill 5 1\n"+hall+"gap 2", 5, 1) // lines are told first
	checkText(t, "kill 1 1\n kill 0 1\n kill 0 1\n"+hall, 1, 6)
	checkText(t, "kill 0 1\n kill 0 1\nkill 1 1\n"+hall, 2, 2)
}

// Promise 4.1: what is told of an error.

func TestErrorsAreFaults(t *testing.T) {
	_, err := parse.Venue("gap 5\n gap 5")
	if fault.Text(err) != "code 2 at 2:2" || err.Error() != "code 2 at 2:2" || errors.Unwrap(err) != nil {
		t.Error(err)
	}
	_, err = parse.Venue(strings.Repeat(" ", api.MaxText+1))
	if fault.Text(err) != "code 3" {
		t.Error(err)
	}
	above := fault.Wrap(fmt.Errorf("told on: %w", err), api.ErrVenue)
	if !fault.Is(above, api.ErrLarge) || fault.Depth(above) != 2 {
		t.Error(above)
	}
}
