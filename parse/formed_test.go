package parse_test

import (
	"fmt"
	"regexp"
	"slices"
	"strconv"
	"strings"
	"testing"

	"parterre/api"
	"parterre/fault"
	"parterre/parse"
	"parterre/token"
	"parterre/venue"
)

// Promise 4.2 and T3: nothing that is not well formed comes in, and what is
// written out is read as it was.

// form is what a line must be, and the least and greatest of its numbers.
type form struct {
	whole *regexp.Regexp
	edges [][2]int
}

func forms() map[string]form {
	const most = 1 << 20
	row, coord := [2]int{0, 999}, [2]int{-most, most}
	l := map[string]form{}
	for word, edges := range map[string][][2]int{
		"seat": {row, coord, coord}, "wheel": {row, coord, coord}, "companion": {row, coord, coord},
		"kill": {row, coord}, "pole": {coord, coord, {1, most}}, "gap": {{1, most}}, "radius": {{0, most}},
	} {
		l[word] = form{regexp.MustCompile("^ *" + word + strings.Repeat(` +-?\d+`, len(edges)) + " *$"), edges}
	}
	return l
}

var (
	known  = forms()
	remark = regexp.MustCompile(`#.*`)
	field  = regexp.MustCompile(`\S+`)
	digits = regexp.MustCompile(`^-?\d+$`)
)

// another works Check's answer out another way, of a text of tokens without
// tabs: the lines are held against whole forms first, and only what does not
// match is looked at more closely.
type another struct {
	seats  map[string]int
	once   map[string]int
	counts map[string]int
	kills  []api.Spot // of the ROWs
	killed []string
	words  []api.Spot // of the kills' words
}

func expect(s string) (int, api.Spot) {
	if _, spot, code := token.All(s); code != 0 {
		return code, spot
	}
	a := another{map[string]int{}, map[string]int{}, map[string]int{}, nil, nil, nil}
	lines := strings.Split(s, "\n")
	for i, l := range lines {
		if col := a.line(remark.ReplaceAllString(l, ""), len(l)+1, i+1); col > 0 {
			return api.ErrText, spotAt(i+1, col)
		}
	}
	if len(a.seats) == 0 || a.once["gap"] == 0 {
		return api.ErrText, spotAt(len(lines), len(lines[len(lines)-1])+1)
	}
	for i, k := range a.killed {
		switch {
		case a.seats[k] == 0:
			return api.ErrText, a.kills[i]
		case slices.Contains(a.killed[:i], k):
			return api.ErrText, a.words[i]
		}
	}
	return api.OK, api.Spot{}
}

// line is the column that is wrong in a line that ends at end; 0 of none.
func (a *another) line(l string, end, number int) int {
	fields := field.FindAllStringIndex(l, -1)
	if len(fields) == 0 {
		return 0
	}
	text := func(i int) string { return l[fields[i][0]:fields[i][1]] }
	first := fields[0][0] + 1
	f, ok := known[text(0)]
	if !ok {
		return first
	}
	if !f.whole.MatchString(l) {
		for i := 1; i <= len(f.edges); i++ {
			if i >= len(fields) {
				return end
			}
			if !digits.MatchString(text(i)) {
				return fields[i][0] + 1
			}
		}
		return fields[len(f.edges)+1][0] + 1
	}
	var numbers []string
	for i, edge := range f.edges {
		n, _ := strconv.Atoi(text(i + 1))
		if n < edge[0] || n > edge[1] {
			return fields[i+1][0] + 1
		}
		numbers = append(numbers, strconv.Itoa(n))
	}
	if !a.fresh(text(0), numbers) {
		return first
	}
	if text(0) == "kill" {
		a.kills = append(a.kills, spotAt(number, fields[1][0]+1))
		a.killed = append(a.killed, strings.Join(numbers, " "))
		a.words = append(a.words, spotAt(number, first))
	}
	return 0
}

// fresh tells whether such a line may still come.
func (a *another) fresh(word string, numbers []string) bool {
	switch word {
	case "gap", "radius":
		a.once[word]++
		return a.once[word] == 1
	case "kill", "pole":
		a.counts[word]++
		return a.counts[word] <= 200
	}
	here := strings.Join(numbers[:2], " ")
	a.seats[here]++
	return a.seats[here] == 1 && len(a.seats) <= 4096
}

// checkFormed holds all that is told of s against the other way, and the
// venue against what may be.
func checkFormed(t *testing.T, s string) {
	t.Helper()
	wantCode, wantSpot := expect(s)
	code, spot := parse.Check(s)
	if code != wantCode || spot != wantSpot {
		t.Fatalf("Check(%q): %d at %v, want %d at %v", s, code, spot, wantCode, wantSpot)
	}
	v, err := parse.Venue(s)
	if fault.Code(err) != code || fault.Spot(err) != spot {
		t.Fatalf("Venue(%q): %v, want %d at %v", s, err, code, spot)
	}
	if code != api.OK {
		if spot.Line < 1 || spot.Col < 1 || !venue.Same(v, api.Venue{}) {
			t.Fatalf("Venue(%q): %v, %+v", s, err, v)
		}
		return
	}
	if normal, ok := venue.Norm(v); !ok || !venue.May(v) || !venue.Same(v, normal) {
		t.Fatalf("Venue(%q) may not be: %+v", s, v)
	}
	if again, err := parse.Venue(written(v)); err != nil || !venue.Same(again, v) {
		t.Fatalf("%q, written out: %+v, %v", s, again, err)
	}
}

// written is v as a manifest.
func written(v api.Venue) string {
	kinds := []string{"seat", "wheel", "companion"}
	var b strings.Builder
	for _, k := range v.Kills {
		fmt.Fprintf(&b, "kill %d %d\n", v.Seats[k].Row, v.Seats[k].X)
	}
	for _, p := range v.Poles {
		fmt.Fprintf(&b, "pole %d %d %d\n", p.X, p.Y, p.R)
	}
	for _, s := range v.Seats {
		fmt.Fprintf(&b, "%s %d %d %d\n", kinds[s.Kind], s.Row, s.X, s.Y)
	}
	fmt.Fprintf(&b, "radius %d\ngap %d", v.Radius, v.Gap)
	return b.String()
}

// rows goes through all rows of at most n of the pieces.
func rows(n int, pieces []string, do func(string)) {
	var grow func(s string, left int)
	grow = func(s string, left int) {
		do(s)
		if left == 0 {
			return
		}
		for _, p := range pieces {
			grow(s+p, left-1)
		}
	}
	grow("", n)
}

func TestRowsOfLines(t *testing.T) {
	rows(4, []string{
		"\n", "gap 1\n", " gap 2 # x\n", "radius 0\n", "radius 3\n", "seat 0 0 0\n", "wheel 0 0 1\n",
		"seat 0 1 0\n", "kill 0 0\n", "kill 0 1 \n", "kill 0 2\n", "pole 0 0 1\n", "seat 0 0 1048577\n", "kill 0\n",
	}, func(s string) {
		checkFormed(t, s)
		checkFormed(t, strings.TrimSuffix(s, "\n"))
		checkFormed(t, "gap 3\nseat 0 2 0\n"+s)
		checkFormed(t, "companion 0 2 0\n"+s+"gap 3")
	})
}

func TestRowsOfTokens(t *testing.T) {
	rows(5, []string{
		"seat ", "kill ", "gap ", "pole ", "x ", "0 ", "-1 ", "1000 ", "\n", "# ", "? ",
	}, func(s string) {
		checkFormed(t, s)
		checkFormed(t, s+"0 0")
	})
}

func TestRowsOfBytes(t *testing.T) {
	rows(3, []string{"gap 1", "\nseat 0 0 0", "\n", "a", "5", "-", " ", "#", "?", "A", "\x00", "\xff", "é", "9999999999"}, func(s string) {
		checkFormed(t, s)
		checkFormed(t, "seat 0 0 0\ngap 1\n"+s)
		checkFormed(t, "seat 0 0 0\ngap 1"+s)
	})
}

// TestSpoiltBytes puts each of some bytes in the place of each byte of a
// manifest, and leaves each byte out.
func TestSpoiltBytes(t *testing.T) {
	s := "gap 5\nseat 0 -5 1\nwheel 0 0 1 # w\nkill 0 -5\nradius 3\ncompanion 7 5 1\npole 1 2 3\n\n kill 7 5"
	checkFormed(t, s)
	for i := range len(s) {
		checkFormed(t, s[:i])
		checkFormed(t, s[:i]+s[i+1:])
		for _, c := range []string{"\n", " ", "#", "-", "0", "7", "x", "?", "\n0", " 0 "} {
			checkFormed(t, s[:i]+c+s[i:])
			checkFormed(t, s[:i]+c+s[i+1:])
		}
	}
}

// TestAnyOrderOfLines reads one hall by all orders of its lines.
func TestAnyOrderOfLines(t *testing.T) {
	lines := []string{"gap 5", "radius 2", "seat 3 1 0", "wheel 0 4 0", "companion 0 -4 9", "kill 3 1", "kill 0 -4"}
	want, err := parse.Venue(strings.Join(lines, "\n"))
	if err != nil {
		t.Fatal(err)
	}
	var swap func(n int)
	swap = func(n int) {
		if n == 1 {
			if got, err := parse.Venue(strings.Join(lines, "\n")); err != nil || !venue.Same(got, want) {
				t.Fatalf("%q: %+v, %v", lines, got, err)
			}
			return
		}
		for i := range n {
			lines[i], lines[n-1] = lines[n-1], lines[i]
			swap(n - 1)
			lines[i], lines[n-1] = lines[n-1], lines[i]
		}
	}
	swap(len(lines))
}

func TestTheSameTwice(t *testing.T) {
	for _, s := range []string{"", "gap 1", "gap 1\nseat 0 0 0\nseat 0 1 0\nkill 0 1\nkill 0 0", "seat ?"} {
		a, err1 := parse.Venue(s)
		b, err2 := parse.Venue(s)
		if !venue.Same(a, b) || fault.Text(err1) != fault.Text(err2) {
			t.Errorf("%q: %+v, %v, then %+v, %v", s, a, err1, b, err2)
		}
	}
}

func FuzzVenue(f *testing.F) {
	f.Add("gap 5\nseat 0 -5 1\nwheel 0 0 1 # w\nkill 0 -5\nradius 3\npole 1 2 3")
	f.Fuzz(func(t *testing.T, s string) {
		if !strings.ContainsAny(s, "\t\r") { // the other way knows blanks alone
			checkFormed(t, s)
		}
	})
}
