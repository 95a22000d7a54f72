package desk_test

import (
	"fmt"
	"slices"
	"strings"
	"testing"

	"underwood/api"
	"underwood/desk"
)

// P12.1: new with spaces at the bounds of both, and one beside each.
func TestNew(t *testing.T) {
	for _, nursery := range []int{-1, 0, 15, 16, 17, 255, 256, 257, 1 << 40, -1 << 63, 1<<63 - 1} {
		for _, old := range []int{-1, 0, 1, 1023, 1024, 1025, 1 << 40, -1 << 63, 1<<63 - 1} {
			line := fmt.Sprint("new ", nursery, " ", old)
			d, had := desk.New(), begun(t, "16 8", "int 0 7")
			if nursery >= 16 && nursery <= 256 && old >= 0 && old <= 1024 {
				wantTold(t, d, []string{line, "view"}, "ok", roots(), "used 0 0")
				wantTold(t, had, []string{line, "view"}, "ok", roots(), "used 0 0")
			} else {
				wantTold(t, d, []string{line, "view", "nil 0"}, "no 1", "what", "what")
				wantTold(t, had, []string{line, "view", "nil 0"}, "no 1", "what", "what")
				wantTold(t, had, []string{"new 16 8", "view"}, "ok", roots(), "used 0 0")
			}
		}
	}
}

// P12.1: the spaces are just so great, and which number is which: how many words things of a chain come to tells that.
func TestNewHasJustSuchSpaces(t *testing.T) {
	for _, x := range []struct {
		spaces string
		made   int
	}{{"16 0", 8}, {"16 15", 8}, {"16 16", 16}, {"16 31", 16}, {"16 32", 24}, {"17 16", 16}, {"18 17", 9}, {"18 18", 18}, {"256 255", 128}, {"256 256", 256}, {"256 0", 128}} {
		d := begun(t, x.spaces)
		for i, told := range strings.Split(do(t, d, slices.Repeat([]string{"vector 0 0 1"}, 290)...), "\n")[:290] {
			if want := map[bool]string{true: "ok", false: "no 3"}[i < x.made]; told != want {
				t.Errorf("in %s the vector %d told %q", x.spaces, i, told)
				break
			}
		}
	}
}

// P12.1: new with too few and too many numbers is none, and leaves what there is.
func TestNewWithOtherNumbers(t *testing.T) {
	d := begun(t, "16 8", "int 0 7")
	for _, line := range []string{"new", "new 16", "new 16 8 8", "new 16 8 0 0", "new 1 1 1", "new 16 8 x", "new 16 8 new 16 8", "new new 16 8"} {
		wantWhat(t, d, line)
		wantTold(t, desk.New(), []string{line, "view"}, "what", "what")
	}
}

// P12.1: a new twin knows nothing of one that there was.
func TestNewAgain(t *testing.T) {
	d := begun(t, "16 40", "guard 0", "pair 1 1 1", "reg 1 0", "nil 1", "major", "int 2 5")
	wantTold(t, d, []string{"view", "new 16 8", "view", "guard 0", "pop 1 0", "view"},
		roots("#0", "nil", "5"), "#0 guard #1", "#1 pair nil nil", "used 0 4", "ok", roots(), "used 0 0", "ok", "no 4", roots("#0"), "#0 guard", "used 1 0")
}

// P12.1: each step's word with its numbers in their order. Each number is another one, so that an order that is another one shows.
func TestSteps(t *testing.T) {
	ahead := []string{"int 0 10", "int 1 11", "int 2 12", "int 3 13"}
	for _, x := range []struct {
		more []string // lines ahead, behind those above
		line string
		want []string
	}{
		{nil, "int 3 2", []string{roots("10", "11", "12", "2"), "used 0 0"}},
		{nil, "int 2 3", []string{roots("10", "11", "3", "13"), "used 0 0"}},
		{nil, "int 1 -1152921504606846976", []string{roots("10", "-1152921504606846976", "12", "13"), "used 0 0"}},
		{nil, "int 11 1152921504606846975", []string{roots("10", "11", "12", "13", "nil", "nil", "nil", "nil", "nil", "nil", "nil", "1152921504606846975"), "used 0 0"}},
		{nil, "nil 1", []string{roots("10", "nil", "12", "13"), "used 0 0"}},
		{nil, "move 1 2", []string{roots("10", "12", "12", "13"), "used 0 0"}},
		{nil, "move 2 1", []string{roots("10", "11", "11", "13"), "used 0 0"}},
		{nil, "pair 0 1 2", []string{roots("#0", "11", "12", "13"), "#0 pair 11 12", "used 3 0"}},
		{nil, "pair 2 1 0", []string{roots("10", "11", "#0", "13"), "#0 pair 11 10", "used 3 0"}},
		{nil, "vector 0 1 2", []string{roots("#0", "11", "12", "13"), "#0 vector 11 11", "used 3 0"}},
		{nil, "vector 1 2 0", []string{roots("10", "#0", "12", "13"), "#0 vector", "used 1 0"}},
		{nil, "vector 2 3 12", []string{roots("10", "11", "#0", "13"), "#0 vector 13 13 13 13 13 13 13 13 13 13 13 13", "used 13 0"}},
		{nil, "weak 1 3 2", []string{roots("10", "#0", "12", "13"), "#0 weak 13 12", "used 3 0"}},
		{nil, "ephem 3 2 0", []string{roots("10", "11", "12", "#0"), "#0 ephem 12 10", "used 3 0"}},
		{nil, "guard 2", []string{roots("10", "11", "#0", "13"), "#0 guard", "used 1 0"}},
		{[]string{"pair 0 2 3", "guard 1", "reg 0 1", "nil 0", "major"}, "pop 3 1", []string{roots("nil", "#0", "12", "#1"), "#0 guard", "#1 pair 12 13", "used 0 4"}},
		{[]string{"pair 0 2 3", "guard 1"}, "reg 0 1", []string{roots("#0", "#1", "12", "13"), "#0 pair 12 13", "#1 guard", "used 4 0"}},
		{[]string{"pair 1 2 3"}, "get 0 1 1", []string{roots("13", "#0", "12", "13"), "#0 pair 12 13", "used 3 0"}},
		{[]string{"pair 1 2 3"}, "get 2 1 0", []string{roots("10", "#0", "12", "13"), "#0 pair 12 13", "used 3 0"}},
		{[]string{"vector 2 3 4", "set 2 3 1"}, "get 0 2 3", []string{roots("11", "11", "#0", "13"), "#0 vector 13 13 13 11", "used 5 0"}},
		{[]string{"pair 1 2 3"}, "set 1 0 3", []string{roots("10", "#0", "12", "13"), "#0 pair 13 13", "used 3 0"}},
		{[]string{"vector 0 1 4"}, "set 0 1 2", []string{roots("#0", "11", "12", "13"), "#0 vector 11 12 11 11", "used 5 0"}},
		{[]string{"vector 0 1 4"}, "set 0 2 1", []string{roots("#0", "11", "12", "13"), "#0 vector 11 11 11 11", "used 5 0"}},
		{[]string{"vector 0 1 4"}, "len 2 0", []string{roots("#0", "11", "4", "13"), "#0 vector 11 11 11 11", "used 5 0"}},
		{nil, "same 0 1 2", []string{roots("0", "11", "12", "13"), "used 0 0"}},
		{[]string{"int 3 12"}, "same 1 3 2", []string{roots("10", "1", "12", "12"), "used 0 0"}},
		{[]string{"pair 0 1 2"}, "minor", []string{roots("#0", "11", "12", "13"), "#0 pair 11 12", "used 0 3"}},
		{[]string{"pair 0 1 2", "minor", "nil 0", "pair 1 1 2"}, "minor", []string{roots("nil", "#0", "12", "13"), "#0 pair 11 12", "used 0 6"}},
		{[]string{"pair 0 1 2", "minor", "nil 0", "pair 1 1 2"}, "major", []string{roots("nil", "#0", "12", "13"), "#0 pair 11 12", "used 0 3"}},
	} {
		d := begun(t, "16 20", append(slices.Clone(ahead), x.more...)...)
		wantTold(t, d, []string{x.line, "view"}, append([]string{"ok"}, x.want...)...)
	}
}

// P12.1: what a thing is registered for shows when it is lost, and which of the two is the guardian.
func TestRegIsOfAThingAndAGuardian(t *testing.T) {
	d := begun(t, "16 20", "guard 0", "guard 1", "reg 0 1", "nil 0", "major")
	wantTold(t, d, []string{"view", "pop 2 1", "view"}, roots("nil", "#0"), "#0 guard #1", "#1 guard", "used 0 2", "ok", roots("nil", "#0", "#1"), "#0 guard", "#1 guard", "used 0 2")
}

// P12.1: each step's word with too few numbers and with too many, up to what no line has, is none.
func TestStepsWithOtherNumbers(t *testing.T) {
	d := begun(t, "64 64", "int 0 1", "guard 1", "vector 2 0 3", "pair 3 0 0", "reg 2 1", "nil 2", "major")
	for _, form := range forms() {
		for n := range 9 {
			line := form[0] + strings.Repeat(" 1", n)
			if n != len(form[1]) {
				wantWhat(t, d, line)
				continue
			}
			if told := do(t, begun(t, "64 64"), line); told == "what\n" {
				t.Errorf("the line %q told what", line)
			}
			wantWhat(t, d, line+" x")
			wantWhat(t, d, line+" view")
			wantWhat(t, d, line+" "+line)
		}
	}
}

// P12.1: the code of steps that are refused, of each kind each one, and that they change nothing.
func TestRefusedSteps(t *testing.T) {
	// The root 0 is a number, 1 nothing, 2 a guardian, 3 a pair, 4 a weak pair that lost what it led to, 5 what is gone.
	lines := []string{"int 0 7", "guard 2", "pair 3 0 0", "pair 5 1 1", "weak 4 5 5", "nil 5", "set 4 1 5", "minor", "get 5 4 0"}
	for _, x := range []struct {
		code  int
		lines []string
	}{
		{api.ErrRange, []string{
			"int 12 0", "int -1 0", "int 0 1152921504606846976", "int 0 -1152921504606846977", "nil 12", "nil -1", "move 12 0", "move 0 12", "pair 12 0 0", "pair 0 -1 0",
			"pair 0 0 12", "vector 12 0 0", "vector 0 12 0", "vector 0 0 -1", "vector 0 0 13", "weak 12 0 0", "weak 0 12 0", "weak 0 0 -1", "ephem -1 0 0", "ephem 0 12 0",
			"ephem 0 0 12", "guard 12", "guard -1", "reg 12 2", "reg 3 12", "pop 12 2", "pop 0 12", "get 12 3 0", "get 0 12 0", "get 0 3 2", "get 0 3 -1", "get 0 4 2",
			"set 12 0 0", "set 3 0 12", "set 3 2 0", "set 3 -1 0", "len 12 3", "len 0 -1", "same 12 0 0", "same 0 12 0", "same 0 0 12",
		}},
		{api.ErrKind, []string{
			"reg 0 2", "reg 1 2", "reg 5 2", "reg 3 3", "reg 3 0", "reg 3 1", "reg 3 5", "pop 0 3", "pop 0 0", "pop 0 1", "pop 0 5", "get 0 0 0", "get 0 1 0",
			"get 0 2 0", "get 0 5 0", "set 0 0 0", "set 1 0 0", "set 2 0 0", "set 5 0 0", "len 0 0", "len 0 1", "len 0 2", "len 0 5",
		}},
		{api.ErrNone, []string{"pop 0 2"}},
	} {
		for _, line := range x.lines {
			d := begun(t, "16 20", lines...)
			view := strings.Split(strings.TrimSuffix(do(t, d, "view"), "\n"), "\n")
			wantTold(t, d, []string{line, "view"}, append([]string{fmt.Sprint("no ", x.code)}, view...)...)
		}
	}
}

// P12.1: ErrFull of what has no room, of cuts, and of what cannot be registered any more.
func TestFull(t *testing.T) {
	d := begun(t, "16 0", "vector 0 1 12", "guard 1", "vector 2 1 1")
	view := strings.Split(strings.TrimSuffix(do(t, d, "view"), "\n"), "\n")
	wantTold(t, d, []string{"pair 3 0 0", "vector 3 0 1", "weak 3 0 0", "ephem 3 0 0", "guard 3", "minor", "major", "view"},
		append(slices.Repeat([]string{"no 3"}, 7), view...)...)
	wantTold(t, d, slices.Repeat([]string{"reg 0 1"}, 26), append(slices.Repeat([]string{"ok"}, 24), "no 3", "no 3")...)
}
