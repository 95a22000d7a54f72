package desk_test

import (
	"fmt"
	"slices"
	"strings"
	"testing"

	"underwood/api"
	"underwood/desk"
)

// numberText answers a number, mostly a small one; seldom one that is none.
func numberText(s *source) string {
	switch n := s.below(60); {
	case n < 30:
		return fmt.Sprint(s.below(3))
	case n < 50:
		return fmt.Sprint(s.below(12))
	case n < 56:
		return fmt.Sprint(s.below(16) - 2)
	case n < 57:
		return s.one("-9223372036854775808", "9223372036854775807", "1152921504606846975", "-1152921504606846976", "1152921504606846976", "4294967297")
	case n < 58:
		return s.one("+1", "-0", "007", "1_0", "0x1", "9223372036854775808", "x", "1.0", "#0", "\xb2", "1\t")
	}
	return fmt.Sprint(s.below(40))
}

// stepLine answers a line of a step, seldom with too many numbers or too few.
func stepLine(s *source) []string {
	form := forms()[s.below(16)]
	words := []string{form[0]}
	for _, name := range form[1] {
		n := numberText(s)
		// Guardians are made in the root 0, mostly, and other things elsewhere, so that steps that ask for one find one.
		switch toGuard := form[0] == "guard" || form[0] == "reg" && name == 'B' || form[0] == "pop" && name == 'A'; {
		case toGuard && s.below(5) > 0:
			n = "0"
		case name == 'R' && form[0] != "guard" && s.below(20) > 0:
			n = fmt.Sprint(1 + s.below(5))
		}
		words = append(words, n)
	}
	if s.below(40) == 0 {
		words = append(words, s.one(numberText(s), "x", "view"))
	}
	if len(words) > 1 && s.below(40) == 0 {
		words = words[:len(words)-1]
	}
	return words
}

// someLine answers a line.
func someLine(s *source) string {
	var words []string
	switch n := s.below(200); {
	case n < 150:
		words = stepLine(s)
	case n < 180:
		words = []string{"view"}
	case n < 183:
		words = []string{"new", s.one("16", "32", "20", "256"), s.one("0", "16", "40", "1024")}
	case n < 184:
		words = []string{"new", s.one("16", "15", "257", "x"), s.one("0", "-1", "1025", "+1")}
	case n < 188:
		words = []string{s.one("what", "x", "New", "\t", "\xff", "ok", "views", "\u00a0", "view\r")}
	case n < 191:
		words = []string{"view", s.one("0", "x", "view")}
	case n < 194:
		words = nil
	default:
		words = []string{s.one("minor", "major")}
	}
	line := strings.Join(words, s.one(" ", " ", " ", "  ", "    "))
	return s.one("", "", "", " ", "   ") + line + s.one("", "", "", " ", "  ")
}

func someLines(s *source, n int) []string {
	var lines []string
	for range n {
		lines = append(lines, someLine(s))
	}
	return lines
}

// P12.1: long scripts tell what a twin tells that is asked otherwise; and they come by all that may be told.
func TestScripts(t *testing.T) {
	s := source(7)
	seen := map[string]int{}
	for range 60 {
		d, c := desk.New(), &clerk{}
		for range 6 {
			lines := someLines(&s, s.below(api.MaxLines+1))
			if s.below(4) > 0 {
				lines = append([]string{"new 24 60"}, lines[:max(len(lines)-1, 0)]...)
			}
			got, want := do(t, d, lines...), c.do(lines)
			if got != want {
				t.Fatalf("Do(%q) = %q, want %q", lines, got, want)
			}
			for _, w := range strings.Fields(got) {
				seen[strings.TrimRight(w, "0123456789")]++
			}
			for _, told := range strings.Split(got, "\n") {
				if strings.HasPrefix(told, "no ") {
					seen[told]++
				}
			}
		}
	}
	for _, w := range []string{"what", "ok", "no 1", "no 2", "no 3", "no 4", "roots", "used", "nil", "gone", "#", "-", "pair", "vector", "weak", "ephem", "guard"} {
		if seen[w] < 20 {
			t.Errorf("%q was told %d times", w, seen[w])
		}
	}
}

// What follows: what two Do tell one behind the other one Do of both tells, wherever the lines are parted.
func TestTwoAreOne(t *testing.T) {
	s := source(17)
	for range 12 {
		lines := append([]string{"new 16 40"}, someLines(&s, 120)...)
		whole := desk.New()
		want := do(t, whole, lines...)
		for at := range len(lines) + 1 {
			d := desk.New()
			if got := do(t, d, lines[:at]...) + do(t, d, lines[at:]...); got != want {
				t.Fatalf("parted at %d %q told %q, want %q", at, lines, got, want)
			}
			if got, want := do(t, d, "view"), do(t, whole, "view"); got != want {
				t.Fatalf("parted at %d %q came to %q, want %q", at, lines, got, want)
			}
		}
		d, got := desk.New(), ""
		for _, line := range lines {
			got += do(t, d, line)
		}
		if got != want {
			t.Fatalf("line by line %q told %q, want %q", lines, got, want)
		}
	}
}

// P1: two desks know nothing of each other, asked by turns or at the same time.
func TestDesksAreApart(t *testing.T) {
	s := source(27)
	var scripts [][]string
	var want []string
	var desks []*desk.Desk
	for range 8 {
		lines := append([]string{"new 16 40"}, someLines(&s, 200)...)
		scripts, want, desks = append(scripts, lines), append(want, (&clerk{}).do(lines)), append(desks, desk.New())
	}
	got := make([]string, len(desks))
	for at := range 201 {
		for i, d := range desks {
			got[i] += do(t, d, scripts[i][at])
			if s.below(10) == 0 {
				desk.New().Do([]string{"new 16 8", "int 0 1", scripts[i][at], "new 1 1"})
			}
		}
	}
	if !slices.Equal(got, want) {
		t.Error("desks that were asked by turns told other things")
	}
	same := make(chan bool)
	for i, lines := range scripts {
		go func() {
			told, fault := desk.New().Do(lines)
			same <- told == want[i] && fault == (api.Fault{})
		}()
	}
	for range scripts {
		if !<-same {
			t.Error("desks that were asked at the same time told other things")
		}
	}
}

// P1: a new desk has no twin, whatever was done with another one.
func TestNewDesksHaveNoTwin(t *testing.T) {
	for range 3 {
		d := desk.New()
		wantTold(t, d, []string{"view", "nil 0", "new 16 8", "view"}, "what", "what", "ok", roots(), "used 0 0")
	}
}

// Lines that were handed in are neither changed nor kept; what lies behind their end is neither read nor changed.
func TestLinesStay(t *testing.T) {
	s := source(37)
	for range 20 {
		memory := append([]string{"new 16 40"}, someLines(&s, 60)...)
		memory = append(memory, "x\n")
		was := slices.Clone(memory)
		for _, n := range []int{0, 1, 30, 60, 61} {
			d, c := desk.New(), &clerk{}
			told := do(t, d, memory[:n]...)
			if !slices.Equal(memory, was) {
				t.Fatalf("lines were changed from %q to %q", was, memory)
			}
			for i := range memory {
				memory[i] = "new 16 8"
			}
			if want := c.do(was[:n]); told != want || do(t, d, "view") != c.do([]string{"view"}) {
				t.Fatalf("Do(%q) = %q, want %q", was[:n], told, want)
			}
			copy(memory, was)
		}
		// With faults neither.
		d := begun(t, "16 8")
		wantFault(t, d, memory, api.Fault{Code: api.ErrLine, At: 61})
		wantFault(t, d, append(memory, make([]string, api.MaxLines)...), api.Fault{Code: api.ErrMany, At: -1})
		if !slices.Equal(memory, was) {
			t.Fatalf("lines were changed from %q to %q", was, memory)
		}
	}
}

// P1: lines of any bytes, and of pieces of lines: each call ends, and tells what it is to tell.
func TestAnyLines(t *testing.T) {
	s := source(47)
	pieces := []string{"new", "view", "int", "pair", "nil", "guard", "reg", "set", "get", "16", "8", "0", "1", "-1", "00", " ", " ", " ", "  ", "\t", "\xff", "x", "9223372036854775808", "\u00a0"}
	for range 3000 {
		var lines []string
		for range s.below(8) {
			line := ""
			for range s.below(10) {
				if s.below(4) == 0 {
					line += string([]byte{byte(s.below(256))})
				} else {
					line += pieces[s.below(len(pieces))]
				}
			}
			lines = append(lines, line)
		}
		d := begun(t, "16 8", "int 0 1")
		c := &clerk{}
		c.do([]string{"new 16 8", "int 0 1"})
		at := slices.IndexFunc(lines, func(line string) bool { return strings.Contains(line, "\n") })
		if at >= 0 {
			wantFault(t, d, lines, api.Fault{Code: api.ErrLine, At: at})
			continue
		}
		if got, want := do(t, d, lines...), c.do(lines); got != want {
			t.Fatalf("Do(%q) = %q, want %q", lines, got, want)
		}
	}
}
