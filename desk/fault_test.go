package desk_test

import (
	"slices"
	"testing"

	"underwood/api"
	"underwood/desk"
)

// P12.1: MaxLines lines are done, to the last; of one more none is.
func TestManyLines(t *testing.T) {
	many := api.Fault{Code: api.ErrMany, At: -1}
	for _, fill := range []string{"", " ", "int 0 3", "pair 1 0 0", "x", "view x", "nil 12", "new 16 8", "minor"} {
		d := begun(t, "16 40", "int 0 3")
		lines := append(slices.Repeat([]string{fill}, api.MaxLines-1), "int 11 5")
		c := &clerk{}
		c.do([]string{"new 16 40", "int 0 3"})
		if told := do(t, d, lines...); told != c.do(lines) {
			t.Errorf("%d lines of %q told %q", len(lines), fill, told)
		}
		if got, want := do(t, d, "view"), c.do([]string{"view"}); got != want {
			t.Errorf("behind %d lines of %q: %q, want %q", len(lines), fill, got, want)
		}
		d = begun(t, "16 40", "int 0 3")
		wantFault(t, d, slices.Insert(slices.Clone(lines), 0, "int 9 9"), many)
		wantFault(t, d, append(slices.Clone(lines), "int 9 9"), many)
		wantFault(t, d, append(slices.Clone(lines), lines...), many)
	}
	// Where there was no twin there is none.
	d := desk.New()
	if told, fault := d.Do(slices.Repeat([]string{"new 16 8"}, api.MaxLines+1)); told != "" || fault != many {
		t.Errorf("too many new = %q, %v", told, fault)
	}
	wantTold(t, d, []string{"view"}, "what")
	// How many lines were done ahead does not matter.
	for range 3 {
		wantTold(t, d, slices.Repeat([]string{"x"}, api.MaxLines), slices.Repeat([]string{"what"}, api.MaxLines)...)
	}
}

// P12.1: a newline at a line's beginning, in its midst, at its end: ErrLine at the number of the first such line, and nothing is done.
func TestNewlines(t *testing.T) {
	d := begun(t, "16 40", "int 0 3")
	for _, bad := range []string{"\n", "\nint 1 4", "int\n1 4", "int 1\n4", "int 1 4\n", "int 1 4\nint 2 4", " \n", "\n ", "\n\n", "new 16 8\n", "view\n", "x\ny", "\r\n", "\xff\n", "new\n16 8"} {
		for _, n := range []int{1, 2, 3, 10, api.MaxLines} {
			for _, at := range []int{0, 1, n / 2, n - 2, n - 1} {
				if at < 0 || at >= n {
					continue
				}
				lines := slices.Repeat([]string{"int 5 5"}, n)
				lines[at] = bad
				wantFault(t, d, lines, api.Fault{Code: api.ErrLine, At: at})
				// Others behind it are not told of.
				for i := at + 1; i < n; i += 1 + n/4 {
					lines[i] = "a\nb"
				}
				wantFault(t, d, lines, api.Fault{Code: api.ErrLine, At: at})
			}
		}
	}
	// A new ahead of it is not done, neither one that would be refused.
	wantFault(t, d, []string{"new 16 8", "\n"}, api.Fault{Code: api.ErrLine, At: 1})
	wantFault(t, d, []string{"new 1 1", "", "minor\n"}, api.Fault{Code: api.ErrLine, At: 2})
	none := desk.New()
	if told, fault := none.Do([]string{"new 16 8", "view", "x\n"}); told != "" || fault != (api.Fault{Code: api.ErrLine, At: 2}) {
		t.Errorf("%q, %v", told, fault)
	}
	wantTold(t, none, []string{"view"}, "what")
}

// P12.1: of both faults ErrMany is told.
func TestManyAndNewlines(t *testing.T) {
	d := begun(t, "16 40", "int 0 3")
	for _, at := range []int{0, 1, api.MaxLines - 1, api.MaxLines} {
		lines := make([]string, api.MaxLines+1)
		lines[at] = "a\nb"
		wantFault(t, d, lines, api.Fault{Code: api.ErrMany, At: -1})
		if at < api.MaxLines {
			wantFault(t, d, lines[:api.MaxLines], api.Fault{Code: api.ErrLine, At: at})
		}
	}
	wantFault(t, d, slices.Repeat([]string{"\n"}, api.MaxLines+1), api.Fault{Code: api.ErrMany, At: -1})
	wantFault(t, d, slices.Repeat([]string{"\n"}, api.MaxLines), api.Fault{Code: api.ErrLine, At: 0})
}

// P12.1: a desk that had a fault goes on as if it had not been asked.
func TestFaultsBetween(t *testing.T) {
	d := desk.New()
	c := &clerk{}
	s := source(5)
	for range 60 {
		lines := someLines(&s, 1+s.below(12))
		if s.below(2) == 0 {
			bad := slices.Clone(lines)
			at := s.below(len(bad))
			bad[at] += "\n"
			if told, fault := d.Do(bad); told != "" || fault != (api.Fault{Code: api.ErrLine, At: at}) {
				t.Fatalf("Do(%q) = %q, %v", bad, told, fault)
			}
		}
		if got, want := do(t, d, lines...), c.do(lines); got != want {
			t.Fatalf("Do(%q) = %q, want %q", lines, got, want)
		}
	}
}
