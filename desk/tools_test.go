package desk_test

import (
	"strings"
	"testing"

	"underwood/api"
	"underwood/desk"
)

// do answers what lines tell, and holds that they have no fault.
func do(t *testing.T, d *desk.Desk, lines ...string) string {
	t.Helper()
	told, fault := d.Do(lines)
	if fault != (api.Fault{}) {
		t.Fatalf("Do(%q) has the fault %v", lines, fault)
	}
	return told
}

// wantTold holds what lines tell: each thing of the list, ended by a newline.
func wantTold(t *testing.T, d *desk.Desk, lines []string, want ...string) {
	t.Helper()
	if got := do(t, d, lines...); got != text(want...) {
		t.Errorf("Do(%q) = %q, want %q", lines, got, text(want...))
	}
}

// wantFault holds that lines have a fault, that nothing is told with it, and that nothing was done.
func wantFault(t *testing.T, d *desk.Desk, lines []string, want api.Fault) {
	t.Helper()
	ahead := do(t, d, "view")
	told, fault := d.Do(lines)
	if told != "" || fault != want {
		t.Errorf("Do(of %d lines) = %q, %v, want %v alone", len(lines), told, fault, want)
	}
	if behind := do(t, d, "view"); behind != ahead {
		t.Errorf("with the fault %v the view changed from %q to %q", fault, ahead, behind)
	}
}

// text answers things that are told, each ended by a newline.
func text(told ...string) string {
	var s strings.Builder
	for _, x := range told {
		s.WriteString(x + "\n")
	}
	return s.String()
}

// roots answers what is told of roots that are these, and nothing in all others.
func roots(values ...string) string {
	for len(values) < 12 {
		values = append(values, "nil")
	}
	return "roots " + strings.Join(values, " ")
}

// begun answers a desk with a twin of such spaces, behind lines each of which tells ok.
func begun(t *testing.T, spaces string, lines ...string) *desk.Desk {
	t.Helper()
	d := desk.New()
	all := append([]string{"new " + spaces}, lines...)
	for i, told := range strings.Split(strings.TrimSuffix(do(t, d, all...), "\n"), "\n") {
		if told != "ok" {
			t.Fatalf("the line %q told %q", all[i], told)
		}
	}
	return d
}

// forms are the steps' words, in the order of their kinds, and the numbers that each has.
func forms() [][2]string {
	return [][2]string{
		{"int", "RN"}, {"nil", "R"}, {"move", "RA"}, {"pair", "RAB"}, {"vector", "RAN"}, {"weak", "RAB"}, {"ephem", "RAB"}, {"guard", "R"},
		{"reg", "AB"}, {"pop", "RA"}, {"get", "RAI"}, {"set", "AIB"}, {"len", "RA"}, {"same", "RAB"}, {"minor", ""}, {"major", ""},
	}
}

// source gives numbers, the same ones each time.
type source uint64

func (s *source) below(n int) int {
	*s = *s*6364136223846793005 + 1442695040888963407
	return int(uint64(*s)>>33) % n
}

func (s *source) one(of ...string) string { return of[s.below(len(of))] }
