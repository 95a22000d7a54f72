package desk_test

import (
	"fmt"
	"strings"
	"testing"
)

// P12.1: view behind each kind of thing, of each kind of value.
func TestView(t *testing.T) {
	for _, x := range []struct {
		name  string
		lines []string
		want  []string
	}{
		{"nothing", nil, []string{roots(), "used 0 0"}},
		{"numbers", []string{"int 0 0", "int 1 -1", "int 2 1152921504606846975", "int 3 -1152921504606846976", "int 11 42"},
			[]string{roots("0", "-1", "1152921504606846975", "-1152921504606846976", "nil", "nil", "nil", "nil", "nil", "nil", "nil", "42"), "used 0 0"}},
		{"a pair", []string{"int 0 -5", "pair 1 0 2"}, []string{roots("-5", "#0"), "#0 pair -5 nil", "used 3 0"}},
		{"a pair that is old", []string{"int 0 -5", "pair 1 0 2", "minor"}, []string{roots("-5", "#0"), "#0 pair -5 nil", "used 0 3"}},
		{"vectors", []string{"vector 0 1 0", "vector 1 0 1", "int 2 9", "vector 2 2 12"},
			[]string{roots("#0", "#1", "#2"), "#0 vector", "#1 vector #0", "#2 vector 9 9 9 9 9 9 9 9 9 9 9 9", "used 16 0"}},
		{"a weak pair", []string{"pair 0 1 1", "weak 1 0 0"}, []string{roots("#0", "#1"), "#0 pair nil nil", "#1 weak #0 #0", "used 6 0"}},
		{"a weak pair that lost", []string{"int 5 3", "pair 0 5 5", "weak 1 0 5", "nil 0", "minor", "get 2 1 0"},
			[]string{roots("nil", "#0", "gone", "nil", "nil", "3"), "#0 weak gone 3", "used 0 3"}},
		{"what is gone, in a pair and in a vector", []string{"pair 0 5 5", "weak 1 0 5", "nil 0", "minor", "get 2 1 0", "pair 3 2 2", "vector 4 2 2"},
			[]string{roots("nil", "#0", "gone", "#1", "#2"), "#0 weak gone nil", "#1 pair gone gone", "#2 vector gone gone", "used 6 3"}},
		{"an ephemeron", []string{"pair 0 5 5", "int 1 8", "ephem 2 0 1"}, []string{roots("#0", "8", "#1"), "#0 pair nil nil", "#1 ephem #0 8", "used 6 0"}},
		{"an ephemeron that is broken", []string{"pair 0 5 5", "int 1 8", "ephem 2 0 1", "nil 0", "major"}, []string{roots("nil", "8", "#0"), "#0 ephem gone gone", "used 0 3"}},
		{"a guardian", []string{"guard 4"}, []string{roots("nil", "nil", "nil", "nil", "#0"), "#0 guard", "used 1 0"}},
		{"what is registered is not shown", []string{"guard 4", "pair 5 0 0", "reg 5 4", "nil 5"}, []string{roots("nil", "nil", "nil", "nil", "#0"), "#0 guard", "used 4 0"}},
		{"what waits at a guardian", []string{"guard 0", "int 1 4", "pair 2 1 0", "vector 3 2 1", "reg 3 0", "reg 2 0", "reg 3 0", "nil 2", "nil 3", "minor"},
			[]string{roots("#0", "4"), "#0 guard #1 #2 #1", "#1 vector #2", "#2 pair 4 #0", "used 0 6"}},
		{"a thing that leads to itself", []string{"pair 0 1 1", "set 0 0 0", "set 0 1 0"}, []string{roots("#0"), "#0 pair #0 #0", "used 3 0"}},
		{"nodes that lead to each other", []string{"vector 0 5 3", "weak 1 0 0", "ephem 2 1 0", "set 0 0 2", "set 0 2 1"},
			[]string{roots("#0", "#2", "#1"), "#0 vector #1 nil #2", "#1 ephem #2 #0", "#2 weak #0 #0", "used 10 0"}},
		{"roots that lead to the same", []string{"guard 11", "move 3 11", "move 7 11"},
			[]string{"roots nil nil nil #0 nil nil nil #0 nil nil nil #0", "#0 guard", "used 1 0"}},
		{"what is lost is not shown, but in use", []string{"pair 0 1 1", "nil 0"}, []string{roots(), "used 3 0"}},
	} {
		t.Run(x.name, func(t *testing.T) {
			d := begun(t, "16 20", x.lines...)
			wantTold(t, d, []string{"view", "view"}, append(append([]string{}, x.want...), x.want...)...)
		})
	}
}

// P12.1: view with words behind it is none; with words ahead neither.
func TestViewWithWords(t *testing.T) {
	d := begun(t, "16 20", "int 0 5")
	for _, line := range []string{"view x", "view 0", "view 1 2", "view 1 2 3", "view 1 2 3 4 5", "view view", "view roots", "view -0", "view #0", "0 view", "x view"} {
		wantWhat(t, d, line)
	}
	wantTold(t, d, []string{" view", "view ", "  view  "}, roots("5"), "used 0 0", roots("5"), "used 0 0", roots("5"), "used 0 0")
}

// P12.1: of each node a line, however many there are: a chain through both spaces at their greatest.
func TestViewOfManyNodes(t *testing.T) {
	d := begun(t, "256 1024")
	const made = 640
	for range made / 16 {
		do(t, d, "vector 0 0 1", "vector 0 0 1", "vector 0 0 1", "vector 0 0 1", "vector 0 0 1", "vector 0 0 1", "vector 0 0 1", "vector 0 0 1",
			"vector 0 0 1", "vector 0 0 1", "vector 0 0 1", "vector 0 0 1", "vector 0 0 1", "vector 0 0 1", "vector 0 0 1", "vector 0 0 1")
	}
	want := []string{roots("#0")}
	for i := range made - 1 {
		want = append(want, fmt.Sprintf("#%d vector #%d", i, i+1))
	}
	want = append(want, fmt.Sprintf("#%d vector nil", made-1), "used 256 1024")
	wantTold(t, d, []string{"view"}, want...)
	view := text(want...)
	lines := strings.Split(strings.Repeat("view ", 300), " ")[:300]
	if told := do(t, d, lines...); told != strings.Repeat(view, 300) {
		t.Errorf("300 views told %d bytes, want %d", len(told), 300*len(view))
	}
}
