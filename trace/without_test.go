package trace_test

import (
	"math"
	"slices"
	"testing"

	"underwood/api"
	"underwood/trace"
)

// Without: of scripts without cuts, of cuts alone, of both kinds among others, and of no step.
func TestWithout(t *testing.T) {
	a, b, c := step(api.SPair, 0, 1, 1), step(api.SNil, 0), step(api.SInt, 3, 14)
	minor, major := step(api.SMinor), step(api.SMajor)
	// A cut is one by its kind alone, whatever its other numbers are; a step is none by other numbers than its kind.
	other := api.Step{Kind: api.SMinor, R: 1, A: 2, B: 3, I: 4, N: 5}
	like := api.Step{Kind: api.SInt, R: api.SMinor, A: api.SMajor, B: api.SMinor, I: api.SMajor, N: api.SMinor}
	for _, x := range []struct{ script, want []api.Step }{
		{nil, nil},
		{[]api.Step{}, nil},
		{[]api.Step{minor}, nil},
		{[]api.Step{major}, nil},
		{[]api.Step{minor, major, other, minor, minor, major, major}, nil},
		{[]api.Step{a}, []api.Step{a}},
		{[]api.Step{a, b, c, b, a, a}, []api.Step{a, b, c, b, a, a}},
		{[]api.Step{minor, a}, []api.Step{a}},
		{[]api.Step{a, major}, []api.Step{a}},
		{[]api.Step{a, minor, b}, []api.Step{a, b}},
		{[]api.Step{major, a, minor, major, b, other, c, minor, c, major}, []api.Step{a, b, c, c}},
		{[]api.Step{like, major, like}, []api.Step{like, like}},
	} {
		if got := trace.Without(x.script); !slices.Equal(got, x.want) {
			t.Errorf("Without(%v) = %v, want %v", x.script, got, x.want)
		}
	}
}

// Without: each kind of steps but the cuts stays, and so do kinds that there are not, and steps that would be refused.
func TestWithoutLeavesAllOthers(t *testing.T) {
	kinds := []int{math.MinInt, -1 << 32, -16, -15, -1, 17, 18, 31, 32, 99, 1<<32 + 15, 1<<32 + 16, 1<<63 - 1}
	for kind := range api.SMinor {
		kinds = append(kinds, kind)
	}
	var l, want []api.Step
	for i, kind := range kinds {
		for _, n := range []int{0, 5, -1, math.MaxInt} {
			x := api.Step{Kind: kind, R: n, A: n, B: i, I: -i, N: int64(n)}
			if got := trace.Without([]api.Step{x}); !slices.Equal(got, []api.Step{x}) {
				t.Errorf("Without(%v alone) = %v", x, got)
			}
			l, want = append(l, step(api.SMajor), x, step(api.SMinor)), append(want, x)
		}
	}
	if got := trace.Without(l); !slices.Equal(got, want) {
		t.Errorf("Without(%v) = %v, want %v", l, got, want)
	}
}

// Without: scripts that are longer than those that may be run.
func TestWithoutOfManySteps(t *testing.T) {
	a := step(api.SNil, 0)
	l := slices.Repeat([]api.Step{step(api.SMinor), a, step(api.SMajor), a}, 50000)
	if got := trace.Without(l); !slices.Equal(got, slices.Repeat([]api.Step{a}, 100000)) {
		t.Errorf("Without answers %d steps", len(got))
	}
}

// Without: what is answered has no cut any more, so that it stays as it is; and it can be done part by part.
func TestWithoutAgain(t *testing.T) {
	s := source(4)
	for _, h := range append(habits(), plainHabits()...) {
		for range 20 {
			l := h.script(60, &s)
			rest := trace.Without(l)
			for _, x := range rest {
				if x.Kind == api.SMinor || x.Kind == api.SMajor {
					t.Fatalf("Without(%v) = %v", l, rest)
				}
			}
			n := s.below(len(l) + 1)
			if !slices.Equal(trace.Without(rest), rest) || !slices.Equal(slices.Concat(trace.Without(l[:n]), trace.Without(l[n:])), rest) {
				t.Fatalf("Without(%v) = %v, and is another one again, or part by part", l, rest)
			}
		}
	}
}

// What Without answers is memory of its own: what is written into it, behind its end, too, changes neither the script nor another answer.
func TestWithoutIsNewMemory(t *testing.T) {
	a, b := step(api.SNil, 1), step(api.SNil, 2)
	for _, l := range [][]api.Step{
		{a, b, a}, {a, b, step(api.SMinor)}, {step(api.SMajor), a, b}, {a, step(api.SMinor), step(api.SMajor), b},
		{step(api.SMinor)}, slices.Repeat([]api.Step{a, b, step(api.SMajor)}, 500),
	} {
		was := slices.Clone(l)
		first, second := trace.Without(l), trace.Without(l)
		secondWas := slices.Clone(second)
		for i := range first[:cap(first)] {
			first[:cap(first)][i] = step(99)
		}
		if !slices.Equal(l, was) || !slices.Equal(second, secondWas) || !slices.Equal(trace.Without(l), secondWas) {
			t.Errorf("what was written into an answer changed %v to %v, or another answer to %v", was, l, second)
		}
	}
}
