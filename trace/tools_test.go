package trace_test

import (
	"math"
	"slices"
	"testing"

	"underwood/api"
	"underwood/heap"
	"underwood/trace"
	"underwood/twin"
)

// unused stands where a step does not use a number: if it were asked, it would be out of any range.
const unused = -1 << 40

// step answers a step of a kind, of the numbers that it uses alone, in the order R, A, I, B, N.
func step(kind int, numbers ...int) api.Step {
	x := api.Step{Kind: kind, R: unused, A: unused, B: unused, I: unused, N: unused}
	uses := max(heap.Uses(kind), 0)
	next := func(used bool, number *int) {
		if used {
			*number, numbers = numbers[0], numbers[1:]
		}
	}
	n := unused
	next(uses&1 != 0, &x.R)
	next(uses&2 != 0, &x.A)
	next(kind == api.SGet || kind == api.SSet, &x.I)
	next(uses&4 != 0, &x.B)
	next(kind == api.SInt || kind == api.SVector, &n)
	x.N = int64(n)
	return x
}

// answer is what Run tells of a script.
type answer struct {
	codes []int
	view  api.View
}

func (a answer) equal(b answer) bool {
	return slices.Equal(a.codes, b.codes) && twin.Same(a.view, b.view)
}

// run answers what Run tells, and holds that it tells no fault.
func run(t *testing.T, nursery, old int, l []api.Step) answer {
	t.Helper()
	codes, view, fault := trace.Run(nursery, old, l)
	if fault != (api.Fault{}) {
		t.Fatalf("Run(%d, %d, %v) has the fault %v", nursery, old, l, fault)
	}
	return answer{codes, view}
}

// byTwin answers what a twin tells of the same steps.
func byTwin(t *testing.T, nursery, old int, l []api.Step) answer {
	t.Helper()
	w, fault := twin.New(nursery, old)
	if fault != (api.Fault{}) {
		t.Fatalf("a twin of %d, %d has the fault %v", nursery, old, fault)
	}
	var codes []int
	for _, x := range l {
		code, fault := w.Do(x)
		if fault != (api.Fault{}) {
			t.Fatalf("the step %v has the fault %v", x, fault)
		}
		codes = append(codes, code)
	}
	return answer{codes, w.View()}
}

// wantFault holds that Run tells a fault, no codes, and an empty View.
func wantFault(t *testing.T, nursery, old int, l []api.Step, want api.Fault) {
	t.Helper()
	codes, view, fault := trace.Run(nursery, old, l)
	if fault != want || len(codes) != 0 || !twin.Same(view, api.View{}) {
		t.Errorf("Run(%d, %d, of %d steps) = %v, %v, %v; want %v alone", nursery, old, len(l), codes, view, fault, want)
	}
}

// cloneView answers a view like this one, in memory of its own.
func cloneView(v api.View) api.View {
	c := api.View{Roots: slices.Clone(v.Roots), Nodes: slices.Clone(v.Nodes)}
	for i, n := range c.Nodes {
		c.Nodes[i].Fields = slices.Clone(n.Fields)
	}
	return c
}

// source gives numbers, the same ones each time.
type source uint64

func (s *source) below(n int) int {
	*s = *s*6364136223846793005 + 1442695040888963407
	return int(uint64(*s)>>33) % n
}

// habit is how often a script asks for each kind of steps, by their numbers, and for numbers that there are not.
type habit struct {
	weights [17]int
	wrong   int // one of so many steps
}

// habits are of all kinds of steps.
func habits() []habit {
	return []habit{
		// Of all a bit.
		{[17]int{0, 2, 2, 3, 6, 4, 4, 4, 3, 4, 4, 6, 8, 2, 2, 1, 1}, 12},
		// Things that are kept, without cuts.
		{[17]int{0, 1, 1, 1, 9, 9, 2, 2, 1, 1, 1, 2, 20, 1, 1, 0, 0}, 40},
		// Guardians and what is lost.
		{[17]int{0, 1, 6, 2, 3, 2, 3, 3, 1, 12, 2, 3, 6, 1, 1, 2, 2}, 40},
		// Weak pairs and ephemerons, and many cuts.
		{[17]int{0, 1, 6, 2, 3, 1, 8, 12, 1, 1, 1, 6, 12, 1, 1, 4, 3}, 40},
	}
}

// plainHabits are of scripts without weak pairs, ephemerons and guardians: with many cuts, and with few.
func plainHabits() []habit {
	return []habit{
		{[17]int{0, 3, 6, 4, 8, 5, 0, 0, 0, 1, 1, 8, 10, 3, 3, 5, 4}, 12},
		{[17]int{0, 2, 12, 3, 12, 8, 0, 0, 0, 1, 1, 5, 12, 2, 2, 1, 1}, 40},
		{[17]int{0, 1, 3, 2, 20, 1, 0, 0, 0, 0, 0, 10, 4, 1, 1, 1, 0}, 40},
	}
}

func (h habit) kind(s *source) int {
	sum := 0
	for _, w := range h.weights {
		sum += w
	}
	n := s.below(sum)
	for kind, w := range h.weights {
		if n < w {
			return kind
		}
		n -= w
	}
	return 0
}

// any answers a step, mostly one that may be asked for. Guardians are made in the roots 0 and 1,
// and most other things elsewhere, so that steps that ask for a guardian find one.
func (h habit) any(s *source) api.Step {
	x := api.Step{Kind: h.kind(s), R: s.below(api.MaxRoots), A: s.below(api.MaxRoots), B: s.below(api.MaxRoots), I: s.below(2)}
	if s.below(20) != 0 {
		x.R = 2 + s.below(api.MaxRoots-2)
	}
	switch x.Kind {
	case api.SGuard:
		x.R = s.below(2)
	case api.SReg:
		x.B = s.below(2 + s.below(2))
	case api.SPop:
		x.A = s.below(2 + s.below(2))
	case api.SVector:
		x.N = int64([]int{s.below(4), s.below(4), s.below(api.MaxVector + 1)}[s.below(3)])
	case api.SInt:
		x.N = []int64{int64(s.below(9)), -api.MaxInt, api.MaxInt - 1}[s.below(3)]
	case api.SGet, api.SSet:
		x.I = s.below(2 + s.below(3))
	}
	if s.below(h.wrong) == 0 {
		spoil(&x, s)
	}
	return x
}

// spoil makes one number of a step one that there is not.
func spoil(x *api.Step, s *source) {
	n := []int{-1, api.MaxRoots, api.MaxRoots + 1, 1 << 32, math.MinInt, math.MaxInt}[s.below(6)]
	switch s.below(6) {
	case 0:
		x.R = n
	case 1:
		x.A = n
	case 2:
		x.B = n
	case 3:
		x.I = n
	case 4:
		x.N = int64(n)
	default:
		x.Kind = []int{0, 17, -1, math.MinInt, math.MaxInt, 1<<32 + 1}[s.below(6)]
	}
}

// script answers so many steps of a habit.
func (h habit) script(steps int, s *source) []api.Step {
	var l []api.Step
	for range steps {
		l = append(l, h.any(s))
	}
	return l
}
