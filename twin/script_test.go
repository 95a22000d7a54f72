package twin_test

import (
	"math"
	"slices"
	"testing"

	"underwood/api"
	"underwood/twin"
)

// seen counts what scripts came by: codes by kinds of steps, and more.
type seen struct {
	codes        map[[2]int]int
	small, great int // cuts that were made for room, or asked for
	gone, waits  int
}

// note counts what is shown, and what cut was made: by one all that was young is old, and by the great one alone old things go.
func (s *seen) note(x api.Step, ahead, behind state) {
	for _, n := range behind.view.Nodes {
		if n.Kind == api.KGuard && len(n.Fields) > 0 {
			s.waits++
		}
		if slices.Contains(n.Fields, gone()) {
			s.gone++
		}
	}
	switch {
	case behind.old < ahead.old:
		s.great++
	case behind.young < ahead.young && x.Kind != api.SMajor:
		s.small++
	}
}

// habit is how often a script asks for each kind of steps, by their numbers, and for numbers that there are not.
type habit struct {
	weights [17]int
	wrong   int // one of so many steps
}

func habits() []habit {
	return []habit{
		// Of all a bit, cuts seldom.
		{[17]int{0, 2, 2, 3, 6, 4, 4, 4, 3, 4, 4, 6, 8, 2, 2, 1, 1}, 20},
		// Things that are kept: nothing makes roots anew but what is new.
		{[17]int{0, 1, 1, 1, 9, 9, 2, 2, 1, 1, 1, 2, 20, 1, 1, 0, 0}, 40},
		// Guardians and what is lost.
		{[17]int{0, 1, 6, 2, 3, 2, 3, 3, 3, 12, 3, 3, 6, 1, 1, 2, 2}, 40},
		// Weak pairs and ephemerons, and many cuts.
		{[17]int{0, 1, 6, 2, 3, 1, 8, 12, 1, 1, 1, 6, 12, 1, 1, 4, 3}, 40},
		// No cuts but those that room is made by.
		{[17]int{0, 1, 3, 2, 5, 8, 5, 5, 3, 4, 3, 4, 9, 1, 1, 0, 0}, 40},
	}
}

func (h habit) kind(s *source) int {
	sum := 0
	for _, w := range h.weights {
		sum += w
	}
	n := s.below(sum)
	for kind, w := range h.weights {
		if n < w {
			return kind
		}
		n -= w
	}
	return 0
}

// any answers a step, mostly one that may be asked for.
func (h habit) any(s *source) api.Step {
	x := api.Step{Kind: h.kind(s), R: s.below(api.MaxRoots), A: s.below(api.MaxRoots), B: s.below(api.MaxRoots), I: s.below(2)}
	switch {
	case x.Kind == api.SVector:
		x.N = int64([]int{s.below(4), s.below(4), s.below(api.MaxVector + 1)}[s.below(3)])
	case x.Kind == api.SInt:
		x.N = []int64{int64(s.below(9)), -api.MaxInt, api.MaxInt - 1}[s.below(3)]
	case s.below(6) == 0:
		x.I = s.below(api.MaxVector + 1)
	}
	if s.below(h.wrong) == 0 {
		h.spoil(&x, s)
	}
	return x
}

// spoil makes one number of a step any other one.
func (h habit) spoil(x *api.Step, s *source) {
	n := []int{-1, api.MaxRoots, api.MaxRoots + 1, 1 << 32, math.MinInt, math.MaxInt}[s.below(6)]
	switch s.below(6) {
	case 0:
		x.R = n
	case 1:
		x.A = n
	case 2:
		x.B = n
	case 3:
		x.I = n
	case 4:
		x.N = int64(n)
	default:
		x.Kind = []int{0, 17, -1, math.MinInt, math.MaxInt, 1<<32 + 1}[s.below(6)]
	}
}

// aim makes the roots of a step, most often, such as it asks for: a script of any roots seldom finds a guardian.
func aim(v api.View, x *api.Step, s *source) {
	find := func(root *int, is func(n api.Node) bool) {
		if s.below(5) == 0 {
			return
		}
		for range api.MaxRoots {
			if r := *root; r >= 0 && r < api.MaxRoots && v.Roots[r].Kind == api.VRef && is(v.Nodes[v.Roots[r].N]) {
				return
			}
			*root = s.below(api.MaxRoots)
		}
	}
	isGuardian := func(n api.Node) bool { return n.Kind == api.KGuard }
	switch x.Kind {
	case api.SReg:
		find(&x.A, func(api.Node) bool { return true })
		find(&x.B, isGuardian)
	case api.SPop:
		find(&x.A, func(n api.Node) bool { return isGuardian(n) && (len(n.Fields) > 0 || s.below(20) == 0) })
	case api.SGet, api.SSet, api.SLen:
		find(&x.A, func(n api.Node) bool { return !isGuardian(n) && len(n.Fields) > 0 })
	}
}

// run does a long script of a habit in spaces of these sizes: no step tells a fault, and one that is refused changes nothing.
func run(t *testing.T, nursery, room, steps int, h habit, seed source, all *seen) {
	t.Helper()
	g := newGround(t, nursery, room)
	ahead := stateOf(g)
	for range steps {
		x := h.any(&seed)
		aim(ahead.view, &x, &seed)
		code := g.step(x)
		behind := stateOf(g)
		if code != 0 && !ahead.equal(behind) {
			t.Fatalf("Do(%v) has the code %d, and changed %v to %v", x, code, ahead, behind)
		}
		all.codes[[2]int{x.Kind, code}]++
		all.note(x, ahead, behind)
		ahead = behind
	}
}

// P1, P10.1: long scripts with all kinds of steps and both cuts, in small spaces and in great ones,
// step by step against a heap and a grove; no step tells ErrOther.
func TestScripts(t *testing.T) {
	all := &seen{codes: map[[2]int]int{}}
	seed := source(1000)
	for _, x := range [][3]int{{16, 0, 200}, {16, 8, 300}, {16, 16, 300}, {16, 40, 400}, {17, 100, 500}, {32, 33, 500},
		{32, 64, 500}, {64, 64, 600}, {64, 200, 800}, {256, 0, 600}, {256, 256, 1000}, {16, 1024, 1500}, {256, 1024, api.MaxSteps}} {
		for _, h := range habits() {
			for range 2 {
				seed++
				run(t, x[0], x[1], x[2], h, seed, all)
			}
		}
	}
	all.wantAll(t)
}

// wantAll holds that scripts came by all that there is, so that they do not hold for want of trying.
func (s *seen) wantAll(t *testing.T) {
	t.Helper()
	codes := map[int][]int{
		api.SInt:    {0, api.ErrRange},
		api.SNil:    {0, api.ErrRange},
		api.SMove:   {0, api.ErrRange},
		api.SPair:   {0, api.ErrRange, api.ErrFull},
		api.SVector: {0, api.ErrRange, api.ErrFull},
		api.SWeak:   {0, api.ErrRange, api.ErrFull},
		api.SEphem:  {0, api.ErrRange, api.ErrFull},
		api.SGuard:  {0, api.ErrRange, api.ErrFull},
		api.SReg:    {0, api.ErrRange, api.ErrKind, api.ErrFull},
		api.SPop:    {0, api.ErrRange, api.ErrKind, api.ErrNone},
		api.SGet:    {0, api.ErrRange, api.ErrKind},
		api.SSet:    {0, api.ErrRange, api.ErrKind},
		api.SLen:    {0, api.ErrRange, api.ErrKind},
		api.SSame:   {0, api.ErrRange},
		api.SMinor:  {0, api.ErrFull},
		api.SMajor:  {0, api.ErrFull},
		0:           {api.ErrKind},
		17:          {api.ErrKind},
		-1:          {api.ErrKind},
	}
	for kind, l := range codes {
		for code := range 9 {
			if n := s.codes[[2]int{kind, code}]; (n > 5) != slices.Contains(l, code) {
				t.Errorf("the kind %d has the code %d %d times", kind, code, n)
			}
		}
	}
	for name, n := range map[string]int{"small cuts": s.small, "great cuts": s.great, "what is gone": s.gone, "what waits": s.waits} {
		if n < 100 {
			t.Errorf("of %s scripts saw %d", name, n)
		}
	}
}

// P1: what is answered hangs on what was asked alone: the same steps come to the same, step by step,
// whether View and Used are asked in between or not.
func TestSameStepsComeToTheSame(t *testing.T) {
	for seed := range source(10) {
		for _, h := range habits() {
			a, _ := twin.New(32, 120)
			b, _ := twin.New(32, 120)
			s := seed
			for range 200 {
				x := h.any(&s)
				stateOf(a)
				codeA, faultA := a.Do(x)
				codeB, faultB := b.Do(x)
				if codeA != codeB || faultA != (api.Fault{}) || faultB != (api.Fault{}) {
					t.Fatalf("Do(%v) = %d, %v; and %d, %v", x, codeA, faultA, codeB, faultB)
				}
			}
			if !stateOf(a).equal(stateOf(b)) {
				t.Fatalf("the same steps came to %v and %v", stateOf(a), stateOf(b))
			}
		}
	}
}

// Twins know nothing of each other, though their steps are done by turns.
func TestTwinsByTurns(t *testing.T) {
	s := source(77)
	for range 10 {
		var grounds []*ground
		for range 4 {
			grounds = append(grounds, newGround(t, 16+s.below(30), s.below(80)))
		}
		for range 400 {
			g := grounds[s.below(4)]
			x := habits()[s.below(5)].any(&s)
			aim(g.View(), &x, &s)
			g.step(x)
		}
	}
}

// P1: steps of any numbers: each ends, and has a code that there is.
func TestAnySteps(t *testing.T) {
	s := source(5)
	anyInt := func() int {
		return []int{s.below(12), s.below(40) - 14, 1 << s.below(63), -1 << s.below(64), math.MaxInt}[s.below(5)]
	}
	for range 100 {
		g := newGround(t, 16+s.below(20), s.below(60))
		for range 150 {
			x := habits()[s.below(5)].any(&s)
			if s.below(4) == 0 {
				x = api.Step{Kind: s.below(20) - 1, R: anyInt(), A: anyInt(), B: anyInt(), I: anyInt(), N: int64(anyInt())}
			}
			if s.below(20) == 0 {
				x.Kind = anyInt()
			}
			if code := g.step(x); code < 0 || code > api.ErrNone {
				t.Fatalf("Do(%v) = %d", x, code)
			}
		}
	}
}
