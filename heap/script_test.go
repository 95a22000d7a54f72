package heap_test

import (
	"math"
	"slices"
	"testing"

	"underwood/api"
	"underwood/heap"
)

// sameView tells whether two views show the same.
func sameView(a, b api.View) bool {
	return slices.Equal(a.Roots, b.Roots) && slices.EqualFunc(a.Nodes, b.Nodes, func(x, y api.Node) bool {
		return x.Kind == y.Kind && slices.Equal(x.Fields, y.Fields)
	})
}

// seen counts what scripts came by: codes by kinds of steps, and more.
type seen struct {
	codes        map[[2]int]int
	small, great int
	gone, waits  int
	marked       int // steps behind which a card was marked
}

// both is a heap, and the model that it is held against.
type both struct {
	*ground
	*model
	seen *seen
}

func newBoth(t *testing.T, nursery, room int, s *seen) *both {
	t.Helper()
	return &both{newGround(t, nursery, room), newModel(nursery, room), s}
}

// step does a step to both, and holds that they tell the same; a step that is refused is to change nothing.
func (b *both) step(x api.Step) {
	b.t.Helper()
	ahead := stateOf(b.Heap)
	check := heap.Check(x)
	code, want := b.Do(x), b.do(x)
	if code != want || check != refused(x) {
		b.t.Fatalf("Do(%v) = %d, want %d; Check tells %d, want %d", x, code, want, check, refused(x))
	}
	b.seen.codes[[2]int{x.Kind, code}]++
	if code != 0 && !ahead.equal(stateOf(b.Heap)) {
		b.t.Fatalf("Do(%v) has the code %d, and changed something", x, code)
	}
	b.compare(x)
}

// do is the model's.
func (b *both) do(x api.Step) int { return b.model.do(x) }

func (b *both) compare(x api.Step) {
	b.t.Helper()
	got, want := b.View(), b.view()
	if !sameView(got, want) {
		b.t.Fatalf("behind %v the heap shows %v, want %v", x, got, want)
	}
	young, old := b.Used()
	wantYoung, wantOld := b.used()
	if young != wantYoung || old != wantOld {
		b.t.Fatalf("behind %v %d, %d words are in use, want %d, %d", x, young, old, wantYoung, wantOld)
	}
	b.wantSide(len(b.regs), len(b.wait))
	b.leadsWell()
	if b.t.Failed() {
		b.t.Fatalf("behind %v", x)
	}
	b.note(got)
}

// note counts what there is to be seen.
func (b *both) note(v api.View) {
	for _, n := range v.Nodes {
		if n.Kind == api.KGuard && len(n.Fields) > 0 {
			b.seen.waits++
		}
		if slices.Contains(n.Fields, api.Val{Kind: api.VGone}) {
			b.seen.gone++
		}
	}
	if b.Cards.Count() > 0 {
		b.seen.marked++
	}
}

// habit is how often a script asks for each kind of steps, by their numbers, and for numbers that there are not.
type habit struct {
	weights [17]int
	wrong   int // one of so many steps
}

func habits() []habit {
	return []habit{
		// Of all a bit, cuts seldom.
		{[17]int{0, 2, 2, 3, 6, 4, 4, 4, 3, 4, 4, 6, 8, 2, 2, 1, 1}, 20},
		// Things that are kept: nothing makes roots anew but what is new.
		{[17]int{0, 1, 1, 1, 9, 9, 2, 2, 1, 1, 1, 2, 20, 1, 1, 0, 0}, 40},
		// Guardians and what is lost.
		{[17]int{0, 1, 6, 2, 3, 2, 3, 3, 3, 12, 3, 3, 6, 1, 1, 2, 2}, 40},
		// Weak pairs and ephemerons, and many cuts.
		{[17]int{0, 1, 6, 2, 3, 1, 8, 12, 1, 1, 1, 6, 12, 1, 1, 4, 3}, 40},
		// No cuts but those that room is made by.
		{[17]int{0, 1, 3, 2, 5, 8, 5, 5, 3, 4, 3, 4, 9, 1, 1, 0, 0}, 40},
	}
}

func (h habit) kind(s *source) int {
	sum := 0
	for _, w := range h.weights {
		sum += w
	}
	n := s.below(sum)
	for kind, w := range h.weights {
		if n < w {
			return kind
		}
		n -= w
	}
	return 0
}

// any answers a step, mostly one that may be asked for.
func (h habit) any(s *source) api.Step {
	x := api.Step{Kind: h.kind(s), R: s.below(api.MaxRoots), A: s.below(api.MaxRoots), B: s.below(api.MaxRoots), I: s.below(2)}
	switch {
	case x.Kind == api.SVector:
		x.N = int64([]int{s.below(4), s.below(4), s.below(api.MaxVector + 1)}[s.below(3)])
	case x.Kind == api.SInt:
		x.N = []int64{int64(s.below(9)), -api.MaxInt, api.MaxInt - 1}[s.below(3)]
	case s.below(6) == 0:
		x.I = s.below(api.MaxVector + 1)
	}
	if s.below(h.wrong) == 0 {
		h.spoil(&x, s)
	}
	return x
}

// spoil makes one number of a step any other one.
func (h habit) spoil(x *api.Step, s *source) {
	n := []int{-1, api.MaxRoots, api.MaxRoots + 1, 1 << 32, math.MinInt, math.MaxInt}[s.below(6)]
	switch s.below(6) {
	case 0:
		x.R = n
	case 1:
		x.A = n
	case 2:
		x.B = n
	case 3:
		x.I = n
	case 4:
		x.N = int64(n)
	default:
		x.Kind = []int{0, 17, -1, math.MinInt, math.MaxInt, 1<<32 + 1}[s.below(6)]
	}
}

// aimed answers a step whose roots are, most often, such as it asks for: a script of any roots seldom finds a guardian.
func (b *both) aimed(h habit, s *source) api.Step {
	x := h.any(s)
	find := func(root *int, is func(th *thing) bool) {
		if s.below(5) == 0 {
			return
		}
		for range api.MaxRoots {
			if th := b.roots[(*root%12+12)%12].to; th != nil && is(th) {
				return
			}
			*root = s.below(api.MaxRoots)
		}
	}
	switch x.Kind {
	case api.SReg:
		find(&x.A, func(th *thing) bool { return true })
		find(&x.B, isGuardian)
	case api.SPop:
		find(&x.A, func(th *thing) bool { return isGuardian(th) && (len(b.waiting(th)) > 0 || s.below(20) == 0) })
	case api.SGet, api.SSet, api.SLen:
		find(&x.A, func(th *thing) bool { return len(th.fields) > 0 })
	}
	return x
}

// run does a long script of a habit in spaces of these sizes.
func run(t *testing.T, nursery, room, steps int, h habit, seed source, all *seen) {
	t.Helper()
	b := newBoth(t, nursery, room, all)
	for i := range steps {
		b.step(b.aimed(h, &seed))
		if t.Failed() {
			t.Fatalf("at the step %d, of a nursery of %d words, an old space of %d", i, nursery, room)
		}
	}
	all.small += b.small
	all.great += b.great
}

// P1, P8.1, P8.2: long scripts with all kinds of steps and both cuts, in small spaces and in great ones.
func TestScripts(t *testing.T) {
	all := &seen{codes: map[[2]int]int{}}
	seed := source(0)
	for _, x := range [][3]int{{16, 0, 200}, {16, 8, 300}, {16, 16, 300}, {16, 40, 400}, {17, 100, 500}, {32, 33, 500},
		{32, 64, 500}, {64, 64, 600}, {64, 200, 800}, {256, 0, 600}, {256, 256, 1000}, {16, 1024, 1500}, {256, 1024, 2000}} {
		for _, h := range habits() {
			for range 4 {
				seed++
				run(t, x[0], x[1], x[2], h, seed, all)
			}
		}
	}
	all.wantAll(t)
}

// wantAll holds that scripts came by all that there is, so that they do not hold for want of trying.
func (s *seen) wantAll(t *testing.T) {
	t.Helper()
	codes := map[int][]int{
		api.SInt:    {0, api.ErrRange},
		api.SNil:    {0, api.ErrRange},
		api.SMove:   {0, api.ErrRange},
		api.SPair:   {0, api.ErrRange, api.ErrFull},
		api.SVector: {0, api.ErrRange, api.ErrFull},
		api.SWeak:   {0, api.ErrRange, api.ErrFull},
		api.SEphem:  {0, api.ErrRange, api.ErrFull},
		api.SGuard:  {0, api.ErrRange, api.ErrFull},
		api.SReg:    {0, api.ErrRange, api.ErrKind, api.ErrFull},
		api.SPop:    {0, api.ErrRange, api.ErrKind, api.ErrNone},
		api.SGet:    {0, api.ErrRange, api.ErrKind},
		api.SSet:    {0, api.ErrRange, api.ErrKind},
		api.SLen:    {0, api.ErrRange, api.ErrKind},
		api.SSame:   {0, api.ErrRange},
		api.SMinor:  {0, api.ErrFull},
		api.SMajor:  {0, api.ErrFull},
		0:           {api.ErrKind},
		17:          {api.ErrKind},
		-1:          {api.ErrKind},
	}
	for kind, l := range codes {
		for code := range 9 {
			if n := s.codes[[2]int{kind, code}]; (n > 5) != slices.Contains(l, code) {
				t.Errorf("the kind %d has the code %d %d times", kind, code, n)
			}
		}
	}
	for name, n := range map[string]int{"small cuts": s.small, "great cuts": s.great, "what is gone": s.gone, "what waits": s.waits, "marked cards": s.marked} {
		if n < 100 {
			t.Errorf("of %s scripts saw %d", name, n)
		}
	}
}

// P1: what is answered hangs on what was asked alone: the same steps come to the same, to the word.
func TestSameStepsComeToTheSame(t *testing.T) {
	for seed := range source(20) {
		for _, h := range habits() {
			var states []state
			var codes [][]int
			for range 3 {
				s := seed
				g := newGround(t, 32, 120)
				var l []int
				for range 400 {
					l = append(l, g.Do(h.any(&s)))
				}
				states, codes = append(states, stateOf(g.Heap)), append(codes, l)
			}
			for i, o := range states[1:] {
				if !states[0].equal(o) || !slices.Equal(codes[0], codes[i+1]) {
					t.Fatalf("the same steps came to %v and %v", states[0], o)
				}
			}
		}
	}
}

// P1: steps of any numbers, and words that a wood's own methods put there: each ends, and has a code that there is.
func TestAnySteps(t *testing.T) {
	s := source(5)
	anyInt := func() int {
		return []int{s.below(12), s.below(40) - 14, 1 << s.below(63), -1 << s.below(64), math.MaxInt}[s.below(5)]
	}
	for range 300 {
		g := newGround(t, 16+s.below(20), s.below(60))
		size := len(g.Words())
		for range 200 {
			x := habits()[s.below(5)].any(&s)
			switch s.below(12) {
			case 0:
				x = api.Step{Kind: anyInt(), R: anyInt(), A: anyInt(), B: anyInt(), I: anyInt(), N: int64(anyInt())}
			case 1:
				g.Store(s.below(size), int64(anyInt()))
			case 2:
				g.Make(1+s.below(5), s.below(5))
			case 3:
				g.Set(int64(s.below(4*size)), s.below(3), int64(s.below(4*size)))
			}
			ahead := stateOf(g.Heap)
			code := g.Do(x)
			if code < 0 || code > api.ErrNone || heap.Check(x) != 0 && code != heap.Check(x) {
				t.Fatalf("Do(%v) = %d, and Check tells %d", x, code, heap.Check(x))
			}
			if code != 0 && !ahead.equal(stateOf(g.Heap)) {
				t.Fatalf("Do(%v) has the code %d, and changed something", x, code)
			}
			g.View()
		}
	}
}
