package heap_test

import (
	"slices"
	"testing"

	"underwood/api"
	"underwood/heap"
	"underwood/side"
	"underwood/word"
)

// unused stands where a step does not use a number: if it were asked, it would be out of any range.
const unused = -1 << 40

// step is one that uses nothing.
func step(kind int) api.Step {
	return api.Step{Kind: kind, R: unused, A: unused, B: unused, I: unused, N: unused}
}

// stepR is one that uses the root R alone, stepRA one that uses R and A, and so on.
func stepR(kind, r int) api.Step {
	x := step(kind)
	x.R = r
	return x
}

func stepRA(kind, r, a int) api.Step {
	x := stepR(kind, r)
	x.A = a
	return x
}

func stepRAB(kind, r, a, b int) api.Step {
	x := stepRA(kind, r, a)
	x.B = b
	return x
}

func sInt(r int, n int64) api.Step {
	x := stepR(api.SInt, r)
	x.N = n
	return x
}

func sVector(r, a int, n int64) api.Step {
	x := stepRA(api.SVector, r, a)
	x.N = n
	return x
}

func sGet(r, a, i int) api.Step {
	x := stepRA(api.SGet, r, a)
	x.I = i
	return x
}

func sSet(a, i, b int) api.Step {
	x := stepRAB(api.SSet, unused, a, b)
	x.I = i
	return x
}

func sNil(r int) api.Step         { return stepR(api.SNil, r) }
func sMove(r, a int) api.Step     { return stepRA(api.SMove, r, a) }
func sPair(r, a, b int) api.Step  { return stepRAB(api.SPair, r, a, b) }
func sWeak(r, a, b int) api.Step  { return stepRAB(api.SWeak, r, a, b) }
func sEphem(r, a, b int) api.Step { return stepRAB(api.SEphem, r, a, b) }
func sGuard(r int) api.Step       { return stepR(api.SGuard, r) }
func sReg(a, b int) api.Step      { return stepRAB(api.SReg, unused, a, b) }
func sPop(r, a int) api.Step      { return stepRA(api.SPop, r, a) }
func sLen(r, a int) api.Step      { return stepRA(api.SLen, r, a) }
func sSame(r, a, b int) api.Step  { return stepRAB(api.SSame, r, a, b) }
func sMinor() api.Step            { return step(api.SMinor) }
func sMajor() api.Step            { return step(api.SMajor) }

// ground is a heap that is tested.
type ground struct {
	*heap.Heap
	t *testing.T
}

func newGround(t *testing.T, nursery, old int) *ground {
	t.Helper()
	h, f := heap.New(nursery, old)
	if h == nil || f != (api.Fault{}) {
		t.Fatalf("New(%d, %d) = %v, %v", nursery, old, h, f)
	}
	return &ground{Heap: h, t: t}
}

// roomy answers one in which no step of a short test needs a cut.
func roomy(t *testing.T) *ground {
	t.Helper()
	return newGround(t, api.MaxNursery, api.MaxOld)
}

// do does steps that are not to be refused.
func (g *ground) do(steps ...api.Step) {
	g.t.Helper()
	for _, x := range steps {
		if code := g.Do(x); code != 0 {
			g.t.Fatalf("Do(%v) = %d", x, code)
		}
	}
}

// refuse holds that a step has this code, and changes nothing, however often it is asked for.
func (g *ground) refuse(code int, x api.Step) {
	g.t.Helper()
	for range 2 {
		ahead := stateOf(g.Heap)
		if got := g.Do(x); got != code {
			g.t.Errorf("Do(%v) = %d, want %d", x, got, code)
		}
		if behind := stateOf(g.Heap); !ahead.equal(behind) {
			g.t.Errorf("Do(%v), which is refused, changed %v to %v", x, ahead, behind)
		}
	}
}

func number(n int64) api.Val { return api.Val{Kind: api.VInt, N: n} }

// wantRoot holds that a root is shown as this value.
func (g *ground) wantRoot(r int, want api.Val) {
	g.t.Helper()
	if got := g.View().Roots[r]; got != want {
		g.t.Errorf("the root %d is %v, want %v", r, got, want)
	}
}

// nodeAt answers the thing to which a root leads, as it is shown.
func (g *ground) nodeAt(r int) api.Node {
	g.t.Helper()
	v := g.View()
	if v.Roots[r].Kind != api.VRef {
		g.t.Fatalf("the root %d is %v, and leads to nothing", r, v.Roots[r])
	}
	return v.Nodes[v.Roots[r].N]
}

// wantNode holds that a root leads to a thing of a kind, and that its fields are the same words as those of roots.
func (g *ground) wantNode(r, kind int, roots ...int) {
	g.t.Helper()
	if k, n, code := g.Kind(g.Roots[r]); k != kind || n != len(roots) || code != 0 {
		g.t.Fatalf("the root %d leads to the kind %d with %d fields, code %d; want %d with %d", r, k, n, code, kind, len(roots))
	}
	for i, a := range roots {
		if x, code := g.Get(g.Roots[r], i); x != g.Roots[a] || code != 0 {
			g.t.Errorf("the field %d of the root %d is %d, code %d; want the root %d, which is %d", i, r, x, code, a, g.Roots[a])
		}
	}
}

// wantYoung holds that a root leads to a thing in the nursery, at this place.
func (g *ground) wantYoung(r, at int) {
	g.t.Helper()
	if got, ok := word.At(g.Roots[r]); !ok || got != at || !g.Young(at) {
		g.t.Errorf("the root %d leads to %d, %v; want %d, in the nursery", r, got, ok, at)
	}
}

func (g *ground) wantUsed(young, old int) {
	g.t.Helper()
	if y, o := g.Used(); y != young || o != old {
		g.t.Errorf("%d, %d words are in use, want %d, %d", y, o, young, old)
	}
}

// wantSide holds how many entries there are.
func (g *ground) wantSide(regs, waits int) {
	g.t.Helper()
	if len(g.Side.Regs) != regs || len(g.Side.Wait) != waits {
		g.t.Errorf("registered is %v, and %v waits; want %d and %d", g.Side.Regs, g.Side.Wait, regs, waits)
	}
}

// leadsWell holds that things fill what is in use, that what leads to a place leads to one of them,
// and that of each old one that leads to a young one the card is marked.
func (g *ground) leadsWell() {
	g.t.Helper()
	words := slices.Clone(g.Roots)
	for _, e := range slices.Concat(g.Side.Regs, g.Side.Wait) {
		words = append(words, e.Guard, e.Thing)
	}
	young, old := g.Things()
	places := slices.Concat(young, old)
	filled := 0
	for _, at := range places {
		_, n, _ := g.Thing(at)
		filled += 1 + n
		for i := range n {
			x := g.Load(at + 1 + i)
			words = append(words, x)
			if to, ok := word.At(x); ok && g.Young(to) && g.Old(at) && !g.Cards.Dirty(at) {
				g.t.Errorf("the old thing at %d leads to the young one at %d, and its card is not marked", at, to)
			}
		}
	}
	if y, o := g.Used(); filled != y+o {
		g.t.Errorf("things have %d words, and %d, %d are in use", filled, y, o)
	}
	for _, x := range words {
		if at, ok := word.At(x); ok && !slices.Contains(places, at) {
			g.t.Errorf("the word %d leads to no thing", x)
		}
	}
}

// state is all that a heap holds.
type state struct {
	words              []int64
	usedYoung, usedOld int
	marked             []int
	regs, wait         []side.Entry
	roots              []int64
}

func stateOf(h *heap.Heap) state {
	var s state
	s.words = h.Words()
	s.usedYoung, s.usedOld = h.Used()
	for at := range s.words {
		if h.Cards.Dirty(at) {
			s.marked = append(s.marked, at)
		}
	}
	s.regs, s.wait = slices.Clone(h.Side.Regs), slices.Clone(h.Side.Wait)
	s.roots = slices.Clone(h.Roots)
	return s
}

func (s state) equal(o state) bool {
	return slices.Equal(s.words, o.words) && s.usedYoung == o.usedYoung && s.usedOld == o.usedOld &&
		slices.Equal(s.marked, o.marked) && slices.Equal(s.regs, o.regs) && slices.Equal(s.wait, o.wait) &&
		slices.Equal(s.roots, o.roots)
}

// source gives numbers, the same ones each time.
type source uint64

func (s *source) below(n int) int {
	*s = *s*6364136223846793005 + 1442695040888963407
	return int(uint64(*s)>>33) % n
}
