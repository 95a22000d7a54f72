package grove_test

import (
	"slices"
	"testing"

	"underwood/api"
	"underwood/grove"
	"underwood/heap"
)

// unused stands where a step does not use a number: if it were asked, it would be out of any range.
const unused = -1 << 40

// step is one that uses nothing.
func step(kind int) api.Step {
	return api.Step{Kind: kind, R: unused, A: unused, B: unused, I: unused, N: unused}
}

// stepR is one that uses the root R alone, stepRA one that uses R and A, and so on.
func stepR(kind, r int) api.Step {
	x := step(kind)
	x.R = r
	return x
}

func stepRA(kind, r, a int) api.Step {
	x := stepR(kind, r)
	x.A = a
	return x
}

func stepRAB(kind, r, a, b int) api.Step {
	x := stepRA(kind, r, a)
	x.B = b
	return x
}

func sInt(r int, n int64) api.Step {
	x := stepR(api.SInt, r)
	x.N = n
	return x
}

func sVector(r, a int, n int64) api.Step {
	x := stepRA(api.SVector, r, a)
	x.N = n
	return x
}

func sGet(r, a, i int) api.Step {
	x := stepRA(api.SGet, r, a)
	x.I = i
	return x
}

func sSet(a, i, b int) api.Step {
	x := stepRAB(api.SSet, unused, a, b)
	x.I = i
	return x
}

func sNil(r int) api.Step         { return stepR(api.SNil, r) }
func sMove(r, a int) api.Step     { return stepRA(api.SMove, r, a) }
func sPair(r, a, b int) api.Step  { return stepRAB(api.SPair, r, a, b) }
func sWeak(r, a, b int) api.Step  { return stepRAB(api.SWeak, r, a, b) }
func sEphem(r, a, b int) api.Step { return stepRAB(api.SEphem, r, a, b) }
func sGuard(r int) api.Step       { return stepR(api.SGuard, r) }
func sReg(a, b int) api.Step      { return stepRAB(api.SReg, unused, a, b) }
func sPop(r, a int) api.Step      { return stepRA(api.SPop, r, a) }
func sLen(r, a int) api.Step      { return stepRA(api.SLen, r, a) }
func sSame(r, a, b int) api.Step  { return stepRAB(api.SSame, r, a, b) }
func sMinor() api.Step            { return step(api.SMinor) }
func sMajor() api.Step            { return step(api.SMajor) }

// cuts are both, where a test is to hold behind either.
func cuts() []api.Step { return []api.Step{sMinor(), sMajor()} }

// ground is a grove that is tested. Each step is done to a heap and to a model, too: all three are to tell the same.
type ground struct {
	*grove.Grove
	heap  *heap.Heap
	model *model
	t     *testing.T
}

func newGround(t *testing.T, nursery, old int) *ground {
	t.Helper()
	v, f := grove.New(nursery, old)
	h, hf := heap.New(nursery, old)
	if v == nil || f != (api.Fault{}) || h == nil || hf != (api.Fault{}) {
		t.Fatalf("New(%d, %d) = %v, %v; of the heap %v", nursery, old, v, f, hf)
	}
	g := &ground{Grove: v, heap: h, model: newModel(nursery, old), t: t}
	t.Cleanup(g.uncover)
	return g
}

// roomy answers one in which no step of a short test needs a cut.
func roomy(t *testing.T) *ground {
	t.Helper()
	return newGround(t, api.MaxNursery, api.MaxOld)
}

// step does a step, to all three, holds that they tell the same, and answers its code.
func (g *ground) step(x api.Step) int {
	g.t.Helper()
	code, want, ofHeap := g.Do(x), g.model.do(x), g.heap.Do(x)
	if code != want || code != ofHeap {
		g.t.Fatalf("Do(%v) = %d; want %d, and the heap tells %d", x, code, want, ofHeap)
	}
	young, old := g.Used()
	if y, o := g.model.used(); young != y || old != o {
		g.t.Fatalf("behind %v %d, %d words are in use, want %d, %d", x, young, old, y, o)
	}
	if y, o := g.heap.Used(); young != y || old != o {
		g.t.Fatalf("behind %v %d, %d words are in use, of the heap %d, %d", x, young, old, y, o)
	}
	v := g.View()
	if w := g.model.view(); !sameView(v, w) {
		g.t.Fatalf("behind %v the grove shows %v, want %v", x, v, w)
	}
	if w := g.heap.View(); !sameView(v, w) {
		g.t.Fatalf("behind %v the grove shows %v, the heap %v", x, v, w)
	}
	return code
}

// uncover does steps that show what a View does not: what is registered, what lies lost, and what waits at what.
// It is done at the end of each test, so that a step that is refused can't have changed such a thing unseen.
func (g *ground) uncover() {
	if g.t.Failed() {
		return
	}
	g.step(sMinor())
	g.step(sMajor())
	var guards, others []int
	for r, v := range g.View().Roots {
		if v.Kind == api.VRef && g.nodeAt(r).Kind == api.KGuard {
			guards = append(guards, r)
		} else {
			others = append(others, r)
			g.step(sNil(r))
		}
	}
	g.step(sMajor())
	others = append(others, 0)
	for _, r := range guards {
		for g.step(sPop(others[0], r)) == 0 {
			g.step(sLen(others[0], others[0]))
		}
	}
	g.step(sMajor())
}

// do does steps that are not to be refused.
func (g *ground) do(steps ...api.Step) {
	g.t.Helper()
	for _, x := range steps {
		if code := g.step(x); code != 0 {
			g.t.Fatalf("Do(%v) = %d", x, code)
		}
	}
}

// refuse holds that a step has this code, and changes nothing, however often it is asked for.
func (g *ground) refuse(code int, x api.Step) {
	g.t.Helper()
	for range 2 {
		ahead := stateOf(g.Grove)
		if got := g.step(x); got != code {
			g.t.Errorf("Do(%v) = %d, want %d", x, got, code)
		}
		if behind := stateOf(g.Grove); !ahead.equal(behind) {
			g.t.Errorf("Do(%v), which is refused, changed %v to %v", x, ahead, behind)
		}
	}
}

func number(n int64) api.Val { return api.Val{Kind: api.VInt, N: n} }

func gone() api.Val { return api.Val{Kind: api.VGone} }

// wantRoot holds that a root is shown as this value.
func (g *ground) wantRoot(r int, want api.Val) {
	g.t.Helper()
	if got := g.View().Roots[r]; got != want {
		g.t.Errorf("the root %d is %v, want %v", r, got, want)
	}
}

// nodeAt answers the thing to which a root leads, as it is shown.
func (g *ground) nodeAt(r int) api.Node {
	g.t.Helper()
	v := g.View()
	if v.Roots[r].Kind != api.VRef {
		g.t.Fatalf("the root %d is %v, and leads to nothing", r, v.Roots[r])
	}
	return v.Nodes[v.Roots[r].N]
}

// wantNode holds that a root leads to a thing of a kind, and that its fields are shown as these roots are.
func (g *ground) wantNode(r, kind int, roots ...int) {
	g.t.Helper()
	v := g.View()
	var want []api.Val
	for _, a := range roots {
		want = append(want, v.Roots[a])
	}
	g.wantFields(r, kind, want...)
}

// wantFields holds that a root leads to a thing of a kind, and that its fields are shown as these values.
func (g *ground) wantFields(r, kind int, want ...api.Val) {
	g.t.Helper()
	if n := g.nodeAt(r); n.Kind != kind || !slices.Equal(n.Fields, want) {
		g.t.Errorf("the root %d leads to %v, want the kind %d with %v", r, n, kind, want)
	}
}

func (g *ground) wantUsed(young, old int) {
	g.t.Helper()
	if y, o := g.Used(); y != young || o != old {
		g.t.Errorf("%d, %d words are in use, want %d, %d", y, o, young, old)
	}
}

// state is all that a grove tells of itself.
type state struct {
	view       api.View
	young, old int
}

func stateOf(g *grove.Grove) state {
	young, old := g.Used()
	return state{g.View(), young, old}
}

func (s state) equal(o state) bool {
	return sameView(s.view, o.view) && s.young == o.young && s.old == o.old
}

// sameView tells whether two views show the same.
func sameView(a, b api.View) bool {
	return slices.Equal(a.Roots, b.Roots) && slices.EqualFunc(a.Nodes, b.Nodes, func(x, y api.Node) bool {
		return x.Kind == y.Kind && slices.Equal(x.Fields, y.Fields)
	})
}

// source gives numbers, the same ones each time.
type source uint64

func (s *source) below(n int) int {
	*s = *s*6364136223846793005 + 1442695040888963407
	return int(uint64(*s)>>33) % n
}
