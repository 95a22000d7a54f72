package twin_test

import (
	"slices"
	"testing"

	"underwood/api"
	"underwood/grove"
	"underwood/heap"
	"underwood/twin"
)

// unused stands where a step does not use a number: if it were asked, it would be out of any range.
const unused = -1 << 40

// step is one that uses nothing.
func step(kind int) api.Step {
	return api.Step{Kind: kind, R: unused, A: unused, B: unused, I: unused, N: unused}
}

// stepR is one that uses the root R alone, stepRA one that uses R and A, and so on.
func stepR(kind, r int) api.Step {
	x := step(kind)
	x.R = r
	return x
}

func stepRA(kind, r, a int) api.Step {
	x := stepR(kind, r)
	x.A = a
	return x
}

func stepRAB(kind, r, a, b int) api.Step {
	x := stepRA(kind, r, a)
	x.B = b
	return x
}

func sInt(r int, n int64) api.Step {
	x := stepR(api.SInt, r)
	x.N = n
	return x
}

func sVector(r, a int, n int64) api.Step {
	x := stepRA(api.SVector, r, a)
	x.N = n
	return x
}

func sGet(r, a, i int) api.Step {
	x := stepRA(api.SGet, r, a)
	x.I = i
	return x
}

func sSet(a, i, b int) api.Step {
	x := stepRAB(api.SSet, unused, a, b)
	x.I = i
	return x
}

func sNil(r int) api.Step         { return stepR(api.SNil, r) }
func sMove(r, a int) api.Step     { return stepRA(api.SMove, r, a) }
func sPair(r, a, b int) api.Step  { return stepRAB(api.SPair, r, a, b) }
func sWeak(r, a, b int) api.Step  { return stepRAB(api.SWeak, r, a, b) }
func sEphem(r, a, b int) api.Step { return stepRAB(api.SEphem, r, a, b) }
func sGuard(r int) api.Step       { return stepR(api.SGuard, r) }
func sReg(a, b int) api.Step      { return stepRAB(api.SReg, unused, a, b) }
func sPop(r, a int) api.Step      { return stepRA(api.SPop, r, a) }
func sLen(r, a int) api.Step      { return stepRA(api.SLen, r, a) }
func sSame(r, a, b int) api.Step  { return stepRAB(api.SSame, r, a, b) }
func sMinor() api.Step            { return step(api.SMinor) }
func sMajor() api.Step            { return step(api.SMajor) }

// cuts are both, where a test is to hold behind either.
func cuts() []api.Step { return []api.Step{sMinor(), sMajor()} }

// ground is a twin that is tested. Each step is done to a heap and to a grove, too: all three are to tell the same.
type ground struct {
	*twin.Twin
	heap  *heap.Heap
	grove *grove.Grove
	t     *testing.T
}

func newGround(t *testing.T, nursery, old int) *ground {
	t.Helper()
	w, f := twin.New(nursery, old)
	h, fh := heap.New(nursery, old)
	g, fg := grove.New(nursery, old)
	if w == nil || f != (api.Fault{}) || fh != (api.Fault{}) || fg != (api.Fault{}) {
		t.Fatalf("New(%d, %d) = %v, %v; of the heap %v, of the grove %v", nursery, old, w, f, fh, fg)
	}
	return &ground{Twin: w, heap: h, grove: g, t: t}
}

// roomy answers one in which no step of a short test needs a cut.
func roomy(t *testing.T) *ground {
	t.Helper()
	return newGround(t, api.MaxNursery, api.MaxOld)
}

// step does a step, to all three, holds that they tell the same, and that no fault is told, and answers its code.
func (g *ground) step(x api.Step) int {
	g.t.Helper()
	code, fault := g.Do(x)
	if fault != (api.Fault{}) {
		g.t.Fatalf("Do(%v) has the fault %v", x, fault)
	}
	if ofHeap, ofGrove := g.heap.Do(x), g.grove.Do(x); code != ofHeap || code != ofGrove {
		g.t.Fatalf("Do(%v) = %d; the heap tells %d, the grove %d", x, code, ofHeap, ofGrove)
	}
	got := stateOf(g)
	for name, want := range map[string]state{"heap": stateOf(g.heap), "grove": stateOf(g.grove)} {
		if !got.equal(want) {
			g.t.Fatalf("behind %v the twin tells %v, the %s %v", x, got, name, want)
		}
		if !twin.Same(got.view, want.view) || !twin.Same(want.view, got.view) {
			g.t.Fatalf("behind %v Same does not hold of %v and %v", x, got.view, want.view)
		}
	}
	return code
}

// do does steps that are not to be refused.
func (g *ground) do(steps ...api.Step) {
	g.t.Helper()
	for _, x := range steps {
		if code := g.step(x); code != 0 {
			g.t.Fatalf("Do(%v) = %d", x, code)
		}
	}
}

// refuse holds that a step has this code and no fault, and changes nothing, however often it is asked for.
func (g *ground) refuse(code int, x api.Step) {
	g.t.Helper()
	for range 2 {
		ahead := stateOf(g)
		if got := g.step(x); got != code {
			g.t.Errorf("Do(%v) = %d, want %d", x, got, code)
		}
		if behind := stateOf(g); !ahead.equal(behind) {
			g.t.Errorf("Do(%v), which is refused, changed %v to %v", x, ahead, behind)
		}
	}
}

func number(n int64) api.Val { return api.Val{Kind: api.VInt, N: n} }

func ref(n int64) api.Val { return api.Val{Kind: api.VRef, N: n} }

func gone() api.Val { return api.Val{Kind: api.VGone} }

// wantRoot holds that a root is shown as this value.
func (g *ground) wantRoot(r int, want api.Val) {
	g.t.Helper()
	if got := g.View().Roots[r]; got != want {
		g.t.Errorf("the root %d is %v, want %v", r, got, want)
	}
}

// wantNode holds that a root leads to a thing of a kind, and that its fields are shown as these roots are.
func (g *ground) wantNode(r, kind int, roots ...int) {
	g.t.Helper()
	v := g.View()
	var want []api.Val
	for _, a := range roots {
		want = append(want, v.Roots[a])
	}
	g.wantFields(r, kind, want...)
}

// wantFields holds that a root leads to a thing of a kind, and that its fields are shown as these values.
func (g *ground) wantFields(r, kind int, want ...api.Val) {
	g.t.Helper()
	v := g.View()
	if v.Roots[r].Kind != api.VRef {
		g.t.Fatalf("the root %d is %v, and leads to nothing", r, v.Roots[r])
	}
	if n := v.Nodes[v.Roots[r].N]; n.Kind != kind || !slices.Equal(n.Fields, want) {
		g.t.Errorf("the root %d leads to %v, want the kind %d with %v", r, n, kind, want)
	}
}

func (g *ground) wantUsed(young, old int) {
	g.t.Helper()
	if y, o := g.Used(); y != young || o != old {
		g.t.Errorf("%d, %d words are in use, want %d, %d", y, o, young, old)
	}
}

// teller is any of the three, as far as it tells of itself.
type teller interface {
	View() api.View
	Used() (int, int)
}

// state is all that one of the three tells of itself.
type state struct {
	view       api.View
	young, old int
}

func stateOf(w teller) state {
	young, old := w.Used()
	return state{w.View(), young, old}
}

func (s state) equal(o state) bool {
	return sameView(s.view, o.view) && s.young == o.young && s.old == o.old
}

// sameView tells whether two views show the same; twin.Same, which is tested, is not asked for that.
func sameView(a, b api.View) bool {
	if !slices.Equal(a.Roots, b.Roots) || len(a.Nodes) != len(b.Nodes) {
		return false
	}
	for i, n := range a.Nodes {
		if n.Kind != b.Nodes[i].Kind || !slices.Equal(n.Fields, b.Nodes[i].Fields) {
			return false
		}
	}
	return true
}

// cloneView answers a view like this one, in new memory.
func cloneView(v api.View) api.View {
	c := api.View{Roots: slices.Clone(v.Roots), Nodes: slices.Clone(v.Nodes)}
	for i, n := range c.Nodes {
		c.Nodes[i].Fields = slices.Clone(n.Fields)
	}
	return c
}

// sown answers a ground in whose roots is a bit of all: 0 a number, 1 nothing, 2 what is gone, 3 a guardian at which nothing waits,
// 4 a guardian at which a vector waits, 5 a pair, 6 a vector of 3 fields, 7 a weak pair, 8 an ephemeron, 9 a vector without fields.
// The things 3, 4, 6, 7 and 8 are old, one of them leads to a young one; the pair is registered with 3.
func sown(t *testing.T) *ground {
	t.Helper()
	g := roomy(t)
	g.do(sInt(0, 5), sGuard(3), sGuard(4), sVector(10, 0, 1), sReg(10, 4), sWeak(7, 10, 0), sNil(10))
	g.do(sVector(6, 0, 3), sEphem(8, 6, 0), sPair(5, 0, 0), sWeak(2, 5, 0), sNil(5), sMinor(), sGet(2, 2, 0))
	g.do(sPair(5, 0, 0), sVector(9, 0, 0), sSet(6, 1, 5), sReg(5, 3))
	g.wantRoot(2, gone())
	g.wantUsed(4, 17)
	return g
}

// source gives numbers, the same ones each time.
type source uint64

func (s *source) below(n int) int {
	*s = *s*6364136223846793005 + 1442695040888963407
	return int(uint64(*s)>>33) % n
}
