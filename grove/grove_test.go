package grove_test

import (
	"math"
	"slices"
	"testing"

	"underwood/api"
	"underwood/grove"
	"underwood/heap"
)

// outside are numbers of roots that there are not.
func outside() []int {
	return []int{-1, -2, api.MaxRoots, api.MaxRoots + 1, 1 << 32, -1 << 32, math.MinInt, math.MaxInt}
}

// New's fault, at the bounds of both spaces and one beside each; it is heap.New's.
func TestNew(t *testing.T) {
	for _, nursery := range []int{api.MinNursery - 1, api.MinNursery, api.MaxNursery, api.MaxNursery + 1, 0, -1, math.MinInt, math.MaxInt} {
		for _, old := range []int{-1, 0, 1, api.MaxOld, api.MaxOld + 1, math.MinInt, math.MaxInt} {
			g, f := grove.New(nursery, old)
			if _, want := heap.New(nursery, old); f != want {
				t.Errorf("New(%d, %d) has the fault %v, that of a heap %v", nursery, old, f, want)
			}
			if nursery < 16 || nursery > 256 || old < 0 || old > 1024 {
				if g != nil || f != (api.Fault{Code: api.ErrRange, At: -1}) {
					t.Errorf("New(%d, %d) = %v, %v", nursery, old, g, f)
				}
				continue
			}
			if g == nil || f != (api.Fault{}) {
				t.Errorf("New(%d, %d) = %v, %v", nursery, old, g, f)
				continue
			}
			wantEmpty(t, g)
		}
	}
}

// wantEmpty holds what is so of a grove in which nothing was done.
func wantEmpty(t *testing.T, g *grove.Grove) {
	t.Helper()
	want := state{view: api.View{Roots: make([]api.Val, api.MaxRoots)}}
	if got := stateOf(g); !got.equal(want) {
		t.Errorf("a new grove tells %v", got)
	}
}

// New's spaces have just so many words: the nursery is filled to its last word without a cut.
func TestNewNursery(t *testing.T) {
	for _, nursery := range []int{16, 17, 40, 255, 256} {
		g := newGround(t, nursery, 1)
		for i := range nursery {
			g.do(sGuard(0))
			g.wantUsed(i+1, 0)
		}
		g.do(sNil(0), sGuard(0))
		g.wantUsed(1, 0)
	}
}

// New's spaces have just so many words: where all is kept, the old space takes the nursery as often as it has room for it.
func TestNewOldSpace(t *testing.T) {
	for _, x := range [][2]int{{16, 0}, {16, 15}, {16, 16}, {16, 31}, {16, 32}, {64, 200}, {256, 255}, {256, 256}, {256, 1023}, {256, 1024}} {
		nursery, old := x[0], x[1]
		g := newGround(t, nursery, old)
		for made := 0; g.step(sVector(0, 0, 1)) == 0; made++ {
			if made > nursery+old {
				t.Fatalf("New(%d, %d) is never full", nursery, old)
			}
		}
		g.wantUsed(nursery, old/nursery*nursery)
		g.refuse(api.ErrFull, sGuard(1))
	}
}

// Groves have nothing in common.
func TestGrovesAreApart(t *testing.T) {
	g, other := roomy(t), roomy(t)
	g.do(sInt(0, 7), sGuard(1), sPair(2, 0, 1), sReg(2, 1), sMinor(), sPair(3, 0, 0), sSet(2, 0, 3))
	wantEmpty(t, other.Grove)
}

// P9.1: kinds that there are not.
func TestNoSuchKind(t *testing.T) {
	g := sown(t)
	for _, kind := range []int{0, 17, 18, -1, -16, 1<<32 + 1, -1 << 32, math.MinInt, math.MaxInt} {
		g.refuse(api.ErrKind, api.Step{Kind: kind})
		g.refuse(api.ErrKind, step(kind))
	}
}

// P9.1: roots that there are not, of all that a kind uses; those that it does not use may be any number.
func TestNoSuchRoot(t *testing.T) {
	g := sown(t)
	for kind := api.SInt; kind <= api.SMajor; kind++ {
		for _, n := range outside() {
			for bit, x := range map[int]api.Step{1: {Kind: kind, R: n, A: 5, B: 3}, 2: {Kind: kind, R: 10, A: n, B: 3}, 4: {Kind: kind, R: 10, A: 5, B: n}} {
				if heap.Uses(kind)&bit != 0 {
					g.refuse(api.ErrRange, x)
				} else if code := g.step(x); code == api.ErrRange {
					t.Errorf("Do(%v) = %d, though it does not use that root", x, code)
				}
			}
		}
	}
}

// sown answers a ground in whose roots is a bit of all: 0 a number, 1 nothing, 2 what is gone, 3 a guardian at which nothing waits,
// 4 a guardian at which a vector waits, 5 a pair, 6 a vector of 3 fields, 7 a weak pair, 8 an ephemeron, 9 a vector without fields.
// The things 3, 4, 6, 7 and 8 are old, one of them leads to a young one; the pair is registered with 3.
func sown(t *testing.T) *ground {
	t.Helper()
	g := roomy(t)
	g.do(sInt(0, 5), sGuard(3), sGuard(4), sVector(10, 0, 1), sReg(10, 4), sWeak(7, 10, 0), sNil(10))
	g.do(sVector(6, 0, 3), sEphem(8, 6, 0), sPair(5, 0, 0), sWeak(2, 5, 0), sNil(5), sMinor(), sGet(2, 2, 0))
	g.do(sPair(5, 0, 0), sVector(9, 0, 0), sSet(6, 1, 5), sReg(5, 3))
	g.wantRoot(2, gone())
	g.wantUsed(4, 17)
	return g
}

// P9.1: SInt.
func TestInt(t *testing.T) {
	g := roomy(t)
	for r := range api.MaxRoots {
		for _, n := range []int64{0, 1, -1, 7, -api.MaxInt, api.MaxInt - 1} {
			g.do(sInt(r, n))
			g.wantRoot(r, number(n))
		}
	}
	for _, n := range []int64{-api.MaxInt - 1, api.MaxInt, math.MinInt64, math.MaxInt64} {
		g.refuse(api.ErrRange, sInt(0, n))
	}
	g.wantUsed(0, 0)
}

// P9.1: SNil.
func TestNil(t *testing.T) {
	g := sown(t)
	for r := range api.MaxRoots {
		g.do(sNil(r))
		g.wantRoot(r, api.Val{})
	}
	g.wantUsed(4, 17)
}

// P9.1: SMove, of each kind of values, to itself, too; a thing that is moved is the same one.
func TestMove(t *testing.T) {
	g := sown(t)
	for a := range api.MaxRoots {
		ahead := stateOf(g.Grove)
		g.do(sMove(a, a))
		if !ahead.equal(stateOf(g.Grove)) {
			t.Errorf("the root %d, moved to itself, changed something", a)
		}
		g.do(sMove(11, a))
		if v := g.View(); v.Roots[11] != ahead.view.Roots[a] || v.Roots[a] != ahead.view.Roots[a] {
			t.Errorf("the root %d, which was %v, is %v, and moved %v", a, ahead.view.Roots[a], v.Roots[a], v.Roots[11])
		}
	}
}

// P9.1: a step changes the root R alone, and of these kinds nothing else, nor how many words are in use.
func TestOnlyOneRootChanges(t *testing.T) {
	for _, x := range []api.Step{sInt(10, 3), sNil(10), sMove(10, 5), sGet(10, 6, 1), sLen(10, 6), sSame(10, 6, 6)} {
		g := sown(t)
		ahead := stateOf(g.Grove)
		g.do(x)
		behind := stateOf(g.Grove)
		ahead.view.Roots[10] = behind.view.Roots[10]
		if !ahead.equal(behind) {
			t.Errorf("Do(%v) changed %v to %v", x, ahead, behind)
		}
	}
}

// P9.1: SPair, SWeak, SEphem: the fields are the roots A and B, in this order; the thing is young, and has three words.
func TestTwoFields(t *testing.T) {
	for step, kind := range map[int]int{api.SPair: api.KPair, api.SWeak: api.KWeak, api.SEphem: api.KEphem} {
		for a := range 10 {
			for b := range 10 {
				g := sown(t)
				young, old := g.Used()
				g.do(stepRAB(step, 10, a, b))
				g.wantNode(10, kind, a, b)
				g.wantUsed(young+3, old)
			}
		}
	}
}

// P9.1: the root that is made anew may be one of those that the new thing leads to: it leads to what that was ahead.
func TestTwoFieldsOfTheRootItself(t *testing.T) {
	for step, kind := range map[int]int{api.SPair: api.KPair, api.SWeak: api.KWeak, api.SEphem: api.KEphem} {
		for _, x := range [][2]int{{5, 6}, {6, 5}, {5, 5}, {0, 5}, {5, 0}} {
			g := sown(t)
			g.do(sMove(11, 5), stepRAB(step, 5, x[0], x[1]))
			for i, a := range x {
				if a == 5 {
					x[i] = 11
				}
			}
			g.wantNode(5, kind, x[0], x[1])
		}
	}
}

// P9.1: SVector of 0 to MaxVector fields, each the root A; and of more, and fewer.
func TestVector(t *testing.T) {
	for a := range 10 {
		for n := range api.MaxVector + 1 {
			g := sown(t)
			young, old := g.Used()
			g.do(sVector(10, a, int64(n)))
			g.wantNode(10, api.KVector, slices.Repeat([]int{a}, n)...)
			g.wantUsed(young+1+n, old)
			g.do(sMajor())
			g.wantNode(10, api.KVector, slices.Repeat([]int{a}, n)...)
		}
	}
	g := sown(t)
	for _, n := range []int64{-1, api.MaxVector + 1, 1 << 32, 1<<32 + 3, math.MinInt64, math.MaxInt64} {
		g.refuse(api.ErrRange, sVector(10, 0, n))
	}
}

// P9.1: a vector of the root that it is itself then.
func TestVectorOfTheRootItself(t *testing.T) {
	for n := range api.MaxVector + 1 {
		g := sown(t)
		g.do(sMove(11, 5), sVector(5, 5, int64(n)))
		g.wantNode(5, api.KVector, slices.Repeat([]int{11}, n)...)
	}
}

// P9.1: each field of a vector is one for itself.
func TestVectorFieldsAreApart(t *testing.T) {
	for n := 1; n <= api.MaxVector; n++ {
		g := roomy(t)
		g.do(sInt(0, 1), sInt(1, 2), sVector(2, 0, int64(n)), sVector(3, 0, int64(n)))
		for i := range n {
			g.do(sSet(2, i, 1))
			want := append(slices.Repeat([]int{1}, i+1), slices.Repeat([]int{0}, n-i-1)...)
			g.wantNode(2, api.KVector, want...)
		}
		g.wantNode(3, api.KVector, slices.Repeat([]int{0}, n)...)
	}
}

// P9.1: SGuard: nothing waits at a new one, and it has one word.
func TestGuard(t *testing.T) {
	g := sown(t)
	young, old := g.Used()
	g.do(sGuard(4))
	g.wantNode(4, api.KGuard)
	g.wantUsed(young+1, old)
	g.refuse(api.ErrNone, sPop(0, 4))
}

// P9.1: SGet, of each field that there is.
func TestGet(t *testing.T) {
	g := roomy(t)
	g.do(sInt(0, 4), sGuard(1), sPair(2, 0, 1), sWeak(3, 1, 2), sEphem(4, 2, 3), sVector(5, 4, 12))
	for _, x := range []struct{ a, i, want int }{
		{2, 0, 0}, {2, 1, 1}, {3, 0, 1}, {3, 1, 2}, {4, 0, 2}, {4, 1, 3}, {5, 0, 4}, {5, 5, 4}, {5, 11, 4},
	} {
		g.do(sGet(6, x.a, x.i))
		if v := g.View(); v.Roots[6] != v.Roots[x.want] {
			t.Errorf("the field %d of the root %d is %v, want the root %d, which is %v", x.i, x.a, v.Roots[6], x.want, v.Roots[x.want])
		}
	}
	g.do(sGet(5, 5, 7), sSame(6, 5, 4))
	g.wantRoot(6, number(1))
	g.wantUsed(23, 0)
}

// P9.1: SGet and SSet of what has no fields, or no such one; what leads to no thing is told first, whatever the field.
func TestNoSuchField(t *testing.T) {
	g := sown(t)
	for _, a := range []int{0, 1, 2, 3, 4} {
		for _, i := range []int{0, 1, -1, 2, 3, math.MinInt, math.MaxInt} {
			g.refuse(api.ErrKind, sGet(10, a, i))
			g.refuse(api.ErrKind, sSet(a, i, 5))
		}
	}
	for a, n := range map[int]int{5: 2, 6: 3, 7: 2, 8: 2, 9: 0} {
		for _, i := range []int{-1, n, n + 1, math.MinInt, math.MaxInt, 1 << 32, -1 << 32} {
			g.refuse(api.ErrRange, sGet(10, a, i))
			g.refuse(api.ErrRange, sSet(a, i, 5))
		}
	}
}

// P9.1: SSet changes that field alone, and makes no word more or fewer.
func TestSet(t *testing.T) {
	for b := range 10 {
		for _, x := range [][2]int{{5, 0}, {5, 1}, {6, 0}, {6, 1}, {6, 2}, {7, 0}, {7, 1}, {8, 0}, {8, 1}} {
			g := sown(t)
			g.do(sSet(x[0], x[1], b), sGet(10, x[0], x[1]), sSame(11, 10, b))
			g.wantRoot(11, number(1))
			g.wantUsed(4, 17)
			other := sown(t)
			for i := range other.nodeAt(x[0]).Fields {
				if i == x[1] {
					continue
				}
				// Whether the other fields lead to what they led to is told by values, as far as these are plain ones.
				got, want := g.nodeAt(x[0]).Fields[i], other.nodeAt(x[0]).Fields[i]
				if got.Kind != want.Kind || got.Kind == api.VInt && got != want {
					t.Errorf("the field %d of the root %d was set, and the field %d is %v, which was %v", x[1], x[0], i, got, want)
				}
			}
		}
	}
}

// P9.1: SLen, of each kind of values.
func TestLen(t *testing.T) {
	g := sown(t)
	for a, n := range map[int]int64{5: 2, 6: 3, 7: 2, 8: 2, 9: 0} {
		g.do(sLen(10, a))
		g.wantRoot(10, number(n))
	}
	for _, a := range []int{0, 1, 2, 3, 4} {
		g.refuse(api.ErrKind, sLen(10, a))
	}
	for n := range api.MaxVector + 1 {
		g.do(sVector(11, 0, int64(n)), sLen(11, 11))
		g.wantRoot(11, number(int64(n)))
	}
}

// P9.1: SSame, of each two roots: only what is the same value, or was moved from it, is the same.
func TestSame(t *testing.T) {
	for a := range 10 {
		for b := range 10 {
			g := sown(t)
			want := int64(0)
			if a == b {
				want = 1
			}
			g.do(sSame(10, a, b))
			g.wantRoot(10, number(want))
			g.do(sMove(11, b), sSame(10, a, 11))
			g.wantRoot(10, number(want))
		}
	}
}

// P9.1: SSame of equal numbers, and of things that only look the same.
func TestSameLooks(t *testing.T) {
	for _, x := range []struct {
		name string
		make func(r int) api.Step
		want int64
	}{
		{"numbers", func(r int) api.Step { return sInt(r, -9) }, 1},
		{"nothings", sNil, 1},
		{"pairs", func(r int) api.Step { return sPair(r, 5, 5) }, 0},
		{"weak pairs", func(r int) api.Step { return sWeak(r, 5, 5) }, 0},
		{"ephemerons", func(r int) api.Step { return sEphem(r, 5, 5) }, 0},
		{"vectors", func(r int) api.Step { return sVector(r, 5, 3) }, 0},
		{"vectors without fields", func(r int) api.Step { return sVector(r, 5, 0) }, 0},
		{"guardians", sGuard, 0},
	} {
		g := roomy(t)
		g.do(x.make(0), x.make(1))
		for _, cut := range []api.Step{sNil(9), sMinor(), sMajor()} {
			g.do(cut, sSame(2, 0, 1), sSame(3, 1, 1))
			if v := g.View(); v.Roots[2] != number(x.want) || v.Roots[3] != number(1) {
				t.Errorf("%s: %v and %v, want %d and 1", x.name, v.Roots[2], v.Roots[3], x.want)
			}
		}
	}
	g := roomy(t)
	g.do(sInt(0, 1), sInt(1, 2), sSame(0, 0, 1))
	g.wantRoot(0, number(0))
	g.do(sSame(0, 0, 0))
	g.wantRoot(0, number(1))
}

// P9.1: a number is never the same as a thing, whatever it is.
func TestSameOfNumbersAndThings(t *testing.T) {
	g := roomy(t)
	for r := range 4 {
		g.do(sPair(r, 9, 9))
	}
	for n := int64(-2); n < 20; n++ {
		g.do(sInt(8, n))
		for r := range 4 {
			g.do(sSame(7, r, 8))
			g.wantRoot(7, number(0))
		}
	}
}

// P9.1: a thing that is reached by two ways is the same one, behind cuts, too.
func TestSameBehindCuts(t *testing.T) {
	g := roomy(t)
	g.do(sPair(0, 5, 5), sPair(1, 0, 5), sWeak(2, 0, 5))
	for _, cut := range []api.Step{sMinor(), sMajor(), sMinor()} {
		g.do(cut, sGet(3, 1, 0), sGet(4, 2, 0), sSame(3, 3, 4), sSame(4, 0, 4))
		g.wantRoot(3, number(1))
		g.wantRoot(4, number(1))
	}
}

// Used, behind each step of a script: a thing has one word more than it has fields.
func TestUsed(t *testing.T) {
	g := newGround(t, 32, 40)
	for _, x := range []struct {
		api.Step
		young, old int
	}{
		{sInt(0, 3), 0, 0}, {sNil(0), 0, 0}, {sMinor(), 0, 0}, {sMajor(), 0, 0},
		{sPair(0, 5, 5), 3, 0}, {sWeak(1, 0, 0), 6, 0}, {sEphem(2, 0, 0), 9, 0}, {sGuard(3), 10, 0},
		{sVector(4, 0, 0), 11, 0}, {sVector(5, 0, 1), 13, 0}, {sVector(6, 0, 12), 26, 0},
		{sReg(6, 3), 26, 0}, {sGet(7, 6, 3), 26, 0}, {sSet(6, 3, 0), 26, 0}, {sLen(7, 6), 26, 0}, {sSame(7, 6, 6), 26, 0},
		{sMove(7, 6), 26, 0}, {sNil(4), 26, 0}, {sMinor(), 0, 25}, {sNil(6), 0, 25}, {sNil(7), 0, 25},
		{sVector(8, 0, 2), 3, 25}, {sPair(8, 8, 8), 6, 25}, {sPair(9, 8, 8), 9, 25}, {sNil(9), 9, 25},
		{sMinor(), 0, 31}, {sMajor(), 0, 31}, {sPop(6, 3), 0, 31}, {sNil(6), 0, 31}, {sMinor(), 0, 31}, {sMajor(), 0, 18},
		{sNil(0), 0, 18}, {sNil(5), 0, 18}, {sNil(8), 0, 18}, {sMinor(), 0, 18},
		// The weak pair keeps the pair by its second field.
		{sMajor(), 0, 10}, {sSet(1, 1, 9), 0, 10}, {sMinor(), 0, 10}, {sMajor(), 0, 7},
	} {
		g.do(x.Step)
		g.wantUsed(x.young, x.old)
		if t.Failed() {
			t.Fatalf("behind %v", x.Step)
		}
	}
}

// View, of all kinds of things, of ways that meet, and of ways that lead back.
func TestView(t *testing.T) {
	g := roomy(t)
	ref := func(n int64) api.Val { return api.Val{Kind: api.VRef, N: n} }
	// The ring of the pair and the vector is met by the root 1, in the order of its fields; the root 0 leads to nothing.
	g.do(sGuard(5), sVector(6, 7, 1), sReg(6, 5), sReg(5, 5), sNil(6), sMinor())
	g.do(sInt(0, 8), sPair(1, 0, 0), sVector(2, 1, 2), sSet(1, 1, 2), sWeak(3, 2, 5), sEphem(4, 3, 0), sSet(2, 0, 4), sVector(8, 0, 0))
	want := api.View{
		Roots: []api.Val{number(8), ref(0), ref(1), ref(3), ref(2), ref(4), {}, {}, ref(6), {}, {}, {}},
		Nodes: []api.Node{
			{Kind: api.KPair, Fields: []api.Val{number(8), ref(1)}},
			{Kind: api.KVector, Fields: []api.Val{ref(2), ref(0)}},
			{Kind: api.KEphem, Fields: []api.Val{ref(3), number(8)}},
			{Kind: api.KWeak, Fields: []api.Val{ref(1), ref(4)}},
			{Kind: api.KGuard, Fields: []api.Val{ref(5)}},
			{Kind: api.KVector, Fields: []api.Val{{}}},
			{Kind: api.KVector},
		},
	}
	if got := g.View(); !sameView(got, want) {
		t.Errorf("View() = %v, want %v", got, want)
	}
}

// View: a long way is gone through to its end.
func TestViewOfALongWay(t *testing.T) {
	g := roomy(t)
	for range 500 {
		g.do(sVector(0, 0, 1))
	}
	v := g.View()
	if len(v.Nodes) != 500 {
		t.Fatalf("%d nodes", len(v.Nodes))
	}
	for i, n := range v.Nodes {
		want := api.Val{Kind: api.VRef, N: int64(i + 1)}
		if i == 499 {
			want = api.Val{}
		}
		if n.Kind != api.KVector || !slices.Equal(n.Fields, []api.Val{want}) {
			t.Errorf("the node %d is %v", i, n)
		}
	}
}

// What is answered is new memory: neither the grove nor another list is changed by what is written into a View, behind its end, too.
func TestViewIsNewMemory(t *testing.T) {
	g := sown(t)
	ahead := stateOf(g.Grove)
	v := g.View()
	lists := [][]api.Val{v.Roots}
	for _, n := range v.Nodes {
		lists = append(lists, n.Fields)
	}
	for i, l := range lists {
		for j := range l[:cap(l)] {
			l[:cap(l)][j] = api.Val{Kind: 100 + i, N: int64(j)}
		}
	}
	for i, l := range lists {
		for j, x := range l {
			if x != (api.Val{Kind: 100 + i, N: int64(j)}) {
				t.Errorf("the list %d has %v at %d: another list shares it", i, x, j)
			}
		}
	}
	if !ahead.equal(stateOf(g.Grove)) {
		t.Error("what was written into a View changed the grove")
	}
}
