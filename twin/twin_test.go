package twin_test

import (
	"math"
	"slices"
	"testing"

	"underwood/api"
	"underwood/heap"
	"underwood/twin"
)

// outside are numbers of roots that there are not.
func outside() []int {
	return []int{-1, -2, api.MaxRoots, api.MaxRoots + 1, 1 << 32, -1 << 32, math.MinInt, math.MaxInt}
}

// New's fault, at the bounds of both spaces and one beside each; it is heap.New's.
func TestNew(t *testing.T) {
	for _, nursery := range []int{api.MinNursery - 1, api.MinNursery, api.MaxNursery, api.MaxNursery + 1, 0, -1, math.MinInt, math.MaxInt} {
		for _, old := range []int{-1, 0, 1, api.MaxOld, api.MaxOld + 1, math.MinInt, math.MaxInt} {
			w, f := twin.New(nursery, old)
			if _, want := heap.New(nursery, old); f != want {
				t.Errorf("New(%d, %d) has the fault %v, that of a heap %v", nursery, old, f, want)
			}
			if nursery < 16 || nursery > 256 || old < 0 || old > 1024 {
				if w != nil || f != (api.Fault{Code: api.ErrRange, At: -1}) {
					t.Errorf("New(%d, %d) = %v, %v", nursery, old, w, f)
				}
				continue
			}
			if w == nil || f != (api.Fault{}) {
				t.Errorf("New(%d, %d) = %v, %v", nursery, old, w, f)
				continue
			}
			wantEmpty(t, w)
		}
	}
}

// wantEmpty holds what is so of a twin in which nothing was done.
func wantEmpty(t *testing.T, w *twin.Twin) {
	t.Helper()
	want := state{view: api.View{Roots: make([]api.Val, api.MaxRoots)}}
	if got := stateOf(w); !got.equal(want) {
		t.Errorf("a new twin tells %v", got)
	}
}

// New's spaces have just so many words: where all is kept, the old space takes the nursery as often as it has room for it.
func TestNewSpaces(t *testing.T) {
	for _, x := range [][2]int{{16, 0}, {16, 15}, {16, 16}, {16, 31}, {16, 32}, {64, 200}, {256, 0}, {256, 255}, {256, 256}, {256, 1023}, {256, 1024}} {
		nursery, old := x[0], x[1]
		g := newGround(t, nursery, old)
		for made := 0; g.step(sVector(0, 0, 1)) == 0; made++ {
			if made > nursery+old {
				t.Fatalf("New(%d, %d) is never full", nursery, old)
			}
		}
		g.wantUsed(nursery, old/nursery*nursery)
		g.refuse(api.ErrFull, sGuard(1))
	}
}

// P10.1: each kind of step, what it does, and how many words are in use then.
func TestEachKind(t *testing.T) {
	for _, x := range []struct {
		name       string
		step       api.Step
		young, old int
		want       func(g *ground)
	}{
		{"int", sInt(10, -8), 4, 17, func(g *ground) { g.wantRoot(10, number(-8)) }},
		{"nil", sNil(9), 4, 17, func(g *ground) { g.wantRoot(9, api.Val{}) }},
		{"move", sMove(10, 5), 4, 17, func(g *ground) { g.wantRoot(10, g.View().Roots[5]); g.wantNode(10, api.KPair, 0, 0) }},
		{"pair", sPair(10, 5, 6), 7, 17, func(g *ground) { g.wantNode(10, api.KPair, 5, 6) }},
		{"vector", sVector(10, 5, 12), 17, 17, func(g *ground) { g.wantNode(10, api.KVector, slices.Repeat([]int{5}, 12)...) }},
		{"vector without fields", sVector(10, 5, 0), 5, 17, func(g *ground) { g.wantNode(10, api.KVector) }},
		{"weak", sWeak(10, 5, 6), 7, 17, func(g *ground) { g.wantNode(10, api.KWeak, 5, 6) }},
		{"ephem", sEphem(10, 5, 6), 7, 17, func(g *ground) { g.wantNode(10, api.KEphem, 5, 6) }},
		{"guard", sGuard(10), 5, 17, func(g *ground) { g.wantNode(10, api.KGuard) }},
		{"reg", sReg(9, 3), 4, 17, func(g *ground) {
			g.do(sNil(9), sMinor(), sPop(9, 3))
			g.wantNode(9, api.KVector)
		}},
		{"pop", sPop(10, 4), 4, 17, func(g *ground) { g.wantNode(10, api.KVector, 0); g.wantNode(4, api.KGuard) }},
		{"get", sGet(10, 6, 1), 4, 17, func(g *ground) { g.wantRoot(10, g.View().Roots[5]) }},
		{"set", sSet(5, 1, 6), 4, 17, func(g *ground) { g.wantNode(5, api.KPair, 0, 6) }},
		{"len", sLen(10, 6), 4, 17, func(g *ground) { g.wantRoot(10, number(3)) }},
		{"same", sSame(10, 6, 6), 4, 17, func(g *ground) { g.wantRoot(10, number(1)) }},
		{"other", sSame(10, 6, 5), 4, 17, func(g *ground) { g.wantRoot(10, number(0)) }},
		// The weak pair from which the root 2 was taken is old, and lost: the small cut leaves it, the great one takes it.
		{"minor", sMinor(), 0, 21, func(g *ground) { g.wantNode(5, api.KPair, 0, 0) }},
		{"major", sMajor(), 0, 18, func(g *ground) { g.wantNode(5, api.KPair, 0, 0) }},
	} {
		t.Run(x.name, func(t *testing.T) {
			g := sown(t)
			g.do(x.step)
			g.wantUsed(x.young, x.old)
			x.want(g)
		})
	}
}

// P10.1: kinds that there are not.
func TestNoSuchKind(t *testing.T) {
	g := sown(t)
	for _, kind := range []int{0, 17, 18, 99, -1, -16, 1<<32 + 1, -1 << 32, math.MinInt, math.MaxInt} {
		g.refuse(api.ErrKind, api.Step{Kind: kind})
		g.refuse(api.ErrKind, step(kind))
	}
}

// P10.1: roots that there are not, of all that a kind uses; those that it does not use may be any number.
func TestNoSuchRoot(t *testing.T) {
	g := sown(t)
	for kind := api.SInt; kind <= api.SMajor; kind++ {
		for _, n := range outside() {
			for bit, x := range map[int]api.Step{1: {Kind: kind, R: n, A: 5, B: 3}, 2: {Kind: kind, R: 10, A: n, B: 3}, 4: {Kind: kind, R: 10, A: 5, B: n}} {
				if heap.Uses(kind)&bit != 0 {
					g.refuse(api.ErrRange, x)
				} else if code := g.step(x); code == api.ErrRange {
					t.Errorf("Do(%v) = %d, though it does not use that root", x, code)
				}
			}
		}
	}
}

// P10.1: numbers and vectors beside the bounds.
func TestNoSuchNumber(t *testing.T) {
	g := sown(t)
	for _, n := range []int64{-api.MaxInt, api.MaxInt - 1} {
		g.do(sInt(10, n))
		g.wantRoot(10, number(n))
	}
	for _, n := range []int64{-api.MaxInt - 1, api.MaxInt, math.MinInt64, math.MaxInt64} {
		g.refuse(api.ErrRange, sInt(10, n))
	}
	for _, n := range []int64{-1, api.MaxVector + 1, 1 << 32, 1<<32 + 3, math.MinInt64, math.MaxInt64} {
		g.refuse(api.ErrRange, sVector(10, 0, n))
	}
}

// P10.1: SGet, SSet, SLen, SReg and SPop of what they do not take, and fields that there are not.
func TestStepsOfTheWrongThing(t *testing.T) {
	g := sown(t)
	for _, a := range []int{0, 1, 2, 3, 4} {
		for _, i := range []int{0, -1, 2, math.MaxInt} {
			g.refuse(api.ErrKind, sGet(10, a, i))
			g.refuse(api.ErrKind, sSet(a, i, 5))
		}
		g.refuse(api.ErrKind, sLen(10, a))
	}
	for a, n := range map[int]int{5: 2, 6: 3, 7: 2, 8: 2, 9: 0} {
		for _, i := range []int{-1, n, n + 1, math.MinInt, math.MaxInt} {
			g.refuse(api.ErrRange, sGet(10, a, i))
			g.refuse(api.ErrRange, sSet(a, i, 5))
		}
	}
	for _, a := range []int{0, 1, 2} {
		g.refuse(api.ErrKind, sReg(a, 3))
		g.refuse(api.ErrKind, sPop(10, a))
	}
	for _, b := range []int{0, 1, 2, 5, 6, 7, 8, 9} {
		g.refuse(api.ErrKind, sReg(5, b))
		g.refuse(api.ErrKind, sPop(10, b))
	}
	g.refuse(api.ErrNone, sPop(10, 3))
}

// P10.1: SReg where as many entries are as may be, of what is registered and of what waits.
func TestRegWhereItIsFull(t *testing.T) {
	for _, waiting := range []int{0, 10, api.MaxRegs} {
		g := roomy(t)
		g.do(sGuard(0), sPair(1, 5, 5))
		for range waiting {
			g.do(sReg(1, 0))
		}
		g.do(sNil(1), sMinor(), sVector(1, 5, 1))
		for range api.MaxRegs - waiting {
			g.do(sReg(1, 0))
		}
		g.refuse(api.ErrFull, sReg(1, 0))
		g.refuse(api.ErrKind, sReg(5, 0))
		if waiting > 0 {
			g.do(sPop(2, 0), sReg(1, 0))
			g.refuse(api.ErrFull, sReg(1, 0))
		}
	}
}

// P10.1: cuts that are refused, and new things for which there is no room.
func TestWhereThereIsNoRoom(t *testing.T) {
	makers := []api.Step{sPair(11, 9, 9), sWeak(11, 9, 9), sEphem(11, 9, 9), sGuard(11), sVector(11, 9, 0), sVector(11, 9, 12)}
	g := newGround(t, 16, 15)
	g.do(sVector(0, 9, 11), sPair(1, 0, 9), sGuard(2))
	g.refuse(api.ErrFull, sMinor())
	g.refuse(api.ErrFull, sMajor())
	for _, x := range makers {
		g.refuse(api.ErrFull, x)
	}
	// Without the guardian there is room for what is alive, though not for all of the nursery.
	g.do(sNil(2))
	g.refuse(api.ErrFull, sMinor())
	g.do(makers[0])
	g.wantUsed(3, 15)
	g.wantNode(11, api.KPair, 9, 9)
}

// P10.1: the small cut makes room as long as the old space has room for all of the nursery, then the great one.
func TestRoomIsMade(t *testing.T) {
	g := newGround(t, 16, 32)
	for _, old := range []int{0, 13, 26, 13, 26, 13, 26} {
		// The vector in the root is alive when the next one is made, and is lost then.
		g.do(sVector(0, 1, 12))
		g.wantUsed(13, old)
	}
}

// View, of all kinds of things, of ways that meet, and of ways that lead back.
func TestView(t *testing.T) {
	g := roomy(t)
	// The ring of the pair and the vector is met by the root 1, in the order of its fields; the root 0 leads to nothing.
	g.do(sGuard(5), sVector(6, 7, 1), sReg(6, 5), sReg(5, 5), sNil(6), sMinor())
	g.do(sInt(0, 8), sPair(1, 0, 0), sVector(2, 1, 2), sSet(1, 1, 2), sWeak(3, 2, 5), sEphem(4, 3, 0), sSet(2, 0, 4), sVector(8, 0, 0))
	want := api.View{
		Roots: []api.Val{number(8), ref(0), ref(1), ref(3), ref(2), ref(4), {}, {}, ref(6), {}, {}, {}},
		Nodes: []api.Node{
			{Kind: api.KPair, Fields: []api.Val{number(8), ref(1)}},
			{Kind: api.KVector, Fields: []api.Val{ref(2), ref(0)}},
			{Kind: api.KEphem, Fields: []api.Val{ref(3), number(8)}},
			{Kind: api.KWeak, Fields: []api.Val{ref(1), ref(4)}},
			{Kind: api.KGuard, Fields: []api.Val{ref(5)}},
			{Kind: api.KVector, Fields: []api.Val{{}}},
			{Kind: api.KVector},
		},
	}
	if got := g.View(); !sameView(got, want) || !twin.Same(got, want) {
		t.Errorf("View() = %v, want %v", got, want)
	}
}

// View: a long way is gone through to its end.
func TestViewOfALongWay(t *testing.T) {
	g := roomy(t)
	for range 500 {
		g.do(sVector(0, 0, 1))
	}
	if n := len(g.View().Nodes); n != 500 {
		t.Errorf("%d nodes", n)
	}
}

// Used, behind each step of a script.
func TestUsed(t *testing.T) {
	g := newGround(t, 32, 40)
	for _, x := range []struct {
		api.Step
		young, old int
	}{
		{sInt(0, 3), 0, 0}, {sNil(0), 0, 0}, {sMinor(), 0, 0}, {sMajor(), 0, 0},
		{sPair(0, 5, 5), 3, 0}, {sWeak(1, 0, 0), 6, 0}, {sEphem(2, 0, 0), 9, 0}, {sGuard(3), 10, 0},
		{sVector(4, 0, 0), 11, 0}, {sVector(5, 0, 1), 13, 0}, {sVector(6, 0, 12), 26, 0},
		{sReg(6, 3), 26, 0}, {sNil(4), 26, 0}, {sMinor(), 0, 25}, {sNil(6), 0, 25},
		{sVector(8, 0, 2), 3, 25}, {sPair(8, 8, 8), 6, 25}, {sPair(9, 8, 8), 9, 25}, {sNil(9), 9, 25},
		{sMinor(), 0, 31}, {sMajor(), 0, 31}, {sPop(6, 3), 0, 31}, {sNil(6), 0, 31}, {sMinor(), 0, 31}, {sMajor(), 0, 18},
	} {
		g.do(x.Step)
		g.wantUsed(x.young, x.old)
		if t.Failed() {
			t.Fatalf("behind %v", x.Step)
		}
	}
}

// A view that was answered stays as it was when more steps are done.
func TestViewStays(t *testing.T) {
	g := sown(t)
	var views, were []api.View
	for _, x := range []api.Step{
		sInt(0, 9), sSet(5, 0, 6), sSet(6, 0, 0), sPop(10, 4), sPair(11, 10, 5), sMinor(), sNil(6), sNil(10), sNil(11),
		sSet(7, 1, 8), sMajor(), sVector(6, 7, 12), sSet(6, 11, 6), sNil(5), sMajor(), step(99), sPop(5, 3), sSet(8, 0, 5),
	} {
		v := g.View()
		views, were = append(views, v), append(were, cloneView(v))
		g.step(x)
		for i := range views {
			if !sameView(views[i], were[i]) {
				t.Fatalf("behind %v a view that was answered ahead is %v, and was %v", x, views[i], were[i])
			}
		}
	}
}

// What is answered is new memory: neither the twin nor another list is changed by what is written into a View, behind its end, too.
func TestViewIsNewMemory(t *testing.T) {
	g := sown(t)
	ahead := stateOf(g)
	v := g.View()
	lists := [][]api.Val{v.Roots}
	for i, n := range v.Nodes {
		lists = append(lists, n.Fields)
		v.Nodes[i].Kind = 77
	}
	for i, l := range lists {
		for j := range l[:cap(l)] {
			l[:cap(l)][j] = api.Val{Kind: 100 + i, N: int64(j)}
		}
	}
	for i, l := range lists {
		for j, x := range l {
			if x != (api.Val{Kind: 100 + i, N: int64(j)}) {
				t.Errorf("the list %d has %v at %d: another list shares it", i, x, j)
			}
		}
	}
	if !ahead.equal(stateOf(g)) {
		t.Error("what was written into a View changed the twin")
	}
	// If it had changed the twin unseen, a fault would be told of the next step.
	g.do(sMove(10, 5), sMinor(), sMajor())
}

// Twins know nothing of each other, whatever is done to one of them.
func TestTwinsAreApart(t *testing.T) {
	g, other := roomy(t), roomy(t)
	g.do(sInt(0, 7), sGuard(1), sPair(2, 0, 1), sReg(2, 1), sMinor(), sPair(3, 0, 0), sSet(2, 0, 3), sNil(2), sMajor(), sPop(4, 1))
	wantEmpty(t, other.Twin)
	ahead := stateOf(g)
	other.do(sGuard(0), sGuard(1), sVector(2, 0, 12), sReg(2, 1), sSet(2, 3, 2), sNil(2), sMajor(), sMinor(), sPop(3, 1), sNil(3))
	if behind := stateOf(g); !ahead.equal(behind) {
		t.Errorf("steps of another twin changed %v to %v", ahead, behind)
	}
	// What of one waits does not wait at the other, nor is what is registered.
	g.refuse(api.ErrNone, sPop(5, 1))
	other.refuse(api.ErrNone, sPop(5, 1))
	other.refuse(api.ErrNone, sPop(5, 0))
}

// A fault of one twin is none of another.
func TestFaultsAreApart(t *testing.T) {
	g, other := roomy(t), roomy(t)
	g.Heap.Do(sInt(0, 1))
	if _, f := g.Do(sNil(1)); f.Code != api.ErrOther {
		t.Fatalf("the heap was changed alone, and the fault is %v", f)
	}
	other.do(sNil(1), sInt(0, 1), sPair(2, 0, 0))
}
