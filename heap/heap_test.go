package heap_test

import (
	"math"
	"slices"
	"testing"

	"underwood/api"
	"underwood/heap"
	"underwood/word"
)

// New's fault, at the bounds of both spaces and one beside each.
func TestNew(t *testing.T) {
	for _, nursery := range []int{api.MinNursery - 1, api.MinNursery, api.MaxNursery, api.MaxNursery + 1, 0, -1, math.MinInt, math.MaxInt} {
		for _, old := range []int{-1, 0, 1, api.MaxOld, api.MaxOld + 1, math.MinInt, math.MaxInt} {
			h, f := heap.New(nursery, old)
			if nursery < 16 || nursery > 256 || old < 0 || old > 1024 {
				if h != nil || f != (api.Fault{Code: api.ErrRange, At: -1}) {
					t.Errorf("New(%d, %d) = %v, %v", nursery, old, h, f)
				}
				continue
			}
			if h == nil || f != (api.Fault{}) {
				t.Errorf("New(%d, %d) = %v, %v", nursery, old, h, f)
				continue
			}
			wantEmpty(t, h, nursery, old)
		}
	}
}

// wantEmpty holds what is so of a heap in which nothing was done.
func wantEmpty(t *testing.T, h *heap.Heap, nursery, old int) {
	t.Helper()
	s := stateOf(h)
	if s.usedYoung != 0 || s.usedOld != 0 || len(s.marked) != 0 || len(s.regs) != 0 || len(s.wait) != 0 {
		t.Errorf("a new heap holds %v", s)
	}
	if young, free := h.Free(); young != nursery || free != old {
		t.Errorf("a new heap has %d, %d free words, want %d, %d", young, free, nursery, old)
	}
	if !slices.Equal(s.roots, slices.Repeat([]int64{word.Nil()}, api.MaxRoots)) {
		t.Errorf("the roots of a new heap are %v", s.roots)
	}
}

// Heaps have nothing in common.
func TestHeapsAreApart(t *testing.T) {
	g, other := roomy(t), roomy(t)
	g.do(sInt(0, 7), sGuard(1), sPair(2, 0, 1), sReg(2, 1), sMinor(), sPair(3, 0, 0), sSet(2, 0, 3))
	wantEmpty(t, other.Heap, api.MaxNursery, api.MaxOld)
}

// P8.1: kinds that there are not.
func TestNoSuchKind(t *testing.T) {
	g := sown(t)
	for _, kind := range noKinds {
		g.refuse(api.ErrKind, plain(kind))
		g.refuse(api.ErrKind, step(kind))
	}
}

// sown answers a ground in whose roots is a bit of all: 0 a number, 1 nothing, 2 what is gone, 3 a guardian at which nothing waits,
// 4 a guardian at which a vector waits, 5 a pair, 6 a vector of 3 fields, 7 a weak pair, 8 an ephemeron, 9 a vector without fields.
// The things 3, 4, 6, 7 and 8 are old, one of them leads to a young one, and its card is marked.
func sown(t *testing.T) *ground {
	t.Helper()
	g := roomy(t)
	g.do(sInt(0, 5), sGuard(3), sGuard(4), sVector(10, 0, 1), sReg(10, 4), sWeak(7, 10, 0), sNil(10))
	g.do(sVector(6, 0, 3), sEphem(8, 6, 0), sPair(5, 0, 0), sWeak(2, 5, 0), sNil(5), sMinor(), sGet(2, 2, 0))
	g.do(sPair(5, 0, 0), sVector(9, 0, 0), sSet(6, 1, 5), sReg(5, 3))
	g.wantRoot(2, api.Val{Kind: api.VGone})
	g.wantSide(1, 1)
	if g.Cards.Count() == 0 {
		t.Fatal("no card is marked")
	}
	return g
}

// P8.1: SInt.
func TestInt(t *testing.T) {
	g := roomy(t)
	for r := range api.MaxRoots {
		for _, n := range []int64{0, 1, -1, 7, -api.MaxInt, api.MaxInt - 1} {
			g.do(sInt(r, n))
			g.wantRoot(r, number(n))
		}
	}
	for _, n := range []int64{-api.MaxInt - 1, api.MaxInt, math.MinInt64, math.MaxInt64} {
		g.refuse(api.ErrRange, sInt(0, n))
	}
	g.wantUsed(0, 0)
}

// P8.1: SNil.
func TestNil(t *testing.T) {
	g := sown(t)
	for r := range api.MaxRoots {
		g.do(sNil(r))
		g.wantRoot(r, api.Val{})
	}
}

// P8.1: SMove, of each kind of values, to itself, too; a thing that is moved is the same one.
func TestMove(t *testing.T) {
	g := sown(t)
	for a := range api.MaxRoots {
		ahead := stateOf(g.Heap)
		g.do(sMove(a, a))
		if !ahead.equal(stateOf(g.Heap)) {
			t.Errorf("the root %d, moved to itself, changed something", a)
		}
		g.do(sMove(11, a))
		if g.Roots[11] != ahead.roots[a] || g.Roots[a] != ahead.roots[a] {
			t.Errorf("the root %d, which was %d, is %d, and moved %d", a, ahead.roots[a], g.Roots[a], g.Roots[11])
		}
	}
}

// P8.1: a step changes the root R alone, and of these kinds nothing else.
func TestOnlyOneRootChanges(t *testing.T) {
	for _, x := range []api.Step{sInt(10, 3), sNil(10), sMove(10, 5), sGet(10, 6, 1), sLen(10, 6), sSame(10, 6, 6)} {
		g := sown(t)
		ahead := stateOf(g.Heap)
		g.do(x)
		behind := stateOf(g.Heap)
		ahead.roots[10] = behind.roots[10]
		if !ahead.equal(behind) {
			t.Errorf("Do(%v) changed %v to %v", x, ahead, behind)
		}
	}
}

// P8.1: SPair, SWeak, SEphem: the fields are the roots A and B, in this order.
func TestTwoFields(t *testing.T) {
	for step, kind := range map[int]int{api.SPair: api.KPair, api.SWeak: api.KWeak, api.SEphem: api.KEphem} {
		for a := range 10 {
			for b := range 10 {
				g := sown(t)
				young, old := g.Used()
				g.do(stepRAB(step, 10, a, b))
				g.wantNode(10, kind, a, b)
				g.wantYoung(10, young)
				g.wantUsed(young+3, old)
			}
		}
	}
}

// P8.1: the root that is made anew may be one of those that the new thing leads to: it leads to what that was ahead.
func TestTwoFieldsOfTheRootItself(t *testing.T) {
	for _, step := range []int{api.SPair, api.SWeak, api.SEphem} {
		for _, x := range [][2]int{{5, 6}, {6, 5}, {5, 5}, {0, 5}, {5, 0}} {
			g := sown(t)
			g.do(sMove(11, 5))
			g.do(stepRAB(step, 5, x[0], x[1]))
			for i, a := range x {
				if a == 5 {
					a = 11
				}
				if y, _ := g.Get(g.Roots[5], i); y != g.Roots[a] {
					t.Errorf("the kind %d of the roots %v: the field %d is %d, want %d", step, x, i, y, g.Roots[a])
				}
			}
		}
	}
}

// P8.1: SVector of 0 to MaxVector fields, each the root A; and of more, and fewer.
func TestVector(t *testing.T) {
	for a := range 10 {
		for n := range api.MaxVector + 1 {
			g := sown(t)
			young, old := g.Used()
			g.do(sVector(10, a, int64(n)))
			g.wantNode(10, api.KVector, slices.Repeat([]int{a}, n)...)
			g.wantYoung(10, young)
			g.wantUsed(young+1+n, old)
		}
	}
	g := sown(t)
	for _, n := range []int64{-1, api.MaxVector + 1, 1 << 32, math.MinInt64, math.MaxInt64} {
		g.refuse(api.ErrRange, sVector(10, 0, n))
	}
}

// P8.1: a vector of the root that it is itself then.
func TestVectorOfTheRootItself(t *testing.T) {
	for n := range api.MaxVector + 1 {
		g := sown(t)
		g.do(sMove(11, 5), sVector(5, 5, int64(n)))
		g.wantNode(5, api.KVector, slices.Repeat([]int{11}, n)...)
	}
}

// P8.1: SGuard: nothing waits at a new one.
func TestGuard(t *testing.T) {
	g := sown(t)
	young, old := g.Used()
	g.do(sGuard(4))
	g.wantNode(4, api.KGuard)
	g.wantYoung(4, young)
	g.wantUsed(young+1, old)
	g.refuse(api.ErrNone, sPop(0, 4))
	g.wantSide(1, 1)
}

// P8.1: SGet, of each field that there is.
func TestGet(t *testing.T) {
	g := roomy(t)
	g.do(sInt(0, 4), sGuard(1), sPair(2, 0, 1), sWeak(3, 1, 2), sEphem(4, 2, 3), sVector(5, 4, 12))
	for _, x := range []struct{ a, i, want int }{
		{2, 0, 0}, {2, 1, 1}, {3, 0, 1}, {3, 1, 2}, {4, 0, 2}, {4, 1, 3}, {5, 0, 4}, {5, 5, 4}, {5, 11, 4},
	} {
		g.do(sGet(6, x.a, x.i))
		if g.Roots[6] != g.Roots[x.want] {
			t.Errorf("the field %d of the root %d is %d, want the root %d, which is %d", x.i, x.a, g.Roots[6], x.want, g.Roots[x.want])
		}
	}
	g.do(sGet(5, 5, 7))
	if g.Roots[5] != g.Roots[4] {
		t.Errorf("a root that is its own field is %d, want %d", g.Roots[5], g.Roots[4])
	}
}

// P8.1: SGet tells what a cut broke as what is gone.
func TestGetGone(t *testing.T) {
	g := roomy(t)
	g.do(sPair(0, 1, 1), sWeak(2, 0, 0), sEphem(3, 0, 0), sNil(0))
	for _, i := range []int{0, 1} {
		g.do(sGet(4, 2, i), sGet(5, 3, i))
		g.wantNode(4, api.KPair, 1, 1)
		g.wantNode(5, api.KPair, 1, 1)
	}
	// The weak pair's second field keeps the pair alive; without it nothing does.
	g.do(sNil(4), sNil(5), sSet(2, 1, 0), sMinor())
	for _, x := range []struct{ a, i, kind int }{{2, 0, api.VGone}, {2, 1, api.VNil}, {3, 0, api.VGone}, {3, 1, api.VGone}} {
		g.do(sGet(4, x.a, x.i))
		g.wantRoot(4, api.Val{Kind: x.kind})
	}
}

// P8.1: SGet and SSet of what has no fields, or no such one; what leads to no thing is told first, whatever the field.
func TestNoSuchField(t *testing.T) {
	g := sown(t)
	fields := []int{0, 1, -1, 2, 3, math.MinInt, math.MaxInt}
	for _, a := range []int{0, 1, 2, 3, 4} {
		for _, i := range fields {
			g.refuse(api.ErrKind, sGet(10, a, i))
			g.refuse(api.ErrKind, sSet(a, i, 5))
		}
	}
	for a, n := range map[int]int{5: 2, 6: 3, 7: 2, 8: 2, 9: 0} {
		for _, i := range []int{-1, n, n + 1, math.MinInt, math.MaxInt, 1 << 32, -1 << 32} {
			g.refuse(api.ErrRange, sGet(10, a, i))
			g.refuse(api.ErrRange, sSet(a, i, 5))
		}
	}
	for _, r := range outside {
		g.refuse(api.ErrRange, sGet(r, 0, 0))
		g.refuse(api.ErrRange, sGet(0, r, 0))
		g.refuse(api.ErrRange, sSet(r, 0, 0))
		g.refuse(api.ErrRange, sSet(0, 0, r))
	}
}

// P8.1: SSet changes that field alone.
func TestSet(t *testing.T) {
	for b := range 10 {
		for _, x := range [][2]int{{5, 0}, {5, 1}, {6, 0}, {6, 1}, {6, 2}, {7, 0}, {7, 1}, {8, 0}, {8, 1}} {
			g := sown(t)
			ahead := stateOf(g.Heap)
			g.do(sSet(x[0], x[1], b))
			at, _ := word.At(g.Roots[x[0]])
			ahead.words[at+1+x[1]] = g.Roots[b]
			behind := stateOf(g.Heap)
			ahead.marked = behind.marked
			if !ahead.equal(behind) {
				t.Errorf("the field %d of the root %d, made the root %d: %v, want %v", x[1], x[0], b, behind, ahead)
			}
			g.leadsWell()
		}
	}
}

// P8.1: a young thing that an old one alone leads to, by SSet, is alive behind a small cut.
func TestSetKeepsYoungThings(t *testing.T) {
	for a, i := range map[int]int{0: 1, 1: 11, 2: 1} {
		g := roomy(t)
		g.do(sPair(0, 3, 3), sVector(1, 3, 12), sWeak(2, 3, 3), sMinor())
		g.do(sInt(4, 77), sPair(5, 4, 4), sSet(a, i, 5), sNil(5), sMinor(), sGet(5, a, i))
		g.wantNode(5, api.KPair, 4, 4)
		g.leadsWell()
	}
}

// P8.1: things may lead to themselves, and to each other.
func TestRound(t *testing.T) {
	g := roomy(t)
	g.do(sPair(0, 2, 2), sSet(0, 0, 0), sVector(1, 0, 2), sSet(0, 1, 1), sMinor(), sMajor())
	g.wantNode(0, api.KPair, 0, 1)
	g.wantNode(1, api.KVector, 0, 0)
	g.do(sNil(0), sNil(1), sMajor())
	g.wantUsed(0, 0)
}

// P8.1: SLen, of each kind of values.
func TestLen(t *testing.T) {
	g := sown(t)
	for a, n := range map[int]int64{5: 2, 6: 3, 7: 2, 8: 2, 9: 0} {
		g.do(sLen(10, a))
		g.wantRoot(10, number(n))
	}
	for _, a := range []int{0, 1, 2, 3, 4} {
		g.refuse(api.ErrKind, sLen(10, a))
	}
	for n := range api.MaxVector + 1 {
		g.do(sVector(11, 0, int64(n)), sLen(11, 11))
		g.wantRoot(11, number(int64(n)))
	}
}

// P8.1: SSame, of each two roots: only what is the same root's word, or was moved from it, is the same.
func TestSame(t *testing.T) {
	for a := range 10 {
		for b := range 10 {
			g := sown(t)
			want := int64(0)
			if a == b {
				want = 1
			}
			g.do(sSame(10, a, b))
			g.wantRoot(10, number(want))
			g.do(sMove(11, b), sSame(10, a, 11))
			g.wantRoot(10, number(want))
		}
	}
}

// P8.1: SSame of equal numbers, and of things that only look the same.
func TestSameLooks(t *testing.T) {
	for _, x := range []struct {
		name string
		make func(r int) api.Step
		want int64
	}{
		{"numbers", func(r int) api.Step { return sInt(r, -9) }, 1},
		{"nothings", sNil, 1},
		{"pairs", func(r int) api.Step { return sPair(r, 5, 5) }, 0},
		{"weak pairs", func(r int) api.Step { return sWeak(r, 5, 5) }, 0},
		{"ephemerons", func(r int) api.Step { return sEphem(r, 5, 5) }, 0},
		{"vectors", func(r int) api.Step { return sVector(r, 5, 3) }, 0},
		{"vectors without fields", func(r int) api.Step { return sVector(r, 5, 0) }, 0},
		{"guardians", sGuard, 0},
	} {
		g := roomy(t)
		g.do(x.make(0), x.make(1))
		for _, cut := range []api.Step{sNil(9), sMinor(), sMajor()} {
			g.do(cut, sSame(2, 0, 1), sSame(3, 1, 1))
			if g.Roots[2] != x.want*4 || g.Roots[3] != 4 {
				t.Errorf("%s: %v and %v, want %d and 1", x.name, g.Roots[2], g.Roots[3], x.want)
			}
		}
	}
	g := roomy(t)
	g.do(sInt(0, 1), sInt(1, 2), sSame(0, 0, 1))
	g.wantRoot(0, number(0))
	g.do(sSame(0, 0, 0))
	g.wantRoot(0, number(1))
	// A number whose word has the bits of a place is not the same as what leads there.
	g.do(sPair(2, 0, 0), sInt(3, 0), sSame(4, 2, 3))
	g.wantRoot(4, number(0))
}

// P8.1: a thing that is reached by two ways is the same one, behind cuts, too.
func TestSameBehindCuts(t *testing.T) {
	g := roomy(t)
	g.do(sPair(0, 5, 5), sPair(1, 0, 5), sWeak(2, 0, 5))
	for _, cut := range []api.Step{sMinor(), sMajor(), sMinor()} {
		g.do(cut, sGet(3, 1, 0), sGet(4, 2, 0), sSame(3, 3, 4), sSame(4, 0, 4))
		g.wantRoot(3, number(1))
		g.wantRoot(4, number(1))
	}
}

// P8.1: SMinor and SMajor: what is lost of the old space goes by the great cut alone.
func TestCuts(t *testing.T) {
	g := newGround(t, 16, 16)
	g.do(sPair(0, 1, 1), sPair(1, 0, 0), sVector(2, 0, 3), sNil(2), sMinor())
	g.wantUsed(0, 6)
	g.do(sNil(0), sNil(1), sVector(2, 0, 1), sMinor())
	g.wantUsed(0, 8)
	g.do(sMajor())
	g.wantUsed(0, 2)
	g.do(sVector(3, 2, 4), sMajor())
	g.wantUsed(0, 7)
	g.wantNode(3, api.KVector, 2, 2, 2, 2)
	g.leadsWell()
}

// P8.1: SMinor and SMajor have that cut's code, and change nothing then.
func TestCutsThatAreRefused(t *testing.T) {
	g := newGround(t, 16, 5)
	g.do(sPair(0, 1, 1), sPair(1, 0, 0))
	g.refuse(api.ErrFull, sMinor())
	g.refuse(api.ErrFull, sMajor())
	g.do(sNil(0), sSet(1, 0, 0), sSet(1, 1, 0))
	g.refuse(api.ErrFull, sMinor())
	g.do(sMajor())
	g.wantUsed(0, 3)
	g.do(sGuard(2), sVector(3, 0, 0), sMinor())
	g.wantUsed(0, 5)
	g.do(sGuard(4))
	g.refuse(api.ErrFull, sMinor())
	g.refuse(api.ErrFull, sMajor())
	g = newGround(t, 16, 0)
	g.do(sMinor(), sMajor(), sGuard(0))
	g.refuse(api.ErrFull, sMinor())
	g.refuse(api.ErrFull, sMajor())
	g.do(sNil(0))
	g.refuse(api.ErrFull, sMinor())
	g.do(sMajor())
	g.wantUsed(0, 0)
}

// P8.1: what a cut breaks, and what it does not.
func TestWeakAndEphem(t *testing.T) {
	for _, cut := range []api.Step{sMinor(), sMajor()} {
		g := roomy(t)
		g.do(sInt(0, 6), sPair(1, 0, 0), sVector(2, 0, 2), sWeak(3, 1, 2), sEphem(4, 2, 1))
		g.do(sNil(1), sNil(2), cut)
		// The vector is kept by the weak pair, and is the key by which the pair is kept, to which the weak pair leads.
		g.do(sGet(1, 4, 1), sGet(2, 3, 1))
		g.wantNode(1, api.KPair, 0, 0)
		g.wantNode(2, api.KVector, 0, 0)
		g.wantNode(3, api.KWeak, 1, 2)
		g.wantNode(4, api.KEphem, 2, 1)
	}
}

// P8.1: two ephemerons, the key of each the value of the other, are broken just if nothing else leads to the keys.
func TestEphemsOfEachOther(t *testing.T) {
	for _, cut := range []api.Step{sMinor(), sMajor()} {
		g := roomy(t)
		g.do(sPair(0, 9, 9), sVector(1, 9, 1), sEphem(2, 0, 1), sEphem(3, 1, 0), sNil(0), cut)
		g.do(sGet(0, 3, 1))
		g.wantNode(0, api.KPair, 9, 9)
		g.wantNode(2, api.KEphem, 0, 1)
		g.wantNode(3, api.KEphem, 1, 0)
		g.do(sNil(0), sNil(1), sMajor())
		g.wantUsed(0, 6)
		broken := []api.Val{{Kind: api.VGone}, {Kind: api.VGone}}
		for _, r := range []int{2, 3} {
			if n := g.nodeAt(r); !slices.Equal(n.Fields, broken) {
				t.Errorf("the ephemeron %d is %v", r, n)
			}
		}
	}
}
