package grove_test

import (
	"testing"

	"underwood/api"
)

// aged answers grounds in which what a test makes first is young, or old, behind a cut: by each way, and by each cut then,
// a test is done. A small cut finds nothing lost that is old.
func aged(t *testing.T, test func(g *ground, age func(), cut api.Step, all bool)) {
	t.Helper()
	for _, x := range []struct {
		name string
		ages []api.Step
		cut  api.Step
		all  bool // does the cut take what is lost of all that was made?
	}{
		{"young things, small cut", nil, sMinor(), true},
		{"young things, great cut", nil, sMajor(), true},
		{"old things, small cut", []api.Step{sMinor()}, sMinor(), false},
		{"old things, great cut", []api.Step{sMinor()}, sMajor(), true},
		{"things behind both cuts, great cut", []api.Step{sMajor(), sMinor()}, sMajor(), true},
	} {
		t.Run(x.name, func(t *testing.T) {
			g := roomy(t)
			test(g, func() { g.do(x.ages...) }, x.cut, x.all)
		})
	}
}

// P9.1: what is not alive stays, and is reckoned, till a cut takes it: the small one of the young things alone.
func TestLostThings(t *testing.T) {
	g := roomy(t)
	g.do(sPair(0, 1, 1), sVector(2, 0, 3), sNil(0), sNil(2))
	g.wantUsed(7, 0)
	g.do(sMinor())
	g.wantUsed(0, 0)
	g.do(sPair(0, 1, 1), sVector(2, 0, 3), sMinor(), sNil(0), sNil(2))
	g.wantUsed(0, 7)
	for range 3 {
		g.do(sGuard(3), sNil(3), sMinor())
		g.wantUsed(0, 7)
	}
	g.do(sGuard(3), sMajor())
	g.wantUsed(0, 1)
}

// P9.1: old things keep alive what they lead to in a small cut, though they are lost themselves; a great one takes both.
func TestLostOldThingsKeepYoungOnes(t *testing.T) {
	for _, make := range []func(r int) api.Step{
		func(r int) api.Step { return sPair(r, 9, 9) },
		func(r int) api.Step { return sWeak(r, 9, 9) },
		func(r int) api.Step { return sVector(r, 9, 2) },
		func(r int) api.Step { return sEphem(r, 9, 9) }, // its key leads nowhere
	} {
		g := roomy(t)
		g.do(make(0), sMinor(), sVector(1, 9, 4), sSet(0, 1, 1), sWeak(2, 1, 9), sNil(0), sNil(1))
		g.wantUsed(8, 3)
		g.do(sMinor())
		g.wantUsed(0, 11)
		g.do(sGet(1, 2, 0))
		g.wantNode(1, api.KVector, 9, 9, 9, 9)
		g.do(sNil(1), sMinor())
		g.wantUsed(0, 11)
		g.do(sMajor())
		g.wantUsed(0, 3)
		g.wantFields(2, api.KWeak, gone(), api.Val{})
	}
}

// P9.1: what was made since the last cut is young, whichever cut that was, and whether it was asked for or made for room.
func TestYoungSinceTheLastCut(t *testing.T) {
	g := newGround(t, 16, 60)
	g.do(sPair(0, 1, 1))
	g.wantUsed(3, 0)
	g.do(sMajor(), sPair(1, 0, 0))
	g.wantUsed(3, 3)
	g.do(sMinor(), sPair(2, 0, 0))
	g.wantUsed(3, 6)
	g.do(sVector(3, 0, 12))
	g.wantUsed(16, 6)
	g.do(sGuard(4))
	g.wantUsed(1, 22)
}

// P9.1: SMinor asks whether all of the nursery would have room, SMajor only of what is alive; a cut that is refused changes nothing.
func TestCutsThatAreRefused(t *testing.T) {
	g := newGround(t, 16, 5)
	g.do(sPair(0, 1, 1), sPair(1, 0, 0))
	g.refuse(api.ErrFull, sMinor())
	g.refuse(api.ErrFull, sMajor())
	g.do(sNil(0), sSet(1, 0, 0), sSet(1, 1, 0))
	g.refuse(api.ErrFull, sMinor())
	g.do(sMajor())
	g.wantUsed(0, 3)
	g.do(sGuard(2), sVector(3, 0, 0), sMinor())
	g.wantUsed(0, 5)
	g.do(sGuard(4))
	g.refuse(api.ErrFull, sMinor())
	g.refuse(api.ErrFull, sMajor())
	g = newGround(t, 16, 0)
	g.do(sMinor(), sMajor(), sGuard(0))
	g.refuse(api.ErrFull, sMinor())
	g.refuse(api.ErrFull, sMajor())
	g.do(sNil(0))
	g.refuse(api.ErrFull, sMinor())
	g.do(sMajor())
	g.wantUsed(0, 0)
}

// P9.1: a cut changes nothing of what is alive, and cuts one behind the other come to the same.
func TestCutsLeaveWhatIsAlive(t *testing.T) {
	for _, first := range cuts() {
		for _, second := range cuts() {
			g := sown(t)
			ahead := g.View()
			g.do(first, second, first)
			if behind := g.View(); !sameView(ahead, behind) {
				t.Errorf("cuts changed %v to %v", ahead, behind)
			}
		}
	}
}

// Rings of things: kept as a whole, and lost as a whole.
func TestRings(t *testing.T) {
	for n := 1; n <= 6; n++ {
		aged(t, func(g *ground, age func(), cut api.Step, all bool) {
			// A ring of n pairs in the roots 0 and so on; the second field of each is a number.
			for i := range n {
				g.do(sInt(11, int64(i)), sPair(i, 11, 11))
			}
			for i := range n {
				g.do(sSet(i, 0, (i+1)%n))
			}
			age()
			for i := 1; i < n; i++ {
				g.do(sNil(i))
			}
			g.do(sNil(11), cut)
			g.wantUsed(0, 3*n)
			g.do(sMove(7, 0))
			for range n {
				g.do(sGet(7, 7, 0))
			}
			g.do(sSame(8, 7, 0))
			g.wantRoot(8, number(1))
			g.do(sNil(7), sNil(0), sMinor())
			g.wantUsed(0, 3*n)
			g.do(sMajor())
			g.wantUsed(0, 0)
		})
		aged(t, func(g *ground, age func(), cut api.Step, all bool) {
			for i := range n {
				g.do(sVector(i, 11, 1))
			}
			for i := range n {
				g.do(sSet(i, 0, (i+1)%n))
			}
			age()
			for i := range n {
				g.do(sNil(i))
			}
			g.do(cut)
			if all {
				g.wantUsed(0, 0)
			} else {
				g.wantUsed(0, 2*n)
			}
		})
	}
}

// A weak pair's first field is Gone just if what it led to is not alive; its second field keeps what it leads to.
func TestWeak(t *testing.T) {
	aged(t, func(g *ground, age func(), cut api.Step, all bool) {
		// What the weak pairs lead to: nothing else keeps that of 2; a root keeps that of 3, a pair that of 4, its own second field that of 5.
		g.do(sInt(11, 9), sPair(0, 11, 11), sPair(1, 11, 11), sWeak(2, 0, 11), sWeak(3, 1, 11))
		g.do(sVector(8, 11, 1), sPair(7, 8, 11), sWeak(4, 8, 11))
		g.do(sVector(8, 11, 2), sWeak(5, 8, 8))
		age()
		g.do(sNil(0), sNil(8), cut)
		if all {
			g.wantFields(2, api.KWeak, gone(), number(9))
		} else {
			g.do(sGet(0, 2, 0))
			g.wantNode(0, api.KPair, 11, 11)
			g.do(sNil(0))
		}
		g.wantNode(3, api.KWeak, 1, 11)
		g.do(sGet(8, 7, 0))
		g.wantNode(4, api.KWeak, 8, 11)
		g.do(sGet(8, 5, 1))
		g.wantNode(8, api.KVector, 11, 11)
		g.wantNode(5, api.KWeak, 8, 8)
	})
}

// A weak pair's first field that leads nowhere stays as it is, and one that leads to the weak pair itself does not keep it.
func TestWeakThatLeadsNowhere(t *testing.T) {
	aged(t, func(g *ground, age func(), cut api.Step, all bool) {
		g.do(sInt(0, 4), sWeak(1, 0, 9), sWeak(2, 9, 0), sWeak(3, 9, 9), sSet(3, 0, 3), sWeak(4, 9, 9), sSet(4, 0, 4))
		age()
		g.do(sNil(4), cut)
		g.wantFields(1, api.KWeak, number(4), api.Val{})
		g.wantFields(2, api.KWeak, api.Val{}, number(4))
		g.wantNode(3, api.KWeak, 3, 9)
		if all {
			g.wantUsed(0, 9)
		} else {
			g.wantUsed(0, 12)
		}
	})
}

// Weak pairs in a row: the first field of each leads to the next one.
func TestWeakChain(t *testing.T) {
	aged(t, func(g *ground, age func(), cut api.Step, all bool) {
		g.do(sWeak(2, 9, 9), sWeak(1, 2, 9), sWeak(0, 1, 9))
		age()
		g.do(sNil(1), sNil(2), cut)
		if !all {
			g.wantUsed(0, 9)
			return
		}
		g.wantUsed(0, 3)
		g.wantFields(0, api.KWeak, gone(), api.Val{})
	})
}

// An old weak pair and an old ephemeron that were led to young things are broken by a small cut, too.
func TestOldThingsAreBroken(t *testing.T) {
	for _, cut := range cuts() {
		g := roomy(t)
		g.do(sWeak(0, 9, 9), sEphem(1, 9, 9), sMinor())
		g.do(sPair(2, 9, 9), sSet(0, 0, 2), sSet(1, 0, 2), sVector(3, 9, 0), sSet(1, 1, 3), sNil(2), sNil(3), cut)
		g.wantUsed(0, 6)
		g.wantFields(0, api.KWeak, gone(), api.Val{})
		g.wantFields(1, api.KEphem, gone(), gone())
	}
}

// What is gone leads nowhere: it may be moved, and be a key, by which an ephemeron's value is kept.
func TestGoneAsAKey(t *testing.T) {
	for _, cut := range cuts() {
		g := roomy(t)
		g.do(sPair(0, 9, 9), sWeak(1, 0, 9), sEphem(2, 0, 9), sNil(0), sMinor(), sGet(0, 1, 0))
		g.wantRoot(0, gone())
		g.do(sVector(3, 9, 2), sEphem(4, 0, 3), sSet(2, 1, 3), sNil(3), cut)
		g.do(sGet(3, 4, 1))
		g.wantNode(3, api.KVector, 9, 9)
		g.wantNode(4, api.KEphem, 0, 3)
		g.wantNode(2, api.KEphem, 0, 3)
	}
}
