package twin_test

import (
	"slices"
	"testing"

	"underwood/api"
)

// aged answers grounds in which what a test makes first is young, or old, behind a cut: by each way, and by each cut then,
// a test is done. A small cut finds nothing lost that is old.
func aged(t *testing.T, test func(g *ground, age func(), cut api.Step, all bool)) {
	t.Helper()
	for _, x := range []struct {
		name string
		ages []api.Step
		cut  api.Step
		all  bool // does the cut take what is lost of all that was made?
	}{
		{"young things, small cut", nil, sMinor(), true},
		{"young things, great cut", nil, sMajor(), true},
		{"old things, small cut", []api.Step{sMinor()}, sMinor(), false},
		{"old things, great cut", []api.Step{sMinor()}, sMajor(), true},
		{"things behind both cuts, great cut", []api.Step{sMajor(), sMinor()}, sMajor(), true},
	} {
		t.Run(x.name, func(t *testing.T) {
			g := roomy(t)
			test(g, func() { g.do(x.ages...) }, x.cut, x.all)
		})
	}
}

// Cuts change nothing of what is alive.
func TestCutsLeaveWhatIsAlive(t *testing.T) {
	for _, first := range cuts() {
		for _, second := range cuts() {
			g := sown(t)
			ahead := g.View()
			g.do(first, second, first)
			if behind := g.View(); !sameView(ahead, behind) {
				t.Errorf("cuts changed %v to %v", ahead, behind)
			}
		}
	}
}

// Rings of things: kept as a whole, and lost as a whole.
func TestRings(t *testing.T) {
	for n := 1; n <= 6; n++ {
		aged(t, func(g *ground, age func(), cut api.Step, all bool) {
			// The things of the ring are pairs and vectors, in the roots 0 and so on; the second field of each is a number.
			for i := range n {
				g.do(sInt(11, int64(i)), []api.Step{sPair(i, 11, 11), sVector(i, 11, 2)}[i%2])
			}
			for i := range n {
				g.do(sSet(i, 0, (i+1)%n))
			}
			age()
			for i := 1; i < n; i++ {
				g.do(sNil(i))
			}
			g.do(cut)
			g.wantUsed(0, 3*n)
			g.do(sMove(7, 0))
			for i := range n {
				g.do(sGet(8, 7, 1), sGet(7, 7, 0))
				g.wantRoot(8, number(int64(i)))
			}
			g.do(sSame(8, 7, 0))
			g.wantRoot(8, number(1))
			g.do(sNil(7), sNil(0), sMinor())
			g.wantUsed(0, 3*n)
			g.do(sMajor())
			g.wantUsed(0, 0)
		})
	}
}

// A ring that leads through both spaces, and is lost: the small cut takes none of it, the great one all.
func TestRingThroughBothSpaces(t *testing.T) {
	g := roomy(t)
	g.do(sPair(0, 9, 9), sMinor(), sVector(1, 0, 12), sSet(0, 1, 1), sNil(0), sNil(1))
	g.wantUsed(13, 3)
	g.do(sMinor())
	g.wantUsed(0, 16)
	g.do(sMajor())
	g.wantUsed(0, 0)
}

// A weak pair's first field is Gone behind a cut, if nothing else leads to what it led to; its second field keeps what it leads to.
func TestWeak(t *testing.T) {
	aged(t, func(g *ground, age func(), cut api.Step, all bool) {
		// What the weak pairs lead to: nothing else keeps that of 2; a root keeps that of 3, its own second field that of 5.
		g.do(sInt(11, 9), sPair(0, 11, 11), sPair(1, 11, 11), sWeak(2, 0, 11), sWeak(3, 1, 11), sVector(8, 11, 2), sWeak(5, 8, 8))
		age()
		g.do(sNil(0), sNil(8), cut)
		if all {
			g.wantFields(2, api.KWeak, gone(), number(9))
			g.wantUsed(0, 15)
		} else {
			g.do(sGet(0, 2, 0))
			g.wantNode(0, api.KPair, 11, 11)
			g.wantUsed(0, 18)
		}
		g.wantNode(3, api.KWeak, 1, 11)
		g.do(sGet(8, 5, 1))
		g.wantNode(8, api.KVector, 11, 11)
		g.wantNode(5, api.KWeak, 8, 8)
	})
}

// A weak pair whose first field leads to itself, and weak pairs in a row.
func TestWeakOfItself(t *testing.T) {
	aged(t, func(g *ground, age func(), cut api.Step, all bool) {
		g.do(sWeak(0, 9, 9), sSet(0, 0, 0), sWeak(1, 9, 9), sSet(1, 0, 1), sWeak(2, 9, 9), sWeak(3, 2, 9), sWeak(4, 3, 9))
		age()
		g.do(sNil(1), sNil(2), sNil(3), cut)
		g.wantNode(0, api.KWeak, 0, 9)
		if !all {
			g.wantUsed(0, 15)
			return
		}
		g.wantUsed(0, 6)
		g.wantFields(4, api.KWeak, gone(), api.Val{})
	})
}

// An ephemeron is broken just if its key is not alive; the value is kept by the key, as long as the ephemeron is alive.
func TestEphem(t *testing.T) {
	aged(t, func(g *ground, age func(), cut api.Step, all bool) {
		// The key of 2 is alive, that of 3 is not; that of 4 leads nowhere; 5 is lost itself, and keeps nothing.
		g.do(sPair(0, 9, 9), sVector(10, 9, 1), sEphem(2, 0, 10), sPair(1, 9, 9), sVector(10, 9, 2), sEphem(3, 1, 10))
		g.do(sVector(10, 9, 3), sInt(11, 1), sEphem(4, 11, 10), sVector(10, 9, 4), sEphem(5, 0, 10))
		age()
		g.do(sNil(1), sNil(5), sNil(10), cut)
		g.do(sGet(10, 2, 1))
		g.wantNode(10, api.KVector, 9)
		g.wantNode(2, api.KEphem, 0, 10)
		g.do(sGet(10, 4, 1))
		g.wantNode(10, api.KVector, 9, 9, 9)
		g.wantNode(4, api.KEphem, 11, 10)
		if !all {
			g.wantUsed(0, 3+2+3+3+3+3+4+3+5+3)
			return
		}
		g.wantUsed(0, 3+2+3+3+4+3)
		g.wantFields(3, api.KEphem, gone(), gone())
	})
}

// Two ephemerons, the key of each the value of the other: if nothing else leads to the keys both are broken.
func TestEphemsOfEachOther(t *testing.T) {
	for kept := range 4 {
		aged(t, func(g *ground, age func(), cut api.Step, all bool) {
			g.do(sPair(0, 9, 9), sVector(1, 9, 1), sEphem(2, 0, 1), sEphem(3, 1, 0))
			age()
			for r := range 2 {
				if kept>>r&1 == 0 {
					g.do(sNil(r))
				}
			}
			g.do(cut)
			if kept == 0 && all {
				g.wantUsed(0, 6)
				g.wantFields(2, api.KEphem, gone(), gone())
				g.wantFields(3, api.KEphem, gone(), gone())
				return
			}
			g.wantUsed(0, 11)
			g.do(sGet(0, 2, 0), sGet(1, 2, 1))
			g.wantNode(0, api.KPair, 9, 9)
			g.wantNode(1, api.KVector, 9)
			g.wantNode(3, api.KEphem, 1, 0)
		})
	}
}

// Ephemerons in a row, the value of each the key of the next one, whichever of them was made first.
func TestEphemChain(t *testing.T) {
	for _, order := range [][3]int{{2, 3, 4}, {2, 4, 3}, {3, 2, 4}, {3, 4, 2}, {4, 2, 3}, {4, 3, 2}} {
		for _, kept := range []bool{true, false} {
			aged(t, func(g *ground, age func(), cut api.Step, all bool) {
				// The vectors 5 to 8: the ephemeron 2 leads from 5 to 6, 3 from 6 to 7, 4 from 7 to 8.
				for i := range 4 {
					g.do(sVector(5+i, 11, int64(i)))
				}
				for _, e := range order {
					g.do(sEphem(e, e+3, e+4))
				}
				age()
				if !kept {
					g.do(sNil(5))
				}
				g.do(sNil(6), sNil(7), sNil(8), cut)
				if kept || !all {
					g.wantUsed(0, 9+1+2+3+4)
					return
				}
				for e := 2; e <= 4; e++ {
					g.wantFields(e, api.KEphem, gone(), gone())
				}
				g.wantUsed(0, 9)
			})
		}
	}
}

// An ephemeron whose key, or whose value, or both, is itself: while it is alive its key is.
func TestEphemOfItself(t *testing.T) {
	for fields := 1; fields < 4; fields++ {
		aged(t, func(g *ground, age func(), cut api.Step, all bool) {
			g.do(sPair(0, 9, 9), sPair(1, 9, 9), sEphem(2, 0, 1))
			for i := range 2 {
				if fields>>i&1 != 0 {
					g.do(sSet(2, i, 2))
				}
			}
			age()
			g.do(sNil(0), sNil(1), cut)
			switch {
			case !all:
				g.wantUsed(0, 9)
			case fields == 1: // the key is itself, and keeps the value
				g.wantUsed(0, 6)
			case fields == 2: // the value is itself, and the key is lost
				g.wantUsed(0, 3)
				g.wantFields(2, api.KEphem, gone(), gone())
			default:
				g.wantUsed(0, 3)
				g.wantNode(2, api.KEphem, 2, 2)
			}
		})
	}
}

// An old weak pair and an old ephemeron that were led to young things are broken by a small cut, too.
func TestOldThingsAreBroken(t *testing.T) {
	for _, cut := range cuts() {
		g := roomy(t)
		g.do(sWeak(0, 9, 9), sEphem(1, 9, 9), sMinor())
		g.do(sPair(2, 9, 9), sSet(0, 0, 2), sSet(1, 0, 2), sVector(3, 9, 0), sSet(1, 1, 3), sNil(2), sNil(3), cut)
		g.wantUsed(0, 6)
		g.wantFields(0, api.KWeak, gone(), api.Val{})
		g.wantFields(1, api.KEphem, gone(), gone())
	}
}

// A vector that was registered with a guardian twice, and is lost: the guardian tells it twice, then nothing.
func TestGuardTellsTwice(t *testing.T) {
	aged(t, func(g *ground, age func(), cut api.Step, all bool) {
		g.do(sGuard(0), sInt(3, 6), sVector(1, 3, 1), sWeak(2, 1, 3), sReg(1, 0), sReg(1, 0))
		age()
		g.do(sNil(1), cut)
		g.wantUsed(0, 6)
		if !all {
			g.refuse(api.ErrNone, sPop(1, 0))
			return
		}
		for range 2 {
			g.do(sPop(1, 0), sGet(4, 2, 0), sSame(4, 1, 4))
			g.wantRoot(4, number(1))
		}
		g.refuse(api.ErrNone, sPop(1, 0))
		g.do(sNil(1), sMajor())
		g.refuse(api.ErrNone, sPop(1, 0))
		g.wantUsed(0, 4)
		g.wantFields(2, api.KWeak, gone(), number(6))
	})
}

// lose registers a new vector, which is told from others by its number, with guardians, and loses it.
func (g *ground) lose(n int64, guards ...int) {
	g.t.Helper()
	g.do(sInt(10, n), sVector(11, 10, 1))
	for _, b := range guards {
		g.do(sReg(11, b))
	}
	g.do(sNil(10), sNil(11))
}

// wantPopped holds which numbers are in the first fields of what waits at a guardian, till nothing does; the root 10 is made anew.
func (g *ground) wantPopped(guard int, want ...int64) {
	g.t.Helper()
	var got []int64
	for g.step(sPop(10, guard)) == 0 {
		g.do(sGet(10, 10, 0))
		got = append(got, g.View().Roots[10].N)
		if len(got) > api.MaxRegs {
			g.t.Fatal("things wait without an end")
		}
	}
	g.refuse(api.ErrNone, sPop(10, guard))
	if !slices.Equal(got, want) {
		g.t.Errorf("at the root %d waited %v, want %v", guard, got, want)
	}
}

// Things come to wait in the order in which they were registered, those of an earlier cut ahead of those of a later one.
func TestGuardOrder(t *testing.T) {
	for _, cut := range cuts() {
		g := roomy(t)
		g.do(sGuard(0), sGuard(1))
		g.lose(1, 0)
		g.lose(2, 1)
		g.lose(3, 0, 1)
		g.lose(4, 1, 0, 0)
		g.do(cut)
		g.lose(5, 0)
		g.do(cut, cut)
		g.lose(7, 0)
		g.wantPopped(0, 1, 3, 4, 4, 5)
		g.wantPopped(1, 2, 3, 4)
		g.do(cut)
		g.wantPopped(0, 7)
		g.wantPopped(1)
		g.do(sMajor())
		g.wantUsed(0, 2)
	}
}

// What waits is alive: weak pairs and ephemerons that lead to it are not broken, nor is what it keeps alive lost.
func TestWhatWaitsIsAlive(t *testing.T) {
	aged(t, func(g *ground, age func(), cut api.Step, all bool) {
		g.do(sGuard(0), sVector(4, 9, 3), sPair(1, 4, 9), sReg(1, 0), sVector(5, 9, 2), sWeak(2, 1, 9), sEphem(3, 1, 5))
		age()
		g.do(sNil(1), sNil(4), sNil(5), cut)
		g.wantUsed(0, 1+4+3+3+3+3)
		if !all {
			g.refuse(api.ErrNone, sPop(1, 0))
			return
		}
		g.do(sMajor(), sMinor(), sPop(1, 0), sGet(4, 1, 0), sGet(5, 3, 1))
		g.wantNode(4, api.KVector, 9, 9, 9)
		g.wantNode(5, api.KVector, 9, 9)
		g.wantNode(2, api.KWeak, 1, 9)
		g.wantNode(3, api.KEphem, 1, 5)
		g.do(sNil(1), sNil(5), sMajor())
		g.wantFields(2, api.KWeak, gone(), api.Val{})
		g.wantFields(3, api.KEphem, gone(), gone())
	})
}

// One guardian registered with another, and lost: it comes to wait there, and what is registered with it waits at it in the same cut.
func TestGuardOfGuards(t *testing.T) {
	for _, first := range []bool{true, false} {
		aged(t, func(g *ground, age func(), cut api.Step, all bool) {
			g.do(sGuard(0), sGuard(1))
			if first {
				g.do(sReg(1, 0))
			}
			g.lose(1, 1)
			g.lose(2, 1)
			if !first {
				g.do(sReg(1, 0))
			}
			age()
			g.do(sNil(1), cut)
			g.wantUsed(0, 6)
			if !all {
				g.refuse(api.ErrNone, sPop(1, 0))
				return
			}
			g.do(sPop(1, 0))
			g.wantPopped(1, 1, 2)
			g.wantPopped(0)
		})
	}
}

// Guardians that are lost let go of what is registered with them; so they do, if they are registered with each other alone.
func TestGuardsThatAreLost(t *testing.T) {
	for _, cut := range cuts() {
		g := roomy(t)
		g.do(sGuard(0), sGuard(1), sReg(0, 1), sReg(1, 0), sGuard(2), sReg(2, 2), sVector(3, 9, 1), sReg(3, 2))
		g.lose(1, 0, 1, 2)
		g.do(sNil(0), sNil(1), sNil(2), cut)
		g.wantUsed(0, 2)
		g.wantNode(3, api.KVector, 9)
	}
	// An old one that is lost is alive for a small cut.
	g := roomy(t)
	g.do(sGuard(0), sMinor(), sVector(1, 9, 3), sReg(1, 0), sWeak(2, 1, 9), sNil(0), sNil(1), sMinor())
	g.wantUsed(0, 8)
	g.do(sMajor())
	g.wantUsed(0, 3)
	g.wantFields(2, api.KWeak, gone(), api.Val{})
}

// A guardian comes alive by an ephemeron's value whose key comes to wait at another one: its own come in the same cut.
func TestGuardThatComesAlive(t *testing.T) {
	for _, early := range []bool{true, false} {
		for _, cut := range cuts() {
			g := roomy(t)
			g.do(sGuard(0), sGuard(1))
			if early {
				g.lose(7, 1)
			}
			g.do(sVector(2, 9, 1), sReg(2, 0), sEphem(3, 2, 1))
			if !early {
				g.lose(7, 1)
			}
			g.do(sNil(1), sNil(2), cut, sGet(1, 3, 1))
			g.wantPopped(1, 7)
			g.do(sPop(2, 0))
			g.wantNode(2, api.KVector, 9)
			g.wantNode(3, api.KEphem, 2, 1)
		}
	}
}

// A cut that a new thing asks for breaks, and lets things wait, as any cut; one that is refused does not.
func TestRoomBreaksAndLetsWait(t *testing.T) {
	for _, old := range []int{64, 32, 19} {
		g := newGround(t, 32, old)
		g.do(sGuard(0))
		g.lose(4, 0)
		g.do(sPair(1, 9, 9), sWeak(2, 1, 9), sEphem(3, 1, 9), sNil(1), sVector(4, 9, 9))
		g.wantUsed(22, 0)
		g.do(sVector(5, 9, 12))
		g.wantUsed(13, 19)
		g.wantFields(2, api.KWeak, gone(), api.Val{})
		g.wantFields(3, api.KEphem, gone(), gone())
		g.wantPopped(0, 4)
	}
	g := newGround(t, 32, 18)
	g.do(sGuard(0))
	g.lose(4, 0)
	g.do(sPair(1, 9, 9), sWeak(2, 1, 9), sEphem(3, 1, 9), sNil(1), sVector(4, 9, 9))
	g.refuse(api.ErrFull, sVector(5, 9, 12))
	g.refuse(api.ErrFull, sMajor())
	g.refuse(api.ErrFull, sMinor())
	g.refuse(api.ErrNone, sPop(10, 0))
	g.do(sGet(1, 2, 0))
	g.wantNode(1, api.KPair, 9, 9)
	g.wantNode(3, api.KEphem, 1, 9)
}
