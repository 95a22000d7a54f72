package heap_test

import (
	"testing"

	"underwood/api"
	"underwood/side"
)

// P8.1: SReg, of things of each kind, with a guardian; the same one may be registered again.
func TestReg(t *testing.T) {
	for _, guard := range []int{3, 4} {
		for _, a := range []int{3, 4, 5, 6, 7, 8, 9} {
			g := sown(t)
			ahead := stateOf(g.Heap)
			g.do(sReg(a, guard), sReg(a, guard))
			e := side.Entry{Guard: g.Roots[guard], Thing: g.Roots[a]}
			ahead.regs = append(ahead.regs, e, e)
			if behind := stateOf(g.Heap); !ahead.equal(behind) {
				t.Errorf("the root %d, registered with %d: %v, want %v", a, guard, behind, ahead)
			}
		}
	}
}

// P8.1: SReg of what is no thing, or with what is no guardian.
func TestRegOfNoThing(t *testing.T) {
	g := sown(t)
	for _, a := range []int{0, 1, 2} {
		for b := range 10 {
			g.refuse(api.ErrKind, sReg(a, b))
		}
	}
	for a := range 10 {
		for _, b := range []int{0, 1, 2, 5, 6, 7, 8, 9} {
			g.refuse(api.ErrKind, sReg(a, b))
		}
	}
	for _, r := range outside {
		g.refuse(api.ErrRange, sReg(r, 3))
		g.refuse(api.ErrRange, sReg(5, r))
		g.refuse(api.ErrRange, sReg(0, r))
		g.refuse(api.ErrRange, sReg(r, 0))
	}
}

// P8.1: SReg where the Side is full: of what is registered, of what waits, and of both; what is no thing is told ahead of that.
func TestRegWhereItIsFull(t *testing.T) {
	for _, waiting := range []int{0, 1, 10, api.MaxRegs - 1, api.MaxRegs} {
		g := roomy(t)
		g.do(sGuard(0), sPair(1, 5, 5))
		for range waiting {
			g.do(sReg(1, 0))
		}
		g.do(sNil(1), sMinor(), sVector(1, 5, 1))
		for range api.MaxRegs - waiting {
			g.do(sReg(1, 0))
		}
		g.wantSide(api.MaxRegs-waiting, waiting)
		g.refuse(api.ErrFull, sReg(1, 0))
		g.refuse(api.ErrFull, sReg(0, 0))
		g.refuse(api.ErrKind, sReg(5, 0))
		g.refuse(api.ErrKind, sReg(1, 1))
		g.refuse(api.ErrKind, sReg(0, 5))
		g.refuse(api.ErrRange, sReg(1, api.MaxRoots))
		if waiting == 0 {
			continue
		}
		g.do(sPop(2, 0), sReg(1, 0))
		g.refuse(api.ErrFull, sReg(1, 0))
	}
}

// P8.1: SPop of what is no guardian, and of one at which nothing waits.
func TestPopOfNothing(t *testing.T) {
	g := sown(t)
	for _, a := range []int{0, 1, 2, 5, 6, 7, 8, 9} {
		g.refuse(api.ErrKind, sPop(10, a))
	}
	// What is registered does not wait.
	g.refuse(api.ErrNone, sPop(10, 3))
	g.do(sPop(10, 4))
	g.refuse(api.ErrNone, sPop(10, 4))
	for _, r := range outside {
		g.refuse(api.ErrRange, sPop(r, 4))
		g.refuse(api.ErrRange, sPop(r, 0))
		g.refuse(api.ErrRange, sPop(10, r))
	}
}

// P8.1: SPop takes what waits out of what stands beside, and changes the root alone besides.
func TestPop(t *testing.T) {
	g := sown(t)
	ahead := stateOf(g.Heap)
	g.do(sPop(10, 4))
	ahead.roots[10] = ahead.wait[0].Thing
	ahead.wait = nil
	if behind := stateOf(g.Heap); !ahead.equal(behind) {
		t.Errorf("SPop: %v, want %v", behind, ahead)
	}
	g.wantNode(10, api.KVector, 0)
	g.do(sMove(11, 10), sGet(10, 7, 0), sSame(10, 10, 11))
	g.wantRoot(10, number(1))
}

// P8.1: the root of the guardian may be that of what waits there: it is told, and the guardian is lost then.
func TestPopOfTheRootItself(t *testing.T) {
	g := sown(t)
	g.do(sPop(4, 4))
	g.wantNode(4, api.KVector, 0)
	g.wantSide(1, 0)
}

// popped answers the numbers in the first fields of what waits at a guardian, till nothing does; its root 10 is made anew.
func (g *ground) popped(guard int) []int64 {
	g.t.Helper()
	var l []int64
	for g.Do(sPop(10, guard)) == 0 {
		g.do(sGet(10, 10, 0))
		l = append(l, g.View().Roots[10].N)
		if len(l) > api.MaxRegs {
			g.t.Fatal("things wait without an end")
		}
	}
	g.refuse(api.ErrNone, sPop(10, guard))
	return l
}

func (g *ground) wantPopped(guard int, want ...int64) {
	g.t.Helper()
	got := g.popped(guard)
	if len(got) != len(want) {
		g.t.Errorf("at the root %d waited %v, want %v", guard, got, want)
		return
	}
	for i := range want {
		if got[i] != want[i] {
			g.t.Errorf("at the root %d waited %v, want %v", guard, got, want)
			return
		}
	}
}

// lose registers a new vector, which is told from others by its number, with guardians, and loses it.
func (g *ground) lose(n int64, guards ...int) {
	g.t.Helper()
	g.do(sInt(10, n), sVector(11, 10, 1))
	for _, b := range guards {
		g.do(sReg(11, b))
	}
	g.do(sNil(10), sNil(11))
}

// P8.1: things come in the order in which they were registered, those of an earlier cut ahead of those of a later one.
func TestOrder(t *testing.T) {
	for _, cut := range []api.Step{sMinor(), sMajor()} {
		g := roomy(t)
		g.do(sGuard(0), sGuard(1))
		g.lose(1, 0)
		g.lose(2, 1)
		g.lose(3, 0, 1)
		g.lose(4, 1, 0, 0)
		g.do(cut)
		g.lose(5, 0)
		g.lose(6, 0)
		g.do(cut, cut)
		g.lose(7, 0)
		g.wantPopped(0, 1, 3, 4, 4, 5, 6)
		g.wantPopped(1, 2, 3, 4)
		g.do(cut)
		g.wantPopped(0, 7)
		g.wantPopped(1)
		g.wantSide(0, 0)
	}
}

// P8.1: a vector that was registered with a guardian twice, and is lost: it is told twice, then nothing; and it is the same one.
func TestTwice(t *testing.T) {
	g := roomy(t)
	g.do(sGuard(0), sVector(1, 2, 4), sReg(1, 0), sReg(1, 0), sMinor(), sNil(1))
	g.refuse(api.ErrNone, sPop(1, 0))
	g.do(sMajor(), sPop(1, 0), sMinor(), sPop(2, 0), sSame(3, 1, 2), sLen(4, 1))
	g.wantRoot(3, number(1))
	g.wantRoot(4, number(4))
	g.refuse(api.ErrNone, sPop(1, 0))
}

// P8.1: what came back from a guardian is as any thing: it may be registered and lost again.
func TestBackAndLostAgain(t *testing.T) {
	g := roomy(t)
	g.do(sGuard(0))
	g.lose(8, 0)
	g.do(sMinor(), sPop(1, 0), sReg(1, 0), sNil(1), sMinor())
	// It is old by then, and no small cut finds that it is lost.
	g.refuse(api.ErrNone, sPop(1, 0))
	g.do(sMajor())
	g.wantPopped(0, 8)
	g.do(sMajor())
	g.wantUsed(0, 1)
}

// P8.1: what a guardian keeps is let go with it; one that is lost, too, may wait at another one.
func TestGuardsThatAreLost(t *testing.T) {
	for _, cut := range []api.Step{sMinor(), sMajor()} {
		g := roomy(t)
		g.do(sGuard(0), sGuard(1), sReg(1, 0))
		g.lose(1, 1)
		g.do(sNil(1), cut)
		g.wantSide(0, 2)
		g.do(sPop(1, 0))
		g.wantPopped(1, 1)
		g.lose(2, 1)
		g.do(sNil(1), sMajor())
		g.wantSide(0, 0)
		g.wantUsed(0, 1)
	}
}

// P8.1: a cut that a new thing asks for lets things wait, as any cut.
func TestRoomLetsThingsWait(t *testing.T) {
	g := newGround(t, 16, 32)
	g.do(sGuard(0))
	g.lose(4, 0)
	g.do(sVector(1, 2, 11), sPair(3, 2, 2))
	g.wantUsed(3, 15)
	g.wantPopped(0, 4)
}
