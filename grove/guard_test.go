package grove_test

import (
	"slices"
	"testing"

	"underwood/api"
)

// P9.1: SReg, of things of each kind, with a guardian; it shows nothing, and takes no word.
func TestReg(t *testing.T) {
	for _, guard := range []int{3, 4} {
		for _, a := range []int{3, 4, 5, 6, 7, 8, 9} {
			g := sown(t)
			ahead := stateOf(g.Grove)
			g.do(sReg(a, guard), sReg(a, guard))
			if behind := stateOf(g.Grove); !ahead.equal(behind) {
				t.Errorf("the root %d, registered with %d: %v, want %v", a, guard, behind, ahead)
			}
		}
	}
}

// P9.1: SReg of what is no thing, or with what is no guardian.
func TestRegOfNoThing(t *testing.T) {
	g := sown(t)
	for _, a := range []int{0, 1, 2} {
		for b := range 10 {
			g.refuse(api.ErrKind, sReg(a, b))
		}
	}
	for a := range 10 {
		for _, b := range []int{0, 1, 2, 5, 6, 7, 8, 9} {
			g.refuse(api.ErrKind, sReg(a, b))
		}
	}
	for _, r := range outside() {
		g.refuse(api.ErrRange, sReg(r, 3))
		g.refuse(api.ErrRange, sReg(5, r))
		g.refuse(api.ErrRange, sReg(0, r))
		g.refuse(api.ErrRange, sReg(r, 0))
	}
}

// P9.1: a number that was taken for a thing's would be registered: none is.
func TestRegOfNumbers(t *testing.T) {
	g := roomy(t)
	g.do(sGuard(0), sPair(1, 9, 9), sGuard(2))
	for n := int64(-1); n < 12; n++ {
		g.do(sInt(3, n))
		g.refuse(api.ErrKind, sReg(3, 0))
		g.refuse(api.ErrKind, sReg(1, 3))
		g.refuse(api.ErrKind, sPop(4, 3))
		g.refuse(api.ErrKind, sGet(4, 3, 0))
		g.refuse(api.ErrKind, sSet(3, 0, 1))
		g.refuse(api.ErrKind, sLen(4, 3))
	}
}

// P9.1: SReg where the Side is full: of what is registered, of what waits, and of both; what is no thing is told ahead of that.
func TestRegWhereItIsFull(t *testing.T) {
	for _, waiting := range []int{0, 1, 10, api.MaxRegs - 1, api.MaxRegs} {
		g := roomy(t)
		g.do(sGuard(0), sPair(1, 5, 5))
		for range waiting {
			g.do(sReg(1, 0))
		}
		g.do(sNil(1), sMinor(), sVector(1, 5, 1))
		for range api.MaxRegs - waiting {
			g.do(sReg(1, 0))
		}
		g.refuse(api.ErrFull, sReg(1, 0))
		g.refuse(api.ErrFull, sReg(0, 0))
		g.refuse(api.ErrKind, sReg(5, 0))
		g.refuse(api.ErrKind, sReg(1, 1))
		g.refuse(api.ErrKind, sReg(0, 5))
		g.refuse(api.ErrRange, sReg(1, api.MaxRoots))
		if waiting == 0 {
			continue
		}
		g.do(sPop(2, 0), sReg(1, 0))
		g.refuse(api.ErrFull, sReg(1, 0))
	}
}

// P9.1: what is registered with a guardian that is lost makes room beside, when a cut takes that.
func TestFullSideIsCut(t *testing.T) {
	for _, cut := range cuts() {
		g := roomy(t)
		g.do(sGuard(0), sGuard(1), sVector(2, 5, 1))
		for range api.MaxRegs {
			g.do(sReg(2, 0))
		}
		g.refuse(api.ErrFull, sReg(2, 1))
		g.do(sNil(0))
		g.refuse(api.ErrFull, sReg(2, 1))
		g.do(cut)
		for range api.MaxRegs {
			g.do(sReg(2, 1))
		}
		g.refuse(api.ErrFull, sReg(2, 1))
	}
}

// P9.1: SPop of what is no guardian, and of one at which nothing waits.
func TestPopOfNothing(t *testing.T) {
	g := sown(t)
	for _, a := range []int{0, 1, 2, 5, 6, 7, 8, 9} {
		g.refuse(api.ErrKind, sPop(10, a))
	}
	// What is registered does not wait.
	g.refuse(api.ErrNone, sPop(10, 3))
	g.do(sPop(10, 4))
	g.refuse(api.ErrNone, sPop(10, 4))
	for _, r := range outside() {
		g.refuse(api.ErrRange, sPop(r, 4))
		g.refuse(api.ErrRange, sPop(r, 0))
		g.refuse(api.ErrRange, sPop(10, r))
	}
}

// P9.1: SPop takes what waits away from the guardian, and it is the same thing as ever.
func TestPop(t *testing.T) {
	g := sown(t)
	g.do(sPop(10, 4))
	g.wantNode(10, api.KVector, 0)
	g.wantNode(4, api.KGuard)
	g.wantUsed(4, 17)
	g.do(sMove(11, 10), sGet(10, 7, 0), sSame(10, 10, 11))
	g.wantRoot(10, number(1))
}

// P9.1: the root of the guardian may be that of what waits there: it is told, and the guardian is lost then.
func TestPopOfTheRootItself(t *testing.T) {
	g := sown(t)
	g.do(sPop(4, 4))
	g.wantNode(4, api.KVector, 0)
	g.wantUsed(4, 17)
	g.do(sMajor())
	g.wantUsed(0, 17)
}

// popped answers the numbers in the first fields of what waits at a guardian, till nothing does; its root 10 is made anew.
func (g *ground) popped(guard int) []int64 {
	g.t.Helper()
	var l []int64
	for g.step(sPop(10, guard)) == 0 {
		g.do(sGet(10, 10, 0))
		l = append(l, g.View().Roots[10].N)
		if len(l) > api.MaxRegs {
			g.t.Fatal("things wait without an end")
		}
	}
	g.refuse(api.ErrNone, sPop(10, guard))
	return l
}

func (g *ground) wantPopped(guard int, want ...int64) {
	g.t.Helper()
	if got := g.popped(guard); !slices.Equal(got, want) {
		g.t.Errorf("at the root %d waited %v, want %v", guard, got, want)
	}
}

// lose registers a new vector, which is told from others by its number, with guardians, and loses it.
func (g *ground) lose(n int64, guards ...int) {
	g.t.Helper()
	g.do(sInt(10, n), sVector(11, 10, 1))
	for _, b := range guards {
		g.do(sReg(11, b))
	}
	g.do(sNil(10), sNil(11))
}

// P9.1: things come in the order in which they were registered, those of an earlier cut ahead of those of a later one.
func TestOrder(t *testing.T) {
	for _, cut := range cuts() {
		g := roomy(t)
		g.do(sGuard(0), sGuard(1))
		g.lose(1, 0)
		g.lose(2, 1)
		g.lose(3, 0, 1)
		g.lose(4, 1, 0, 0)
		g.do(cut)
		g.lose(5, 0)
		g.lose(6, 0)
		g.do(cut, cut)
		g.lose(7, 0)
		g.wantPopped(0, 1, 3, 4, 4, 5, 6)
		g.wantPopped(1, 2, 3, 4)
		g.do(cut)
		g.wantPopped(0, 7)
		g.wantPopped(1)
		g.do(sMajor())
		g.wantUsed(0, 2)
	}
}

// Each registered thing that is dead, of a guardian that is alive, waits there once for each time that it was registered; then no more.
func TestRegisteredSoOften(t *testing.T) {
	for times := 0; times <= api.MaxRegs; times++ {
		aged(t, func(g *ground, age func(), cut api.Step, all bool) {
			g.do(sGuard(0), sInt(3, 6), sVector(1, 3, 1), sWeak(2, 1, 3))
			for range times {
				g.do(sReg(1, 0))
			}
			age()
			g.do(sNil(1), cut)
			if !all {
				g.refuse(api.ErrNone, sPop(1, 0))
				return
			}
			if times == 0 {
				g.wantFields(2, api.KWeak, gone(), number(6))
				g.wantUsed(0, 4)
			} else {
				g.wantUsed(0, 6)
			}
			for i := range times {
				g.do(sPop(1, 0), sGet(4, 2, 0), sSame(4, 1, 4))
				g.wantRoot(4, number(1))
				if i%5 == 4 {
					g.do(sNil(1), sMinor(), sMajor())
				}
			}
			g.refuse(api.ErrNone, sPop(1, 0))
			g.do(sNil(1), sMajor())
			g.refuse(api.ErrNone, sPop(1, 0))
			g.wantUsed(0, 4)
			g.wantFields(2, api.KWeak, gone(), number(6))
		})
	}
}

// A thing that is alive waits nowhere, whatever keeps it; one that a weak pair or a lost key alone leads to does.
func TestWhatIsDead(t *testing.T) {
	for name, x := range map[string]struct {
		keep []api.Step
		dead bool
	}{
		"nothing":                              {nil, true},
		"a root":                               {[]api.Step{sMove(2, 1)}, false},
		"a pair":                               {[]api.Step{sPair(2, 1, 9)}, false},
		"a vector":                             {[]api.Step{sVector(2, 1, 1)}, false},
		"a weak pair's first field":            {[]api.Step{sWeak(2, 1, 9)}, true},
		"a weak pair's second field":           {[]api.Step{sWeak(2, 9, 1)}, false},
		"an ephemeron's key":                   {[]api.Step{sEphem(2, 1, 9)}, true},
		"a value whose key leads nowhere":      {[]api.Step{sEphem(2, 9, 1)}, false},
		"a value whose key is alive":           {[]api.Step{sEphem(2, 0, 1)}, false},
		"a value whose key is itself":          {[]api.Step{sEphem(2, 1, 1)}, true},
		"itself":                               {[]api.Step{sSet(1, 1, 1)}, true},
		"a pair that is lost":                  {[]api.Step{sPair(2, 1, 9), sNil(2)}, true},
		"the guardian's being registered here": {[]api.Step{sReg(0, 0)}, true},
	} {
		t.Run(name, func(t *testing.T) {
			for _, cut := range cuts() {
				g := roomy(t)
				g.do(sGuard(0), sInt(3, 5), sVector(1, 3, 2), sReg(1, 0))
				g.do(x.keep...)
				g.do(sNil(1), cut)
				if !x.dead {
					g.refuse(api.ErrNone, sPop(1, 0))
					continue
				}
				g.wantPopped(0, 5)
			}
		})
	}
}

// What waits is alive: weak pairs and ephemerons that lead to it are not broken, nor is what it keeps alive lost.
func TestWhatWaitsIsAlive(t *testing.T) {
	aged(t, func(g *ground, age func(), cut api.Step, all bool) {
		g.do(sGuard(0), sVector(4, 9, 3), sPair(1, 4, 9), sReg(1, 0), sVector(5, 9, 2), sWeak(2, 1, 9), sEphem(3, 1, 5))
		age()
		g.do(sNil(1), sNil(4), sNil(5), cut)
		g.wantUsed(0, 1+4+3+3+3+3)
		if !all {
			g.refuse(api.ErrNone, sPop(1, 0))
			return
		}
		g.do(sMajor(), sMinor())
		g.do(sPop(1, 0), sGet(4, 1, 0), sGet(5, 3, 1))
		g.wantNode(4, api.KVector, 9, 9, 9)
		g.wantNode(5, api.KVector, 9, 9)
		g.wantNode(2, api.KWeak, 1, 9)
		g.wantNode(3, api.KEphem, 1, 5)
		g.do(sNil(1), sNil(5), sMajor())
		g.wantFields(2, api.KWeak, gone(), api.Val{})
		g.wantFields(3, api.KEphem, gone(), gone())
	})
}

// What is registered with a guardian that is not alive waits nowhere, and goes; so does what waits at one.
func TestGuardsThatAreLost(t *testing.T) {
	aged(t, func(g *ground, age func(), cut api.Step, all bool) {
		g.do(sGuard(0), sVector(1, 9, 1), sReg(1, 0), sVector(2, 9, 2), sReg(2, 0), sWeak(3, 1, 9), sWeak(4, 0, 9))
		age()
		g.do(sNil(0), sNil(1), cut)
		if !all {
			g.wantUsed(0, 12)
			g.do(sMajor())
		}
		g.wantUsed(0, 9)
		g.wantFields(3, api.KWeak, gone(), api.Val{})
		g.wantFields(4, api.KWeak, gone(), api.Val{})
		// The vector 2 was registered with it, and stays as it is.
		g.wantNode(2, api.KVector, 9, 9)
	})
	for _, cut := range cuts() {
		g := roomy(t)
		g.do(sGuard(0))
		g.lose(1, 0)
		g.do(cut)
		g.wantUsed(0, 3)
		g.do(sNil(0), sMinor())
		g.wantUsed(0, 3)
		g.do(sMajor())
		g.wantUsed(0, 0)
	}
}

// An old guardian that is lost is alive for a small cut: what is registered with it comes to wait there, till the great cut.
func TestLostOldGuard(t *testing.T) {
	g := roomy(t)
	g.do(sGuard(0), sMinor(), sVector(1, 9, 3), sReg(1, 0), sWeak(2, 1, 9), sNil(0), sNil(1), sMinor())
	g.wantUsed(0, 8)
	g.do(sGet(1, 2, 0))
	g.wantNode(1, api.KVector, 9, 9, 9)
	g.do(sNil(1), sMajor())
	g.wantUsed(0, 3)
	g.wantFields(2, api.KWeak, gone(), api.Val{})
}

// One guardian registered with another: it comes to wait there, and what is registered with it waits at it in the same cut,
// whichever was registered first.
func TestGuardOfGuards(t *testing.T) {
	for _, first := range []bool{true, false} {
		aged(t, func(g *ground, age func(), cut api.Step, all bool) {
			g.do(sGuard(0), sGuard(1))
			if first {
				g.do(sReg(1, 0))
			}
			g.lose(1, 1)
			g.lose(2, 1)
			if !first {
				g.do(sReg(1, 0))
			}
			g.do(sReg(0, 1))
			age()
			g.do(sNil(1), cut)
			if !all {
				g.refuse(api.ErrNone, sPop(1, 0))
				return
			}
			g.wantUsed(0, 6)
			g.do(sPop(1, 0))
			g.wantPopped(1, 1, 2)
			g.refuse(api.ErrNone, sPop(10, 0))
			// The other one is registered with this one.
			g.do(sNil(0), sMajor(), sPop(0, 1))
			g.wantNode(0, api.KGuard)
		})
	}
}

// Guardians that are registered with each other, or with themselves, are lost, if nothing else leads to them.
func TestGuardsOfEachOther(t *testing.T) {
	for _, cut := range cuts() {
		g := roomy(t)
		g.do(sGuard(0), sGuard(1), sReg(0, 1), sReg(1, 0), sGuard(2), sReg(2, 2))
		g.lose(1, 0, 1, 2)
		g.do(sNil(0), sNil(1), sNil(2), cut)
		g.wantUsed(0, 0)
	}
	for _, cut := range cuts() {
		g := roomy(t)
		g.do(sGuard(0), sReg(0, 0), cut)
		g.refuse(api.ErrNone, sPop(1, 0))
		g.do(sMajor())
		g.wantUsed(0, 1)
	}
}

// A guardian comes alive by what waits at another one, or by an ephemeron's value whose key comes to wait: its own come in the same cut.
func TestGuardThatComesAlive(t *testing.T) {
	for name, lead := range map[string][]api.Step{
		"in a pair that is registered":                {sPair(2, 9, 1), sReg(2, 0), sNil(2)},
		"as the value of a key that is registered":    {sVector(2, 9, 1), sReg(2, 0), sEphem(3, 2, 1), sNil(2)},
		"behind a guardian that is registered":        {sGuard(2), sReg(1, 2), sReg(2, 0), sNil(2)},
		"as the second field of a weak pair":          {sWeak(2, 9, 1), sReg(2, 0), sNil(2)},
		"in a vector that is registered, and in more": {sVector(2, 1, 4), sReg(2, 0), sReg(1, 0), sNil(2)},
	} {
		t.Run(name, func(t *testing.T) {
			for _, early := range []bool{true, false} {
				for _, cut := range cuts() {
					g := roomy(t)
					g.do(sGuard(0), sGuard(1), sWeak(4, 1, 9))
					if early {
						g.lose(7, 1)
						g.lose(8, 1)
					}
					g.do(lead...)
					if !early {
						g.lose(7, 1)
						g.lose(8, 1)
					}
					g.do(sNil(1), cut, sGet(1, 4, 0))
					g.wantPopped(1, 7, 8)
				}
			}
		})
	}
}

// A thing that is registered with two guardians, of which one is lost, waits at the other one alone.
func TestOneOfTwoGuards(t *testing.T) {
	for lost := range 2 {
		for _, cut := range cuts() {
			g := roomy(t)
			g.do(sGuard(0), sGuard(1))
			g.lose(3, 0, 1)
			g.do(sNil(lost), cut)
			g.wantUsed(0, 3)
			g.wantPopped(1-lost, 3)
		}
	}
}

// What came back from a guardian is as any thing: it may be registered and lost again.
func TestBackAndLostAgain(t *testing.T) {
	g := roomy(t)
	g.do(sGuard(0))
	g.lose(8, 0)
	g.do(sMinor(), sPop(1, 0), sReg(1, 0), sNil(1), sMinor())
	// It is old by then, and no small cut finds that it is lost.
	g.refuse(api.ErrNone, sPop(1, 0))
	g.do(sMajor())
	g.wantPopped(0, 8)
	g.do(sMajor())
	g.wantUsed(0, 1)
}

// A cut that a new thing asks for lets things wait, as any cut.
func TestRoomLetsThingsWait(t *testing.T) {
	for _, old := range []int{32, 15} {
		g := newGround(t, 16, old)
		g.do(sGuard(0))
		g.lose(4, 0)
		g.do(sVector(1, 2, 11), sPair(3, 2, 2))
		g.wantUsed(3, 15)
		g.wantPopped(0, 4)
	}
}
