package grove_test

import (
	"slices"
	"strconv"
	"testing"

	"underwood/api"
)

// maker is a step that makes a thing of so many words in the root 10.
type maker struct {
	api.Step
	words int
}

// makers are steps for things of all kinds and sizes.
func makers() []maker {
	l := []maker{{sPair(10, 0, 1), 3}, {sWeak(10, 0, 1), 3}, {sEphem(10, 0, 1), 3}, {sGuard(10), 1}}
	for n := range api.MaxVector + 1 {
		l = append(l, maker{sVector(10, 0, int64(n)), 1 + n})
	}
	return l
}

func eachMaker(t *testing.T, test func(t *testing.T, m maker)) {
	t.Helper()
	for _, m := range makers() {
		t.Run(strconv.Itoa(m.Kind)+" of "+strconv.Itoa(m.words), func(t *testing.T) { test(t, m) })
	}
}

// chain makes vectors of so many words in all, at least 2, or none, each leading to the one ahead, the last one in the root r.
func (g *ground) chain(r, words int) {
	g.t.Helper()
	if words == 1 || words < 0 {
		g.t.Fatalf("no chain has %d words", words)
	}
	for words > 0 {
		n := 1 + words%2
		g.do(sVector(r, r, int64(n)))
		words -= 1 + n
	}
}

// lay makes a ground in which old things of so many words lie lost, and such of so many are kept by the root 8;
// young ones of so many lie lost, and such of so many are kept by the root 9. No cut is left to be made.
func lay(t *testing.T, nursery, old int, lostOld, keptOld, lostYoung, keptYoung int) *ground {
	t.Helper()
	g := newGround(t, nursery, old)
	for _, x := range []struct{ r, words int }{{7, lostOld}, {8, keptOld}} {
		g.chain(x.r, x.words)
		g.do(sMinor())
	}
	g.do(sNil(7))
	g.chain(7, lostYoung)
	g.do(sNil(7))
	g.chain(9, keptYoung)
	g.wantUsed(lostYoung+keptYoung, lostOld+keptOld)
	return g
}

// length answers how many vectors a chain has, and holds that it ends with nothing.
func (g *ground) length(r int) int {
	g.t.Helper()
	view := g.View()
	n := 0
	for v := view.Roots[r]; v != (api.Val{}); n++ {
		if v.Kind != api.VRef || n > api.MaxOld {
			g.t.Fatalf("the chain of the root %d ends with %v", r, v)
		}
		v = view.Nodes[v.N].Fields[0]
	}
	return n
}

// wantChains holds that all is there that the roots 8 and 9 kept.
func (g *ground) wantChains(keptOld, keptYoung int) {
	g.t.Helper()
	if o, y := g.length(8), g.length(9); o != keptOld/2 || y != keptYoung/2 {
		g.t.Errorf("the chains have %d, %d vectors, want %d, %d", o, y, keptOld/2, keptYoung/2)
	}
}

// wantMade holds that the new thing has the roots 0 and 1 as its fields.
func (g *ground) wantMade(m maker) {
	g.t.Helper()
	switch m.Kind {
	case api.SPair:
		g.wantNode(10, api.KPair, 0, 1)
	case api.SWeak:
		g.wantNode(10, api.KWeak, 0, 1)
	case api.SEphem:
		g.wantNode(10, api.KEphem, 0, 1)
	case api.SGuard:
		g.wantNode(10, api.KGuard)
	default:
		g.wantNode(10, api.KVector, slices.Repeat([]int{0}, m.words-1)...)
	}
}

// P9.1: with just as many free words as the thing needs no cut is made, whatever the old space has.
func TestRoomIsThere(t *testing.T) {
	eachMaker(t, func(t *testing.T, m maker) {
		for _, free := range []int{m.words, m.words + 1, m.words + 2} {
			used := 40 - free
			for _, old := range []int{20, 21, 20 + used - 1, 20 + used, 20 + used + 1, 200} {
				g := lay(t, 40, old, 10, 10, used-4, 4)
				g.do(m.Step)
				g.wantUsed(used+m.words, 20)
				g.wantMade(m)
			}
		}
	})
}

// P9.1: with one word fewer, and just as many free words in the old space as the nursery has in use, it is the small cut:
// what is lost of the old things stays.
func TestSmallCutForRoom(t *testing.T) {
	eachMaker(t, func(t *testing.T, m maker) {
		for free := range m.words {
			used := 40 - free
			for _, more := range []int{0, 1, 30} {
				g := lay(t, 40, 20+used+more, 10, 10, used-4, 4)
				g.do(m.Step)
				g.wantUsed(m.words, 20+4)
				g.wantMade(m)
				g.wantChains(10, 4)
			}
		}
	})
}

// P9.1: with one free word fewer in the old space it is the great cut: what is lost of the old things goes.
func TestGreatCutForRoom(t *testing.T) {
	eachMaker(t, func(t *testing.T, m maker) {
		for free := range m.words {
			used := 40 - free
			for _, fewer := range []int{1, 2, used} {
				g := lay(t, 40, 20+used-fewer, 10, 10, used-4, 4)
				g.do(m.Step)
				g.wantUsed(m.words, 10+4)
				g.wantMade(m)
				g.wantChains(10, 4)
			}
		}
	})
}

// P9.1: it is the great cut, too, where nothing is lost of the old things, and what is alive has just as many words as the old space;
// with one more the step has that cut's code, and changes nothing.
func TestGreatCutThatIsFull(t *testing.T) {
	eachMaker(t, func(t *testing.T, m maker) {
		for free := range m.words {
			used := 40 - free
			for _, kept := range []int{used - 2, used - 3, 4} {
				g := lay(t, 40, 20+kept, 0, 20, used-kept, kept)
				g.do(m.Step)
				g.wantUsed(m.words, 20+kept)
				g.wantMade(m)
				g.wantChains(20, kept)
				g = lay(t, 40, 20+kept-1, 0, 20, used-kept, kept)
				g.refuse(api.ErrFull, m.Step)
				g.wantChains(20, kept)
			}
		}
	})
}

// P9.1: a great cut that is refused breaks nothing, lets nothing wait, and lets go of nothing.
func TestGreatCutThatIsRefused(t *testing.T) {
	g := newGround(t, 32, 20)
	g.do(sGuard(0), sVector(1, 11, 1), sReg(1, 0), sPair(2, 11, 11), sWeak(3, 2, 11), sEphem(4, 2, 2), sNil(1), sNil(2))
	g.do(sVector(5, 11, 12))
	g.wantUsed(25, 0)
	// Alive would be the guardian, the vector that would wait, the weak pair, the ephemeron, and the great vector: 22 words.
	for _, x := range []api.Step{sMinor(), sMajor(), sVector(6, 11, 7)} {
		g.refuse(api.ErrFull, x)
		g.refuse(api.ErrNone, sPop(7, 0))
	}
	g.do(sGet(2, 3, 0))
	g.wantNode(2, api.KPair, 11, 11)
	g.wantNode(3, api.KWeak, 2, 11)
	g.wantNode(4, api.KEphem, 2, 2)
	g.do(sNil(2), sNil(5))
	g.refuse(api.ErrFull, sMinor())
	g.do(sMajor())
	g.wantUsed(0, 9)
	g.wantFields(3, api.KWeak, gone(), api.Val{})
	g.wantFields(4, api.KEphem, gone(), gone())
	g.do(sPop(1, 0))
	g.wantNode(1, api.KVector, 11)
}

// P9.1: one cut after the other: the small one as long as the old space has room for all of the nursery,
// though the great one would leave more; then the great one.
func TestCutAfterCut(t *testing.T) {
	g := newGround(t, 16, 32)
	for i, old := range []int{0, 13, 26, 13, 26, 13, 26} {
		// The vector in the root is alive when the next one is made, and is lost then.
		g.do(sVector(0, 1, 12))
		g.wantUsed(13, old)
		if t.Failed() {
			t.Fatalf("of the vector %d", i)
		}
	}
}

// P9.1: no cut makes room in an old space without words, unless nothing is alive.
func TestNoOldSpace(t *testing.T) {
	eachMaker(t, func(t *testing.T, m maker) {
		g := newGround(t, 16, 0)
		g.chain(9, 16)
		g.refuse(api.ErrFull, m.Step)
		g.do(sNil(9), m.Step)
		g.wantUsed(m.words, 0)
		g.wantMade(m)
	})
}

// P9.1: a step that may not be asked for makes no room, nor does one that makes no thing.
func TestNoRoomIsMade(t *testing.T) {
	g := lay(t, 16, 40, 6, 4, 12, 4)
	for _, r := range outside() {
		for _, kind := range []int{api.SPair, api.SWeak, api.SEphem} {
			g.refuse(api.ErrRange, stepRAB(kind, r, 0, 0))
			g.refuse(api.ErrRange, stepRAB(kind, 0, r, 0))
			g.refuse(api.ErrRange, stepRAB(kind, 0, 0, r))
		}
		g.refuse(api.ErrRange, sVector(r, 0, 3))
		g.refuse(api.ErrRange, sVector(0, r, 3))
		g.refuse(api.ErrRange, sVector(0, r, 0))
		g.refuse(api.ErrRange, sGuard(r))
	}
	g.refuse(api.ErrRange, sVector(0, 0, -1))
	g.refuse(api.ErrRange, sVector(0, 0, api.MaxVector+1))
	g.refuse(api.ErrKind, sGet(0, 0, 0))
	g.do(sInt(0, 3), sNil(1), sMove(2, 9), sLen(3, 9), sSame(4, 8, 9), sGet(5, 9, 0), sSet(9, 0, 0))
	g.wantUsed(16, 10)
}

// P9.1: a new thing leads to its roots, young ones and old ones, by either cut that makes room for it.
func TestFieldsBehindTheCut(t *testing.T) {
	for _, old := range []int{60, 20} {
		for step, kind := range map[int]int{api.SPair: api.KPair, api.SWeak: api.KWeak, api.SEphem: api.KEphem, api.SVector: api.KVector} {
			g := newGround(t, 16, old)
			g.do(sVector(7, 11, 4), sInt(0, 21), sVector(1, 0, 1), sMinor(), sNil(7))
			g.do(sVector(7, 11, 9), sInt(0, 22), sVector(2, 0, 1), sPair(3, 11, 11), sNil(7))
			g.wantUsed(15, 7)
			x := stepRAB(step, 4, 2, 1)
			x.N = 2
			g.do(x)
			if step == api.SVector {
				g.wantNode(4, kind, 2, 2)
			} else {
				g.wantNode(4, kind, 2, 1)
			}
			g.do(sGet(0, 2, 0), sGet(5, 1, 0))
			g.wantRoot(0, number(22))
			g.wantRoot(5, number(21))
		}
	}
}

// P9.1: what the root R led to is alive while room is made, whether the new thing leads to it or not.
func TestOldRootIsKeptByTheCut(t *testing.T) {
	for _, old := range []int{60, 15} {
		g := newGround(t, 16, old)
		g.do(sPair(0, 1, 1), sWeak(2, 0, 1), sVector(3, 1, 8), sGuard(4), sNil(4), sGuard(0))
		g.wantUsed(1, 15)
		g.do(sGet(4, 2, 0))
		g.wantNode(4, api.KPair, 1, 1)
	}
}
