package grove_test

import (
	"testing"

	"underwood/api"
)

// An ephemeron is broken just if its key is not alive; the value is kept by the key, as long as the ephemeron is alive.
func TestEphem(t *testing.T) {
	aged(t, func(g *ground, age func(), cut api.Step, all bool) {
		// The key of 2 is alive, that of 3 is not; that of 4 leads nowhere; 5 is lost itself, and keeps nothing.
		g.do(sPair(0, 9, 9), sVector(10, 9, 1), sEphem(2, 0, 10), sPair(1, 9, 9), sVector(10, 9, 2), sEphem(3, 1, 10))
		g.do(sVector(10, 9, 3), sInt(11, 1), sEphem(4, 11, 10), sVector(10, 9, 4), sEphem(5, 0, 10))
		age()
		g.do(sNil(1), sNil(5), sNil(10), cut)
		g.do(sGet(10, 2, 1))
		g.wantNode(10, api.KVector, 9)
		g.wantNode(2, api.KEphem, 0, 10)
		g.do(sGet(10, 4, 1))
		g.wantNode(10, api.KVector, 9, 9, 9)
		g.wantNode(4, api.KEphem, 11, 10)
		if !all {
			g.wantUsed(0, 3+2+3+3+3+3+4+3+5+3)
			return
		}
		g.wantUsed(0, 3+2+3+3+4+3)
		g.wantFields(3, api.KEphem, gone(), gone())
		// The key is lost: behind the great cut its value is, too.
		g.do(sNil(0), sNil(10), sMajor())
		g.wantFields(2, api.KEphem, gone(), gone())
		g.wantUsed(0, 3+3+4+3)
	})
}

// A key that is kept by another ephemeron's value only, whichever of them was made first, or is reached first.
func TestEphemChain(t *testing.T) {
	for _, order := range [][3]int{{2, 3, 4}, {2, 4, 3}, {3, 2, 4}, {3, 4, 2}, {4, 2, 3}, {4, 3, 2}} {
		for _, kept := range []bool{true, false} {
			aged(t, func(g *ground, age func(), cut api.Step, all bool) {
				// The vectors 5 to 8: the ephemeron 2 leads from 5 to 6, 3 from 6 to 7, 4 from 7 to 8.
				for i := range 4 {
					g.do(sVector(5+i, 11, int64(i)))
				}
				for _, e := range order {
					g.do(sEphem(e, e+3, e+4))
				}
				age()
				if !kept {
					g.do(sNil(5))
				}
				g.do(sNil(6), sNil(7), sNil(8), cut)
				if !kept && all {
					for e := 2; e <= 4; e++ {
						g.wantFields(e, api.KEphem, gone(), gone())
					}
					g.wantUsed(0, 9)
					return
				}
				g.wantUsed(0, 9+1+2+3+4)
				for e := 2; e <= 4; e++ {
					g.do(sGet(10, e, 0), sLen(10, 10))
					g.wantRoot(10, number(int64(e-2)))
					g.do(sGet(10, e, 1), sLen(10, 10))
					g.wantRoot(10, number(int64(e-1)))
				}
			})
		}
	}
}

// Two ephemerons, the key of each the value of the other: if nothing else leads to the keys both are broken.
func TestEphemsOfEachOther(t *testing.T) {
	for kept := range 4 {
		aged(t, func(g *ground, age func(), cut api.Step, all bool) {
			g.do(sPair(0, 9, 9), sVector(1, 9, 1), sEphem(2, 0, 1), sEphem(3, 1, 0))
			age()
			for r := range 2 {
				if kept>>r&1 == 0 {
					g.do(sNil(r))
				}
			}
			g.do(cut)
			if kept == 0 && all {
				g.wantUsed(0, 6)
				g.wantFields(2, api.KEphem, gone(), gone())
				g.wantFields(3, api.KEphem, gone(), gone())
				return
			}
			g.wantUsed(0, 11)
			g.do(sGet(0, 2, 0), sGet(1, 2, 1))
			g.wantNode(0, api.KPair, 9, 9)
			g.wantNode(1, api.KVector, 9)
			g.wantNode(3, api.KEphem, 1, 0)
		})
	}
}

// An ephemeron whose value leads to its key, or whose key leads to it, or to its value: neither keeps the key.
func TestEphemThatLeadsBack(t *testing.T) {
	for name, lead := range map[string][]api.Step{
		"the value is the key":                   {sSet(2, 1, 0)},
		"the value leads to the key":             {sSet(1, 0, 0)},
		"the value leads to the ephemeron":       {sSet(1, 0, 2)},
		"the key leads to the value":             {sSet(0, 0, 1)},
		"the key leads to the ephemeron":         {sSet(0, 0, 2)},
		"both lead to each other":                {sSet(0, 0, 1), sSet(1, 0, 0)},
		"both lead to the ephemeron, and itself": {sSet(0, 0, 2), sSet(1, 0, 2), sSet(0, 1, 0), sSet(1, 1, 1)},
	} {
		t.Run(name, func(t *testing.T) {
			aged(t, func(g *ground, age func(), cut api.Step, all bool) {
				g.do(sPair(0, 9, 9), sPair(1, 9, 9), sEphem(2, 0, 1))
				g.do(lead...)
				age()
				g.do(sNil(0), sNil(1), cut)
				if all {
					g.wantUsed(0, 3)
					g.wantFields(2, api.KEphem, gone(), gone())
				} else {
					g.wantUsed(0, 9)
				}
			})
			aged(t, func(g *ground, age func(), cut api.Step, all bool) {
				g.do(sPair(0, 9, 9), sPair(1, 9, 9), sEphem(2, 0, 1))
				g.do(lead...)
				age()
				ahead := g.View()
				g.do(cut)
				if behind := g.View(); !sameView(ahead, behind) {
					g.t.Errorf("with its key alive the cut changed %v to %v", ahead, behind)
				}
				// Without roots nothing of it is left.
				g.do(sNil(0), sNil(1), sNil(2), sMajor())
				g.wantUsed(0, 0)
			})
		})
	}
}

// An ephemeron whose key, or whose value, or both, is itself: while it is alive its key is.
func TestEphemOfItself(t *testing.T) {
	for fields := 1; fields < 4; fields++ {
		aged(t, func(g *ground, age func(), cut api.Step, all bool) {
			g.do(sPair(0, 9, 9), sPair(1, 9, 9), sEphem(2, 0, 1))
			for i := range 2 {
				if fields>>i&1 != 0 {
					g.do(sSet(2, i, 2))
				}
			}
			age()
			g.do(sNil(0), sNil(1), cut)
			if !all {
				g.wantUsed(0, 9)
				return
			}
			switch fields {
			case 1: // the key is itself, and keeps the value
				g.wantUsed(0, 6)
				g.do(sGet(1, 2, 1))
				g.wantNode(1, api.KPair, 9, 9)
				g.wantNode(2, api.KEphem, 2, 1)
			case 2: // the value is itself, and the key is lost
				g.wantUsed(0, 3)
				g.wantFields(2, api.KEphem, gone(), gone())
			default:
				g.wantUsed(0, 3)
				g.wantNode(2, api.KEphem, 2, 2)
			}
		})
	}
}

// A key that a weak pair's first field alone leads to is not alive; both are broken.
func TestEphemAndWeak(t *testing.T) {
	aged(t, func(g *ground, age func(), cut api.Step, all bool) {
		g.do(sPair(0, 9, 9), sWeak(1, 0, 9), sEphem(2, 0, 9), sVector(4, 9, 2), sWeak(3, 4, 9), sEphem(5, 9, 4))
		age()
		g.do(sNil(0), sNil(4), cut)
		if all {
			g.wantFields(1, api.KWeak, gone(), api.Val{})
			g.wantFields(2, api.KEphem, gone(), gone())
		}
		// What an ephemeron's value keeps is alive for a weak pair.
		g.do(sGet(4, 5, 1))
		g.wantNode(4, api.KVector, 9, 9)
		g.wantNode(3, api.KWeak, 4, 9)
	})
}

// Three vectors, and two ephemerons or weak pairs of any of them, of each other or of nothing: all that there are, with roots as they come.
func TestAllSmallOnes(t *testing.T) {
	var fields [][2]int
	for a := range 6 {
		for b := range 6 {
			fields = append(fields, [2]int{a, b})
		}
	}
	s := source(3)
	for _, first := range fields {
		for _, second := range fields {
			for _, kinds := range [][2]int{{api.SEphem, api.SEphem}, {api.SEphem, api.SWeak}, {api.SWeak, api.SEphem}} {
				g := newGround(t, 40, 80)
				for r := range 3 {
					g.do(sVector(r, 5, 1))
				}
				g.do(stepRAB(kinds[0], 3, 5, 5), stepRAB(kinds[1], 4, 5, 5))
				if s.below(3) == 0 {
					g.do(cuts()[s.below(2)])
				}
				g.do(sSet(3, 0, first[0]), sSet(3, 1, first[1]), sSet(4, 0, second[0]), sSet(4, 1, second[1]), sSet(s.below(3), 0, s.below(6)))
				lost := s.below(16)
				for r := range 4 {
					if lost>>r&1 != 0 {
						g.do(sNil(r))
					}
				}
				g.do(cuts()[s.below(2)])
			}
		}
	}
}
