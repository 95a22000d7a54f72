package major_test

import (
	"testing"

	"underwood/api"
	"underwood/word"
)

// The fillings below are laid in a wood whose nursery is empty, and answer how many words are alive then.
// Each holds less in the old space than is alive, so that it can be laid in one that is too small for all.

// fillPlain is a list of both spaces, with what is lost between.
func fillPlain(g *ground) int {
	g.old(api.KVector, number(1), number(2))
	g.Roots[0] = g.old(api.KPair, number(3), word.Nil())
	for i := range int64(4) {
		g.young(api.KPair, number(i), g.Roots[0])
		g.Roots[0] = g.young(api.KPair, number(i), g.Roots[0])
	}
	return 3 + 4*3
}

// fillOld is old alone but for one young thing of a single word, to which an old one leads.
func fillOld(g *ground) int {
	for i := range 6 {
		g.Roots[i] = g.old(api.KPair, number(int64(i)), word.Nil())
	}
	g.Set(g.Roots[2], 1, g.young(api.KVector))
	return 6*3 + 1
}

// fillSettled is alive by what Side.Settle keeps alone.
func fillSettled(g *ground) int {
	g.Roots[0] = g.old(api.KGuard)
	lost := g.old(api.KPair, number(1), number(2))
	g.Set(lost, 1, g.leaf(3))
	g.reg(g.Roots[0], lost)
	g.reg(g.Roots[0], g.young(api.KWeak, g.leaf(4), g.leaf(5)))
	return 1 + 3 + 2 + 3 + 2
}

// fillLate is alive by guardians that are alive by what is kept alone.
func fillLate(g *ground) int {
	g.Roots[0] = g.old(api.KGuard)
	late := g.old(api.KGuard)
	later := g.young(api.KGuard)
	g.reg(later, g.leaf(1))
	g.reg(late, g.young(api.KPair, later, number(0)))
	g.reg(g.Roots[0], g.young(api.KEphem, number(0), late))
	g.wait(later, g.leaf(2))
	g.wait(g.young(api.KGuard), g.leaf(3))
	return 3 + 2 + 3 + 3 + 2
}

// fillValues is alive by values of ephemerons, the key of one of which comes alive by another one.
func fillValues(g *ground) int {
	k1, k2, k3 := g.old(api.KVector, number(1)), g.young(api.KVector, number(2)), g.leaf(3)
	g.Roots[0] = g.old(api.KEphem, k2, word.Nil())
	g.Set(g.Roots[0], 1, g.leaf(4))
	g.Roots[1] = g.young(api.KEphem, k1, k2)
	g.Roots[2] = k1
	g.Roots[3] = g.young(api.KEphem, k3, g.leaf(5))
	return 2 + 2 + 3 + 2 + 3 + 3
}

// fillWaiting is alive by what waits at guardians.
func fillWaiting(g *ground) int {
	g.Roots[0] = g.old(api.KGuard)
	inner := g.young(api.KGuard)
	g.wait(inner, g.young(api.KPair, g.leaf(1), number(0)))
	g.wait(g.Roots[0], inner)
	g.wait(g.young(api.KGuard), g.leaf(2))
	return 1 + 1 + 3 + 2
}

// fillKeyBySettle is alive by a key that Side.Settle keeps.
func fillKeyBySettle(g *ground) int {
	g.Roots[0] = g.old(api.KGuard)
	k := g.leaf(1)
	g.Roots[1] = g.old(api.KEphem, k, word.Nil())
	g.Set(g.Roots[1], 1, g.young(api.KVector, make([]int64, 5)...))
	g.reg(g.Roots[0], k)
	return 1 + 2 + 3 + 6
}

// P7.1: ErrFull, and nothing changes, just where what is alive has more words than the old space.
func TestErrFull(t *testing.T) {
	fillings := map[string]func(g *ground) int{
		"plain": fillPlain, "old": fillOld, "settled": fillSettled, "late": fillLate,
		"values": fillValues, "waiting": fillWaiting, "key by settle": fillKeyBySettle,
	}
	for name, fill := range fillings {
		t.Run(name, func(t *testing.T) {
			alive := fill(newGround(t, 64, 256))
			for room := alive + 2; room >= alive-1; room-- {
				g := newGround(t, 64, room)
				fill(g)
				if room >= alive {
					g.cut(alive)
					g.cut(alive)
					continue
				}
				g.wantFull()
				clear(g.Roots)
				g.cut(0)
			}
		})
	}
}

// P7.1: a cut that is refused leaves marked cards marked, and all that a later cut needs.
func TestErrFullThenRoom(t *testing.T) {
	g := newGround(t, 64, 20)
	p := g.old(api.KPair, number(1), number(2))
	q := g.old(api.KWeak, number(3), number(4))
	e := g.old(api.KEphem, number(5), number(6))
	guard := g.old(api.KGuard)
	x, y := g.leaf(1), g.leaf(2)
	g.link(p, x, y)
	g.link(q, g.leaf(3), x)
	g.link(e, g.leaf(4), y)
	g.reg(guard, x)
	g.reg(guard, g.leaf(5))
	g.wait(guard, g.leaf(6))
	g.Roots[0], g.Roots[1], g.Roots[2], g.Roots[3] = p, q, e, guard
	g.Roots[4] = g.young(api.KVector, number(7), number(8))
	if g.Cards.Count() == 0 {
		t.Error("no card is marked")
	}
	g.wantFull() // 10 old ones, 8 of the leaves, 3 of the vector
	g.Roots[4] = word.Nil()
	g.cut(18)
	g.wantFields(g.Roots[1], word.Gone(), g.field(g.Roots[0], 0))
	g.wantBroken(g.Roots[2])
	g.wantLeaf(g.field(g.Roots[0], 0), 1)
	g.wantLeaf(g.field(g.Roots[0], 1), 2)
	g.wantSide(1, 2)
	g.wantWait(g.Roots[3], 6, 5)
}

// P7.1: an old space without any words has room for nothing alive, whatever the nursery holds besides.
func TestErrFullWithoutAnOldSpace(t *testing.T) {
	g := newGround(t, 16, 0)
	g.young(api.KPair, number(1), number(2))
	g.cut(0)
	g.Roots[0] = g.young(api.KGuard)
	g.wantFull()
	g.Roots[0] = word.Nil()
	g.cut(0)
}

// P7.1: where the small cut has no room a great one may have it, since what is lost counts for nothing.
func TestRoomByWhatIsLost(t *testing.T) {
	g := newGround(t, 16, 16)
	for i := range int64(8) {
		g.Roots[i] = g.old(api.KVector, number(i))
	}
	x := word.Nil()
	for range 5 {
		x = g.young(api.KPair, number(1), x)
	}
	g.young(api.KVector)
	g.Roots[11] = x
	g.wantFull()
	g.Roots[0], g.Roots[1], g.Roots[3], g.Roots[4], g.Roots[5], g.Roots[6] = 0, 0, 0, 0, 0, 0
	g.wantFull() // 4 old ones, 15 young ones
	g.Roots[11] = g.field(x, 1)
	g.cut(16)
	g.wantLeaf(g.Roots[2], 2)
	g.wantLeaf(g.Roots[7], 7)
	g.young(api.KVector)
	g.cut(16)
	g.Roots[0] = g.young(api.KVector)
	g.wantFull()
}

// P7.1: the greatest spaces there are, full of what is alive; then just as much as has room.
func TestErrFullOfTheGreatest(t *testing.T) {
	g := newGround(t, api.MaxNursery, api.MaxOld)
	for old := 0; old < api.MaxOld; {
		size := min(4, api.MaxOld-old)
		x := g.old(api.KVector, make([]int64, size-1)...)
		if size > 1 {
			g.Set(x, 0, g.Roots[0])
		}
		g.Roots[0] = x
		old += size
	}
	g.cut(api.MaxOld)
	for range api.MaxNursery / 4 {
		g.Roots[1] = g.young(api.KVector, g.Roots[1], number(0), number(0))
	}
	g.wantFull()
	for range api.MaxNursery/4 - 1 {
		g.Roots[0] = g.field(g.Roots[0], 0)
	}
	g.wantFull()
	g.Roots[0] = g.field(g.Roots[0], 0)
	g.cut(api.MaxOld)
	if n := len(g.along(g.Roots[1], 0)); n != api.MaxNursery/4 {
		t.Errorf("the young list has %d things", n)
	}
	if n := len(g.along(g.Roots[0], 0)); n != (api.MaxOld-api.MaxNursery)/4 {
		t.Errorf("the old list has %d things", n)
	}
}
