package major_test

import (
	"testing"

	"underwood/api"
	"underwood/word"
)

// P7.1: the key of an ephemeron is alive, is not, or leads nowhere, of either space.
func TestEphem(t *testing.T) {
	everywhere(t, func(g *ground) {
		k1, k2 := g.leaf(1), g.leaf(2)
		g.Roots[0] = g.thing(api.KEphem, k1, g.leaf(11))
		g.Roots[1] = g.thing(api.KEphem, k2, g.leaf(12))
		g.Roots[2] = k1
		nowhere := []int64{number(5), number(0), word.Nil(), word.Gone()}
		for i, k := range nowhere {
			g.Roots[3+i] = g.thing(api.KEphem, k, g.leaf(int64(i)))
		}
		g.Roots[7] = g.thing(api.KEphem, k1, number(7))
		g.cut(2 + 3 + 2 + 3 + 4*5 + 3)
		g.wantKept(g.Roots[0], 1, 11)
		g.wantBroken(g.Roots[1])
		if k := g.field(g.Roots[0], 0); k != g.Roots[2] {
			g.t.Errorf("the key is %d, the root %d", k, g.Roots[2])
		}
		for i, k := range nowhere {
			g.wantFields(g.Roots[3+i], k, g.field(g.Roots[3+i], 1))
			g.wantLeaf(g.field(g.Roots[3+i], 1), int64(i))
		}
		g.wantFields(g.Roots[7], g.Roots[2], number(7))
	})
}

// P7.1: ephemeron, key and value, each in either space; the key is alive, or is not.
func TestEphemAcross(t *testing.T) {
	for places := range 8 {
		for _, held := range []bool{true, false} {
			g := newGround(t, 64, 64)
			in := func(bit, kind int, fields ...int64) int64 {
				if places&bit != 0 {
					return g.old(kind, fields...)
				}
				return g.young(kind, fields...)
			}
			g.old(api.KVector, number(0), number(0))
			k := in(1, api.KVector, number(1))
			v := in(2, api.KVector, number(2))
			g.Roots[0] = in(4, api.KEphem, k, v)
			if !held {
				g.cut(3)
				g.wantBroken(g.Roots[0])
				continue
			}
			g.Roots[1] = k
			g.cut(7)
			g.wantKept(g.Roots[0], 1, 2)
			g.wantLeaf(g.Roots[1], 1)
		}
	}
}

// P7.1: an ephemeron that is not alive keeps nothing, though its key is alive.
func TestEphemThatIsNotAlive(t *testing.T) {
	everywhere(t, func(g *ground) {
		k := g.leaf(1)
		g.thing(api.KEphem, k, g.leaf(2))
		g.thing(api.KEphem, number(3), g.leaf(4))
		g.Roots[0] = k
		g.cut(2)
		g.wantLeaf(g.Roots[0], 1)
	})
}

// P7.1: a value that is a number, or is alive otherwise, is gone with the key.
func TestBrokenWhole(t *testing.T) {
	everywhere(t, func(g *ground) {
		kept := g.leaf(2)
		for i, v := range []int64{number(9), word.Nil(), kept} {
			g.Roots[i] = g.thing(api.KEphem, g.leaf(1), v)
		}
		g.Roots[3] = kept
		g.cut(3*3 + 2)
		for _, x := range g.Roots[:3] {
			g.wantBroken(x)
		}
		g.wantLeaf(g.Roots[3], 2)
	})
}

// P7.1: an ephemeron's value does not keep its own key, nor does an ephemeron that is its own key or value.
func TestOwnKey(t *testing.T) {
	everywhere(t, func(g *ground) {
		k := g.leaf(1)
		g.Roots[0] = g.thing(api.KEphem, k, g.thing(api.KPair, k, number(0)))
		k = g.leaf(2)
		g.Roots[1] = g.thing(api.KEphem, k, k)
		g.Roots[2] = g.thing(api.KEphem, number(0), number(5))
		g.link(g.Roots[2], g.Roots[2])
		g.Roots[3] = g.thing(api.KEphem, g.leaf(3), number(0))
		g.Set(g.Roots[3], 1, g.Roots[3])
		g.cut(4 * 3)
		g.wantBroken(g.Roots[0])
		g.wantBroken(g.Roots[1])
		g.wantFields(g.Roots[2], g.Roots[2], number(5))
		g.wantBroken(g.Roots[3])
	})
}

// chain makes ephemerons, the value of each of which is the key of the next one, and answers the first key.
// They are held by a list of pairs, from the first one on or from the last one on.
func (g *ground) chain(n int64, forth bool) int64 {
	g.t.Helper()
	var keys []int64
	for i := range n + 1 {
		keys = append(keys, g.leaf(i))
	}
	var l []int64
	for i := range n {
		l = append(l, g.thing(api.KEphem, keys[i], keys[i+1]))
	}
	for i := range l {
		if forth {
			i = len(l) - 1 - i
		}
		g.Roots[0] = g.thing(api.KPair, l[i], g.Roots[0])
	}
	return keys[0]
}

// P7.1: keys come alive late, by the value of another ephemeron, in whatever order they are met.
func TestKeysThatComeLate(t *testing.T) {
	for _, forth := range []bool{true, false} {
		for _, n := range []int64{1, 2, 3, 10, 31} {
			everywhere(t, func(g *ground) {
				g.Roots[1] = g.chain(n, forth)
				g.cut(int(n)*6 + int(n+1)*2)
				l := g.along(g.Roots[0], 1)
				if len(l) != int(n) {
					g.t.Errorf("%d ephemerons are left of %d", len(l), n)
				}
				for i, x := range l {
					k := int64(i)
					if !forth {
						k = n - 1 - k
					}
					g.wantKept(g.field(x, 0), k, k+1)
				}
				g.Roots[1] = word.Nil()
				g.cut(int(n) * 6)
				for _, x := range g.along(g.Roots[0], 1) {
					g.wantBroken(g.field(x, 0))
				}
			})
		}
	}
}

// P7.1: keys to which values lead by a pair, a weak pair's second field, a vector; not by a weak pair's first field.
func TestKeysThatValuesLeadTo(t *testing.T) {
	everywhere(t, func(g *ground) {
		k := []int64{g.leaf(0), g.leaf(1), g.leaf(2), g.leaf(3), g.leaf(4)}
		g.Roots[0] = g.thing(api.KEphem, k[3], g.thing(api.KWeak, k[4], number(0)))
		g.Roots[1] = g.thing(api.KEphem, k[2], g.thing(api.KVector, number(0), k[3]))
		g.Roots[2] = g.thing(api.KEphem, k[1], g.thing(api.KWeak, number(0), k[2]))
		g.Roots[3] = g.thing(api.KEphem, k[0], g.thing(api.KPair, number(0), k[1]))
		g.Roots[4] = g.thing(api.KEphem, k[4], number(9))
		g.Roots[5] = k[0]
		g.cut(4*3 + 4*3 + 3 + 4*2)
		for i := range int64(4) {
			g.wantLeaf(g.field(g.Roots[3-i], 0), i)
		}
		g.wantFields(g.field(g.Roots[0], 1), word.Gone(), number(0))
		g.wantBroken(g.Roots[4])
	})
}

// P7.1: an ephemeron that is alive by the value of another one alone keeps its own value.
func TestEphemThatComesLate(t *testing.T) {
	everywhere(t, func(g *ground) {
		k := g.leaf(1)
		inner := g.thing(api.KEphem, k, g.leaf(2))
		dead := g.thing(api.KEphem, g.leaf(4), g.leaf(3))
		g.Roots[0] = g.thing(api.KEphem, k, g.thing(api.KPair, inner, dead))
		g.Roots[1] = k
		g.cut(2 + 3 + 2 + 3 + 3 + 3)
		pair := g.field(g.Roots[0], 1)
		g.wantKept(g.field(pair, 0), 1, 2)
		g.wantBroken(g.field(pair, 1))
	})
}

// The document's example, and rings of more: if nothing else leads to the keys all are broken; if to one of them, none is.
func TestRingOfEphems(t *testing.T) {
	for n := 1; n <= 6; n++ {
		for held := -1; held < n; held++ {
			everywhere(t, func(g *ground) {
				var keys []int64
				for i := range n {
					keys = append(keys, g.leaf(int64(i)))
				}
				for i, k := range keys {
					g.Roots[i] = g.thing(api.KEphem, k, keys[(i+1)%n])
				}
				if held >= 0 {
					g.Roots[11] = keys[held]
					g.cut(n * 5)
					for i := range n {
						g.wantKept(g.Roots[i], int64(i), int64((i+1)%n))
					}
					g.Roots[11] = word.Nil()
				}
				g.cut(n * 3)
				for i := range n {
					g.wantBroken(g.Roots[i])
				}
			})
		}
	}
}

// P7.1: a key that is kept by Side.Settle is alive, and its value, too; one that a waiting thing leads to as well.
func TestKeysThatGuardiansKeep(t *testing.T) {
	everywhere(t, func(g *ground) {
		guard := g.thing(api.KGuard)
		g.Roots[0] = guard
		k1, k2, k3 := g.leaf(1), g.leaf(2), g.leaf(3)
		g.Roots[1] = g.thing(api.KEphem, k1, g.leaf(11))
		g.Roots[2] = g.thing(api.KEphem, k2, g.leaf(12))
		g.Roots[3] = g.thing(api.KEphem, k3, g.leaf(13))
		g.reg(guard, k1)
		g.wait(guard, g.thing(api.KPair, k2, number(0)))
		g.cut(1 + 3*3 + 4 + 4 + 3)
		g.wantKept(g.Roots[1], 1, 11)
		g.wantKept(g.Roots[2], 2, 12)
		g.wantBroken(g.Roots[3])
		if l := g.Side.At(g.Roots[0]); len(l) != 2 || l[1] != g.field(g.Roots[1], 0) {
			g.t.Errorf("%v waits", l)
		}
	})
}

// P7.1: cuts one behind the other: a small one leaves an old ephemeron whose key nothing leads to, a great one breaks it.
func TestEphemBehindCuts(t *testing.T) {
	g := newGround(t, 64, 64)
	k := g.leaf(1)
	g.Roots[0] = g.young(api.KEphem, k, g.leaf(2))
	g.Roots[1] = k
	g.cut(7)
	g.wantKept(g.Roots[0], 1, 2)
	g.Roots[1] = word.Nil()
	g.small()
	g.wantKept(g.Roots[0], 1, 2)
	g.cut(3)
	g.wantBroken(g.Roots[0])
	g.Set(g.Roots[0], 1, g.leaf(5)) // its key is Gone, which leads nowhere
	g.cut(5)
	g.wantFields(g.Roots[0], word.Gone(), g.field(g.Roots[0], 1))
	g.wantLeaf(g.field(g.Roots[0], 1), 5)
	g.cut(5)
}
