package major_test

import (
	"slices"
	"testing"

	"underwood/api"
	"underwood/major"
	"underwood/word"
)

// P7.1: of a wood without things a cut leaves nothing.
func TestCutOfNothing(t *testing.T) {
	for _, room := range []int{0, 1, 16, api.MaxOld} {
		g := newGround(t, 16, room)
		g.cut(0)
		g.cut(0)
		for i, x := range g.Roots {
			if x != word.Nil() {
				t.Errorf("the root %d is %d", i, x)
			}
		}
	}
}

// P7.1: each kind of thing comes as it is, and what nothing leads to goes, of either space.
func TestEachKind(t *testing.T) {
	everywhere(t, func(g *ground) {
		long := []int64{4, 8, 2, 3, 12, 16, 20, 24, 28, 32, 36, -40}
		for i, fields := range [][]int64{{12, -16}, {}, long, {word.Gone(), 20}, {24, word.Nil()}, {}} {
			kind := []int{api.KPair, api.KVector, api.KVector, api.KWeak, api.KEphem, api.KGuard}[i]
			g.thing(kind, make([]int64, len(fields))...)
			g.Roots[i] = g.thing(kind, fields...)
			g.thing(kind, make([]int64, len(fields))...)
		}
		g.Roots[6], g.Roots[7] = number(api.MaxInt-1), word.Gone()
		g.cut(3 + 1 + 13 + 3 + 3 + 1)
		for i, kind := range []int{api.KPair, api.KVector, api.KVector, api.KWeak, api.KEphem, api.KGuard} {
			if k, _, code := g.Kind(g.Roots[i]); k != kind || code != 0 {
				g.t.Errorf("the root %d leads to the kind %d, %d", i, k, code)
			}
		}
		g.wantFields(g.Roots[0], 12, -16)
		g.wantFields(g.Roots[1])
		g.wantFields(g.Roots[2], long...)
		g.wantFields(g.Roots[3], word.Gone(), 20)
		g.wantFields(g.Roots[4], 24, word.Nil())
		for i, want := range []int64{number(api.MaxInt - 1), word.Gone(), word.Nil()} {
			if g.Roots[6+i] != want {
				g.t.Errorf("the root %d is %d, want %d", 6+i, g.Roots[6+i], want)
			}
		}
	})
}

// P7.1: each root, and each field of a vector and of a pair, keeps what it leads to.
func TestEachRootAndField(t *testing.T) {
	for i := range api.MaxRoots {
		everywhere(t, func(g *ground) {
			g.leaf(1)
			g.Roots[i] = g.leaf(2)
			g.cut(2)
			g.wantLeaf(g.Roots[i], 2)
		})
	}
	for kind, n := range map[int]int{api.KVector: api.MaxVector, api.KPair: 2} {
		for i := range n {
			everywhere(t, func(g *ground) {
				g.leaf(1)
				g.Roots[0] = g.thing(kind, make([]int64, n)...)
				g.Set(g.Roots[0], i, g.leaf(3))
				g.cut(1 + n + 2)
				g.wantLeaf(g.field(g.Roots[0], i), 3)
			})
		}
	}
}

// P7.1: things that lead to themselves: those to which a root leads, and others, which go.
func TestSelf(t *testing.T) {
	everywhere(t, func(g *ground) {
		for i, kind := range []int{api.KPair, api.KVector, api.KWeak, api.KEphem} {
			lost := g.thing(kind, number(0), number(0))
			g.link(lost, lost, lost)
			x := g.thing(kind, number(0), number(0))
			g.link(x, x, x)
			g.Roots[i] = x
		}
		g.cut(12)
		for _, x := range g.Roots[:4] {
			g.wantFields(x, x, x)
		}
	})
}

// ring makes pairs that lead round, and answers the first one.
func (g *ground) ring(n int64) int64 {
	g.t.Helper()
	first := g.thing(api.KPair, number(0), number(0))
	x := first
	for i := range n - 1 {
		x = g.thing(api.KPair, number(n-1-i), x)
	}
	g.link(first, number(0), x)
	return first
}

// P7.1: things that lead round in a ring, and rings to which nothing leads, which go.
func TestRing(t *testing.T) {
	everywhere(t, func(g *ground) {
		g.ring(2)
		g.ring(5)
		g.Roots[3] = g.ring(6)
		g.ring(3)
		g.cut(18)
		x := g.Roots[3]
		for i := range int64(6) {
			if y := g.field(x, 0); y != number(i) {
				g.t.Errorf("the thing %d of the ring has the number %d", i, y/4)
			}
			x = g.field(x, 1)
		}
		if x != g.Roots[3] {
			g.t.Errorf("the ring leads from %d to %d", g.Roots[3], x)
		}
		g.Roots[3] = word.Nil()
		g.cut(0)
	})
}

// P7.1: a thing to which several lead is one, behind the cut, too.
func TestShared(t *testing.T) {
	everywhere(t, func(g *ground) {
		g.leaf(6)
		x := g.leaf(7)
		g.Roots[0], g.Roots[1] = x, x
		for i, kind := range []int{api.KPair, api.KVector, api.KWeak, api.KEphem} {
			g.Roots[2+i] = g.thing(kind, x, x)
		}
		g.cut(2 + 4*3)
		x = g.Roots[0]
		g.wantLeaf(x, 7)
		if g.Roots[1] != x {
			g.t.Errorf("two roots lead to %d and %d", x, g.Roots[1])
		}
		for _, y := range g.Roots[2:6] {
			g.wantFields(y, x, x)
		}
	})
}

// P7.1: old things to which no root leads go, though others that go lead to them; a marked card does not keep them.
func TestOldThingsGo(t *testing.T) {
	g := newGround(t, 64, 64)
	a := g.old(api.KPair, number(1), number(2))
	b := g.old(api.KVector, a, a)
	g.Roots[0] = g.old(api.KVector, number(5))
	c := g.old(api.KWeak, a, b)
	d := g.old(api.KEphem, a, c)
	g.old(api.KGuard)
	g.link(a, g.leaf(1), d)
	g.young(api.KPair, a, d)
	if g.Cards.Count() == 0 {
		t.Error("no card is marked")
	}
	g.cut(2)
	g.wantLeaf(g.Roots[0], 5)
	if _, base := g.Bounds(); g.Roots[0] != word.Ref(base) {
		t.Errorf("the root is %d", g.Roots[0])
	}
}

// P7.1: old things to which only a young one leads, and young ones to which only an old one leads: with a root that leads there, or without.
func TestOneSpaceByTheOther(t *testing.T) {
	for _, held := range []bool{true, false} {
		g := newGround(t, 64, 128)
		g.old(api.KVector, number(0), number(0))
		o := g.old(api.KVector, number(1))
		g.old(api.KGuard)
		p := g.old(api.KPair, number(2), number(0))
		y := g.young(api.KPair, number(3), o)
		g.leaf(9)
		z := g.leaf(4)
		g.link(p, number(2), z)
		if !held {
			g.cut(0)
			continue
		}
		g.Roots[0], g.Roots[1] = y, p
		g.cut(3 + 2 + 3 + 2)
		g.wantFields(g.Roots[0], number(3), g.field(g.Roots[0], 1))
		g.wantLeaf(g.field(g.Roots[0], 1), 1)
		g.wantFields(g.Roots[1], number(2), g.field(g.Roots[1], 1))
		g.wantLeaf(g.field(g.Roots[1], 1), 4)
	}
}

// P7.1: forth and back between the spaces, by a ring of both.
func TestThereAndBack(t *testing.T) {
	for _, root := range []int{0, 1, 2, 3, -1} {
		g := newGround(t, 64, 64)
		g.old(api.KGuard)
		p := g.old(api.KPair, number(0), number(0))
		q := g.old(api.KPair, number(1), number(0))
		x := g.young(api.KPair, number(2), q)
		y := g.young(api.KPair, number(3), p)
		g.link(p, number(0), x)
		g.link(q, number(1), y)
		if root < 0 {
			g.cut(0)
			continue
		}
		g.Roots[0] = []int64{p, x, q, y}[root]
		g.cut(12)
		z := g.Roots[0]
		for i := range 4 {
			want := []int64{0, 2, 1, 3}[(root+i)%4]
			if n := g.field(z, 0); n != number(want) {
				t.Errorf("the thing %d has the number %d, want %d", i, n/4, want)
			}
			z = g.field(z, 1)
		}
		if z != g.Roots[0] {
			t.Errorf("the ring leads from %d to %d", g.Roots[0], z)
		}
	}
}

// P7.1: the old things in the order in which they stood, and behind them the young ones, however roots lead to them.
func TestOrder(t *testing.T) {
	for turn := range 5 {
		g := newGround(t, 128, 128)
		var olds, youngs []int64
		for i := range int64(10) {
			g.old(api.KVector, make([]int64, i%4)...)
			olds = append(olds, g.old(api.KVector, number(i)))
		}
		for i := range int64(10) {
			g.young(api.KVector, make([]int64, i%3)...)
			youngs = append(youngs, g.leaf(10+i))
		}
		for i := range 10 {
			i = (i*3 + turn) % 10
			g.Roots[0] = g.young(api.KPair, olds[i], g.Roots[0])
			g.Roots[1] = g.young(api.KPair, youngs[i], g.Roots[1])
		}
		g.cut(20*2 + 20*3)
		var got []int64
		_, places := g.Things()
		for _, at := range places {
			if kind, _, _ := g.Thing(at); kind == api.KVector {
				got = append(got, g.Load(at+1)/4)
			}
		}
		slices.Sort(got[10:])
		for i, n := range got {
			if n != int64(i) {
				t.Fatalf("the numbers are %v", got)
			}
		}
		for r, from := range []int64{0, 10} {
			x := g.Roots[r]
			for i := 9; i >= 0; i-- {
				g.wantLeaf(g.field(x, 0), from+int64((i*3+turn)%10))
				x = g.field(x, 1)
			}
		}
	}
}

// P7.1: what stands at the front stays where it is, and what stands behind what went comes nearer, by just that.
func TestSlide(t *testing.T) {
	for gap := range 12 {
		g := newGround(t, 32, 64)
		a := g.old(api.KPair, number(1), number(2))
		lost := g.old(api.KVector, make([]int64, gap)...)
		b := g.old(api.KVector, a, number(3), number(4), number(5), lost)
		g.link(b, a, b, b, a, number(6))
		c := g.old(api.KPair, b, a)
		g.Roots[0], g.Roots[1], g.Roots[2] = c, b, a
		g.cut(3 + 6 + 3)
		at, _ := word.At(b)
		nearer := word.Ref(at - 1 - gap)
		g.wantFields(a, number(1), number(2))
		g.wantFields(nearer, a, nearer, nearer, a, number(6))
		g.wantFields(g.Roots[0], nearer, a)
		if !slices.Equal(g.Roots[1:3], []int64{nearer, a}) {
			t.Errorf("the roots are %v", g.Roots)
		}
	}
}

// P7.1: a word may lead to a place at which another thing stands then: each leads on to its own.
func TestPlacesThatAreTakenAgain(t *testing.T) {
	g := newGround(t, 32, 128)
	var l []int64
	for i := range int64(12) {
		l = append(l, g.old(api.KPair, number(i), number(0)))
	}
	for i := 1; i < 11; i++ {
		g.link(l[i], number(int64(i)), l[i+1])
	}
	for i := range 11 {
		g.Roots[i] = l[11-i]
	}
	guard := g.old(api.KGuard)
	g.Roots[11] = guard
	for i := 1; i < 12; i++ {
		g.wait(guard, l[i])
		g.reg(guard, l[i])
	}
	g.cut(11*3 + 1)
	for i := range 11 {
		g.wantFields(g.Roots[i], number(int64(11-i)), g.field(g.Roots[i], 1))
		if i > 0 && g.field(g.Roots[i], 1) != g.Roots[i-1] {
			t.Errorf("the pair %d leads to %d, want %d", 11-i, g.field(g.Roots[i], 1), g.Roots[i-1])
		}
	}
	g.wantSide(11, 11)
	for i, x := range g.Side.At(g.Roots[11]) {
		e := g.Side.Regs[i]
		if x != g.Roots[10-i] || e.Thing != x || e.Guard != g.Roots[11] {
			t.Errorf("%d waits, and %v is registered, want %d", x, e, g.Roots[10-i])
		}
	}
}

// P7.1: a weak pair's first field keeps nothing, its second one does, of either space.
func TestWeak(t *testing.T) {
	everywhere(t, func(g *ground) {
		g.Roots[0] = g.thing(api.KWeak, g.leaf(2), g.leaf(3))
		kept := g.leaf(7)
		g.Roots[1] = g.thing(api.KWeak, kept, number(8))
		g.Roots[2] = kept
		g.Roots[3] = g.thing(api.KWeak, number(9), word.Nil())
		g.Roots[4] = g.thing(api.KWeak, word.Nil(), word.Gone())
		both := g.leaf(5)
		g.Roots[5] = g.thing(api.KWeak, both, both)
		g.thing(api.KWeak, kept, g.leaf(6))
		g.cut(3 + 2 + 3 + 2 + 3 + 3 + 3 + 2)
		g.wantFields(g.Roots[0], word.Gone(), g.field(g.Roots[0], 1))
		g.wantLeaf(g.field(g.Roots[0], 1), 3)
		g.wantFields(g.Roots[1], g.Roots[2], number(8))
		g.wantLeaf(g.Roots[2], 7)
		g.wantFields(g.Roots[3], number(9), word.Nil())
		g.wantFields(g.Roots[4], word.Nil(), word.Gone())
		g.wantFields(g.Roots[5], g.field(g.Roots[5], 1), g.field(g.Roots[5], 1))
		g.wantLeaf(g.field(g.Roots[5], 0), 5)
	})
}

// P7.1: a weak pair of one space that leads to the other one, each way, to what is alive and to what is not.
func TestWeakAcross(t *testing.T) {
	g := newGround(t, 64, 64)
	lost, kept, second := g.old(api.KVector, number(1)), g.old(api.KVector, number(2)), g.old(api.KVector, number(3))
	a, b := g.old(api.KWeak, number(0), number(0)), g.old(api.KWeak, number(0), number(0))
	g.link(a, g.leaf(4), g.leaf(5))
	alive := g.leaf(6)
	g.link(b, alive, number(0))
	g.Roots[0], g.Roots[1] = a, b
	g.Roots[2], g.Roots[3] = g.young(api.KWeak, lost, second), g.young(api.KWeak, kept, number(0))
	g.Roots[4], g.Roots[5] = alive, kept
	g.cut(4*3 + 4*2)
	g.wantFields(g.Roots[0], word.Gone(), g.field(g.Roots[0], 1))
	g.wantLeaf(g.field(g.Roots[0], 1), 5)
	g.wantFields(g.Roots[1], g.Roots[4], number(0))
	g.wantFields(g.Roots[2], word.Gone(), g.field(g.Roots[2], 1))
	g.wantLeaf(g.field(g.Roots[2], 1), 3)
	g.wantFields(g.Roots[3], g.Roots[5], number(0))
	g.wantLeaf(g.Roots[4], 6)
	g.wantLeaf(g.Roots[5], 2)
}

// P7.1: a first field leads on to what is alive by the pair's own second field, or comes alive late, by a value or a guardian.
func TestWeakToWhatComesLater(t *testing.T) {
	everywhere(t, func(g *ground) {
		x := g.leaf(1)
		g.Roots[0] = g.thing(api.KWeak, x, g.thing(api.KPair, x, number(0)))
		y := g.leaf(2)
		g.Roots[1] = g.thing(api.KWeak, y, number(0))
		z := g.leaf(3)
		g.Roots[2] = g.thing(api.KWeak, z, number(0))
		u := g.leaf(4)
		g.Roots[3] = g.thing(api.KWeak, u, number(0))
		guard := g.thing(api.KGuard)
		g.reg(guard, z)
		g.wait(guard, g.thing(api.KPair, u, number(0)))
		g.Roots[10] = g.thing(api.KEphem, number(0), g.thing(api.KPair, y, number(0)))
		g.Roots[11] = guard
		g.cut(4*3 + 4*2 + 3 + 1 + 3 + 3 + 3)
		for i := range int64(4) {
			g.wantLeaf(g.field(g.Roots[i], 0), i+1)
		}
		if a, b := g.field(g.Roots[0], 0), g.field(g.field(g.Roots[0], 1), 0); a != b {
			g.t.Errorf("the weak pair leads to %d, the other one to %d", a, b)
		}
		if a, b := g.field(g.Roots[1], 0), g.field(g.field(g.Roots[10], 1), 0); a != b {
			g.t.Errorf("the weak pair leads to %d, the other one to %d", a, b)
		}
		if l := g.Side.At(g.Roots[11]); len(l) != 2 || g.field(g.Roots[2], 0) != l[1] || g.field(g.Roots[3], 0) != g.field(l[0], 0) {
			g.t.Errorf("%v waits", l)
		}
	})
}

// P7.1: a weak pair that is not alive keeps nothing, and a ring of weak pairs by first fields falls apart; one by second fields does not.
func TestWeakRing(t *testing.T) {
	everywhere(t, func(g *ground) {
		for second := range 2 {
			var l []int64
			for i := range int64(3) {
				l = append(l, g.thing(api.KWeak, number(i), number(i)))
			}
			for i, x := range l {
				g.Set(x, second, l[(i+1)%3])
			}
			g.Roots[second] = l[1]
		}
		g.thing(api.KWeak, number(1), g.leaf(1))
		g.cut(3 + 9)
		g.wantFields(g.Roots[0], word.Gone(), number(1))
		x := g.Roots[1]
		for i := range int64(3) {
			g.wantFields(x, number((i+1)%3), g.field(x, 1))
			x = g.field(x, 1)
		}
		if x != g.Roots[1] {
			g.t.Errorf("the ring leads from %d to %d", g.Roots[1], x)
		}
		g.cut(3 + 9)
		g.wantFields(g.Roots[0], word.Gone(), number(1))
	})
}

// P7.1: what a weak pair of the old space leads to is lost by a later great cut, not by a small one.
func TestWeakBehindCuts(t *testing.T) {
	g := newGround(t, 32, 64)
	g.Roots[0] = g.leaf(1)
	g.Roots[1] = g.young(api.KWeak, g.Roots[0], number(5))
	g.cut(5)
	g.Roots[0] = word.Nil()
	g.small()
	g.wantLeaf(g.field(g.Roots[1], 0), 1)
	g.cut(3)
	g.wantFields(g.Roots[1], word.Gone(), number(5))
}

// P7.1: chains as long as both spaces have room for, from their end on and from their beginning on.
func TestLongChain(t *testing.T) {
	const n = api.MaxNursery / 3
	for _, forth := range []bool{true, false} {
		g := newGround(t, api.MaxNursery, api.MaxOld)
		for round := range int64(4) {
			var l []int64
			for i := range int64(n) {
				l = append(l, g.young(api.KPair, number(round*n+i), word.Nil()))
			}
			for i := range n - 1 {
				if forth {
					g.Set(l[i], 1, l[i+1])
				} else {
					g.Set(l[i+1], 1, l[i])
				}
			}
			first, last := l[0], l[n-1]
			if !forth {
				first, last = last, first
			}
			g.Set(last, 1, g.Roots[0])
			g.Roots[0] = first
			g.cut(int(round+1) * n * 3)
		}
		l := g.along(g.Roots[0], 1)
		if len(l) != 4*n {
			t.Fatalf("the chain has %d things", len(l))
		}
		for i, x := range l {
			round, k := int64(3-i/n), int64(i%n)
			if !forth {
				k = n - 1 - k
			}
			if y := g.field(x, 0); y != number(round*n+k) {
				t.Fatalf("the number %d stands in place of %d", y/4, round*n+k)
			}
		}
		g.Roots[0] = l[100]
		g.cut((4*n - 100) * 3)
		g.Roots[0] = word.Nil()
		g.cut(0)
	}
}

// P7.1: a great cut behind a great cut finds all as it is, to the word.
func TestGreatBehindGreat(t *testing.T) {
	everywhere(t, func(g *ground) {
		guard, k := g.thing(api.KGuard), g.leaf(1)
		g.Roots[0], g.Roots[1] = guard, g.ring(4)
		g.Roots[2], g.Roots[3] = g.thing(api.KWeak, g.leaf(2), g.leaf(3)), g.thing(api.KWeak, k, k)
		g.Roots[4], g.Roots[5] = g.thing(api.KEphem, k, g.leaf(4)), g.thing(api.KEphem, g.leaf(5), g.leaf(6))
		g.reg(guard, k)
		g.reg(guard, g.leaf(7))
		g.wait(guard, g.leaf(8))
		alive := 1 + 12 + 3 + 2 + 3 + 2 + 3 + 2 + 3 + 2 + 2
		g.cut(alive)
		ahead := stateOf(g.Wood)
		g.cut(alive)
		if behind := stateOf(g.Wood); !ahead.equal(behind) {
			g.t.Errorf("the second cut changed %v to %v", ahead, behind)
		}
	})
}

// P7.1: small cuts and great ones, by turns: a small one leaves what is old, a great one does not.
func TestSmallAndGreat(t *testing.T) {
	g := newGround(t, 32, 128)
	g.Roots[0] = g.young(api.KPair, g.leaf(0), word.Nil())
	g.small()
	for i := range int64(8) {
		g.leaf(100)
		l := g.along(g.Roots[0], 1)
		g.Set(l[len(l)-1], 1, g.young(api.KPair, g.leaf(i+1), word.Nil()))
		if i == 4 {
			g.Roots[0] = l[2]
		}
		if i%3 < 2 {
			g.small()
		} else {
			things := i + 2
			if i > 4 {
				things -= 2
			}
			g.cut(int(things) * 5)
		}
	}
	l := g.along(g.Roots[0], 1)
	if len(l) != 7 {
		t.Errorf("the list has %d things", len(l))
	}
	for i, x := range l {
		g.wantLeaf(g.field(x, 0), int64(i+2))
	}
}

// P7.1: what came is old then: Set marks its card, and a small cut finds by that what it leads to.
func TestWhatCameIsOld(t *testing.T) {
	g := newGround(t, 32, 64)
	g.old(api.KVector, make([]int64, 9)...)
	g.Roots[0] = g.young(api.KPair, number(0), number(0))
	g.Roots[1] = g.old(api.KPair, number(0), number(0))
	g.cut(6)
	g.link(g.Roots[0], g.leaf(2))
	g.link(g.Roots[1], g.leaf(3))
	if g.Cards.Count() == 0 {
		t.Error("no card is marked")
	}
	g.small()
	g.wantLeaf(g.field(g.Roots[0], 0), 2)
	g.wantLeaf(g.field(g.Roots[1], 0), 3)
	g.cut(10)
}

// P7.1: cards are marked ahead, behind the cut none is, and what their things lead to came.
func TestMarkedCards(t *testing.T) {
	g := newGround(t, 128, 256)
	for i := range 12 {
		g.old(api.KVector, make([]int64, i)...)
		g.Roots[i] = g.old(api.KPair, number(0), number(0))
	}
	for i := range 12 {
		g.link(g.Roots[i], number(0), g.leaf(int64(i)))
	}
	g.cut(12 * 5)
	for i := range 12 {
		g.wantLeaf(g.field(g.Roots[i], 1), int64(i))
	}
}

// P1: words that lead to no thing stay as they are, wherever they stand, and keep nothing.
func TestWordsThatLeadNowhere(t *testing.T) {
	nowhere := []int64{number(7), word.Nil(), word.Gone(), 6, 7, -1, -3, 1 << 62, -1 << 63,
		word.Ref(1), word.Ref(40), word.Ref(65), word.Ref(127), word.Ref(128), word.Ref(1 << 40)}
	for _, x := range nowhere {
		g := newGround(t, 64, 64)
		g.Roots[4] = g.old(api.KPair, x, number(1)) // within it is the place 65
		g.young(api.KPair, number(1), number(2))    // within it is the place 1
		g.Roots[0] = g.young(api.KPair, x, x)
		g.Roots[1] = g.young(api.KWeak, x, x)
		g.Roots[2] = g.young(api.KEphem, x, x)
		g.Roots[3] = x
		if code := major.Cut(g.Wood); code != 0 {
			t.Fatalf("Cut has the code %d", code)
		}
		if y, o := g.Used(); y != 0 || o != 12 {
			t.Errorf("of %d: %d, %d words are in use", x, y, o)
		}
		for _, y := range g.Roots[:3] {
			g.wantFields(y, x, x)
		}
		g.wantFields(g.Roots[4], x, number(1))
		if g.Roots[3] != x {
			t.Errorf("the root is %d, and was %d", g.Roots[3], x)
		}
	}
}

// P1: a thing whose first word tells one field more than there is has no words that could come; the cut ends.
func TestThingsCutOff(t *testing.T) {
	for _, isOld := range []bool{true, false} {
		g := newGround(t, 64, 32)
		g.isOld = func() bool { return isOld }
		guard := g.thing(api.KGuard)
		p := g.thing(api.KPair, number(1), number(2))
		x := g.thing(api.KVector, number(3), number(4))
		at, _ := word.At(x)
		head, _ := word.Head(api.KVector, 3)
		g.Store(at, head)
		g.Roots[0], g.Roots[1], g.Roots[2] = guard, x, p
		g.link(p, number(1), x)
		g.wait(guard, x)
		g.reg(guard, x)
		if code := major.Cut(g.Wood); code != 0 {
			t.Fatalf("Cut has the code %d", code)
		}
		if y, o := g.Used(); y != 0 || o != 3+1 {
			t.Errorf("%d, %d words are in use", y, o)
		}
		if kind, _, _ := g.Kind(g.Roots[0]); kind != api.KGuard {
			t.Errorf("the first root leads to the kind %d", kind)
		}
		g.wantFields(g.Roots[2], number(1), x)
	}
}

// What holds everywhere: what lies behind a list's length is not written, and a Side's Copy is another one.
func TestListsOfAWood(t *testing.T) {
	everywhere(t, func(g *ground) {
		g.thing(api.KVector, number(0), number(0))
		x, guard := g.leaf(1), g.thing(api.KGuard)
		g.Roots[0], g.Roots[1] = x, guard
		all := append(g.Roots, x, x)
		g.Roots = all[:api.MaxRoots]
		g.reg(guard, x)
		g.reg(guard, g.leaf(2))
		g.wait(guard, g.leaf(3))
		other := g.Side.Copy()
		shared := *g.Side
		g.cut(2 + 1 + 2 + 2)
		if all[12] != x || all[13] != x {
			g.t.Errorf("behind the roots stand %v", all[12:])
		}
		if !slices.Equal(shared.Regs, other.Regs) || !slices.Equal(shared.Wait, other.Wait) {
			g.t.Errorf("lists that were taken ahead are %v, and were %v", shared, other)
		}
	})
}
