package major_test

import (
	"slices"
	"testing"

	"underwood/api"
	"underwood/major"
	"underwood/side"
	"underwood/word"
)

// P7.1: what waits at a guardian that is alive is kept, with all that that keeps; what waits elsewhere is not.
func TestWaiting(t *testing.T) {
	everywhere(t, func(g *ground) {
		dead, guard := g.thing(api.KGuard), g.thing(api.KGuard)
		held := g.leaf(1)
		g.Roots[0], g.Roots[1] = guard, held
		g.wait(guard, g.leaf(2))
		g.wait(dead, g.leaf(3))
		g.wait(guard, held)
		g.wait(dead, held)
		g.wait(guard, g.thing(api.KPair, g.leaf(5), number(0)))
		g.cut(1 + 2 + 2 + 3 + 2)
		g.wantSide(0, 3)
		l := g.Side.At(g.Roots[0])
		if len(l) != 3 {
			g.t.Fatalf("%v waits", l)
		}
		g.wantLeaf(l[0], 2)
		if l[1] != g.Roots[1] {
			g.t.Errorf("%d waits, want %d", l[1], g.Roots[1])
		}
		g.wantLeaf(g.field(l[2], 0), 5)
	})
}

// P7.1: guardians come alive one by the other, by what waits there, in whatever order the entries are.
func TestWaitingGuardians(t *testing.T) {
	for _, forth := range []bool{true, false} {
		everywhere(t, func(g *ground) {
			var guards []int64
			for range 8 {
				g.leaf(0)
				guards = append(guards, g.thing(api.KGuard))
			}
			g.Roots[0] = guards[0]
			for i := range guards[1:] {
				if !forth {
					i = len(guards) - 2 - i
				}
				g.wait(guards[i], guards[i+1])
			}
			g.wait(guards[7], g.leaf(7))
			g.cut(8 + 2)
			g.wantSide(0, 8)
			guard := g.Roots[0]
			for range 7 {
				l := g.Side.At(guard)
				if len(l) != 1 {
					g.t.Fatalf("%v waits", l)
				}
				guard = l[0]
			}
			g.wantWait(guard, 7)
			g.Roots[0] = word.Nil()
			g.cut(0)
			g.wantSide(0, 0)
		})
	}
}

// P7.1: a guardian that is alive by a field, a value, or a second field alone keeps what waits; rings of them do not.
func TestGuardianThatIsKept(t *testing.T) {
	everywhere(t, func(g *ground) {
		var l []int64
		for i := range int64(6) {
			l = append(l, g.thing(api.KGuard))
			g.wait(l[i], g.leaf(i))
		}
		g.Roots[0] = g.thing(api.KPair, l[0], number(0))
		g.Roots[1] = g.thing(api.KEphem, g.Roots[0], l[1])
		g.Roots[2] = g.thing(api.KWeak, l[5], l[2])
		g.wait(l[3], l[4])
		g.wait(l[4], l[3])
		g.cut(3 + 3 + 3 + 3*3)
		g.wantSide(0, 3)
		g.wantWait(g.field(g.Roots[0], 0), 0)
		g.wantWait(g.field(g.Roots[1], 1), 1)
		g.wantWait(g.field(g.Roots[2], 1), 2)
		if x := g.field(g.Roots[2], 0); x != word.Gone() {
			g.t.Errorf("the first field is %d", x)
		}
	})
}

// P7.1: what is registered and alive stays so, by the words as they are then; what is not comes to wait.
func TestRegistered(t *testing.T) {
	everywhere(t, func(g *ground) {
		g.thing(api.KVector, number(0), number(0))
		a, b := g.thing(api.KGuard), g.thing(api.KGuard)
		x, y := g.leaf(1), g.leaf(2)
		g.Roots[0], g.Roots[1], g.Roots[2], g.Roots[3] = a, b, x, y
		g.reg(a, x)
		g.reg(b, y)
		g.reg(a, g.leaf(3))
		g.reg(b, x)
		g.reg(b, g.leaf(4))
		g.reg(a, y)
		g.cut(1 + 1 + 2 + 2 + 2 + 2)
		a, b, x, y = g.Roots[0], g.Roots[1], g.Roots[2], g.Roots[3]
		g.wantLeaf(x, 1)
		g.wantLeaf(y, 2)
		want := []side.Entry{{Guard: a, Thing: x}, {Guard: b, Thing: y}, {Guard: b, Thing: x}, {Guard: a, Thing: y}}
		if !slices.Equal(g.Side.Regs, want) {
			g.t.Errorf("registered is %v, want %v", g.Side.Regs, want)
		}
		g.wantSide(4, 2)
		g.wantWait(a, 3)
		g.wantWait(b, 4)
	})
}

// P7.1: what is registered keeps nothing alive, neither as thing nor as guardian, of the old space, too.
func TestRegisteredKeepsNothing(t *testing.T) {
	everywhere(t, func(g *ground) {
		dead := g.thing(api.KGuard)
		kept := g.leaf(1)
		g.Roots[0] = kept
		g.reg(dead, kept)
		g.reg(dead, g.leaf(2))
		g.reg(dead, dead)
		g.wait(dead, g.leaf(3))
		g.cut(2)
		g.wantSide(0, 0)
		g.wantLeaf(g.Roots[0], 1)
	})
}

// The document's example: a thing that was registered twice and is lost is told twice, then nothing; likewise with several.
func TestRegisteredSeveralTimes(t *testing.T) {
	everywhere(t, func(g *ground) {
		dead, a, b := g.thing(api.KGuard), g.thing(api.KGuard), g.thing(api.KGuard)
		g.Roots[0], g.Roots[1] = a, b
		x, y := g.leaf(1), g.leaf(2)
		g.wait(a, y)
		g.reg(a, x)
		g.reg(b, x)
		g.reg(dead, x)
		g.reg(a, x)
		g.reg(a, y)
		g.cut(2 + 2 + 2)
		g.wantSide(1, 4) // the one that waits is alive by that, and is registered on
		a, b = g.Roots[0], g.Roots[1]
		g.wantWait(a, 2, 1, 1)
		g.wantWait(b, 1)
		if l := g.Side.At(a); l[1] != l[2] || l[1] != g.Side.At(b)[0] || g.Side.Regs[0].Thing != l[0] {
			g.t.Errorf("one thing waits as %v and %v; registered is %v", l, g.Side.At(b), g.Side.Regs)
		}
		for range 3 {
			g.Side.Pop(a)
		}
		if x, ok := g.Side.Pop(a); ok {
			g.t.Errorf("the guardian tells %d besides", x)
		}
		g.cut(2 + 2 + 2) // the one that was registered on is lost by now, and comes to wait
		g.wantSide(0, 2)
		g.wantWait(g.Roots[0], 2)
		g.wantWait(g.Roots[1], 1)
	})
}

// P7.1: what Settle keeps keeps alive what it leads to; of things that lead to each other each one waits.
func TestWhatIsKeptKeeps(t *testing.T) {
	everywhere(t, func(g *ground) {
		guard := g.thing(api.KGuard)
		g.Roots[0] = guard
		inner := g.leaf(1)
		outer := g.thing(api.KPair, inner, number(0))
		g.link(outer, inner, outer)
		g.reg(guard, outer)
		g.reg(guard, inner)
		g.cut(1 + 2 + 3)
		g.wantSide(0, 2)
		l := g.Side.At(g.Roots[0])
		if len(l) != 2 {
			g.t.Fatalf("%v waits", l)
		}
		g.wantFields(l[0], l[1], l[0])
		g.wantLeaf(l[1], 1)
	})
}

// P7.1: guardians that are alive by what is kept alone: what is registered with them and dead comes, too, and what waits there is kept.
func TestGuardiansAliveByWhatIsKept(t *testing.T) {
	for _, forth := range []bool{true, false} {
		everywhere(t, func(g *ground) {
			var guards []int64
			for range 5 {
				guards = append(guards, g.thing(api.KGuard))
			}
			g.Roots[0] = guards[0]
			var entries []side.Entry
			for i := range guards[1:] {
				to := g.thing(api.KPair, guards[i+1], number(int64(i)))
				entries = append(entries, side.Entry{Guard: guards[i], Thing: to})
				g.wait(guards[i+1], g.leaf(int64(i)))
			}
			if !forth {
				slices.Reverse(entries)
			}
			for _, e := range entries {
				g.reg(e.Guard, e.Thing)
			}
			g.cut(5 + 4*3 + 4*2)
			g.wantSide(0, 8)
			x := g.Roots[0]
			for i := range int64(4) {
				l := g.Side.At(x)
				if len(l) != int(min(i, 1))+1 {
					g.t.Fatalf("%v waits", l)
				}
				if i > 0 {
					g.wantLeaf(l[0], i-1)
				}
				next := l[len(l)-1]
				g.wantFields(next, g.field(next, 0), number(i))
				x = g.field(next, 0)
			}
			g.wantWait(x, 3)
		})
	}
}

// P7.1: what is registered and alive stays registered with a guardian that comes alive by what is kept alone.
func TestRegisteredWithALateGuardian(t *testing.T) {
	everywhere(t, func(g *ground) {
		late, guard := g.thing(api.KGuard), g.thing(api.KGuard)
		held := g.leaf(1)
		g.Roots[0], g.Roots[1] = guard, held
		g.reg(late, held)
		g.reg(guard, late)
		g.cut(1 + 1 + 2)
		l := g.Side.At(g.Roots[0])
		if len(l) != 1 {
			g.t.Fatalf("%v waits", l)
		}
		if want := []side.Entry{{Guard: l[0], Thing: g.Roots[1]}}; !slices.Equal(g.Side.Regs, want) {
			g.t.Errorf("registered is %v, want %v", g.Side.Regs, want)
		}
	})
}

// P4.2, P7.1: an entry whose guardian comes alive by the entry ahead comes in the same turn, ahead of one behind it.
func TestOrderOfWhatComes(t *testing.T) {
	everywhere(t, func(g *ground) {
		guard, late, other := g.thing(api.KGuard), g.thing(api.KGuard), g.thing(api.KGuard)
		g.Roots[0] = guard
		// by a pair, an ephemeron and a thing that waits at another guardian: all is alive at once
		g.wait(other, g.thing(api.KEphem, number(0), late))
		g.reg(late, g.leaf(3))
		g.reg(guard, g.thing(api.KPair, other, number(0)))
		g.reg(late, g.leaf(1))
		g.reg(guard, g.leaf(2))
		g.cut(3 + 3*2 + 3 + 3)
		var got []int64
		for _, e := range g.Side.Wait {
			if kind, _, _ := g.Kind(e.Thing); kind == api.KVector {
				got = append(got, g.field(e.Thing, 0)/4)
			} else {
				got = append(got, int64(-kind))
			}
		}
		if want := []int64{-api.KEphem, -api.KPair, 1, 2, 3}; !slices.Equal(got, want) {
			g.t.Errorf("%v waits in this order, want %v", got, want)
		}
		g.wantSide(0, 5)
	})
}

// P7.1: a dead thing that leads to its own guardian, to which nothing else leads, is not kept.
func TestThingKeepsNotItsGuardian(t *testing.T) {
	everywhere(t, func(g *ground) {
		a, b := g.thing(api.KGuard), g.thing(api.KGuard)
		g.reg(a, g.thing(api.KPair, a, g.leaf(1)))
		g.Roots[0] = g.thing(api.KWeak, b, number(0))
		g.reg(b, b)
		g.cut(3)
		g.wantSide(0, 0)
		g.wantFields(g.Roots[0], word.Gone(), number(0))
	})
}

// P7.1: a guardian may be registered with itself, and with another one.
func TestGuardianIsRegistered(t *testing.T) {
	everywhere(t, func(g *ground) {
		g.leaf(0)
		a, b := g.thing(api.KGuard), g.thing(api.KGuard)
		g.Roots[0] = a
		g.reg(a, a)
		g.reg(b, g.leaf(1))
		g.reg(a, b)
		g.cut(1 + 2 + 1)
		g.wantSide(1, 2)
		if e := g.Side.Regs[0]; e.Guard != g.Roots[0] || e.Thing != g.Roots[0] {
			g.t.Errorf("the entry is %v, the root %d", e, g.Roots[0])
		}
		l := g.Side.At(g.Roots[0])
		if len(l) != 1 {
			g.t.Fatalf("%v waits", l)
		}
		g.wantWait(l[0], 1)
	})
}

// P7.1: an old thing that is registered and to which nothing leads comes to wait by a great cut, not by a small one.
func TestOldThingComesToWait(t *testing.T) {
	g := newGround(t, 64, 64)
	g.Roots[0] = g.young(api.KGuard)
	g.reg(g.Roots[0], g.leaf(1))
	g.Roots[1] = g.Side.Regs[0].Thing
	g.small()
	g.Roots[1] = word.Nil()
	g.small()
	g.wantSide(1, 0)
	g.cut(3)
	g.wantSide(0, 1)
	g.wantWait(g.Roots[0], 1)
	g.cut(3)
	g.small()
	g.wantWait(g.Roots[0], 1)
	g.Side.Pop(g.Roots[0])
	g.small()
	g.cut(1)
}

// P7.1: cuts one behind the other, with a full Side.
func TestFullSide(t *testing.T) {
	everywhere(t, func(g *ground) {
		g.thing(api.KVector, number(0))
		g.Roots[0] = g.thing(api.KGuard)
		for i := range int64(api.MaxRegs) {
			g.reg(g.Roots[0], g.leaf(i))
		}
		g.cut(1 + 2*api.MaxRegs)
		g.wantSide(0, api.MaxRegs)
		for i := range int64(api.MaxRegs) {
			x, ok := g.Side.Pop(g.Roots[0])
			if !ok {
				g.t.Fatal("nothing waits")
			}
			g.wantLeaf(x, i)
			g.Roots[1] = g.thing(api.KPair, x, g.Roots[1])
			g.reg(g.Roots[0], x)
			g.cut(1 + 2*api.MaxRegs + 3*int(i+1))
		}
		g.wantSide(api.MaxRegs, 0)
	})
}

// P1: entries of words that lead to no thing: the cut ends, they stay as they are, and keep nothing.
func TestSideThatLeadsNowhere(t *testing.T) {
	for _, x := range []int64{number(7), word.Nil(), word.Gone(), 6, -1, -3, word.Ref(1), word.Ref(40), word.Ref(65), word.Ref(127), word.Ref(1 << 40)} {
		g := newGround(t, 64, 64)
		g.young(api.KPair, number(1), number(2))
		g.Roots[1] = g.old(api.KPair, number(1), number(2))
		guard := g.young(api.KGuard)
		g.Roots[0] = guard
		g.reg(guard, x)
		g.wait(guard, x)
		g.reg(x, x)
		g.wait(x, x)
		if code := major.Cut(g.Wood); code != 0 {
			t.Errorf("of %d: Cut has the code %d", x, code)
		}
		if y, o := g.Used(); y != 0 || o != 4 {
			t.Errorf("of %d: %d, %d words are in use", x, y, o)
		}
		want := []side.Entry{{Guard: g.Roots[0], Thing: x}, {Guard: x, Thing: x}}
		if !slices.Equal(g.Side.Regs, want) || !slices.Equal(g.Side.Wait, want) {
			t.Errorf("of %d: registered is %v, and %v waits", x, g.Side.Regs, g.Side.Wait)
		}
	}
}
