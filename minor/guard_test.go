package minor_test

import (
	"testing"

	"underwood/api"
	"underwood/side"
	"underwood/word"
)

// P6.1: what waits at a guardian that is alive is kept, with all that that keeps; young and old guardians, young and old things.
func TestWaiting(t *testing.T) {
	w := newWood(t, 64, 64)
	og := old(t, w, api.KGuard)
	stays := old(t, w, api.KVector, number(1))
	g, dead := young(t, w, api.KGuard), young(t, w, api.KGuard)
	w.Roots[0] = g
	wait(w, g, leaf(t, w, 2))
	wait(w, dead, leaf(t, w, 3))
	wait(w, og, leaf(t, w, 4))
	wait(w, g, stays)
	wait(w, dead, stays)
	wait(w, og, stays)
	wait(w, g, young(t, w, api.KPair, leaf(t, w, 5), number(0)))
	cut(t, w, 1+2+2+3+2)
	wantSide(t, w, 0, 5)
	wantWait(t, w, og, 4, 1)
	l := w.Side.At(w.Roots[0])
	if len(l) != 3 {
		t.Fatalf("%v waits", l)
	}
	wantLeaf(t, w, l[0], 2)
	if l[1] != stays {
		t.Errorf("%d waits, want %d", l[1], stays)
	}
	wantLeaf(t, w, field(t, w, l[2], 0), 5)
}

// P6.1: guardians come alive one by the other, by what waits there, in whatever order the entries are.
func TestWaitingGuardians(t *testing.T) {
	for _, forth := range []bool{true, false} {
		w := newWood(t, 64, 64)
		var guards []int64
		for range 8 {
			guards = append(guards, young(t, w, api.KGuard))
		}
		w.Roots[0] = guards[0]
		for i := range guards[1:] {
			if !forth {
				i = len(guards) - 2 - i
			}
			wait(w, guards[i], guards[i+1])
		}
		wait(w, guards[7], leaf(t, w, 7))
		cut(t, w, 8+2)
		wantSide(t, w, 0, 8)
		g := w.Roots[0]
		for range 7 {
			l := w.Side.At(g)
			if len(l) != 1 {
				t.Fatalf("%v waits", l)
			}
			g = l[0]
		}
		wantWait(t, w, g, 7)
	}
}

// P6.1: a guardian that is alive by a field, a value, or a second field alone keeps what waits; rings of them do not.
func TestGuardianThatIsKept(t *testing.T) {
	w := newWood(t, 64, 64)
	o := old(t, w, api.KPair, number(0), number(0))
	var g []int64
	for i := range int64(6) {
		g = append(g, young(t, w, api.KGuard))
		wait(w, g[i], leaf(t, w, i))
	}
	link(t, w, o, g[0])
	w.Roots[0] = young(t, w, api.KEphem, o, g[1])
	w.Roots[1] = young(t, w, api.KWeak, g[5], g[2])
	wait(w, g[3], g[4])
	wait(w, g[4], g[3])
	cut(t, w, 3+3+3+3+3)
	wantSide(t, w, 0, 3)
	wantWait(t, w, field(t, w, o, 0), 0)
	wantWait(t, w, field(t, w, w.Roots[0], 1), 1)
	wantWait(t, w, field(t, w, w.Roots[1], 1), 2)
	if x := field(t, w, w.Roots[1], 0); x != word.Gone() {
		t.Errorf("the first field is %d", x)
	}
}

// P6.1: what is registered and alive stays so, by the words as they are then; what is not comes to wait.
func TestRegistered(t *testing.T) {
	w := newWood(t, 64, 64)
	og := old(t, w, api.KGuard)
	stays := old(t, w, api.KVector, number(1))
	g := young(t, w, api.KGuard)
	kept := leaf(t, w, 2)
	w.Roots[0], w.Roots[1] = g, kept
	reg(t, w, g, kept)
	reg(t, w, og, stays)
	reg(t, w, g, leaf(t, w, 3))
	reg(t, w, og, kept)
	reg(t, w, og, leaf(t, w, 4))
	reg(t, w, g, stays)
	cut(t, w, 1+2+2+2)
	g, kept = w.Roots[0], w.Roots[1]
	want := []side.Entry{{Guard: g, Thing: kept}, {Guard: og, Thing: stays}, {Guard: og, Thing: kept}, {Guard: g, Thing: stays}}
	wantSide(t, w, len(want), 2)
	for i, e := range want {
		if w.Side.Regs[i] != e {
			t.Errorf("the entry %d is %v, want %v", i, w.Side.Regs[i], e)
		}
	}
	wantLeaf(t, w, kept, 2)
	wantWait(t, w, g, 3)
	wantWait(t, w, og, 4)
}

// P6.1: what is registered keeps nothing alive, neither as thing nor as guardian.
func TestRegisteredKeepsNothing(t *testing.T) {
	w := newWood(t, 64, 64)
	kept := leaf(t, w, 1)
	w.Roots[0] = kept
	dead := young(t, w, api.KGuard)
	reg(t, w, dead, kept)
	reg(t, w, dead, leaf(t, w, 2))
	reg(t, w, dead, dead)
	cut(t, w, 2)
	wantSide(t, w, 0, 0)
	wantLeaf(t, w, w.Roots[0], 1)
}

// The document's example: a thing that was registered twice and is lost is told twice, then nothing; likewise with several.
func TestRegisteredSeveralTimes(t *testing.T) {
	w := newWood(t, 64, 64)
	g, h, dead := young(t, w, api.KGuard), young(t, w, api.KGuard), young(t, w, api.KGuard)
	w.Roots[0], w.Roots[1] = g, h
	x, y := leaf(t, w, 1), leaf(t, w, 2)
	wait(w, g, y)
	reg(t, w, g, x)
	reg(t, w, h, x)
	reg(t, w, dead, x)
	reg(t, w, g, x)
	reg(t, w, g, y)
	cut(t, w, 2+2+2)
	wantSide(t, w, 1, 4) // the one that waits is alive by that, and is registered on
	g, h = w.Roots[0], w.Roots[1]
	wantWait(t, w, g, 2, 1, 1)
	wantWait(t, w, h, 1)
	if l := w.Side.At(g); l[1] != l[2] || l[1] != w.Side.At(h)[0] {
		t.Errorf("one thing waits as %v and %v", l, w.Side.At(h))
	}
	for range 3 {
		w.Side.Pop(g)
	}
	if x, ok := w.Side.Pop(g); ok {
		t.Errorf("the guardian tells %d besides", x)
	}
	cut(t, w, 0)
	wantSide(t, w, 1, 1)
}

// P6.1: what Settle keeps keeps alive what it leads to; of things that lead to each other each one waits.
func TestWhatIsKeptKeeps(t *testing.T) {
	w := newWood(t, 64, 64)
	g := young(t, w, api.KGuard)
	w.Roots[0] = g
	inner := leaf(t, w, 1)
	outer := young(t, w, api.KPair, inner, number(0))
	link(t, w, outer, inner, outer)
	reg(t, w, g, outer)
	reg(t, w, g, inner)
	cut(t, w, 1+2+3)
	wantSide(t, w, 0, 2)
	l := w.Side.At(w.Roots[0])
	if len(l) != 2 {
		t.Fatalf("%v waits", l)
	}
	wantFields(t, w, l[0], l[1], l[0])
	wantLeaf(t, w, l[1], 1)
}

// P6.1: guardians that are alive by what is kept alone: what is registered with them and dead comes, too, and what waits there is kept.
func TestGuardiansAliveByWhatIsKept(t *testing.T) {
	for _, forth := range []bool{true, false} {
		w := newWood(t, 128, 128)
		var g []int64
		for range 5 {
			g = append(g, young(t, w, api.KGuard))
		}
		w.Roots[0] = g[0]
		var entries []side.Entry
		for i := range g[1:] {
			link := young(t, w, api.KPair, g[i+1], number(int64(i)))
			entries = append(entries, side.Entry{Guard: g[i], Thing: link})
			wait(w, g[i+1], leaf(t, w, int64(i)))
		}
		for i := range entries {
			if !forth {
				i = len(entries) - 1 - i
			}
			reg(t, w, entries[i].Guard, entries[i].Thing)
		}
		cut(t, w, 5+4*3+4*2)
		wantSide(t, w, 0, 8)
		x := w.Roots[0]
		for i := range int64(4) {
			l := w.Side.At(x)
			if i > 0 {
				wantLeaf(t, w, l[0], i-1)
				l = l[1:]
			}
			if len(l) != 1 {
				t.Fatalf("%v waits", l)
			}
			wantFields(t, w, l[0], field(t, w, l[0], 0), number(i))
			x = field(t, w, l[0], 0)
		}
		wantWait(t, w, x, 3)
	}
}

// P4.2, P6.1: an entry whose guardian comes alive by the entry ahead comes in the same turn, ahead of one behind it.
func TestOrderOfWhatComes(t *testing.T) {
	w := newWood(t, 64, 64)
	g, late := young(t, w, api.KGuard), young(t, w, api.KGuard)
	w.Roots[0] = g
	a, b := leaf(t, w, 1), leaf(t, w, 2)
	// by a pair, an ephemeron and a thing that waits at another guardian: all is alive at once
	other := young(t, w, api.KGuard)
	wait(w, other, young(t, w, api.KEphem, number(0), late))
	reg(t, w, late, leaf(t, w, 3))
	reg(t, w, g, young(t, w, api.KPair, other, number(0)))
	reg(t, w, late, a)
	reg(t, w, g, b)
	cut(t, w, 1+1+2+2+1+3+2+3)
	wantSide(t, w, 0, 5)
	var got []int64
	for _, e := range w.Side.Wait {
		if kind, _, _ := w.Kind(e.Thing); kind == api.KVector {
			got = append(got, field(t, w, e.Thing, 0)/4)
		} else {
			got = append(got, int64(-kind))
		}
	}
	want := []int64{-api.KEphem, -api.KPair, 1, 2, 3}
	for i, n := range want {
		if got[i] != n {
			t.Fatalf("%v waits in this order, want %v", got, want)
		}
	}
}

// P6.1: a dead thing that leads to its own guardian, to which nothing else leads, is not kept.
func TestThingKeepsNotItsGuardian(t *testing.T) {
	w := newWood(t, 64, 64)
	g := young(t, w, api.KGuard)
	reg(t, w, g, young(t, w, api.KPair, g, leaf(t, w, 1)))
	h := young(t, w, api.KGuard)
	w.Roots[0] = young(t, w, api.KWeak, h, number(0))
	reg(t, w, h, h)
	cut(t, w, 3)
	wantSide(t, w, 0, 0)
	wantFields(t, w, w.Roots[0], word.Gone(), number(0))
}

// P6.1: a guardian may be registered, and wait at itself.
func TestGuardianIsRegistered(t *testing.T) {
	w := newWood(t, 64, 64)
	g, h := young(t, w, api.KGuard), young(t, w, api.KGuard)
	w.Roots[0] = g
	reg(t, w, g, g)
	reg(t, w, h, leaf(t, w, 1))
	reg(t, w, g, h)
	cut(t, w, 1+2+1)
	wantSide(t, w, 1, 2)
	if e := w.Side.Regs[0]; e.Guard != w.Roots[0] || e.Thing != w.Roots[0] {
		t.Errorf("the entry is %v, the root %d", e, w.Roots[0])
	}
	l := w.Side.At(w.Roots[0])
	if len(l) != 1 {
		t.Fatalf("%v waits", l)
	}
	wantWait(t, w, l[0], 1)
}

// P6.1: a guardian of the old space is alive though no root leads to it.
func TestOldGuardianWithoutRoot(t *testing.T) {
	w := newWood(t, 64, 64)
	og := old(t, w, api.KGuard)
	reg(t, w, og, leaf(t, w, 1))
	wait(w, og, leaf(t, w, 2))
	cut(t, w, 4)
	wantSide(t, w, 0, 2)
	wantWait(t, w, og, 2, 1)
}

// P6.1: cuts one behind the other, with a full Side.
func TestFullSide(t *testing.T) {
	w := newWood(t, 64, 256)
	w.Roots[0] = young(t, w, api.KGuard)
	for i := range int64(api.MaxRegs) {
		reg(t, w, w.Roots[0], leaf(t, w, i))
	}
	cut(t, w, 1+2*api.MaxRegs)
	wantSide(t, w, 0, api.MaxRegs)
	for i := range int64(api.MaxRegs) {
		x, ok := w.Side.Pop(w.Roots[0])
		if !ok {
			t.Fatal("nothing waits")
		}
		wantLeaf(t, w, x, i)
		reg(t, w, w.Roots[0], x)
		cut(t, w, 0)
	}
	wantSide(t, w, api.MaxRegs, 0)
}

// P1: entries of words that lead to no thing: the cut ends, they stay as they are, and keep nothing.
func TestSideThatLeadsNowhere(t *testing.T) {
	for _, x := range []int64{number(7), word.Nil(), word.Gone(), 6, -1, -3, word.Ref(1), word.Ref(40), word.Ref(127), word.Ref(1 << 40)} {
		w := newWood(t, 64, 64)
		young(t, w, api.KPair, number(1), number(2))
		g := young(t, w, api.KGuard)
		w.Roots[0] = g
		reg(t, w, g, x)
		wait(w, g, x)
		reg(t, w, x, x)
		wait(w, x, x)
		cutAny(t, w)
		g = w.Roots[0]
		wantSide(t, w, 2, 2)
		for _, e := range [][2]side.Entry{{w.Side.Regs[0], w.Side.Wait[0]}, {w.Side.Regs[1], w.Side.Wait[1]}} {
			if e[0] != e[1] || e[0].Thing != x || e[0].Guard != g && e[0].Guard != x {
				t.Errorf("of %d: %v", x, e)
			}
		}
	}
}
