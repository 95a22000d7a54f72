package minor_test

import (
	"testing"

	"underwood/api"
	"underwood/minor"
	"underwood/wood"
	"underwood/word"
)

// P6.1: of a wood without things a cut leaves nothing.
func TestCutOfNothing(t *testing.T) {
	for _, room := range []int{0, 1, 16, api.MaxOld} {
		w := newWood(t, 16, room)
		cut(t, w, 0)
		cut(t, w, 0)
		for i, x := range w.Roots {
			if x != word.Nil() {
				t.Errorf("the root %d is %d", i, x)
			}
		}
	}
}

// crowded answers a wood of whose nursery and of whose old space so many words are in use, with something of all.
// Nothing of the nursery is alive, but a guardian and what waits at it.
func crowded(t *testing.T, room, usedYoung, usedOld int) *wood.Wood {
	t.Helper()
	w := newWood(t, 64, room)
	first := old(t, w, api.KPair, number(1), number(2))
	for n := 3; n < usedOld; n++ {
		old(t, w, api.KVector)
	}
	g := young(t, w, api.KGuard)
	lost, waits := leaf(t, w, 3), leaf(t, w, 4)
	young(t, w, api.KPair, lost, waits)
	link(t, w, first, g)
	reg(t, w, g, lost)
	wait(w, g, waits)
	w.Roots[0], w.Roots[5] = first, number(9)
	for n, _ := w.Used(); n < usedYoung; n++ {
		young(t, w, api.KVector)
	}
	if y, o := w.Used(); y != usedYoung || o != usedOld {
		t.Fatalf("%d, %d words are in use, want %d, %d", y, o, usedYoung, usedOld)
	}
	return w
}

// P6.1: ErrFull, and nothing changes, just where the nursery has more words in use than the old space has free ones.
func TestErrFull(t *testing.T) {
	for _, room := range []int{13, 20, 30} {
		for usedYoung := 8; usedYoung <= room-3+2; usedYoung++ {
			w := crowded(t, room, usedYoung, 3)
			if usedYoung <= room-3 {
				cut(t, w, 5)
				wantWait(t, w, field(t, w, w.Roots[0], 0), 4, 3)
				continue
			}
			wantFull(t, w)
		}
	}
}

// P6.1: the bound, as the old space grows full.
func TestErrFullByTheOldSpace(t *testing.T) {
	for usedOld := 3; usedOld <= 30; usedOld++ {
		w := crowded(t, 30, 10, usedOld)
		if usedOld <= 20 {
			cut(t, w, 5)
		} else {
			wantFull(t, w)
		}
	}
}

func wantFull(t *testing.T, w *wood.Wood) {
	t.Helper()
	for range 2 {
		ahead := stateOf(w)
		if code := minor.Cut(w); code != api.ErrFull {
			t.Errorf("Cut has the code %d, %d and %d words in use", code, ahead.usedYoung, ahead.usedOld)
		}
		if behind := stateOf(w); !ahead.equal(behind) {
			t.Errorf("a cut that is refused changed %v to %v", ahead, behind)
		}
	}
}

// P6.1: an old space without any words has room for an empty nursery alone.
func TestErrFullWithoutAnOldSpace(t *testing.T) {
	w := newWood(t, 16, 0)
	cut(t, w, 0)
	young(t, w, api.KGuard)
	wantFull(t, w)
	w.Clear()
	cut(t, w, 0)
}

// P6.1: all of a full nursery is alive, and has just room.
func TestAllIsAlive(t *testing.T) {
	w := newWood(t, 16, 16)
	x := word.Nil()
	for range 5 {
		x = young(t, w, api.KPair, number(1), x)
	}
	w.Roots[0] = young(t, w, api.KVector)
	w.Roots[1] = x
	cut(t, w, 16)
	if n := len(w.View().Nodes); n != 6 {
		t.Errorf("%d things are left", n)
	}
	cut(t, w, 0)
	young(t, w, api.KVector)
	wantFull(t, w)
}

// P6.1: each kind of thing comes as it is, and what nothing leads to does not.
func TestEachKind(t *testing.T) {
	w := newWood(t, 128, 128)
	young(t, w, api.KPair, number(1), number(2))
	w.Roots[0] = young(t, w, api.KPair, number(3), number(-4))
	young(t, w, api.KVector, number(1))
	w.Roots[1] = young(t, w, api.KVector)
	w.Roots[2] = young(t, w, api.KVector, 4, 8, 2, 3, 12, 16, 20, 24, 28, 32, 36, -40)
	young(t, w, api.KWeak, number(1), number(2))
	w.Roots[3] = young(t, w, api.KWeak, word.Gone(), number(5))
	young(t, w, api.KEphem, number(1), number(2))
	w.Roots[4] = young(t, w, api.KEphem, number(6), word.Nil())
	young(t, w, api.KGuard)
	w.Roots[5] = young(t, w, api.KGuard)
	w.Roots[6], w.Roots[7] = number(api.MaxInt-1), word.Gone()
	cut(t, w, 3+1+13+3+3+1)

	for i, kind := range []int{api.KPair, api.KVector, api.KVector, api.KWeak, api.KEphem, api.KGuard} {
		if k, _, code := w.Kind(w.Roots[i]); k != kind || code != 0 {
			t.Errorf("the root %d leads to the kind %d, %d", i, k, code)
		}
	}
	wantFields(t, w, w.Roots[0], number(3), number(-4))
	wantFields(t, w, w.Roots[1])
	wantFields(t, w, w.Roots[2], 4, 8, 2, 3, 12, 16, 20, 24, 28, 32, 36, -40)
	wantFields(t, w, w.Roots[3], word.Gone(), number(5))
	wantFields(t, w, w.Roots[4], number(6), word.Nil())
	for i, want := range []int64{number(api.MaxInt - 1), word.Gone(), word.Nil()} {
		if w.Roots[6+i] != want {
			t.Errorf("the root %d is %d, want %d", 6+i, w.Roots[6+i], want)
		}
	}
}

// P6.1: each root, and each field of a vector, keeps what it leads to.
func TestEachRootAndField(t *testing.T) {
	for i := range api.MaxRoots {
		w := newWood(t, 32, 32)
		leaf(t, w, 1)
		w.Roots[i] = leaf(t, w, 2)
		cut(t, w, 2)
		wantLeaf(t, w, w.Roots[i], 2)
	}
	for i := range api.MaxVector {
		w := newWood(t, 32, 32)
		x := leaf(t, w, 3)
		at := w.Make(api.KVector, api.MaxVector)
		w.Set(word.Ref(at), i, x)
		w.Roots[0] = word.Ref(at)
		cut(t, w, 13+2)
		wantLeaf(t, w, field(t, w, w.Roots[0], i), 3)
	}
	for i := range 2 {
		w := newWood(t, 32, 32)
		x := leaf(t, w, 4)
		w.Roots[0] = young(t, w, api.KPair, number(0), number(0))
		w.Set(w.Roots[0], i, x)
		cut(t, w, 3+2)
		wantLeaf(t, w, field(t, w, w.Roots[0], i), 4)
	}
}

// P6.1: things that lead to themselves.
func TestSelf(t *testing.T) {
	w := newWood(t, 64, 64)
	for i, kind := range []int{api.KPair, api.KVector, api.KWeak, api.KEphem} {
		x := young(t, w, kind, number(0), number(0))
		link(t, w, x, x, x)
		w.Roots[i] = x
		lost := young(t, w, kind, number(0), number(0))
		link(t, w, lost, lost, lost)
	}
	cut(t, w, 12)
	for _, x := range w.Roots[:4] {
		wantFields(t, w, x, x, x)
	}
}

// P6.1: things that lead round in a ring, and one to which nothing leads.
func TestRing(t *testing.T) {
	w := newWood(t, 64, 64)
	ring := func() int64 {
		first := young(t, w, api.KPair, number(0), number(0))
		x := first
		for i := range int64(5) {
			x = young(t, w, api.KPair, number(5-i), x)
		}
		link(t, w, first, number(0), x)
		return first
	}
	ring()
	w.Roots[3] = ring()
	cut(t, w, 18)
	x := w.Roots[3]
	for i := range int64(6) {
		if y := field(t, w, x, 0); y != number(i) {
			t.Errorf("the thing %d of the ring has the number %d", i, y/4)
		}
		x = field(t, w, x, 1)
	}
	if x != w.Roots[3] {
		t.Errorf("the ring leads from %d to %d", w.Roots[3], x)
	}
}

// P6.1: a thing to which several lead is one, behind the cut, too.
func TestShared(t *testing.T) {
	w := newWood(t, 64, 64)
	o := old(t, w, api.KVector, number(0), number(0))
	x := leaf(t, w, 7)
	link(t, w, o, x, x)
	w.Roots[0], w.Roots[1] = x, x
	w.Roots[2] = young(t, w, api.KPair, x, x)
	w.Roots[3] = young(t, w, api.KWeak, x, x)
	w.Roots[4] = young(t, w, api.KEphem, x, x)
	cut(t, w, 2+3+3+3)
	x = w.Roots[0]
	wantLeaf(t, w, x, 7)
	if w.Roots[1] != x {
		t.Errorf("two roots lead to %d and %d", x, w.Roots[1])
	}
	for _, y := range append(w.Roots[2:5:5], o) {
		wantFields(t, w, y, x, x)
	}
}

// P6.1: what is in use of the old space stays where it is, whether anything leads to it or not.
func TestOldStays(t *testing.T) {
	w := newWood(t, 32, 64)
	a := old(t, w, api.KPair, number(1), number(2))
	b := old(t, w, api.KVector, a, a, number(3))
	c := old(t, w, api.KWeak, a, b)
	d := old(t, w, api.KEphem, a, c)
	g := old(t, w, api.KGuard)
	w.Roots[0] = young(t, w, api.KPair, a, d)
	young(t, w, api.KPair, b, g)
	cut(t, w, 3)
	wantFields(t, w, w.Roots[0], a, d)
	wantFields(t, w, a, number(1), number(2))
	wantFields(t, w, b, a, a, number(3))
	wantFields(t, w, c, a, b)
	wantFields(t, w, d, a, c)
	if kind, _, _ := w.Kind(g); kind != api.KGuard {
		t.Errorf("the guardian is of the kind %d", kind)
	}
}

// P6.1: young things to which old things alone lead, by a marked card: with a root that leads to these, or without.
func TestOldThingsKeep(t *testing.T) {
	for i := range 12 {
		w := newWood(t, 64, 64)
		old(t, w, api.KVector, make([]int64, i)...) // so that it begins on each place of a card
		p := old(t, w, api.KPair, number(0), number(0))
		v := old(t, w, api.KVector, make([]int64, api.MaxVector)...)
		if i%2 == 0 {
			w.Roots[0] = p
		}
		leaf(t, w, 1)
		x, y := leaf(t, w, 2), leaf(t, w, 3)
		link(t, w, p, number(1), young(t, w, api.KPair, x, number(4)))
		w.Set(v, i, y)
		cut(t, w, 2+3+2)
		wantLeaf(t, w, field(t, w, field(t, w, p, 1), 0), 2)
		wantLeaf(t, w, field(t, w, v, i), 3)
	}
}

// P6.1: a thing of the old space leads to a young one, which leads back, and to another one.
func TestThereAndBack(t *testing.T) {
	w := newWood(t, 64, 64)
	p := old(t, w, api.KPair, number(0), number(0))
	q := old(t, w, api.KPair, number(0), p)
	x := young(t, w, api.KPair, p, q)
	link(t, w, p, x, q)
	cut(t, w, 3)
	x = field(t, w, p, 0)
	wantFields(t, w, x, p, q)
	wantFields(t, w, p, x, q)
	wantFields(t, w, q, number(0), p)
}

// P6.1: a field that leads to a young thing no longer does not keep it, though the card is marked.
func TestMarkedForNothing(t *testing.T) {
	w := newWood(t, 32, 32)
	p := old(t, w, api.KPair, number(0), number(0))
	x := leaf(t, w, 1)
	link(t, w, p, x)
	link(t, w, p, number(5))
	cut(t, w, 0)
	wantFields(t, w, p, number(5), number(0))
}

// P6.1: a weak pair's first field keeps nothing, its second one does, wherever the pair is, and by whatever it is alive.
func TestWeak(t *testing.T) {
	w := newWood(t, 64, 64)
	o := old(t, w, api.KWeak, number(0), number(0))
	stays := old(t, w, api.KVector, number(1))
	oo := old(t, w, api.KWeak, number(0), number(0))
	w.Roots[0] = young(t, w, api.KWeak, leaf(t, w, 2), leaf(t, w, 3))
	link(t, w, o, leaf(t, w, 4), leaf(t, w, 5))
	w.Roots[1] = young(t, w, api.KWeak, stays, stays)
	link(t, w, oo, stays, leaf(t, w, 6))
	kept := leaf(t, w, 7)
	w.Roots[2] = young(t, w, api.KWeak, kept, number(8))
	w.Roots[3] = kept
	w.Roots[4] = young(t, w, api.KWeak, number(9), word.Nil())
	w.Roots[5] = young(t, w, api.KWeak, word.Nil(), word.Gone())
	cut(t, w, 3+2+2+3+2+3+2+3+3)
	for _, x := range []int64{w.Roots[0], o} {
		if y := field(t, w, x, 0); y != word.Gone() {
			t.Errorf("the first field of %d is %d", x, y)
		}
	}
	wantLeaf(t, w, field(t, w, w.Roots[0], 1), 3)
	wantLeaf(t, w, field(t, w, o, 1), 5)
	wantFields(t, w, w.Roots[1], stays, stays)
	wantFields(t, w, oo, stays, field(t, w, oo, 1))
	wantLeaf(t, w, field(t, w, oo, 1), 6)
	wantFields(t, w, w.Roots[2], w.Roots[3], number(8))
	wantLeaf(t, w, w.Roots[3], 7)
	wantFields(t, w, w.Roots[4], number(9), word.Nil())
	wantFields(t, w, w.Roots[5], word.Nil(), word.Gone())
}

// P6.1: a first field leads on to what is alive by the pair's own second field, or comes alive behind the pair.
func TestWeakToWhatComesLater(t *testing.T) {
	w := newWood(t, 64, 64)
	o := old(t, w, api.KWeak, number(0), number(0))
	x := leaf(t, w, 1)
	w.Roots[0] = young(t, w, api.KWeak, x, young(t, w, api.KPair, x, number(0)))
	y := leaf(t, w, 2)
	link(t, w, o, y)
	z := leaf(t, w, 3)
	w.Roots[1] = young(t, w, api.KWeak, z, number(0))
	g := young(t, w, api.KGuard)
	reg(t, w, g, z)
	w.Roots[10] = young(t, w, api.KEphem, number(0), young(t, w, api.KPair, y, number(0)))
	w.Roots[11] = g
	cut(t, w, 3+3+2+3+2+3+3+2+1)
	wantLeaf(t, w, field(t, w, w.Roots[0], 0), 1)
	wantLeaf(t, w, field(t, w, o, 0), 2)
	wantLeaf(t, w, field(t, w, w.Roots[1], 0), 3)
	if a, b := field(t, w, w.Roots[1], 0), w.Side.At(w.Roots[11]); len(b) != 1 || a != b[0] {
		t.Errorf("the weak pair leads to %d, and %v waits", a, b)
	}
	if a, b := field(t, w, o, 0), field(t, w, field(t, w, w.Roots[10], 1), 0); a != b {
		t.Errorf("the weak pair leads to %d, the other one to %d", a, b)
	}
}

// P6.1: a weak pair that is not alive keeps nothing, and a ring of weak pairs by first fields falls apart.
func TestWeakRing(t *testing.T) {
	w := newWood(t, 64, 64)
	young(t, w, api.KWeak, number(1), leaf(t, w, 1))
	a := young(t, w, api.KWeak, number(0), number(1))
	b := young(t, w, api.KWeak, a, number(2))
	c := young(t, w, api.KWeak, b, number(3))
	link(t, w, a, c)
	w.Roots[0] = b
	cut(t, w, 3)
	wantFields(t, w, w.Roots[0], word.Gone(), number(2))
	cut(t, w, 0)
	wantFields(t, w, w.Roots[0], word.Gone(), number(2))
}

// P6.1: chains as long as a nursery has room for, from their end on and from their beginning on.
func TestLongChain(t *testing.T) {
	for _, forth := range []bool{true, false} {
		w := newWood(t, api.MaxNursery, api.MaxOld)
		const n = api.MaxNursery / 3
		for round := range int64(4) {
			var l []int64
			for i := range int64(n) {
				l = append(l, young(t, w, api.KPair, number(round*n+i), word.Nil()))
			}
			for i := range n - 1 {
				if forth {
					w.Set(l[i], 1, l[i+1])
				} else {
					w.Set(l[i+1], 1, l[i])
				}
			}
			first, last := l[0], l[n-1]
			if !forth {
				first, last = last, first
			}
			w.Set(last, 1, w.Roots[0])
			w.Roots[0] = first
			cut(t, w, 3*n)
		}
		count := 0
		for x := w.Roots[0]; x != word.Nil(); x = field(t, w, x, 1) {
			count++
		}
		if count != 4*n {
			t.Errorf("the chain has %d things, want %d", count, 4*n)
		}
	}
}

// P6.1: several cuts, one behind the other: what was lost in between stays, as all that is old does.
func TestSeveralCuts(t *testing.T) {
	w := newWood(t, 16, 64)
	list := young(t, w, api.KPair, leaf(t, w, 0), word.Nil())
	w.Roots[0] = list
	cut(t, w, 5)
	first := w.Roots[0]
	for i := range int64(6) {
		leaf(t, w, 100)
		next := young(t, w, api.KPair, leaf(t, w, i+1), word.Nil())
		end := first
		for y := field(t, w, end, 1); y != word.Nil(); y = field(t, w, end, 1) {
			end = y
		}
		link(t, w, end, field(t, w, end, 0), next)
		if i == 3 {
			w.Roots[0] = word.Nil()
		}
		cut(t, w, 5)
	}
	x := first
	for i := range int64(7) {
		wantLeaf(t, w, field(t, w, x, 0), i)
		x = field(t, w, x, 1)
	}
	if x != word.Nil() {
		t.Errorf("the list ends with %d", x)
	}
}

// P6.1: what came by a cut is old: it is not asked for when nothing leads to it any more, and its fields mark its card.
func TestWhatCameIsOld(t *testing.T) {
	w := newWood(t, 32, 64)
	w.Roots[0] = young(t, w, api.KWeak, number(0), number(0))
	w.Roots[1] = leaf(t, w, 1)
	w.Roots[2] = young(t, w, api.KPair, number(0), number(0))
	cut(t, w, 8)
	weak, pair := w.Roots[0], w.Roots[2]
	link(t, w, weak, w.Roots[1])
	w.Roots[0], w.Roots[1], w.Roots[2] = word.Nil(), word.Nil(), word.Nil()
	link(t, w, pair, leaf(t, w, 2))
	cut(t, w, 2)
	wantLeaf(t, w, field(t, w, weak, 0), 1)
	wantLeaf(t, w, field(t, w, pair, 0), 2)
}

// P1: words that lead to no thing stay as they are, wherever they stand, and keep nothing.
func TestWordsThatLeadNowhere(t *testing.T) {
	nowhere := []int64{number(7), word.Nil(), word.Gone(), 6, 7, -1, -3, 1 << 62, word.Ref(1), word.Ref(40), word.Ref(127), word.Ref(128), word.Ref(1 << 40)}
	for _, x := range nowhere {
		w := newWood(t, 64, 64)
		o := old(t, w, api.KPair, number(0), number(0))
		young(t, w, api.KPair, number(1), number(2)) // within it is the place 1
		link(t, w, o, young(t, w, api.KVector), x)
		w.Roots[0] = young(t, w, api.KPair, x, x)
		w.Roots[1] = young(t, w, api.KWeak, x, x)
		w.Roots[2] = young(t, w, api.KEphem, x, x)
		w.Roots[3] = x
		if code := minor.Cut(w); code != 0 {
			t.Fatalf("Cut has the code %d", code)
		}
		if y, o := w.Used(); y != 0 || o != 3+1+9 {
			t.Errorf("of %d: %d, %d words are in use", x, y, o)
		}
		for _, y := range w.Roots[:3] {
			wantFields(t, w, y, x, x)
		}
		wantFields(t, w, o, field(t, w, o, 0), x)
		if w.Roots[3] != x {
			t.Errorf("the root is %d, and was %d", w.Roots[3], x)
		}
	}
}

// The document's beginning: old things are looked at by marked cards alone.
func TestUnmarked(t *testing.T) {
	w := newWood(t, 32, 32)
	p := old(t, w, api.KPair, number(0), number(0))
	q := old(t, w, api.KVector, number(0), number(0), number(0), number(0), number(0))
	x := leaf(t, w, 1)
	at, _ := word.At(p)
	w.Store(at+1, x) // past Set, which would mark the card
	link(t, w, q, number(0))
	if code := minor.Cut(w); code != 0 {
		t.Fatalf("Cut has the code %d", code)
	}
	if y, o := w.Used(); y != 0 || o != 9 {
		t.Errorf("%d, %d words are in use", y, o)
	}
	wantFields(t, w, p, x, number(0))
}

// P1: a young thing whose first word tells one field more than there is has no words that could come; the cut ends.
func TestYoungThingCutOff(t *testing.T) {
	w := newWood(t, 16, 32)
	o := old(t, w, api.KPair, number(0), number(0))
	g := young(t, w, api.KGuard)
	x := young(t, w, api.KVector, number(1), number(2))
	at, _ := word.At(x)
	head, _ := word.Head(api.KVector, 3)
	w.Store(at, head)
	w.Roots[0], w.Roots[1] = g, x
	link(t, w, o, x)
	wait(w, g, x)
	reg(t, w, g, x)
	if code := minor.Cut(w); code != 0 {
		t.Fatalf("Cut has the code %d", code)
	}
	if y, o := w.Used(); y != 0 || o != 3+1 {
		t.Errorf("%d, %d words are in use", y, o)
	}
}

// P1: what comes behind an old thing that was cut off is not taken for its fields.
func TestOldThingCutOff(t *testing.T) {
	w := newWood(t, 32, 32)
	p := old(t, w, api.KPair, number(0), number(0))
	young(t, w, api.KVector, make([]int64, 7)...)
	link(t, w, p, leaf(t, w, 1)) // at the place 8, to which the first word of a pair leads as a value
	w.Roots[0] = young(t, w, api.KPair, number(1), number(2))
	w.Arena.Cut(2)
	if code := minor.Cut(w); code != 0 {
		t.Fatalf("Cut has the code %d", code)
	}
	at, _ := word.At(w.Roots[0])
	head, _ := word.Head(api.KPair, 2)
	for i, x := range []int64{head, number(1), number(2)} {
		if y := w.Load(at + i); y != x {
			t.Errorf("the word %d is %d, want %d", i, y, x)
		}
	}
}

// What holds everywhere: what lies behind a list's length is not written, and a Side's Copy is another one.
func TestListsOfAWood(t *testing.T) {
	w := newWood(t, 32, 32)
	x, g := leaf(t, w, 1), young(t, w, api.KGuard)
	w.Roots[0], w.Roots[1] = x, g
	all := append(w.Roots, x, x)
	w.Roots = all[:api.MaxRoots]
	reg(t, w, g, x)
	reg(t, w, g, leaf(t, w, 2))
	wait(w, g, leaf(t, w, 3))
	other := w.Side.Copy()
	regs, waits := other.Regs, other.Wait
	cut(t, w, 2+1+2+2)
	if all[12] != x || all[13] != x {
		t.Errorf("behind the roots stand %v", all[12:])
	}
	if len(other.Regs) != 2 || len(other.Wait) != 1 || regs[0].Thing != x || waits[0].Guard != g {
		t.Errorf("the other Side is %v", other)
	}
}
