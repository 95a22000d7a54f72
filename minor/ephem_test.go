package minor_test

import (
	"testing"

	"underwood/api"
	"underwood/wood"
	"underwood/word"
)

// wantKept holds that an ephemeron leads to the leaf of a key and to that of a value.
func wantKept(t *testing.T, w *wood.Wood, x, key, value int64) {
	t.Helper()
	wantLeaf(t, w, field(t, w, x, 0), key)
	wantLeaf(t, w, field(t, w, x, 1), value)
}

// P6.1: the key of a young ephemeron is alive, or is not.
func TestEphem(t *testing.T) {
	w := newWood(t, 64, 64)
	k1, k2 := leaf(t, w, 1), leaf(t, w, 2)
	w.Roots[0] = young(t, w, api.KEphem, k1, leaf(t, w, 11))
	w.Roots[1] = young(t, w, api.KEphem, k2, leaf(t, w, 12))
	w.Roots[2] = k1
	cut(t, w, 2+3+2+3)
	wantKept(t, w, w.Roots[0], 1, 11)
	wantBroken(t, w, w.Roots[1])
	if k := field(t, w, w.Roots[0], 0); k != w.Roots[2] {
		t.Errorf("the key is %d, the root %d", k, w.Roots[2])
	}
}

// P6.1: keys of the old space are alive, and those that lead nowhere keep the value.
func TestEphemKeyIsAlwaysAlive(t *testing.T) {
	w := newWood(t, 64, 64)
	o := old(t, w, api.KPair, number(0), number(0))
	keys := []int64{o, number(5), number(0), word.Nil(), word.Gone()}
	for i, k := range keys {
		w.Roots[i] = young(t, w, api.KEphem, k, leaf(t, w, int64(i)))
	}
	cut(t, w, len(keys)*5)
	for i, k := range keys {
		wantLeaf(t, w, field(t, w, w.Roots[i], 1), int64(i))
		wantFields(t, w, w.Roots[i], k, field(t, w, w.Roots[i], 1))
	}
}

// P6.1: an ephemeron that is not alive keeps nothing, though its key is alive.
func TestEphemThatIsNotAlive(t *testing.T) {
	w := newWood(t, 64, 64)
	k := leaf(t, w, 1)
	young(t, w, api.KEphem, k, leaf(t, w, 2))
	young(t, w, api.KEphem, number(3), leaf(t, w, 4))
	w.Roots[0] = k
	cut(t, w, 2)
}

// P6.1: an ephemeron of the old space: its key is young and alive, young and not, old, or leads nowhere.
func TestOldEphem(t *testing.T) {
	w := newWood(t, 64, 64)
	var l []int64
	for range 6 {
		l = append(l, old(t, w, api.KEphem, number(0), number(0)))
	}
	stays := old(t, w, api.KVector, number(3))
	k := leaf(t, w, 1)
	w.Roots[0], w.Roots[1] = k, l[0]
	link(t, w, l[0], k, leaf(t, w, 11))
	link(t, w, l[1], leaf(t, w, 2), leaf(t, w, 12))
	link(t, w, l[2], stays, leaf(t, w, 13))
	link(t, w, l[3], number(4), leaf(t, w, 14))
	link(t, w, l[4], leaf(t, w, 5), stays)
	link(t, w, l[5], k, number(16))
	cut(t, w, 2+2+2+2)
	wantKept(t, w, l[0], 1, 11)
	wantBroken(t, w, l[1])
	wantKept(t, w, l[2], 3, 13)
	wantFields(t, w, l[3], number(4), field(t, w, l[3], 1))
	wantLeaf(t, w, field(t, w, l[3], 1), 14)
	wantBroken(t, w, l[4])
	wantFields(t, w, l[5], w.Roots[0], number(16))
}

// P6.1: a value that is a number, or old, is gone with the key.
func TestBrokenWhole(t *testing.T) {
	w := newWood(t, 64, 64)
	o := old(t, w, api.KPair, number(0), number(0))
	for i, v := range []int64{number(9), word.Nil(), o} {
		w.Roots[i] = young(t, w, api.KEphem, leaf(t, w, 1), v)
	}
	kept := leaf(t, w, 2)
	w.Roots[3] = young(t, w, api.KEphem, leaf(t, w, 1), kept)
	w.Roots[4] = kept
	cut(t, w, 4*3+2)
	for _, x := range w.Roots[:4] {
		wantBroken(t, w, x)
	}
	wantLeaf(t, w, w.Roots[4], 2)
}

// P6.1: an ephemeron's value does not keep its own key, nor does an ephemeron that is its own key or value.
func TestOwnKey(t *testing.T) {
	w := newWood(t, 64, 64)
	k := leaf(t, w, 1)
	w.Roots[0] = young(t, w, api.KEphem, k, young(t, w, api.KPair, k, number(0)))
	k = leaf(t, w, 2)
	w.Roots[1] = young(t, w, api.KEphem, k, k)
	w.Roots[2] = young(t, w, api.KEphem, number(0), number(5))
	link(t, w, w.Roots[2], w.Roots[2])
	w.Roots[3] = young(t, w, api.KEphem, leaf(t, w, 3), number(0))
	w.Set(w.Roots[3], 1, w.Roots[3])
	cut(t, w, 4*3)
	wantBroken(t, w, w.Roots[0])
	wantBroken(t, w, w.Roots[1])
	wantFields(t, w, w.Roots[2], w.Roots[2], number(5))
	wantBroken(t, w, w.Roots[3])
}

// chain makes ephemerons, the value of each of which is the key of the next one, and answers the first key.
// They are held by a list of pairs, from the first one on or from the last one on.
func chain(t *testing.T, w *wood.Wood, n int64, forth bool) int64 {
	t.Helper()
	var keys []int64
	for i := range n + 1 {
		keys = append(keys, leaf(t, w, i))
	}
	var l []int64
	for i := range n {
		l = append(l, young(t, w, api.KEphem, keys[i], keys[i+1]))
	}
	w.Roots[0] = word.Nil()
	for i := range l {
		if forth {
			i = len(l) - 1 - i
		}
		w.Roots[0] = young(t, w, api.KPair, l[i], w.Roots[0])
	}
	return keys[0]
}

// P6.1: keys come alive late, by the value of another ephemeron, in whatever order they are met.
func TestKeysThatComeLate(t *testing.T) {
	for _, forth := range []bool{true, false} {
		for _, n := range []int64{1, 2, 3, 10, 31} {
			w := newWood(t, api.MaxNursery, api.MaxOld)
			w.Roots[1] = chain(t, w, n, forth)
			cut(t, w, int(n)*3+int(n)*3+int(n+1)*2)
			i := int64(0)
			for x := w.Roots[0]; x != word.Nil(); x = field(t, w, x, 1) {
				k := i
				if !forth {
					k = n - 1 - i
				}
				wantKept(t, w, field(t, w, x, 0), k, k+1)
				i++
			}
			if i != n {
				t.Errorf("%d ephemerons are left of %d", i, n)
			}

			w = newWood(t, api.MaxNursery, api.MaxOld)
			chain(t, w, n, forth)
			cut(t, w, int(n)*3+int(n)*3)
			for x := w.Roots[0]; x != word.Nil(); x = field(t, w, x, 1) {
				wantBroken(t, w, field(t, w, x, 0))
			}
		}
	}
}

// P6.1: a chain that begins with a key that is met by an ephemeron of the old space, and goes through another one.
func TestKeysThatComeLateByOldEphems(t *testing.T) {
	w := newWood(t, 64, 64)
	late := old(t, w, api.KEphem, number(0), number(0))
	first := old(t, w, api.KEphem, number(0), number(0))
	k1, k2, k3, k4 := leaf(t, w, 1), leaf(t, w, 2), leaf(t, w, 3), leaf(t, w, 4)
	link(t, w, late, k3, k4)
	link(t, w, first, first, young(t, w, api.KPair, k1, number(0)))
	w.Roots[0] = young(t, w, api.KEphem, k2, young(t, w, api.KVector, number(0), k3))
	w.Roots[1] = young(t, w, api.KEphem, k1, young(t, w, api.KWeak, number(0), k2))
	cut(t, w, 8+3+3+3+3+3)
	wantKept(t, w, late, 3, 4)
	wantLeaf(t, w, field(t, w, w.Roots[0], 0), 2)
	wantLeaf(t, w, field(t, w, w.Roots[1], 0), 1)
}

// P6.1: an ephemeron that is alive by the value of another one alone keeps its own value.
func TestEphemThatComesLate(t *testing.T) {
	w := newWood(t, 64, 64)
	k := leaf(t, w, 1)
	inner := young(t, w, api.KEphem, k, leaf(t, w, 2))
	dead := young(t, w, api.KEphem, leaf(t, w, 4), leaf(t, w, 3))
	w.Roots[0] = young(t, w, api.KEphem, k, young(t, w, api.KPair, inner, dead))
	w.Roots[1] = k
	cut(t, w, 2+3+2+3+3+3)
	pair := field(t, w, w.Roots[0], 1)
	wantKept(t, w, field(t, w, pair, 0), 1, 2)
	wantBroken(t, w, field(t, w, pair, 1))
}

// The document's example, and rings of more: if nothing else leads to the keys all are broken; if to one of them, none is.
func TestRingOfEphems(t *testing.T) {
	for n := 1; n <= 6; n++ {
		for held := -1; held < n; held++ {
			w := newWood(t, 64, 64)
			var keys []int64
			for i := range n {
				keys = append(keys, leaf(t, w, int64(i)))
			}
			for i, k := range keys {
				w.Roots[i] = young(t, w, api.KEphem, k, keys[(i+1)%n])
			}
			if held < 0 {
				cut(t, w, n*3)
				for i := range n {
					wantBroken(t, w, w.Roots[i])
				}
				continue
			}
			w.Roots[11] = keys[held]
			cut(t, w, n*5)
			for i := range n {
				wantKept(t, w, w.Roots[i], int64(i), int64((i+1)%n))
			}
		}
	}
}

// P6.1: a key that is kept by Side.Settle is alive, and its value, too; one that a waiting thing leads to as well.
func TestKeysThatGuardiansKeep(t *testing.T) {
	w := newWood(t, 64, 64)
	g := young(t, w, api.KGuard)
	w.Roots[0] = g
	k1, k2, k3 := leaf(t, w, 1), leaf(t, w, 2), leaf(t, w, 3)
	w.Roots[1] = young(t, w, api.KEphem, k1, leaf(t, w, 11))
	w.Roots[2] = young(t, w, api.KEphem, k2, leaf(t, w, 12))
	w.Roots[3] = young(t, w, api.KEphem, k3, leaf(t, w, 13))
	reg(t, w, g, k1)
	wait(w, g, young(t, w, api.KPair, k2, number(0)))
	cut(t, w, 1+3*3+4+4+3)
	wantKept(t, w, w.Roots[1], 1, 11)
	wantKept(t, w, w.Roots[2], 2, 12)
	wantBroken(t, w, w.Roots[3])
	if l := w.Side.At(w.Roots[0]); len(l) != 2 || l[1] != field(t, w, w.Roots[1], 0) {
		t.Errorf("%v waits", l)
	}
}

// P6.1: cuts one behind the other: an ephemeron that was kept is old then, and is broken no more by a small cut.
func TestEphemBehindACut(t *testing.T) {
	w := newWood(t, 64, 64)
	k := leaf(t, w, 1)
	w.Roots[0] = young(t, w, api.KEphem, k, leaf(t, w, 2))
	w.Roots[1] = k
	cut(t, w, 7)
	e := w.Roots[0]
	w.Roots[0], w.Roots[1] = word.Nil(), word.Nil()
	cut(t, w, 0)
	wantKept(t, w, e, 1, 2)
	w.Set(e, 1, leaf(t, w, 3))
	cut(t, w, 2)
	wantKept(t, w, e, 1, 3)
	w.Set(e, 0, leaf(t, w, 4))
	cut(t, w, 0)
	wantBroken(t, w, e)
	w.Set(e, 1, leaf(t, w, 5)) // its key is Gone, which leads nowhere
	cut(t, w, 2)
	wantFields(t, w, e, word.Gone(), field(t, w, e, 1))
	wantLeaf(t, w, field(t, w, e, 1), 5)
}
