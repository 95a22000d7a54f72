package minor_test

import (
	"slices"
	"testing"

	"underwood/api"
	"underwood/minor"
	"underwood/side"
	"underwood/wood"
	"underwood/word"
)

func newWood(t *testing.T, nursery, old int) *wood.Wood {
	t.Helper()
	w, f := wood.New(nursery, old)
	if w == nil || f != (api.Fault{}) {
		t.Fatalf("New(%d, %d) = %v, %v", nursery, old, w, f)
	}
	return w
}

// number answers the word of a number.
func number(n int64) int64 { return n * 4 }

// young makes a thing with these fields, and answers the word that leads to it.
func young(t *testing.T, w *wood.Wood, kind int, fields ...int64) int64 {
	t.Helper()
	at := w.Make(kind, len(fields))
	if at < 0 {
		t.Fatalf("no room for the kind %d with %d fields", kind, len(fields))
	}
	link(t, w, word.Ref(at), fields...)
	return word.Ref(at)
}

// old makes a thing of the old space, and answers the word that leads to it.
// It is to be asked while there are no young things, so that none is left of which it was copied.
func old(t *testing.T, w *wood.Wood, kind int, fields ...int64) int64 {
	t.Helper()
	if n, _ := w.Used(); n != 0 {
		t.Fatalf("%d words of the nursery are in use", n)
	}
	at := w.Make(kind, len(fields))
	to := w.Copy(at)
	w.Clear()
	if at < 0 || to < 0 {
		t.Fatalf("no room for the kind %d with %d fields", kind, len(fields))
	}
	link(t, w, word.Ref(to), fields...)
	return word.Ref(to)
}

// link sets fields from the first one on, which all are to be there.
func link(t *testing.T, w *wood.Wood, x int64, fields ...int64) {
	t.Helper()
	for i, y := range fields {
		if code := w.Set(x, i, y); code != 0 {
			t.Fatalf("Set(%d, %d, %d) = %d", x, i, y, code)
		}
	}
}

// leaf makes a young thing of two words that is told from others by its number.
func leaf(t *testing.T, w *wood.Wood, n int64) int64 {
	t.Helper()
	return young(t, w, api.KVector, number(n))
}

func wantLeaf(t *testing.T, w *wood.Wood, x, n int64) {
	t.Helper()
	at, _ := word.At(x)
	kind, fields, _ := w.Kind(x)
	if y, code := w.Get(x, 0); !w.Old(at) || kind != api.KVector || fields != 1 || y != number(n) || code != 0 {
		t.Errorf("the word %d leads to the kind %d with %d fields, the first one %d; it is to lead to the number %d, in the old space", x, kind, fields, y, n)
	}
}

func field(t *testing.T, w *wood.Wood, x int64, i int) int64 {
	t.Helper()
	y, code := w.Get(x, i)
	if code != 0 {
		t.Fatalf("Get(%d, %d) has the code %d", x, i, code)
	}
	return y
}

func wantFields(t *testing.T, w *wood.Wood, x int64, want ...int64) {
	t.Helper()
	_, n, _ := w.Kind(x)
	var got []int64
	for i := range n {
		got = append(got, field(t, w, x, i))
	}
	if !slices.Equal(got, want) {
		t.Errorf("the fields of %d are %v, want %v", x, got, want)
	}
}

func wantBroken(t *testing.T, w *wood.Wood, x int64) {
	t.Helper()
	wantFields(t, w, x, word.Gone(), word.Gone())
}

func reg(t *testing.T, w *wood.Wood, guard, thing int64) {
	t.Helper()
	if !w.Side.Reg(side.Entry{Guard: guard, Thing: thing}) {
		t.Fatal("the Side is full")
	}
}

// wait lets a thing wait at a guardian, as no cut was needed for.
func wait(w *wood.Wood, guard, thing int64) {
	w.Side.Wait = append(w.Side.Wait, side.Entry{Guard: guard, Thing: thing})
}

// wantWait holds that just the leaves of these numbers wait at a guardian, in this order.
func wantWait(t *testing.T, w *wood.Wood, guard int64, numbers ...int64) {
	t.Helper()
	l := w.Side.At(guard)
	if len(l) != len(numbers) {
		t.Errorf("%d things wait at %d, want %v", len(l), guard, numbers)
		return
	}
	for i, n := range numbers {
		wantLeaf(t, w, l[i], n)
	}
}

// wantSide holds how many entries there are.
func wantSide(t *testing.T, w *wood.Wood, regs, waits int) {
	t.Helper()
	if len(w.Side.Regs) != regs || len(w.Side.Wait) != waits {
		t.Errorf("registered is %v, and %v waits; want %d and %d", w.Side.Regs, w.Side.Wait, regs, waits)
	}
}

// cut holds what is so behind each cut that is done, and that so many words were alive of the nursery.
func cut(t *testing.T, w *wood.Wood, alive int) {
	t.Helper()
	_, ahead := w.Used()
	nursery, _ := w.Free()
	usedYoung, _ := w.Used()
	nursery += usedYoung
	if code := minor.Cut(w); code != 0 {
		t.Fatalf("Cut has the code %d", code)
	}
	usedYoung, usedOld := w.Used()
	if usedYoung != 0 || usedOld != ahead+alive {
		t.Errorf("%d, %d words are in use, want 0, %d", usedYoung, usedOld, ahead+alive)
	}
	if free, _ := w.Free(); free != nursery {
		t.Errorf("the nursery has %d free words of %d", free, nursery)
	}
	if n := w.Cards.Count(); n != 0 {
		t.Errorf("%d cards are marked", n)
	}
	leadsNotYoung(t, w)
}

// cutAny holds what is so behind each cut, whatever the words are.
func cutAny(t *testing.T, w *wood.Wood) {
	t.Helper()
	usedYoung, usedOld := w.Used()
	_, free := w.Free()
	code := minor.Cut(w)
	y, o := w.Used()
	switch {
	case usedYoung > free:
		if code != api.ErrFull || y != usedYoung || o != usedOld {
			t.Errorf("Cut has the code %d; %d, %d words are in use", code, y, o)
		}
	case code != 0 || y != 0 || o < usedOld || o > usedOld+usedYoung || w.Cards.Count() != 0:
		t.Errorf("Cut has the code %d; %d, %d words are in use, %d cards marked", code, y, o, w.Cards.Count())
	}
}

// leadsNotYoung holds that things stand one behind the other in the old space, and that nothing leads to the nursery.
func leadsNotYoung(t *testing.T, w *wood.Wood) {
	t.Helper()
	words := slices.Clone(w.Roots)
	for _, e := range slices.Concat(w.Side.Regs, w.Side.Wait) {
		words = append(words, e.Guard, e.Thing)
	}
	_, places := w.Things()
	_, end := w.Bounds()
	for _, at := range places {
		_, n, _ := w.Thing(at)
		for i := range n {
			words = append(words, w.Load(at+1+i))
		}
		end += 1 + n
	}
	_, base := w.Bounds()
	if _, used := w.Used(); end != base+used {
		t.Errorf("the things of the old space end at %d, and what is in use at %d", end, base+used)
	}
	for _, x := range words {
		if at, ok := word.At(x); ok && !slices.Contains(places, at) {
			t.Errorf("the word %d leads to no thing of the old space", x)
		}
	}
}

// state is all that a wood holds.
type state struct {
	words              []int64
	usedYoung, usedOld int
	marked             []int
	regs, wait         []side.Entry
	roots              []int64
}

func stateOf(w *wood.Wood) state {
	var s state
	s.words = w.Words()
	s.usedYoung, s.usedOld = w.Used()
	for at := range s.words {
		if w.Cards.Dirty(at) {
			s.marked = append(s.marked, at)
		}
	}
	s.regs, s.wait = slices.Clone(w.Side.Regs), slices.Clone(w.Side.Wait)
	s.roots = slices.Clone(w.Roots)
	return s
}

func (s state) equal(o state) bool {
	return slices.Equal(s.words, o.words) && s.usedYoung == o.usedYoung && s.usedOld == o.usedOld &&
		slices.Equal(s.marked, o.marked) && slices.Equal(s.regs, o.regs) && slices.Equal(s.wait, o.wait) &&
		slices.Equal(s.roots, o.roots)
}

// source gives numbers, the same ones each time.
type source uint64

func (s *source) below(n int) int {
	*s = *s*6364136223846793005 + 1442695040888963407
	return int(uint64(*s)>>33) % n
}
