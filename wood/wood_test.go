package wood_test

import (
	"math"
	"slices"
	"testing"

	"underwood/api"
	"underwood/side"
	"underwood/wood"
	"underwood/word"
)

func newWood(t *testing.T, nursery, old int) *wood.Wood {
	t.Helper()
	w, f := wood.New(nursery, old)
	if w == nil || f != (api.Fault{}) {
		t.Fatalf("New(%d, %d) = %v, %v", nursery, old, w, f)
	}
	return w
}

// young makes a thing, and answers the word that leads to it.
func young(t *testing.T, w *wood.Wood, kind, fields int) int64 {
	t.Helper()
	at := w.Make(kind, fields)
	if at < 0 {
		t.Fatalf("Make(%d, %d) = %d", kind, fields, at)
	}
	return word.Ref(at)
}

// old makes a thing of the old space, and answers the word that leads to it.
// The young one from which it was copied stays.
func old(t *testing.T, w *wood.Wood, kind, fields int) int64 {
	t.Helper()
	to := w.Copy(place(t, young(t, w, kind, fields)))
	if to < 0 {
		t.Fatalf("no room for the kind %d with %d fields", kind, fields)
	}
	return word.Ref(to)
}

func place(t *testing.T, x int64) int {
	t.Helper()
	at, ok := word.At(x)
	if !ok {
		t.Fatalf("%d leads to no place", x)
	}
	return at
}

// number answers the word of a number.
func number(n int64) int64 { return n * 4 }

// link sets fields from the first one on, which all are to be there.
func link(t *testing.T, w *wood.Wood, x int64, fields ...int64) {
	t.Helper()
	for i, y := range fields {
		if code := w.Set(x, i, y); code != 0 {
			t.Fatalf("Set(%d, %d, %d) = %d", x, i, y, code)
		}
	}
}

// state is all that a wood holds.
type state struct {
	words              []int64
	usedYoung, usedOld int
	marked             []int
	regs, wait         []side.Entry
	roots              []int64
}

func stateOf(w *wood.Wood) state {
	var s state
	s.words = w.Words()
	s.usedYoung, s.usedOld = w.Used()
	s.marked = marked(w)
	s.regs, s.wait = slices.Clone(w.Side.Regs), slices.Clone(w.Side.Wait)
	s.roots = slices.Clone(w.Roots)
	return s
}

func (s state) equal(o state) bool {
	return slices.Equal(s.words, o.words) && s.usedYoung == o.usedYoung && s.usedOld == o.usedOld &&
		slices.Equal(s.marked, o.marked) && slices.Equal(s.regs, o.regs) && slices.Equal(s.wait, o.wait) &&
		slices.Equal(s.roots, o.roots)
}

// marked answers the places whose card is marked.
func marked(w *wood.Wood) []int {
	var l []int
	for at := -api.CardWords; at < len(w.Words())+api.CardWords; at++ {
		if w.Cards.Dirty(at) {
			l = append(l, at)
		}
	}
	return l
}

// unchanged does what is to change nothing, and tells if anything is otherwise behind it.
func unchanged(t *testing.T, w *wood.Wood, what string, do func()) {
	t.Helper()
	ahead := stateOf(w)
	do()
	if behind := stateOf(w); !ahead.equal(behind) {
		t.Errorf("%s changed %v to %v", what, ahead, behind)
	}
}

func wantKind(t *testing.T, w *wood.Wood, x int64, kind, fields, code int) {
	t.Helper()
	unchanged(t, w, "Kind", func() {
		if k, n, c := w.Kind(x); k != kind || n != fields || c != code {
			t.Errorf("Kind(%d) = %d, %d, %d, want %d, %d, %d", x, k, n, c, kind, fields, code)
		}
	})
}

func wantGet(t *testing.T, w *wood.Wood, x int64, i int, want int64, code int) {
	t.Helper()
	unchanged(t, w, "Get", func() {
		if y, c := w.Get(x, i); y != want || c != code {
			t.Errorf("Get(%d, %d) = %d, %d, want %d, %d", x, i, y, c, want, code)
		}
	})
}

// wantNoSet holds that a Set is refused, and changes nothing.
func wantNoSet(t *testing.T, w *wood.Wood, x int64, i int, y int64, code int) {
	t.Helper()
	unchanged(t, w, "a Set that is refused", func() {
		if c := w.Set(x, i, y); c != code {
			t.Errorf("Set(%d, %d, %d) = %d, want %d", x, i, y, c, code)
		}
	})
}

// P5.1
func TestNew(t *testing.T) {
	for _, x := range []struct{ nursery, old int }{
		{16, 0}, {16, 1}, {16, 8}, {17, 9}, {100, 100}, {255, 1023}, {256, 1024},
	} {
		w := newWood(t, x.nursery, x.old)
		if y, o := w.Free(); y != x.nursery || o != x.old {
			t.Errorf("New(%d, %d): %d and %d words are free", x.nursery, x.old, y, o)
		}
		if y, o := w.Used(); y != 0 || o != 0 {
			t.Errorf("New(%d, %d): %d and %d words are in use", x.nursery, x.old, y, o)
		}
		if n := len(w.Side.Regs) + len(w.Side.Wait); n != 0 {
			t.Errorf("New(%d, %d): %d entries stand beside", x.nursery, x.old, n)
		}
		if len(w.Roots) != api.MaxRoots {
			t.Errorf("New(%d, %d): %d roots", x.nursery, x.old, len(w.Roots))
		}
		for i, r := range w.Roots {
			if r != word.Nil() {
				t.Errorf("New(%d, %d): the root %d is %d", x.nursery, x.old, i, r)
			}
		}
		wantCards(t, w, x.nursery, x.old)
	}
}

// wantCards holds that no card is marked, and that the places of the old space have one, as cards tells it, and no others.
func wantCards(t *testing.T, w *wood.Wood, nursery, old int) {
	t.Helper()
	if n := w.Cards.Count(); n != 0 {
		t.Errorf("%d cards are marked", n)
	}
	end := nursery + (old+api.CardWords-1)/api.CardWords*api.CardWords
	for at := -1; at <= end+1; at++ {
		if ok := w.Cards.Mark(at); ok != (at >= nursery && at < end) {
			t.Errorf("the place %d of %d and %d words has a card: %v", at, nursery, old, ok)
		}
	}
	if n := w.Cards.Count(); n != (end-nursery)/api.CardWords {
		t.Errorf("%d words have %d cards", old, n)
	}
}

// P5.1: arena.New's fault.
func TestNewFault(t *testing.T) {
	far := []int{math.MinInt, -1 << 32, -1, 1 << 32, math.MaxInt - 7, math.MaxInt}
	bad := [][2]int{{15, 0}, {0, 8}, {257, 8}, {-16, 8}, {16, -1}, {256, 1025}, {15, -1}, {257, 1025}}
	for _, n := range far {
		bad = append(bad, [2]int{n, 8}, [2]int{16, n}, [2]int{n, n})
	}
	for _, x := range bad {
		w, f := wood.New(x[0], x[1])
		if w != nil || f != (api.Fault{Code: api.ErrRange, At: -1}) {
			t.Errorf("New(%d, %d) = %v, %v", x[0], x[1], w, f)
		}
	}
}

// P5.1: woods are apart from each other.
func TestNewApart(t *testing.T) {
	a, b := newWood(t, 16, 8), newWood(t, 16, 8)
	unchanged(t, b, "another wood", func() {
		x := old(t, a, api.KPair, 2)
		link(t, a, x, word.Ref(0), x)
		a.Side.Reg(side.Entry{Guard: 1, Thing: 5})
		for i := range a.Roots {
			a.Roots[i] = x
		}
	})
}

// kinds are all kinds of things, with how many fields they may have.
func kinds() [][2]int {
	return [][2]int{
		{api.KPair, 2}, {api.KVector, 0}, {api.KVector, 1}, {api.KVector, 3}, {api.KVector, 12},
		{api.KWeak, 2}, {api.KEphem, 2}, {api.KGuard, 0},
	}
}

// Kind of things, young and old.
func TestKind(t *testing.T) {
	w := newWood(t, 256, 256)
	var young3, old3 [][3]int64
	for _, k := range kinds() {
		x := young(t, w, k[0], k[1])
		young3 = append(young3, [3]int64{x, int64(k[0]), int64(k[1])})
		old3 = append(old3, [3]int64{old(t, w, k[0], k[1]), int64(k[0]), int64(k[1])})
	}
	for _, x := range append(young3, old3...) {
		wantKind(t, w, x[0], int(x[1]), int(x[2]), 0)
	}
}

// strays are words that lead to no thing of a wood of 16 and 16 words in which only the first 3 of each are in use.
func strays() []int64 {
	l := []int64{
		number(0), number(1), number(-1), number(5), number(api.MaxInt - 1), number(-api.MaxInt),
		word.Nil(), word.Gone(),
		// Words that are no value.
		6, 7, 10, -1, -2, -3, -7, 33 - 1<<62, math.MinInt64, math.MinInt64 + 1, math.MaxInt64, math.MaxInt64 - 1, math.MaxInt64 - 2,
		number(api.MaxInt), number(api.MaxInt) + 1,
	}
	// Places that are within a thing, or not in use.
	for _, at := range []int{1, 2, 3, 4, 8, 15, 17, 18, 19, 20, 31, 32, 33, 40, 1 << 32, 1 << 40, api.MaxInt - 1} {
		l = append(l, word.Ref(at))
	}
	return l
}

// Words that lead to no thing: Kind, P5.2, P5.3.
func TestNoThing(t *testing.T) {
	w := newWood(t, 16, 16)
	pair := young(t, w, api.KPair, 2)
	w.Copy(place(t, pair))
	for _, x := range strays() {
		wantKind(t, w, x, 0, 0, api.ErrKind)
		for _, i := range []int{-1, 0, 1, 2, math.MinInt, math.MaxInt} {
			wantGet(t, w, x, i, 0, api.ErrKind)
			wantNoSet(t, w, x, i, pair, api.ErrKind)
		}
	}
}

// A wood without things has none to which a word leads, whatever its words are.
func TestNothingInUse(t *testing.T) {
	w := newWood(t, 16, 16)
	old(t, w, api.KPair, 2)
	w.Clear()
	w.Cut(0)
	for at := range 32 {
		wantKind(t, w, word.Ref(at), 0, 0, api.ErrKind)
		wantGet(t, w, word.Ref(at), 0, 0, api.ErrKind)
		wantNoSet(t, w, word.Ref(at), 0, 2, api.ErrKind)
	}
}

// A field whose word looks like the first one of a thing is none: Kind, P5.2, P5.3.
func TestWithinThing(t *testing.T) {
	w := newWood(t, 64, 64)
	x, y := young(t, w, api.KVector, 12), old(t, w, api.KVector, 12)
	var heads []int64
	for _, k := range kinds() {
		h, code := word.Head(k[0], k[1])
		if code != 0 {
			t.Fatalf("Head(%d, %d): %d", k[0], k[1], code)
		}
		heads = append(heads, h)
	}
	for _, thing := range []int64{x, y} {
		link(t, w, thing, heads...)
		for i := range 12 {
			field := word.Ref(place(t, thing) + 1 + i)
			wantKind(t, w, field, 0, 0, api.ErrKind)
			wantGet(t, w, field, 0, 0, api.ErrKind)
			wantNoSet(t, w, field, 0, number(7), api.ErrKind)
		}
		wantKind(t, w, thing, api.KVector, 12, 0)
	}
	// What stands behind such fields is still found.
	wantKind(t, w, young(t, w, api.KPair, 2), api.KPair, 2, 0)
}

// P5.2, P5.3: each field of each kind, young and old, holds what was set, and no other one does.
func TestGetSet(t *testing.T) {
	w := newWood(t, 256, 256)
	var things []int64
	for _, k := range kinds() {
		things = append(things, young(t, w, k[0], k[1]), old(t, w, k[0], k[1]))
	}
	want := map[[2]int64]int64{}
	next := int64(0)
	for _, x := range things {
		kind, fields, _ := w.Kind(x)
		if kind == api.KGuard {
			continue
		}
		for i := range fields {
			wantGet(t, w, x, i, word.Nil(), 0)
			next++
			if code := w.Set(x, i, number(next)); code != 0 {
				t.Errorf("Set(%d, %d) = %d", x, i, code)
			}
			want[[2]int64{x, int64(i)}] = number(next)
		}
	}
	if len(want) != 2*(2+0+1+3+12+2+2) {
		t.Errorf("%d fields", len(want))
	}
	for f, y := range want {
		wantGet(t, w, f[0], int(f[1]), y, 0)
	}
}

// P5.2, P5.3: fields that a thing does not have.
func TestNoField(t *testing.T) {
	w := newWood(t, 256, 256)
	far := []int{-1, -2, -16, -1 << 32, math.MinInt, math.MinInt + 1, 13, 16, 1 << 32, math.MaxInt - 1, math.MaxInt}
	for _, k := range kinds() {
		if k[0] == api.KGuard {
			continue
		}
		for _, x := range []int64{young(t, w, k[0], k[1]), old(t, w, k[0], k[1])} {
			for _, i := range append(far, k[1], k[1]+1) {
				wantGet(t, w, x, i, 0, api.ErrRange)
				wantNoSet(t, w, x, i, word.Ref(0), api.ErrRange)
			}
		}
	}
}

// P5.2, P5.3: guardians have no fields to be asked for, whatever the number, and whatever waits there.
func TestGuardian(t *testing.T) {
	w := newWood(t, 32, 32)
	for _, g := range []int64{young(t, w, api.KGuard, 0), old(t, w, api.KGuard, 0)} {
		w.Side.Wait = append(w.Side.Wait, side.Entry{Guard: g, Thing: g})
		for _, i := range []int{-1, 0, 1, 12, math.MinInt, math.MaxInt} {
			wantGet(t, w, g, i, 0, api.ErrKind)
			wantNoSet(t, w, g, i, word.Ref(0), api.ErrKind)
		}
		wantKind(t, w, g, api.KGuard, 0, 0)
	}
}

// P5.3: a field is whatever word is given, one that is no value, too.
func TestSetAnyWord(t *testing.T) {
	w := newWood(t, 64, 64)
	for _, x := range []int64{young(t, w, api.KVector, 3), old(t, w, api.KVector, 3)} {
		for _, y := range append(strays(), x, 33, 50, word.Ref(0)) {
			link(t, w, x, number(1), y, number(3))
			wantGet(t, w, x, 0, number(1), 0)
			wantGet(t, w, x, 1, y, 0)
			wantGet(t, w, x, 2, number(3), 0)
			wantKind(t, w, x, api.KVector, 3, 0)
		}
	}
}

// P5.3: the card of an old thing is marked where a field of it leads to a place in use of the nursery.
func TestSetMarks(t *testing.T) {
	for _, k := range kinds() {
		if k[1] == 0 {
			continue
		}
		for i := range k[1] {
			w := newWood(t, 256, 256)
			x, y := old(t, w, api.KPair, 2), old(t, w, k[0], k[1])
			target := young(t, w, api.KGuard, 0)
			link(t, w, x, x, y)
			wantMarked(t, w)
			if code := w.Set(y, i, target); code != 0 {
				t.Errorf("Set: %d", code)
			}
			wantMarked(t, w, place(t, y))
		}
	}
}

// wantMarked holds that the cards of some places are marked, and no others.
func wantMarked(t *testing.T, w *wood.Wood, places ...int) {
	t.Helper()
	_, base := w.Bounds()
	cards := map[int]int{}
	for _, at := range places {
		cards[(at-base)/api.CardWords]++
	}
	for at := base; at < len(w.Words()); at++ {
		if dirty := w.Cards.Dirty(at); dirty != (cards[(at-base)/api.CardWords] > 0) {
			t.Errorf("the card of %d is marked: %v", at, dirty)
		}
	}
	if n := w.Cards.Count(); n != len(cards) {
		t.Errorf("%d cards are marked, want %d", n, len(cards))
	}
}

// P5.3: it is the card on which the thing begins, and not that on which the field stands.
func TestSetMarksThingsCard(t *testing.T) {
	w := newWood(t, 64, 64)
	target := young(t, w, api.KPair, 2)
	for range 3 {
		old(t, w, api.KVector, 12)
	}
	for n, at := range []int{64, 77, 90} {
		for i := range 12 {
			w.Cards.Clear()
			if code := w.Set(word.Ref(at), i, target); code != 0 {
				t.Errorf("Set(%d, %d): %d", n, i, code)
			}
			wantMarked(t, w, at)
		}
	}
	w.Cards.Clear()
	link(t, w, word.Ref(64), target)
	link(t, w, word.Ref(90), target)
	wantMarked(t, w, 64, 90)
}

// P5.3: a place of the nursery that is in use is enough, its first and its last one, and one within a thing.
func TestSetMarksPlaceInUse(t *testing.T) {
	w := newWood(t, 16, 16)
	x := old(t, w, api.KPair, 2)
	young(t, w, api.KVector, 3)
	for at := -1; at < 40; at++ {
		w.Cards.Clear()
		if at >= 0 {
			link(t, w, x, word.Ref(at))
		}
		if at >= 0 && at < 7 {
			wantMarked(t, w, 16)
		} else {
			wantMarked(t, w)
		}
	}
}

// P5.3: nothing is marked where a young thing is set, or a field that leads nowhere in the nursery.
func TestSetMarksNothing(t *testing.T) {
	w := newWood(t, 16, 32)
	x, y := old(t, w, api.KPair, 2), old(t, w, api.KVector, 3)
	w.Clear()
	a, b := young(t, w, api.KPair, 2), young(t, w, api.KPair, 2)
	link(t, w, a, a, b)
	link(t, w, b, x, y)
	link(t, w, x, x, y)
	for _, z := range strays() {
		if at, ok := word.At(z); ok && at < 6 {
			continue
		}
		link(t, w, x, z, z)
		link(t, w, a, z, z)
	}
	wantMarked(t, w)
	wantNoSet(t, w, x, 2, a, api.ErrRange)
	wantNoSet(t, w, x, -1, a, api.ErrRange)
	wantNoSet(t, w, word.Ref(17), 0, a, api.ErrKind)
	wantMarked(t, w)
}

// P5.3: a mark stays when the field leads elsewhere again.
func TestSetLeavesMarks(t *testing.T) {
	w := newWood(t, 16, 16)
	x := old(t, w, api.KPair, 2)
	link(t, w, x, word.Ref(0))
	link(t, w, x, word.Nil())
	wantMarked(t, w, 16)
}

// P1: a thing that is cut off has the fields that still stand, and none of the other space.
func TestCutOff(t *testing.T) {
	w := newWood(t, 16, 16)
	x := young(t, w, api.KVector, 12)
	w.Copy(place(t, x))
	young(t, w, api.KPair, 2)
	for i := range 12 {
		link(t, w, word.Ref(16), number(1), number(2))
		w.Cut(1 + i)
		wantKind(t, w, word.Ref(16), api.KVector, 12, 0)
		if i > 0 {
			wantGet(t, w, word.Ref(16), i-1, w.Load(16+i), 0)
		}
		wantGet(t, w, word.Ref(16), i, 0, api.ErrRange)
		wantNoSet(t, w, word.Ref(16), i, x, api.ErrRange)
		w.Cut(13)
	}
	head, _ := word.Head(api.KVector, 12)
	w.Store(13, head)
	wantKind(t, w, word.Ref(13), api.KVector, 12, 0)
	wantGet(t, w, word.Ref(13), 1, word.Nil(), 0)
	wantGet(t, w, word.Ref(13), 2, 0, api.ErrRange)
	wantNoSet(t, w, word.Ref(13), 2, x, api.ErrRange)
	w.Roots[0] = word.Ref(13)
	if n := len(w.View().Nodes[0].Fields); n != 2 {
		t.Errorf("View shows %d fields", n)
	}
}

// P1: behind a first word that is none nothing is a thing.
func TestBrokenFirstWord(t *testing.T) {
	w := newWood(t, 16, 16)
	a, b, c := young(t, w, api.KPair, 2), young(t, w, api.KPair, 2), young(t, w, api.KPair, 2)
	w.Store(place(t, b), 0)
	wantKind(t, w, a, api.KPair, 2, 0)
	wantKind(t, w, b, 0, 0, api.ErrKind)
	wantKind(t, w, c, 0, 0, api.ErrKind)
	w.Roots[0], w.Roots[1], w.Roots[2] = b, a, c
	wantView(t, w, []api.Val{none, ref(0), none}, pairNode(none, none))
}
