package arena_test

import (
	"math"
	"slices"
	"testing"

	"underwood/api"
	"underwood/arena"
	"underwood/word"
)

func newArena(t *testing.T, nursery, old int) *arena.Arena {
	t.Helper()
	a, f := arena.New(nursery, old)
	if a == nil || f != (api.Fault{}) {
		t.Fatalf("New(%d, %d) = %v, %v", nursery, old, a, f)
	}
	return a
}

// far are numbers that are places of no arena, and those at which sums wrap round.
func far() []int {
	return []int{
		-1, -2, -16, -1 << 32, math.MinInt, math.MinInt + 1, math.MinInt + 16,
		api.MaxNursery + api.MaxOld, 1 << 32, 1 << 62, math.MaxInt - 16, math.MaxInt - 1, math.MaxInt,
	}
}

// state is all that an arena tells of itself without being changed.
type state struct {
	words                              []int64
	usedYoung, usedOld, freeYoung, rem int
	youngBase, oldBase                 int
	young, old                         []int
}

func stateOf(a *arena.Arena) state {
	var s state
	s.words = a.Words()
	s.usedYoung, s.usedOld = a.Used()
	s.freeYoung, s.rem = a.Free()
	s.youngBase, s.oldBase = a.Bounds()
	s.young, s.old = a.Things()
	return s
}

func (s state) equal(o state) bool {
	return slices.Equal(s.words, o.words) &&
		s.usedYoung == o.usedYoung && s.usedOld == o.usedOld && s.freeYoung == o.freeYoung && s.rem == o.rem &&
		s.youngBase == o.youngBase && s.oldBase == o.oldBase &&
		slices.Equal(s.young, o.young) && slices.Equal(s.old, o.old)
}

// unchanged does what is to be refused, and tells if anything is otherwise behind it.
func unchanged(t *testing.T, a *arena.Arena, what string, do func()) {
	t.Helper()
	ahead := stateOf(a)
	do()
	if behind := stateOf(a); !ahead.equal(behind) {
		t.Errorf("%s changed %v to %v", what, ahead, behind)
	}
}

func wantUsed(t *testing.T, a *arena.Arena, young, old int) {
	t.Helper()
	if y, o := a.Used(); y != young || o != old {
		t.Errorf("Used() = %d, %d, want %d, %d", y, o, young, old)
	}
}

func wantFree(t *testing.T, a *arena.Arena, young, old int) {
	t.Helper()
	if y, o := a.Free(); y != young || o != old {
		t.Errorf("Free() = %d, %d, want %d, %d", y, o, young, old)
	}
}

func wantThings(t *testing.T, a *arena.Arena, young, old []int) {
	t.Helper()
	if y, o := a.Things(); !slices.Equal(y, young) || !slices.Equal(o, old) {
		t.Errorf("Things() = %v, %v, want %v, %v", y, o, young, old)
	}
}

// wantWords holds words in use against some others, from a place on.
func wantWords(t *testing.T, a *arena.Arena, at int, want ...int64) {
	t.Helper()
	for i, w := range want {
		if got := a.Load(at + i); got != w {
			t.Errorf("Load(%d) = %d, want %d", at+i, got, w)
		}
	}
}

// fill stores words from a place on, all of which are to be in use.
func fill(t *testing.T, a *arena.Arena, at int, words ...int64) {
	t.Helper()
	for i, w := range words {
		if !a.Store(at+i, w) {
			t.Fatalf("Store(%d, %d) = false", at+i, w)
		}
	}
}

// P2.1
func TestNew(t *testing.T) {
	for _, x := range []struct{ nursery, old int }{
		{16, 0}, {16, 1}, {16, 1024}, {17, 8}, {100, 100}, {255, 1023}, {256, 0}, {256, 1024},
	} {
		a := newArena(t, x.nursery, x.old)
		wantUsed(t, a, 0, 0)
		wantFree(t, a, x.nursery, x.old)
		wantThings(t, a, nil, nil)
		if y, o := a.Bounds(); y != 0 || o != x.nursery {
			t.Errorf("Bounds() = %d, %d, want 0, %d", y, o, x.nursery)
		}
		if w := a.Words(); !slices.Equal(w, make([]int64, x.nursery+x.old)) {
			t.Errorf("New(%d, %d) has the words %v", x.nursery, x.old, w)
		}
	}
}

// P2.1, the fault.
func TestNewFault(t *testing.T) {
	bad := [][2]int{
		{15, 0}, {15, 1024}, {257, 0}, {257, 1024}, {0, 8}, {-16, 8},
		{16, -1}, {256, -1}, {16, 1025}, {256, 1025}, {15, -1}, {257, 1025},
	}
	for _, n := range far() {
		bad = append(bad, [2]int{n, 8}, [2]int{16, n}, [2]int{n, n})
	}
	for _, x := range bad {
		a, f := arena.New(x[0], x[1])
		if a != nil || f != (api.Fault{Code: api.ErrRange, At: -1}) {
			t.Errorf("New(%d, %d) = %v, %v", x[0], x[1], a, f)
		}
	}
}

// P2.2
func TestMake(t *testing.T) {
	a := newArena(t, 32, 8)
	for _, x := range []struct{ kind, fields, at, used int }{
		{api.KPair, 2, 0, 3},
		{api.KVector, 0, 3, 4},
		{api.KVector, 12, 4, 17},
		{api.KWeak, 2, 17, 20},
		{api.KGuard, 0, 20, 21},
		{api.KEphem, 2, 21, 24},
		{api.KVector, 1, 24, 26},
	} {
		if at := a.Make(x.kind, x.fields); at != x.at {
			t.Fatalf("Make(%d, %d) = %d, want %d", x.kind, x.fields, at, x.at)
		}
		wantUsed(t, a, x.used, 0)
		wantFree(t, a, 32-x.used, 8)
		if k, n, code := a.Thing(x.at); k != x.kind || n != x.fields || code != 0 {
			t.Errorf("Thing(%d) = %d, %d, %d, want %d, %d, 0", x.at, k, n, code, x.kind, x.fields)
		}
		for i := 1; i <= x.fields; i++ {
			wantWords(t, a, x.at+i, 2)
		}
	}
	wantThings(t, a, []int{0, 3, 4, 17, 20, 21, 24}, nil)
}

// P2.2: a thing that just fits, and one that is a word too great.
func TestMakeRoom(t *testing.T) {
	for _, x := range []struct{ nursery, first, kind, fields, at int }{
		{16, 12, api.KPair, 2, 13},
		{16, 12, api.KVector, 2, 13},
		{16, 12, api.KVector, 3, -1},
		{16, 11, api.KVector, 3, 12},
		{16, 11, api.KVector, 4, -1},
		{16, 12, api.KVector, 12, -1},
		{17, 12, api.KVector, 3, 13},
		{17, 12, api.KVector, 4, -1},
		{25, 12, api.KVector, 12, -1},
		{26, 12, api.KVector, 12, 13},
	} {
		a := newArena(t, x.nursery, 8)
		a.Make(api.KVector, x.first)
		if x.at < 0 {
			unchanged(t, a, "a thing without room", func() {
				if at := a.Make(x.kind, x.fields); at != -1 {
					t.Errorf("%v: at %d", x, at)
				}
			})
			continue
		}
		if at := a.Make(x.kind, x.fields); at != x.at {
			t.Errorf("%v: at %d", x, at)
		}
		wantUsed(t, a, x.at+1+x.fields, 0)
	}
}

// P2.2: a nursery is filled to its last word, and then takes not even a thing of one word.
func TestMakeToTheEnd(t *testing.T) {
	for _, nursery := range []int{16, 17, 256} {
		a := newArena(t, nursery, 8)
		for i := range nursery {
			if at := a.Make(api.KGuard, 0); at != i {
				t.Fatalf("the thing %d is at %d", i, at)
			}
		}
		wantFree(t, a, 0, 8)
		for _, kind := range []int{api.KGuard, api.KVector} {
			unchanged(t, a, "a thing without room", func() {
				if at := a.Make(kind, 0); at != -1 {
					t.Errorf("in a full nursery: at %d", at)
				}
			})
		}
	}
}

// P2.2: what word.Head refuses.
func TestMakeNoThing(t *testing.T) {
	a := newArena(t, 64, 8)
	a.Make(api.KPair, 2)
	numbers := append(far(), 0, 1, 2, 3, 4, 5, 6, 11, 12, 13, 16, 17, 1<<60)
	for _, kind := range numbers {
		for _, fields := range numbers {
			if _, code := word.Head(kind, fields); code == 0 {
				continue
			}
			unchanged(t, a, "no thing", func() {
				if at := a.Make(kind, fields); at != -1 {
					t.Errorf("Make(%d, %d) = %d", kind, fields, at)
				}
			})
		}
	}
}

// P2.2: all fields are Nil, whatever stood there, and no word besides is touched.
func TestMakeOverWhatWas(t *testing.T) {
	a := newArena(t, 16, 8)
	a.Make(api.KVector, 12)
	a.Make(api.KPair, 2)
	a.Cut(8)
	for at := range 24 {
		fill(t, a, at, 1000+int64(at))
	}
	a.Clear()
	if at := a.Make(api.KVector, 5); at != 0 {
		t.Fatalf("at %d", at)
	}
	wantWords(t, a, 0, 16*5+2, 2, 2, 2, 2, 2, 0)
	for i := range 8 {
		wantWords(t, a, 16+i, 1016+int64(i))
	}
}

// The faces of Young and Old: at the ends of what is in use, and just outside.
func TestYoungAndOld(t *testing.T) {
	a := newArena(t, 16, 8)
	check := func(young, old int) {
		t.Helper()
		for at := -30; at <= 60; at++ {
			if got, want := a.Young(at), 0 <= at && at < young; got != want {
				t.Errorf("Young(%d) = %v", at, got)
			}
			if got, want := a.Old(at), 16 <= at && at < 16+old; got != want {
				t.Errorf("Old(%d) = %v", at, got)
			}
		}
		for _, at := range far() {
			if a.Young(at) || a.Old(at) {
				t.Errorf("%d is in use", at)
			}
		}
	}
	check(0, 0)
	a.Make(api.KPair, 2)
	check(3, 0)
	a.Copy(0)
	check(3, 3)
	a.Make(api.KVector, 12)
	check(16, 3)
	a.Cut(8)
	check(16, 8)
	a.Clear()
	check(0, 8)
	a.Cut(1)
	check(0, 1)
	a.Cut(0)
	check(0, 0)
}

// The faces of Load and Store: any word, at the ends of what is in use.
func TestLoadAndStore(t *testing.T) {
	a := newArena(t, 16, 8)
	a.Make(api.KPair, 2)
	a.Copy(0)
	words := []int64{0, 1, -1, 2, 3, 33, 1 << 62, math.MaxInt64, math.MinInt64}
	for _, at := range []int{0, 1, 2, 16, 17, 18} {
		for _, w := range words {
			rest := a.Words()
			if !a.Store(at, w) || a.Load(at) != w {
				t.Errorf("at %d: stored %d, loaded %d", at, w, a.Load(at))
			}
			rest[at] = w
			if got := a.Words(); !slices.Equal(got, rest) {
				t.Errorf("Store(%d, %d): %v, want %v", at, w, got, rest)
			}
		}
	}
	wantUsed(t, a, 3, 3)
}

// The faces of Load and Store: a place that is none, or not in use.
func TestLoadAndStoreOutside(t *testing.T) {
	a := newArena(t, 16, 8)
	a.Make(api.KVector, 12)
	a.Cut(8)
	for at := 16; at < 24; at++ {
		fill(t, a, at, 7)
	}
	for _, x := range []struct{ young, old int }{{13, 8}, {13, 5}, {13, 0}, {0, 3}, {0, 0}} {
		if x.young == 0 {
			a.Clear()
		}
		a.Cut(x.old)
		for _, at := range append(far(), x.young, x.young+1, 15, 16+x.old, 17+x.old, 24, 25) {
			if w := a.Load(at); w != 0 {
				t.Errorf("%v: Load(%d) = %d", x, at, w)
			}
			unchanged(t, a, "a word outside", func() {
				if a.Store(at, 99) {
					t.Errorf("%v: Store(%d, 99) = true", x, at)
				}
			})
		}
	}
}

// P2.3
func TestCopy(t *testing.T) {
	a := newArena(t, 32, 32)
	a.Make(api.KPair, 2)
	a.Make(api.KVector, 5)
	a.Make(api.KGuard, 0)
	fill(t, a, 1, 40, 29)
	fill(t, a, 4, 100, 104, 108, 3, -4)
	for _, x := range []struct {
		from, to int
		words    []int64
	}{
		{3, 32, []int64{82, 100, 104, 108, 3, -4}},
		{0, 38, []int64{33, 40, 29}},
		{9, 41, []int64{5}},
		{32, 42, []int64{82, 100, 104, 108, 3, -4}}, // from the old space
		{0, 48, []int64{33, 40, 29}},                // a second time
	} {
		ahead := a.Words()
		if to := a.Copy(x.from); to != x.to {
			t.Fatalf("Copy(%d) = %d, want %d", x.from, to, x.to)
		}
		wantWords(t, a, x.to, x.words...)
		wantUsed(t, a, 10, x.to+len(x.words)-32)
		if got := a.Words(); !slices.Equal(got[:x.to], ahead[:x.to]) {
			t.Errorf("Copy(%d) changed %v to %v", x.from, ahead[:x.to], got[:x.to])
		}
	}
	wantThings(t, a, []int{0, 3, 9}, []int{32, 38, 41, 42, 48})
}

// P2.3: a thing that just fits, and one that is a word too great.
func TestCopyRoom(t *testing.T) {
	for _, x := range []struct{ old, used, fields, to int }{
		{0, 0, 0, -1}, {1, 0, 0, 16}, {1, 1, 0, -1}, {1, 0, 1, -1},
		{8, 0, 7, 16}, {8, 0, 8, -1}, {8, 5, 2, 21}, {8, 5, 3, -1}, {8, 7, 0, 23}, {8, 8, 0, -1},
		{1024, 1011, 12, 16 + 1011}, {1024, 1012, 12, -1}, {1024, 1012, 11, 16 + 1012},
	} {
		a := newArena(t, 16, x.old)
		a.Make(api.KVector, x.fields)
		a.Cut(x.used)
		if x.to < 0 {
			unchanged(t, a, "a thing without room", func() {
				if to := a.Copy(0); to != -1 {
					t.Errorf("%v: at %d", x, to)
				}
			})
			continue
		}
		if to := a.Copy(0); to != x.to {
			t.Errorf("%v: at %d", x, to)
		}
		wantUsed(t, a, 1+x.fields, x.used+1+x.fields)
	}
}

func refuseCopy(t *testing.T, a *arena.Arena, what string, at int) {
	t.Helper()
	unchanged(t, a, what, func() {
		if to := a.Copy(at); to != -1 {
			t.Errorf("%s: Copy(%d) = %d", what, at, to)
		}
	})
}

// P2.3: there is no thing.
func TestCopyNoThing(t *testing.T) {
	a := newArena(t, 16, 32)
	a.Make(api.KVector, 3)
	a.Copy(0)
	for _, w := range []int64{0, 1, 3, 17, 49, 21, 210, 6, -1, -14, math.MinInt64 + 2, math.MaxInt64} {
		fill(t, a, 1, w)
		refuseCopy(t, a, "no first word", 1)
	}
	for _, at := range append(far(), 4, 5, 15, 20, 21, 47, 48, 49) {
		refuseCopy(t, a, "a place outside", at)
	}
	a.Clear()
	refuseCopy(t, a, "a thing of a nursery that was cleared", 0)
	a.Cut(0)
	refuseCopy(t, a, "a thing that was cut off", 16)
}

// P2.3: not all words of the thing are in use, in the nursery.
func TestCopyBeyondTheNursery(t *testing.T) {
	a := newArena(t, 16, 32)
	a.Make(api.KVector, 7)
	// 33 is a pair's first word: of its three words all, or one or two too few, are in use.
	for _, x := range []struct{ at, to int }{{5, 16}, {6, -1}, {7, -1}} {
		fill(t, a, x.at, 33)
		if x.to < 0 {
			refuseCopy(t, a, "a thing beyond what is in use", x.at)
		} else if to := a.Copy(x.at); to != x.to {
			t.Errorf("Copy(%d) = %d, want %d", x.at, to, x.to)
		}
	}

	// Now the words behind the nursery's end are in use; but they are the old space's.
	a.Make(api.KVector, 7)
	a.Cut(8)
	wantFree(t, a, 0, 24)
	fill(t, a, 13, 33, 33, 33)
	refuseCopy(t, a, "a thing that reaches into the old space by a word", 14)
	refuseCopy(t, a, "a thing that reaches into the old space by two words", 15)
	if to := a.Copy(13); to != 24 {
		t.Errorf("Copy(13) = %d", to)
	}
	wantWords(t, a, 24, 33, 33, 33)
}

// P2.3: not all words of the thing are in use, in the old space.
func TestCopyBeyondTheOldSpace(t *testing.T) {
	a := newArena(t, 16, 32)
	a.Make(api.KVector, 12)
	a.Copy(0)
	for n := 1; n < 13; n++ {
		a.Cut(n)
		refuseCopy(t, a, "a thing that was cut", 16)
	}
	a.Cut(13)
	if to := a.Copy(16); to != 29 {
		t.Errorf("Copy(16) = %d", to)
	}

	// The old space ends where all words do.
	a = newArena(t, 16, 8)
	a.Cut(8)
	fill(t, a, 22, 33, 194)
	refuseCopy(t, a, "a thing beyond the end", 22)
	refuseCopy(t, a, "a thing beyond the end", 23)
}

// The face of Thing.
func TestThing(t *testing.T) {
	a := newArena(t, 16, 16)
	a.Make(api.KVector, 12)
	a.Cut(16)
	words := []int64{33, 35, 36, 5, 2, 18, 194, 210, 0, 1, 3, 6, 32, 49, -14, math.MinInt64 + 2}
	for _, at := range []int{0, 5, 12, 16, 31} {
		for _, w := range words {
			fill(t, a, at, w)
			k, n, code := a.Thing(at)
			if kind, fields, want := word.Parts(w); k != kind || n != fields || code != want {
				t.Errorf("Thing(%d) = %d, %d, %d of %d", at, k, n, code, w)
			}
		}
	}
	for _, at := range append(far(), 13, 15, 32) {
		if k, n, code := a.Thing(at); k != 0 || n != 0 || code != api.ErrBits {
			t.Errorf("Thing(%d) = %d, %d, %d", at, k, n, code)
		}
	}
}

// P2.4
func TestThings(t *testing.T) {
	a := newArena(t, 32, 32)
	wantThings(t, a, nil, nil)
	a.Make(api.KPair, 2)
	wantThings(t, a, []int{0}, nil)
	a.Make(api.KVector, 0)
	a.Make(api.KGuard, 0)
	a.Make(api.KVector, 12)
	a.Make(api.KEphem, 2)
	wantThings(t, a, []int{0, 3, 4, 5, 18}, nil)
	a.Copy(5)
	a.Copy(3)
	a.Copy(18)
	wantThings(t, a, []int{0, 3, 4, 5, 18}, []int{32, 45, 46})

	fill(t, a, 1, 33) // within a thing a word that looks like a first word tells nothing
	wantThings(t, a, []int{0, 3, 4, 5, 18}, []int{32, 45, 46})
	fill(t, a, 5, 0)
	wantThings(t, a, []int{0, 3, 4}, []int{32, 45, 46})
	fill(t, a, 46, 2) // Nil is the first word of a vector without fields, too
	wantThings(t, a, []int{0, 3, 4}, []int{32, 45, 46, 47, 48})
	fill(t, a, 45, 210)
	wantThings(t, a, []int{0, 3, 4}, []int{32})
	fill(t, a, 32, 18)
	fill(t, a, 34, 3)
	wantThings(t, a, []int{0, 3, 4}, []int{32})
	fill(t, a, 32, 3)
	wantThings(t, a, []int{0, 3, 4}, nil)
	fill(t, a, 0, -1)
	wantThings(t, a, nil, nil)
}

// P2.4: a thing begins where its first word is, even if not all of its words are in use; what is behind them is asked no more.
func TestThingsBeyond(t *testing.T) {
	a := newArena(t, 16, 16)
	a.Make(api.KVector, 12)
	a.Make(api.KPair, 2)
	a.Copy(0)
	a.Copy(13)
	fill(t, a, 13, 194)
	wantThings(t, a, []int{0, 13}, []int{16, 29})
	fill(t, a, 0, 178)
	fill(t, a, 12, 50) // its three fields end where the nursery does
	wantThings(t, a, []int{0, 12}, []int{16, 29})
	fill(t, a, 12, 66) // and with four the next place is the old space's
	wantThings(t, a, []int{0, 12}, []int{16, 29})
	fill(t, a, 12, 18)
	fill(t, a, 14, 50) // from here on into the old space, at whose beginning a thing stands
	wantThings(t, a, []int{0, 12, 14}, []int{16, 29})
	a.Cut(15)
	wantThings(t, a, []int{0, 12, 14}, []int{16, 29})
	a.Cut(14)
	wantThings(t, a, []int{0, 12, 14}, []int{16, 29})
	a.Cut(13)
	wantThings(t, a, []int{0, 12, 14}, []int{16})
	a.Cut(1)
	wantThings(t, a, []int{0, 12, 14}, []int{16})
	a.Cut(0)
	wantThings(t, a, []int{0, 12, 14}, nil)
	a.Clear()
	wantThings(t, a, nil, nil)
}

// counted answers an arena, all of whose words are in use, and each tells its own place.
func counted(t *testing.T, nursery, old int) *arena.Arena {
	t.Helper()
	a := newArena(t, nursery, old)
	for range nursery {
		a.Make(api.KGuard, 0)
	}
	a.Cut(old)
	for at := range nursery + old {
		fill(t, a, at, int64(at)+1000)
	}
	return a
}

// The face of Move: every stretch to everywhere, apart, meeting in either direction, from one space to the other.
func TestMove(t *testing.T) {
	const all = 16 + 5
	for from := 0; from <= all; from++ {
		for to := 0; to <= all; to++ {
			for n := 0; n <= all-max(from, to); n++ {
				a := counted(t, 16, 5)
				want := a.Words()
				for i := range n {
					want[to+i] = int64(from+i) + 1000
				}
				a.Move(to, from, n)
				if got := a.Words(); !slices.Equal(got, want) {
					t.Fatalf("Move(%d, %d, %d): %v, want %v", to, from, n, got, want)
				}
				wantUsed(t, a, 16, 5)
			}
		}
	}
}

// The faces of Move and Cut: words are moved to places that are not in use yet, and are there when they are.
func TestMoveBehindWhatIsInUse(t *testing.T) {
	a := newArena(t, 16, 8)
	a.Make(api.KPair, 2)
	fill(t, a, 1, 40, 44)
	a.Move(16, 0, 3)
	wantUsed(t, a, 3, 0)
	wantWords(t, a, 16, 0, 0, 0)
	a.Cut(3)
	wantWords(t, a, 16, 33, 40, 44)
	a.Move(21, 16, 3)
	wantUsed(t, a, 3, 3)
	a.Cut(8)
	wantWords(t, a, 16, 33, 40, 44)
	wantWords(t, a, 21, 33, 40, 44)
}

// P1: of places that there are not nothing is promised of Move, but that it ends, and what is in use stays so.
func TestMoveOutside(t *testing.T) {
	numbers := append(far(), 0, 1, 15, 16, 20, 21, 22)
	a := counted(t, 16, 5)
	for _, to := range numbers {
		for _, from := range numbers {
			for _, n := range numbers {
				a.Move(to, from, n)
			}
		}
	}
	wantUsed(t, a, 16, 5)
	if n := len(a.Words()); n != 21 {
		t.Errorf("%d words", n)
	}
}

// The face of Clear: nothing of the nursery is in use, and the old space is as it was.
func TestClear(t *testing.T) {
	a := newArena(t, 16, 8)
	a.Make(api.KVector, 12)
	a.Make(api.KPair, 2)
	a.Copy(13)
	a.Clear()
	wantUsed(t, a, 0, 3)
	wantFree(t, a, 16, 5)
	wantWords(t, a, 0, 0, 0, 0)
	wantWords(t, a, 16, 33, 2, 2)
	wantThings(t, a, nil, []int{16})
	a.Clear()
	wantUsed(t, a, 0, 3)
	if at := a.Make(api.KPair, 2); at != 0 {
		t.Errorf("the next thing is at %d", at)
	}
}

// The face of Cut: less and more are in use, from none to all; the nursery is as it was.
func TestCut(t *testing.T) {
	a := newArena(t, 16, 8)
	a.Make(api.KVector, 6)
	a.Copy(0)
	for _, n := range []int{7, 6, 0, 1, 8, 3, 8} {
		a.Cut(n)
		wantUsed(t, a, 7, n)
		wantFree(t, a, 9, 8-n)
		if n > 0 {
			wantWords(t, a, 16, 98)
		}
	}
	wantWords(t, a, 0, 98, 2, 2, 2, 2, 2, 2)
	a.Cut(2)
	a.Make(api.KPair, 2)
	if to := a.Copy(7); to != 18 {
		t.Errorf("the next thing is at %d", to)
	}
	wantWords(t, a, 16, 98, 2, 33, 2, 2)
}

// P1: of numbers that there are not nothing is promised of Cut, but that it ends, and no more is in use than there is.
func TestCutOutside(t *testing.T) {
	for _, n := range append(far(), 9, 10, 24, 25) {
		a := newArena(t, 16, 8)
		a.Make(api.KPair, 2)
		a.Copy(0)
		a.Cut(n)
		if _, old := a.Used(); old < 0 || old > 8 {
			t.Errorf("Cut(%d): %d words in use", n, old)
		}
		for at := -2; at <= 26; at++ {
			a.Load(at)
			a.Store(at, 33)
			a.Thing(at)
			a.Copy(at)
		}
		stateOf(a)
	}
}

// The face of Words: all of them, in use or not, and a list of its own.
func TestWords(t *testing.T) {
	a := counted(t, 16, 5)
	w := a.Words()
	if len(w) != 21 {
		t.Fatalf("%d words", len(w))
	}
	for at, x := range w {
		if x != int64(at)+1000 {
			t.Errorf("the word %d is %d", at, x)
		}
	}
	w[0], w[16] = 1, 1
	wantWords(t, a, 0, 1000)
	wantWords(t, a, 16, 1016)
	fill(t, a, 1, 7)
	if w[1] != 1001 {
		t.Error("a list that was told is changed by Store")
	}
	if v := a.Words(); v[0] != 1000 || v[1] != 7 {
		t.Errorf("the next list is %v", v)
	}
	a.Clear()
	a.Cut(0)
	if n := len(a.Words()); n != 21 {
		t.Errorf("%d words, none of them in use", n)
	}
}

// What holds everywhere: the lists of one answer share no memory, nor do those of two answers.
func TestThingsAreNewMemory(t *testing.T) {
	a := newArena(t, 32, 32)
	for range 5 {
		a.Copy(a.Make(api.KPair, 2))
	}
	young, old := a.Things()
	_ = append(young, -7)
	_ = append(old, -7)
	for i := range young {
		young[i] = -1
	}
	if want := []int{32, 35, 38, 41, 44}; !slices.Equal(old, want) {
		t.Errorf("the old list is %v, want %v", old, want)
	}
	for i := range old {
		old[i] = -1
	}
	wantThings(t, a, []int{0, 3, 6, 9, 12}, []int{32, 35, 38, 41, 44})
}

// P1: one arena tells nothing of what was asked of another.
func TestArenasStandApart(t *testing.T) {
	a, b := newArena(t, 16, 8), newArena(t, 16, 8)
	a.Make(api.KPair, 2)
	a.Copy(0)
	fill(t, a, 1, 40)
	wantUsed(t, b, 0, 0)
	if !slices.Equal(b.Words(), make([]int64, 24)) {
		t.Errorf("the other arena's words are %v", b.Words())
	}
	b.Make(api.KVector, 3)
	wantWords(t, a, 0, 33, 40, 2)
}
