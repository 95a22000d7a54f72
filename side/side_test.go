package side_test

import (
	"math"
	"slices"
	"testing"

	"underwood/api"
	"underwood/side"
)

// entry is short for a guardian and a thing.
func entry(guard, thing int64) side.Entry { return side.Entry{Guard: guard, Thing: thing} }

// list is short for entries, told as guardian, thing, guardian, thing.
func list(words ...int64) []side.Entry {
	var l []side.Entry
	for i := 0; i+1 < len(words); i += 2 {
		l = append(l, entry(words[i], words[i+1]))
	}
	return l
}

// edges are words of 0, below 0 and at both ends of 64 bits.
func edges() []int64 {
	return []int64{0, 1, -1, 2, -2, 1 << 62, -1 << 62, math.MaxInt64 - 1, math.MaxInt64, math.MinInt64 + 1, math.MinInt64}
}

// sideOf answers a Side in which these are registered and wait, as Reg and Settle bring it about.
// What is to wait goes through Settle under other words, so that no guardian of it is one of its things there.
func sideOf(t *testing.T, regs, wait []side.Entry) *side.Side {
	t.Helper()
	s := &side.Side{}
	var words []int64
	for _, e := range wait {
		n := int64(len(words))
		words = append(words, e.Guard, e.Thing)
		reg(t, s, entry(n, n+1))
	}
	s.Settle(side.Living{
		Alive: func(w int64) bool { return w%2 == 0 },
		Keep:  func(w int64) int64 { return w },
		Now:   func(w int64) int64 { return words[w] },
	})
	reg(t, s, regs...)
	wantSide(t, s, regs, wait)
	if t.Failed() {
		t.FailNow()
	}
	return s
}

func reg(t *testing.T, s *side.Side, entries ...side.Entry) {
	t.Helper()
	for _, e := range entries {
		if !s.Reg(e) {
			t.Errorf("Reg(%v) = false", e)
		}
	}
}

func wantSide(t *testing.T, s *side.Side, regs, wait []side.Entry) {
	t.Helper()
	if !slices.Equal(s.Regs, regs) {
		t.Errorf("registered: %v, want %v", s.Regs, regs)
	}
	if !slices.Equal(s.Wait, wait) {
		t.Errorf("waiting: %v, want %v", s.Wait, wait)
	}
}

func wantAt(t *testing.T, s *side.Side, guard int64, want ...int64) {
	t.Helper()
	if got := s.At(guard); !slices.Equal(got, want) {
		t.Errorf("At(%d) = %v, want %v", guard, got, want)
	}
}

func wantPop(t *testing.T, s *side.Side, guard, want int64) {
	t.Helper()
	if thing, ok := s.Pop(guard); thing != want || !ok {
		t.Errorf("Pop(%d) = %d, %v, want %d, true", guard, thing, ok, want)
	}
}

func wantNoPop(t *testing.T, s *side.Side, guards ...int64) {
	t.Helper()
	for _, guard := range guards {
		if thing, ok := s.Pop(guard); thing != 0 || ok {
			t.Errorf("Pop(%d) = %d, %v, want 0, false", guard, thing, ok)
		}
	}
}

func wantFull(t *testing.T, s *side.Side, want bool) {
	t.Helper()
	if got := s.Full(); got != want {
		t.Errorf("Full() = %v of %d and %d", got, len(s.Regs), len(s.Wait))
	}
}

// The zero Side is an empty one, for every face; none of its looks is needed.
func TestEmptySide(t *testing.T) {
	s := &side.Side{}
	wantFull(t, s, false)
	wantNoPop(t, s, edges()...)
	for _, w := range edges() {
		wantAt(t, s, w)
	}
	if s.Wake(side.Living{}) || s.Wake(newWorld(edges()...).living()) {
		t.Errorf("Wake of nothing = true")
	}
	s.Settle(side.Living{})
	s.Settle(newWorld(edges()...).living())
	wantSide(t, s, nil, nil)
	c := s.Copy()
	wantSide(t, c, nil, nil)
	reg(t, c, entry(1, 2))
	wantSide(t, c, list(1, 2), nil)
	wantSide(t, s, nil, nil)
}

// Reg: one more is registered, behind those that came ahead; nothing comes to wait by it.
func TestReg(t *testing.T) {
	s := &side.Side{}
	var want []side.Entry
	for _, e := range list(1, 10, 2, 5, 1, 3, 7, 10) {
		reg(t, s, e)
		want = append(want, e)
		wantSide(t, s, want, nil)
		wantAt(t, s, e.Guard)
		wantNoPop(t, s, e.Guard)
	}
}

// The same entry may be registered several times; each is one.
func TestRegSame(t *testing.T) {
	s := &side.Side{}
	for n := range api.MaxRegs {
		wantFull(t, s, false)
		reg(t, s, entry(3, 4))
		if len(s.Regs) != n+1 {
			t.Fatalf("%d are registered, want %d", len(s.Regs), n+1)
		}
	}
	wantFull(t, s, true)
	w := newWorld(3)
	s.Settle(w.living())
	wantSide(t, s, nil, slices.Repeat(list(w.now(3), w.now(w.kept(4))), api.MaxRegs))
	for range api.MaxRegs {
		wantPop(t, s, w.now(3), w.now(w.kept(4)))
	}
	wantNoPop(t, s, w.now(3))
}

// A guardian may be a thing, of itself and of others.
func TestRegGuardians(t *testing.T) {
	all := list(1, 1, 1, 2, 2, 1, 2, 2, 3, 1)
	s := sideOf(t, all, all)
	wantAt(t, s, 1, 1, 2)
	wantAt(t, s, 2, 1, 2)
	wantAt(t, s, 3, 1)
	wantPop(t, s, 2, 1)
	wantSide(t, s, all, list(1, 1, 1, 2, 2, 2, 3, 1))
}

// Full: MaxRegs entries in all, of both kinds; one less is not; then Reg changes nothing.
func TestFull(t *testing.T) {
	for waiting := range api.MaxRegs + 1 {
		var wait []side.Entry
		for k := range waiting {
			wait = append(wait, entry(1, int64(k)))
		}
		s := sideOf(t, nil, wait)
		var regs []side.Entry
		for k := waiting; k < api.MaxRegs; k++ {
			wantFull(t, s, false)
			reg(t, s, entry(2, int64(k)))
			regs = append(regs, entry(2, int64(k)))
		}
		wantFull(t, s, true)
		for _, e := range list(2, 0, 0, 0, 1, 1) {
			if s.Reg(e) {
				t.Errorf("Reg(%v) of a full Side = true", e)
			}
		}
		wantSide(t, s, regs, wait)
		wantFull(t, s.Copy(), true)
		if waiting > 0 {
			wantPop(t, s, 1, 0)
			wantFull(t, s, false)
			reg(t, s, entry(5, 5))
			wantFull(t, s, true)
		}
	}
}

// What Settle brings to wait is counted as ahead, and what it lets go of is not.
func TestFullBehindSettle(t *testing.T) {
	s := &side.Side{}
	for k := range int64(api.MaxRegs) {
		reg(t, s, entry(1+k%2, 100+k))
	}
	s.Settle(newWorld(1, 2).living())
	wantFull(t, s, true)
	if len(s.Regs) != 0 || s.Reg(entry(1, 1)) {
		t.Errorf("%d are registered still, or one more is", len(s.Regs))
	}
	w := newWorld(s.Wait[0].Guard)
	w.live(s.At(s.Wait[0].Guard)...)
	s.Settle(w.living())
	wantFull(t, s, false)
	if len(s.Wait) != api.MaxRegs/2 {
		t.Errorf("%d wait", len(s.Wait))
	}
	reg(t, s, slices.Repeat(list(1, 2), api.MaxRegs/2)...)
	wantFull(t, s, true)
}

// Pop: the one that waits longest at that guardian, from the front and from the middle, till nothing waits there.
func TestPop(t *testing.T) {
	regs := list(3, 9, 1, 8)
	s := sideOf(t, regs, list(1, 10, 2, 20, 1, 11, 3, 30, 2, 20, 1, 10))
	wantNoPop(t, s, 4, 0, 10, 20, -1)
	wantPop(t, s, 1, 10)
	wantSide(t, s, regs, list(2, 20, 1, 11, 3, 30, 2, 20, 1, 10))
	wantPop(t, s, 3, 30)
	wantSide(t, s, regs, list(2, 20, 1, 11, 2, 20, 1, 10))
	wantNoPop(t, s, 3)
	wantPop(t, s, 1, 11)
	wantPop(t, s, 1, 10)
	wantSide(t, s, regs, list(2, 20, 2, 20))
	wantNoPop(t, s, 1, 3)
	wantPop(t, s, 2, 20)
	wantPop(t, s, 2, 20)
	wantNoPop(t, s, 1, 2, 3)
	wantSide(t, s, regs, nil)
}

// At: in the order in which they came, each as often as it waits; asking changes nothing.
func TestAt(t *testing.T) {
	regs, wait := list(1, 99), list(1, 30, 2, 7, 1, 10, 1, 20, 2, 7, 1, 10)
	s := sideOf(t, regs, wait)
	for range 2 {
		wantAt(t, s, 1, 30, 10, 20, 10)
		wantAt(t, s, 2, 7, 7)
		wantAt(t, s, 3)
		wantAt(t, s, 30)
	}
	wantSide(t, s, regs, wait)
	wantPop(t, s, 1, 30)
	wantAt(t, s, 1, 10, 20, 10)
}

// What At answered is new memory: of no Side, no Copy, and no other answer.
func TestAtStandsAlone(t *testing.T) {
	wait := list(1, 10, 1, 11, 2, 12)
	s := sideOf(t, nil, wait)
	c := s.Copy()
	first, second, third := s.At(1), s.At(1), c.At(1)
	first[0], first[1] = -5, -6
	first = append(first[:1], 77)
	if want := []int64{10, 11}; !slices.Equal(second, want) || !slices.Equal(third, want) || first[1] != 77 {
		t.Errorf("%v, %v behind a change of %v", second, third, first)
	}
	for _, x := range []*side.Side{s, c} {
		wantSide(t, x, nil, wait)
		wantAt(t, x, 1, 10, 11)
	}
	wantPop(t, s, 1, 10)
	if !slices.Equal(second, []int64{10, 11}) {
		t.Errorf("Pop changed what At answered to %v", second)
	}
}

// Copy: another one like it; what is done to either does not change the other.
func TestCopy(t *testing.T) {
	regs, wait := list(1, 40, 2, 41), list(1, 10, 2, 11, 1, 12)
	for _, change := range []func(s *side.Side){
		func(s *side.Side) { s.Reg(entry(7, 7)) },
		func(s *side.Side) { s.Pop(1) },
		func(s *side.Side) { s.Pop(2) },
		func(s *side.Side) { s.Wake(newWorld(1, 2).living()) },
		func(s *side.Side) { s.Settle(newWorld(1, 2, 40).living()) },
		func(s *side.Side) { s.Settle(newWorld().living()) },
		func(s *side.Side) { s.Regs[0], s.Wait[0] = entry(0, 0), entry(0, 0) },
		func(s *side.Side) { s.Regs, s.Wait = append(s.Regs[:1], entry(5, 5)), append(s.Wait[:1], entry(6, 6)) },
	} {
		s := sideOf(t, regs, wait)
		c := s.Copy()
		wantSide(t, c, regs, wait)
		change(c)
		wantSide(t, s, regs, wait)
		if slices.Equal(c.Regs, regs) && slices.Equal(c.Wait, wait) {
			t.Errorf("nothing was changed")
		}
		c = s.Copy()
		change(s)
		wantSide(t, c, regs, wait)
	}
}

// A Copy of a Copy is one, too, and both grow on their own, whatever room their lists have.
func TestCopiesGrow(t *testing.T) {
	s := &side.Side{}
	reg(t, s, list(1, 1, 1, 2, 1, 3)...)
	c := s.Copy()
	d := c.Copy()
	reg(t, s, entry(2, 4))
	reg(t, c, entry(3, 5))
	reg(t, d, entry(4, 6), entry(4, 7))
	wantSide(t, s, list(1, 1, 1, 2, 1, 3, 2, 4), nil)
	wantSide(t, c, list(1, 1, 1, 2, 1, 3, 3, 5), nil)
	wantSide(t, d, list(1, 1, 1, 2, 1, 3, 4, 6, 4, 7), nil)
}

// Lists that were read of a Side stay as they are, and so does what lies behind their length, whatever is asked then.
func TestListsAreNotWritten(t *testing.T) {
	regs, wait := list(1, 40, 2, 41), list(1, 10, 2, 11, 1, 12)
	for _, change := range []func(s *side.Side){
		func(s *side.Side) { s.Reg(entry(7, 7)) },
		func(s *side.Side) { s.Pop(1) },
		func(s *side.Side) { s.Wake(newWorld(1, 2).living()) },
		func(s *side.Side) { s.Settle(newWorld(1, 2).living()) },
	} {
		s := sideOf(t, regs, wait)
		s.Regs, s.Wait = append(s.Regs, regs...), append(s.Wait, wait...)
		longRegs, longWait := s.Regs, s.Wait
		s.Regs, s.Wait = s.Regs[:len(regs)], s.Wait[:len(wait)]
		change(s)
		wantSide(t, &side.Side{Regs: longRegs, Wait: longWait}, slices.Repeat(regs, 2), slices.Repeat(wait, 2))
	}
}

// Words are any numbers: none of them stands for something else.
func TestEdgesOfWords(t *testing.T) {
	var all []side.Entry
	for i, w := range edges() {
		all = append(all, entry(w, edges()[len(edges())-1-i]), entry(w, w))
	}
	s := sideOf(t, nil, all)
	for i, w := range edges() {
		wantAt(t, s, w, edges()[len(edges())-1-i], w)
	}
	wantNoPop(t, s, 3, -3, math.MaxInt64-2, math.MinInt64+2)
	c := s.Copy()
	for i, w := range edges() {
		wantPop(t, c, w, edges()[len(edges())-1-i])
		wantPop(t, c, w, w)
		wantNoPop(t, c, w)
	}
	wantSide(t, c, nil, nil)
	wantSide(t, s, nil, all)
	reg(t, c, all...)
	wantSide(t, c, all, nil)
}
