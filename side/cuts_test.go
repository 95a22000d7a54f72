package side_test

import (
	"slices"
	"testing"

	"underwood/api"
	"underwood/side"
)

func wantKeeps(t *testing.T, w *world, want ...int64) {
	t.Helper()
	if !slices.Equal(w.keeps, want) {
		t.Errorf("Keep was asked of %v, want %v", w.keeps, want)
	}
}

// wantWake asks Wake, and holds against it what it answers, and how things wait then; what is registered stays.
func wantWake(t *testing.T, s *side.Side, l side.Living, want bool, wait []side.Entry) {
	t.Helper()
	regs := slices.Clone(s.Regs)
	if got := s.Wake(l); got != want {
		t.Errorf("Wake = %v, want %v", got, want)
	}
	wantSide(t, s, regs, wait)
}

// P4.1: a thing that is not alive, of a guardian that is, is kept; its word is what Keep answers, and not as Now tells it.
func TestWakeKeeps(t *testing.T) {
	s := sideOf(t, list(1, 50, 2, 10), list(1, 10, 1, 11, 2, 12))
	w := newWorld(1, 2)
	wantWake(t, s, w.living(), true, w.asKept(list(1, 10, 1, 11, 2, 12)))
	wantKeeps(t, w, 10, 11, 12)
	wantWake(t, s, w.living(), false, w.asKept(list(1, 10, 1, 11, 2, 12)))
	wantKeeps(t, w, 10, 11, 12)
}

// P4.1: what is alive is left as it is.
func TestWakeLeavesTheLiving(t *testing.T) {
	all := list(1, 10, 1, 11, 2, 10)
	s := sideOf(t, list(1, 9), all)
	w := newWorld(1, 2, 10, 11)
	wantWake(t, s, w.living(), false, all)
	wantKeeps(t, w)
	w = newWorld(1, 2, 10)
	wantWake(t, s, w.living(), true, list(1, 10, 1, w.kept(11), 2, 10))
	wantKeeps(t, w, 11)
}

// P4.1: what waits at a guardian that is not alive is left, whether it is alive or not.
func TestWakeLeavesOtherGuardians(t *testing.T) {
	all := list(1, 10, 2, 11, 3, 12)
	for _, alive := range [][]int64{nil, {10}, {10, 11, 12}, {50}} {
		s := sideOf(t, list(1, 9), all)
		w := newWorld(alive...)
		wantWake(t, s, w.living(), false, all)
		wantKeeps(t, w)
	}
	s := sideOf(t, nil, all)
	w := newWorld(2)
	wantWake(t, s, w.living(), true, list(1, 10, 2, w.kept(11), 3, 12))
	wantKeeps(t, w, 11)
}

// P4.1: one that is alive by an earlier one of the same call is left as it is.
func TestWakeLeavesWhatCameAlive(t *testing.T) {
	s := sideOf(t, nil, list(1, 10, 1, 11, 1, 10, 1, 12))
	w := newWorld(1).lead(10, 11)
	wantWake(t, s, w.living(), true, list(1, w.kept(10), 1, 11, 1, 10, 1, w.kept(12)))
	wantKeeps(t, w, 10, 12)
}

// P4.1: a guardian that is alive by an earlier one counts; one by a later one does so in the next call alone.
func TestWakeGuardiansThatComeAlive(t *testing.T) {
	s := sideOf(t, nil, list(1, 10, 2, 20))
	w := newWorld(1).lead(10, 2)
	wantWake(t, s, w.living(), true, w.asKept(list(1, 10, 2, 20)))
	wantKeeps(t, w, 10, 20)

	s = sideOf(t, nil, list(2, 20, 1, 10))
	w = newWorld(1).lead(10, 2)
	wantWake(t, s, w.living(), true, list(2, 20, 1, w.kept(10)))
	wantKeeps(t, w, 10)
	wantWake(t, s, w.living(), true, list(2, w.kept(20), 1, w.kept(10)))
	wantKeeps(t, w, 10, 20)
	wantWake(t, s, w.living(), false, list(2, w.kept(20), 1, w.kept(10)))
}

// P4.1: a guardian that waits: at itself it is left, as alive or as not; at another one it is a thing like any.
func TestWakeGuardiansAsThings(t *testing.T) {
	for _, alive := range [][]int64{{1}, nil} {
		s := sideOf(t, nil, list(1, 1))
		w := newWorld(alive...)
		wantWake(t, s, w.living(), false, list(1, 1))
	}
	s := sideOf(t, nil, list(2, 1, 1, 2, 1, 1, 3, 2))
	w := newWorld(3)
	wantWake(t, s, w.living(), true, list(2, 1, 1, 2, 1, 1, 3, w.kept(2)))
	wantWake(t, s, w.living(), true, list(2, w.kept(1), 1, 2, 1, 1, 3, w.kept(2)))
	wantKeeps(t, w, 2, 1)
}

// P4.1: words are any numbers, and so is what Keep answers.
func TestWakeEdgesOfWords(t *testing.T) {
	for _, guard := range edges() {
		for _, thing := range edges() {
			for _, answer := range edges() {
				s := sideOf(t, nil, list(guard, thing))
				alive := map[int64]int{guard: 1}
				l := side.Living{
					Alive: func(x int64) bool { return alive[x] > 0 },
					Keep:  func(int64) int64 { return answer },
				}
				if guard == thing {
					wantWake(t, s, l, false, list(guard, thing))
				} else {
					wantWake(t, s, l, true, list(guard, answer))
				}
			}
		}
	}
}

// settled asks Settle of what is registered and waits, and holds against it what is so then, as Now tells it.
func settled(t *testing.T, w *world, regs, wait, thenRegs, thenWait []side.Entry) {
	t.Helper()
	s := sideOf(t, regs, wait)
	s.Settle(w.living())
	wantSide(t, s, w.asNow(thenRegs), w.asNow(thenWait))
}

// P4.2: nothing dead: all stays where it is, each word as Now tells it.
func TestSettleNothingDead(t *testing.T) {
	regs, wait := list(1, 10, 2, 11, 1, 10, 1, 2, 2, 2), list(2, 12, 1, 13, 1, 10)
	w := newWorld(1, 2, 10, 11, 12, 13)
	settled(t, w, regs, wait, regs, wait)
	wantKeeps(t, w)
}

// P4.2: all dead, of guardians that are alive: all wait, behind all others, in the order in which they were registered.
func TestSettleAllDead(t *testing.T) {
	w := newWorld(1, 2, 30, 31)
	regs, wait := list(1, 12, 2, 10, 1, 11, 2, 12), list(2, 30, 1, 31)
	settled(t, w, regs, wait, nil, slices.Concat(wait, w.asKept(regs)))
	wantKeeps(t, w, 12, 10, 11, 12)
}

// P4.2: some dead: the others stay registered, in order; nothing of what is alive is kept or waits.
func TestSettleSomeDead(t *testing.T) {
	w := newWorld(1, 2, 10, 12, 30)
	settled(t, w, list(1, 10, 1, 11, 2, 12, 2, 13, 1, 12), list(1, 30),
		list(1, 10, 2, 12, 1, 12), list(1, 30, 1, w.kept(11), 2, w.kept(13)))
	wantKeeps(t, w, 11, 13)
}

// P4.2: nothing alive: nothing is kept, and nothing stays.
func TestSettleNothingAlive(t *testing.T) {
	w := newWorld()
	settled(t, w, list(1, 10, 2, 11, 1, 1), list(1, 12, 3, 3), nil, nil)
	wantKeeps(t, w)
}

// P4.2: dead is what is not alive at first, even if it is alive by what is kept ahead of it.
func TestSettleDeadAtFirst(t *testing.T) {
	w := newWorld(1).lead(10, 11, 12)
	regs := list(1, 10, 1, 11, 1, 10, 1, 12)
	settled(t, w, regs, nil, nil, w.asKept(regs))
	wantKeeps(t, w, 10, 11, 10, 12)

	w = newWorld(1).lead(12, 11, 10)
	settled(t, w, regs, nil, nil, w.asKept(regs))
	wantKeeps(t, w, 10, 11, 10, 12)
}

// P4.2: a dead thing of a guardian that is not alive at last goes, though another guardian keeps it.
func TestSettleDeadOfOtherGuardians(t *testing.T) {
	w := newWorld(1)
	settled(t, w, list(2, 10, 1, 10, 2, 10, 2, 11), nil, nil, list(1, w.kept(10)))
	wantKeeps(t, w, 10)
}

// P4.2: entries of guardians that are not alive at last go, of living things, too, of what is registered and of what waits.
func TestSettleOtherGuardiansGo(t *testing.T) {
	w := newWorld(1, 10, 11)
	settled(t, w, list(2, 10, 1, 10, 3, 11, 2, 12, 1, 11), list(3, 11, 1, 10, 2, 10, 2, 13),
		list(1, 10, 1, 11), list(1, 10))
	wantKeeps(t, w)
}

// P4.2: what waits stays by its guardian alone: Settle keeps nothing of it, even if it is not alive.
func TestSettleDoesNotKeepWhatWaits(t *testing.T) {
	w := newWorld(1)
	settled(t, w, nil, list(1, 10, 2, 11, 1, 12), nil, list(1, 10, 1, 12))
	wantKeeps(t, w)
}

// P4.2: a guardian that is alive by what is kept ahead of its entries: they come in the same turn.
func TestSettleGuardianAliveByOneAhead(t *testing.T) {
	w := newWorld(1).lead(10, 2).lead(20, 3)
	regs := list(1, 10, 2, 20, 3, 30, 1, 11)
	settled(t, w, regs, nil, nil, w.asKept(regs))
	wantKeeps(t, w, 10, 20, 30, 11)
}

// P4.2: a guardian that is alive by what is kept behind its entries: they come in the next turn, behind those of this one.
func TestSettleGuardianAliveByOneBehind(t *testing.T) {
	w := newWorld(1).lead(10, 2).lead(20, 3)
	settled(t, w, list(3, 30, 2, 20, 1, 10, 1, 11), nil,
		nil, w.asKept(list(1, 10, 1, 11, 2, 20, 3, 30)))
	wantKeeps(t, w, 10, 11, 20, 30)
}

// P4.2: several turns, some entries ahead of what makes their guardian alive, and some behind it.
func TestSettleSeveralTurns(t *testing.T) {
	w := newWorld(1, 90).lead(10, 2).lead(20, 3).lead(31, 4)
	settled(t, w,
		list(4, 40, 3, 30, 2, 20, 5, 50, 1, 10, 2, 21, 3, 31, 4, 90, 5, 90), list(4, 90, 5, 90, 1, 90),
		list(4, 90), slices.Concat(list(4, 90, 1, 90), w.asKept(list(1, 10, 2, 21, 2, 20, 3, 31, 4, 40, 3, 30))))
	wantKeeps(t, w, 10, 21, 20, 31, 40, 30)
}

// P4.2: as many turns as there are entries, each guardian alive by the thing of the entry behind, or of the one ahead.
func TestSettleLongChains(t *testing.T) {
	for _, back := range []bool{true, false} {
		w := newWorld(1)
		var ahead []side.Entry
		for k := range int64(api.MaxRegs) {
			ahead = append(ahead, entry(1+k, 100+k))
			w.lead(100+k, 2+k)
		}
		regs := slices.Clone(ahead)
		if back {
			slices.Reverse(regs)
		}
		settled(t, w, regs, nil, nil, w.asKept(ahead))
	}
}

// P4.2: what a living thing's entry is registered with may come alive in a late turn: it stays then.
func TestSettleStaysByLateGuardian(t *testing.T) {
	w := newWorld(1, 90).lead(10, 2)
	settled(t, w, list(2, 90, 3, 90, 1, 10), list(2, 90, 3, 90), list(2, 90), list(2, 90, 1, w.kept(10)))
}

// P4.2: guardians as things: of themselves they keep nothing alive; of others they come to wait, and count from then on.
func TestSettleGuardiansAsThings(t *testing.T) {
	w := newWorld()
	settled(t, w, list(1, 1, 1, 2, 2, 1), nil, nil, nil)
	wantKeeps(t, w)

	w = newWorld(1)
	settled(t, w, list(1, 1, 2, 2, 2, 1, 1, 2, 2, 10), nil,
		list(1, 1, 2, 1), w.asKept(list(1, 2, 2, 10, 2, 2)))
	wantKeeps(t, w, 2, 10, 2)
}

// P4.2: a thing that is lost waits as often as it was registered, at each of its guardians; then it is not registered.
func TestSettleTwice(t *testing.T) {
	s := &side.Side{}
	reg(t, s, list(1, 10, 2, 10, 1, 10)...)
	w := newWorld(1, 2)
	s.Settle(w.still())
	wantSide(t, s, nil, w.asKept(list(1, 10, 2, 10, 1, 10)))
	wantPop(t, s, 1, w.kept(10))
	wantPop(t, s, 1, w.kept(10))
	wantNoPop(t, s, 1)
	s.Settle(w.still())
	wantSide(t, s, nil, w.asKept(list(2, 10)))
	wantKeeps(t, w, 10, 10, 10)
}

// P4.2: looks are asked of words as they were; Now alone tells what they are then, each once.
func TestSettleWordsAreToldOnce(t *testing.T) {
	next := func(x int64) int64 { return x + 1 }
	alive := map[int64]int{1: 1, 3: 1, 5: 1, 12: 1}
	s := sideOf(t, list(1, 12, 2, 12, 3, 13), list(4, 12, 5, 12))
	s.Settle(side.Living{
		Alive: func(x int64) bool { return alive[x] > 0 },
		Keep:  func(x int64) int64 { return x + 100 },
		Now:   next,
	})
	wantSide(t, s, list(2, 13), list(6, 13, 4, 114))
}

// P4.2: words are any numbers, and so is what Keep and Now answer.
func TestSettleEdgesOfWords(t *testing.T) {
	for _, guard := range edges() {
		for _, thing := range edges() {
			w := newWorld(guard)
			if guard == thing {
				settled(t, w, list(guard, thing), nil, list(guard, thing), nil)
			} else {
				settled(t, w, list(guard, thing), nil, nil, list(guard, w.kept(thing)))
			}
			settled(t, newWorld(guard), nil, list(guard, thing), nil, list(guard, thing))
			settled(t, newWorld(guard, thing), list(guard, thing), nil, list(guard, thing), nil)
		}
	}
	for _, answer := range edges() {
		for _, now := range edges() {
			s := sideOf(t, list(1, 2), nil)
			var asked []int64
			s.Settle(side.Living{
				Alive: func(x int64) bool { return x == 1 },
				Keep:  func(int64) int64 { return answer },
				Now: func(x int64) int64 {
					asked = append(asked, x)
					return now
				},
			})
			wantSide(t, s, nil, list(now, now))
			slices.Sort(asked)
			want := []int64{1, answer}
			slices.Sort(want)
			if !slices.Equal(asked, want) {
				t.Errorf("Now was asked of %v, want %v", asked, want)
			}
		}
	}
}

// Keep may ask Wake of the Side that asks it: what waits at a guardian is alive as soon as the guardian is.
func TestKeepMayWake(t *testing.T) {
	w := newWorld(1).lead(10, 3).lead(32, 2)
	s := sideOf(t, list(2, 20, 1, 10), list(3, 30, 3, 31, 3, 32))
	l := w.still()
	l.Keep = func(x int64) int64 {
		y := w.keep(x)
		for s.Wake(l) {
		}
		return y
	}
	s.Settle(l)
	wantSide(t, s, nil, w.asKept(list(3, 30, 3, 31, 3, 32, 1, 10, 2, 20)))
	wantKeeps(t, w, 10, 30, 31, 32, 20)
}

// panicAt answers a look that panics when it is asked of a word, and else tells what the other tells.
func panicAt[T any](word int64, look func(x int64) T) func(x int64) T {
	return func(x int64) T {
		if x == word {
			panic(nil)
		}
		return look(x)
	}
}

// P1: where a look is none, or panics, of the first word or of a later one, Wake changes nothing, and tells false.
func TestWakeLooksThatPanic(t *testing.T) {
	wait := list(1, 20, 1, 21, 1, 22)
	for _, change := range []func(l *side.Living){
		func(l *side.Living) { *l = side.Living{} },
		func(l *side.Living) { l.Alive = nil },
		func(l *side.Living) { l.Keep = nil },
		func(l *side.Living) { l.Alive = panicAt(20, l.Alive) },
		func(l *side.Living) { l.Alive = panicAt(22, l.Alive) },
		func(l *side.Living) { l.Alive = panicAt(1, l.Alive) },
		func(l *side.Living) { l.Keep = panicAt(20, l.Keep) },
		func(l *side.Living) { l.Keep = panicAt(22, l.Keep) },
	} {
		s := sideOf(t, list(1, 10), wait)
		l := newWorld(1).living()
		change(&l)
		wantWake(t, s, l, false, wait)
		w := newWorld(1)
		wantWake(t, s, w.living(), true, w.asKept(wait))
	}
}

// P1: so Settle.
func TestSettleLooksThatPanic(t *testing.T) {
	regs, wait := list(1, 10, 1, 11, 1, 12), list(1, 20, 1, 21, 1, 22)
	for _, change := range []func(l *side.Living, w *world){
		func(l *side.Living, w *world) { *l = side.Living{} },
		func(l *side.Living, w *world) { l.Alive = nil },
		func(l *side.Living, w *world) { l.Keep = nil },
		func(l *side.Living, w *world) { l.Now = nil },
		func(l *side.Living, w *world) { l.Alive = panicAt(10, l.Alive) },
		func(l *side.Living, w *world) { l.Alive = panicAt(12, l.Alive) },
		func(l *side.Living, w *world) { l.Alive = panicAt(1, l.Alive) },
		func(l *side.Living, w *world) { l.Keep = panicAt(10, l.Keep) },
		func(l *side.Living, w *world) { l.Keep = panicAt(12, l.Keep) },
		func(l *side.Living, w *world) { l.Now = panicAt(20, l.Now) },
		func(l *side.Living, w *world) { l.Now = panicAt(w.kept(12), l.Now) },
	} {
		s := sideOf(t, regs, wait)
		w := newWorld(1)
		l := w.living()
		change(&l, w)
		s.Settle(l)
		wantSide(t, s, regs, wait)
		w = newWorld(1)
		s.Settle(w.living())
		wantSide(t, s, nil, w.asNow(slices.Concat(wait, w.asKept(regs))))
	}
}

// P1: a look that is none does no harm where it is not asked.
func TestLooksThatAreNotAsked(t *testing.T) {
	s := sideOf(t, list(1, 10), list(1, 20))
	w := newWorld(1)
	wantWake(t, s, side.Living{Alive: w.isAlive, Keep: w.keep}, true, w.asKept(list(1, 20)))
	wantWake(t, s, side.Living{Alive: w.isAlive}, false, w.asKept(list(1, 20)))
	w.live(10)
	s.Settle(side.Living{Alive: w.isAlive, Now: w.now})
	wantSide(t, s, w.asNow(list(1, 10)), w.asNow(w.asKept(list(1, 20))))
	s.Settle(side.Living{Alive: newWorld().isAlive})
	wantSide(t, s, nil, nil)
}

// P1: looks that tell otherwise each time they are asked make no call go on without end, and no entry more.
func TestFickleLooks(t *testing.T) {
	r := source(11)
	l := side.Living{
		Alive: func(int64) bool { return r.below(2) == 0 },
		Keep:  func(x int64) int64 { return x - 1 },
		Now:   func(x int64) int64 { return x + 3 },
	}
	for range 2000 {
		s := sideOf(t, list(1, 10, 2, 11, 3, 12, 1, 1, 2, 2), list(1, 20, 2, 21, 3, 3))
		s.Wake(l)
		s.Settle(l)
		if n := len(s.Regs) + len(s.Wait); n > 8 {
			t.Fatalf("%d entries of 8", n)
		}
	}
}
