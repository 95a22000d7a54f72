package side_test

import (
	"slices"
	"testing"

	"underwood/api"
	"underwood/side"
)

// model is a Side told otherwise: one list of all entries that ever came, each with what became of it,
// and when it came to wait.
type model struct {
	entries []*line
	turn    int
}

type line struct {
	side.Entry
	what, came int
}

const (
	registered = iota
	dead
	waiting
	gone
)

// of answers the lines of which something became, in the order of a Side's lists.
func (m *model) of(what int) []*line {
	var l []*line
	for _, e := range m.entries {
		if e.what == what {
			l = append(l, e)
		}
	}
	slices.SortStableFunc(l, func(a, b *line) int { return a.came - b.came })
	return l
}

func (m *model) list(what int) []side.Entry {
	var l []side.Entry
	for _, e := range m.of(what) {
		l = append(l, e.Entry)
	}
	return l
}

func (m *model) full() bool {
	return len(m.of(registered))+len(m.of(waiting)) == api.MaxRegs
}

func (m *model) reg(e side.Entry) bool {
	if m.full() {
		return false
	}
	m.entries = append(m.entries, &line{Entry: e})
	return true
}

func (m *model) at(guard int64) []*line {
	return slices.DeleteFunc(m.of(waiting), func(e *line) bool { return e.Guard != guard })
}

func (m *model) pop(guard int64) (int64, bool) {
	l := m.at(guard)
	if len(l) == 0 {
		return 0, false
	}
	l[0].what = gone
	return l[0].Thing, true
}

func (m *model) wake(w *world) bool {
	some := false
	for _, e := range m.of(waiting) {
		if !w.isAlive(e.Thing) && w.isAlive(e.Guard) {
			e.Thing, some = w.keep(e.Thing), true
		}
	}
	return some
}

// settle takes as many turns as there may be entries, whether anything comes in them or not.
func (m *model) settle(w *world) {
	for _, e := range m.of(registered) {
		if !w.isAlive(e.Thing) {
			e.what = dead
		}
	}
	for range api.MaxRegs + 1 {
		for _, e := range m.of(dead) {
			if w.isAlive(e.Guard) {
				m.turn++
				e.Thing, e.what, e.came = w.keep(e.Thing), waiting, m.turn
			}
		}
	}
	for _, e := range m.entries {
		if e.what == dead || !w.isAlive(e.Guard) {
			e.what = gone
		}
		e.Entry = entry(w.now(e.Guard), w.now(e.Thing))
	}
}

func (m *model) compare(t *testing.T, s *side.Side) {
	t.Helper()
	wantSide(t, s, m.list(registered), m.list(waiting))
	wantFull(t, s, m.full())
	for guard := range int64(words) {
		for _, g := range []int64{guard, guard ^ 1<<40} {
			var want []int64
			for _, e := range m.at(g) {
				want = append(want, e.Thing)
			}
			wantAt(t, s, g, want...)
		}
	}
}

// words are so few that guardians are things, too, and are met again and again.
const words = 10

// source tells numbers that look like any, the same ones each time.
type source uint64

func (s *source) below(n int) int {
	*s = *s*6364136223846793005 + 1442695040888963407
	return int(uint64(*s)>>33) % n
}

// word answers one of a Side's own words most of the time, and else one of few.
func (s *source) word(x *side.Side) int64 {
	all := slices.Concat(x.Regs, x.Wait)
	if len(all) == 0 || s.below(4) == 0 {
		return int64(s.below(words))
	}
	e := all[s.below(len(all))]
	if s.below(2) == 0 {
		return e.Guard
	}
	return e.Thing
}

// twoWorlds answers two that are alike, one for each of those that are held against each other.
func (s *source) twoWorlds(x *side.Side) (*world, *world) {
	a, b := newWorld(), newWorld()
	for range s.below(20) {
		from, to := s.word(x), s.word(x)
		a.lead(from, to)
		b.lead(from, to)
	}
	for range s.below(6) {
		w := s.word(x)
		a.live(w)
		b.live(w)
	}
	return a, b
}

// P1, P4.1, P4.2: many steps, one behind the other, with a Copy in place of the Side now and then.
func TestModel(t *testing.T) {
	r := source(7)
	for range 1500 {
		s, m := &side.Side{}, &model{}
		for range 60 {
			s = step(t, s, m, &r)
			m.compare(t, s)
			if t.Failed() {
				return
			}
		}
	}
}

func step(t *testing.T, s *side.Side, m *model, r *source) *side.Side {
	t.Helper()
	switch r.below(20) {
	case 0:
		return s.Copy()
	case 1, 2:
		guard := r.word(s)
		thing, ok := s.Pop(guard)
		if want, is := m.pop(guard); thing != want || ok != is {
			t.Errorf("Pop(%d) = %d, %v, want %d, %v", guard, thing, ok, want, is)
		}
	case 3:
		a, b := r.twoWorlds(s)
		if got, want := s.Wake(a.living()), m.wake(b); got != want {
			t.Errorf("Wake = %v, want %v", got, want)
		}
		wantKeeps(t, a, b.keeps...)
	case 4:
		a, b := r.twoWorlds(s)
		s.Settle(a.living())
		m.settle(b)
		wantKeeps(t, a, b.keeps...)
	default:
		e := entry(r.word(s), r.word(s))
		if got, want := s.Reg(e), m.reg(e); got != want {
			t.Errorf("Reg(%v) = %v, want %v", e, got, want)
		}
	}
	return s
}
