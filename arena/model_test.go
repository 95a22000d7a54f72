package arena_test

import (
	"slices"
	"testing"

	"underwood/api"
	"underwood/arena"
	"underwood/word"
)

// model is an arena told otherwise: of each space only the words in use, as a list that grows.
type model struct {
	nursery, room int
	young, old    []int64
}

// word answers the memory of a place in use; nil: it is none.
func (m *model) word(at int) *int64 {
	switch {
	case at >= 0 && at < len(m.young):
		return &m.young[at]
	case at >= m.nursery && at < m.nursery+len(m.old):
		return &m.old[at-m.nursery]
	}
	return nil
}

func (m *model) make(kind, fields int) int {
	h, code := word.Head(kind, fields)
	if code != 0 || len(m.young)+1+fields > m.nursery {
		return -1
	}
	at := len(m.young)
	m.young = append(m.young, h)
	for range fields {
		m.young = append(m.young, word.Nil())
	}
	return at
}

func (m *model) copy(at int) int {
	rest := []int64{}
	if at >= 0 && at < len(m.young) {
		rest = m.young[at:]
	} else if m.word(at) != nil {
		rest = m.old[at-m.nursery:]
	}
	if len(rest) == 0 {
		return -1
	}
	_, fields, code := word.Parts(rest[0])
	if code != 0 || len(rest) < 1+fields || len(m.old)+1+fields > m.room {
		return -1
	}
	to := m.nursery + len(m.old)
	m.old = append(m.old, rest[:1+fields]...)
	return to
}

// move is asked only of places in use.
func (m *model) move(to, from, n int) {
	var held []int64
	for i := range n {
		held = append(held, *m.word(from + i))
	}
	for i, w := range held {
		*m.word(to + i) = w
	}
}

// things goes through the words of one space, from the place base on.
func things(words []int64, base int) []int {
	var l []int
	for at := 0; at < len(words); {
		_, fields, code := word.Parts(words[at])
		if code != 0 {
			break
		}
		l = append(l, base+at)
		at += 1 + fields
	}
	return l
}

// compare holds all that an arena tells against the model.
func (m *model) compare(t *testing.T, a *arena.Arena) {
	t.Helper()
	wantUsed(t, a, len(m.young), len(m.old))
	wantFree(t, a, m.nursery-len(m.young), m.room-len(m.old))
	wantThings(t, a, things(m.young, 0), things(m.old, m.nursery))
	if y, o := a.Bounds(); y != 0 || o != m.nursery {
		t.Errorf("Bounds() = %d, %d, want 0, %d", y, o, m.nursery)
	}
	all := a.Words()
	if len(all) != m.nursery+m.room || !slices.Equal(all[:len(m.young)], m.young) ||
		!slices.Equal(all[m.nursery:m.nursery+len(m.old)], m.old) {
		t.Errorf("Words() = %v, want %v, %v", all, m.young, m.old)
	}
	for at := -3; at < m.nursery+m.room+3; at++ {
		w := int64(0)
		p := m.word(at)
		if p != nil {
			w = *p
		}
		young := p != nil && at < m.nursery
		if a.Load(at) != w || a.Young(at) != young || a.Old(at) != (p != nil && !young) {
			t.Errorf("at %d: %d, %v, %v, want %d", at, a.Load(at), a.Young(at), a.Old(at), w)
		}
		kind, fields, code := word.Parts(w)
		if k, n, c := a.Thing(at); k != kind || n != fields || c != code {
			t.Errorf("Thing(%d) = %d, %d, %d", at, k, n, c)
		}
	}
}

// source tells numbers that always come the same.
type source uint64

func (s *source) below(n int) int {
	*s = *s*6364136223846793005 + 1442695040888963407
	return int(uint64(*s)>>33) % n
}

// step does one thing to both, and holds the answers against each other.
func (m *model) step(t *testing.T, a *arena.Arena, s *source) {
	t.Helper()
	all := m.nursery + m.room
	at := s.below(all+4) - 2
	switch s.below(16) {
	case 0, 1, 2, 3:
		kind, fields := s.below(7), s.below(14)
		if kind != api.KVector && s.below(4) > 0 {
			fields = 2
		}
		if got, want := a.Make(kind, fields), m.make(kind, fields); got != want {
			t.Errorf("Make(%d, %d) = %d, want %d", kind, fields, got, want)
		}
	case 4, 5, 6, 7:
		if got, want := a.Copy(at), m.copy(at); got != want {
			t.Errorf("Copy(%d) = %d, want %d", at, got, want)
		}
	case 8, 9, 10, 11:
		w := int64(s.below(230)) - 10
		p := m.word(at)
		if p != nil {
			*p = w
		}
		if got := a.Store(at, w); got != (p != nil) {
			t.Errorf("Store(%d, %d) = %v", at, w, got)
		}
	case 12, 13:
		m.stepMove(a, at, s.below(all), s.below(12))
	case 14:
		if s.below(3) == 0 {
			m.young = nil
			a.Clear()
		}
	case 15:
		m.old = m.old[:s.below(len(m.old)+1)]
		a.Cut(len(m.old))
	}
}

// stepMove moves as many of n words as are in use at both places.
func (m *model) stepMove(a *arena.Arena, to, from, n int) {
	for i := range n {
		if m.word(to+i) == nil || m.word(from+i) == nil {
			n = i
			break
		}
	}
	if n > 0 {
		m.move(to, from, n)
		a.Move(to, from, n)
	}
}

// P1, P2.1 to P2.4: many steps, one behind the other.
func TestAgainstModel(t *testing.T) {
	s := source(1)
	for _, x := range [][2]int{{16, 0}, {16, 8}, {16, 40}, {20, 30}, {40, 16}, {64, 64}} {
		for range 8 {
			a := newArena(t, x[0], x[1])
			m := &model{nursery: x[0], room: x[1]}
			for range 250 {
				m.step(t, a, &s)
				m.compare(t, a)
				if t.Failed() {
					return
				}
			}
		}
	}
}
