package cards_test

import (
	"math"
	"math/big"
	"testing"

	"underwood/api"
	"underwood/cards"
)

// model is cards told otherwise: the first places of those that are marked, in numbers that have no end.
type model struct {
	base, end *big.Int
	marked    map[string]bool
}

func newModel(base, words int) *model {
	card := big.NewInt(api.CardWords)
	count, rest := new(big.Int).DivMod(big.NewInt(int64(max(words, 0))), card, new(big.Int))
	if rest.Sign() > 0 {
		count.Add(count, big.NewInt(1))
	}
	first := big.NewInt(int64(base))
	return &model{base: first, end: count.Add(count.Mul(count, card), first), marked: map[string]bool{}}
}

// first answers the first place of a place's card; an empty text: it has none.
func (m *model) first(at int) string {
	place := big.NewInt(int64(at))
	if place.Cmp(m.base) < 0 || place.Cmp(m.end) >= 0 {
		return ""
	}
	off := new(big.Int).Sub(place, m.base)
	off.Mod(off, big.NewInt(api.CardWords))
	return place.Sub(place, off).String()
}

func (m *model) mark(at int) bool {
	first := m.first(at)
	if first != "" {
		m.marked[first] = true
	}
	return first != ""
}

func (m *model) dirty(at int) bool { return m.marked[m.first(at)] }

// source tells numbers that look like any, the same ones each time.
type source uint64

func (s *source) next(n int) int {
	*s = *s*6364136223846793005 + 1442695040888963407
	return int(uint64(*s) >> 33 % uint64(n))
}

// near answers a number near one of those at which something begins or ends; it may wrap round, which is as good.
func (s *source) near(some ...int) int { return some[s.next(len(some))] + s.next(60) - 30 }

// What is answered hangs on the arguments, and on what was asked ahead, alone: many steps, held against the model.
func TestModel(t *testing.T) {
	s := source(3)
	for range 3000 {
		base := s.near(0, 256, -1<<62, 1<<62, math.MinInt, math.MaxInt)
		words := s.near(0, 20, 100, 1<<62, math.MaxInt-60, math.MinInt)
		c, m := cards.New(base, words), newModel(base, words)
		for range 60 {
			at := s.near(base, base, base+words, base+words/2, 0, math.MinInt, math.MaxInt)
			step(t, c, m, s.next(40), at)
		}
		if t.Failed() {
			t.Fatalf("base %d, words %d", base, words)
		}
	}
}

func step(t *testing.T, c *cards.Cards, m *model, what, at int) {
	t.Helper()
	switch {
	case what == 0:
		c.Clear()
		clear(m.marked)
	case what < 20:
		if got, want := c.Mark(at), m.mark(at); got != want {
			t.Errorf("Mark(%d) = %v, want %v", at, got, want)
		}
	}
	if got, want := c.Dirty(at), m.dirty(at); got != want {
		t.Errorf("Dirty(%d) = %v, want %v", at, got, want)
	}
	wantCount(t, c, len(m.marked))
}
