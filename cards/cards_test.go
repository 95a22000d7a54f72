package cards_test

import (
	"math"
	"testing"

	"underwood/api"
	"underwood/cards"
)

// size is short for a card's words in sums of places.
const size = api.CardWords

// far are places at which a sum or a difference wraps round.
func far() []int {
	return []int{
		math.MinInt, math.MinInt + 1, math.MinInt + size - 1, math.MinInt + size, -1 << 62, -1 << 32,
		1 << 32, 1 << 62, math.MaxInt - size, math.MaxInt - size + 1, math.MaxInt - 1, math.MaxInt,
	}
}

func mark(t *testing.T, c *cards.Cards, places ...int) {
	t.Helper()
	for _, at := range places {
		if !c.Mark(at) {
			t.Errorf("Mark(%d) = false", at)
		}
	}
}

// refuse asks for marks at places that have no card, and looks that none of them changes anything.
func refuse(t *testing.T, c *cards.Cards, places ...int) {
	t.Helper()
	for _, at := range places {
		ahead := c.Count()
		if c.Mark(at) {
			t.Errorf("Mark(%d) = true", at)
		}
		if n := c.Count(); n != ahead {
			t.Errorf("Mark(%d) made Count() %d, which was %d", at, n, ahead)
		}
		wantClean(t, c, at)
	}
}

func wantDirty(t *testing.T, c *cards.Cards, places ...int) {
	t.Helper()
	for _, at := range places {
		if !c.Dirty(at) {
			t.Errorf("Dirty(%d) = false", at)
		}
	}
}

func wantClean(t *testing.T, c *cards.Cards, places ...int) {
	t.Helper()
	for _, at := range places {
		if c.Dirty(at) {
			t.Errorf("Dirty(%d) = true", at)
		}
	}
}

func wantCount(t *testing.T, c *cards.Cards, want int) {
	t.Helper()
	if n := c.Count(); n != want {
		t.Errorf("Count() = %d, want %d", n, want)
	}
}

// bases are 0, and others on both sides of it, near and far, on a multiple of a card's words and off it;
// of each, places some cards ahead of it and behind it are numbers, too.
func bases() []int {
	return []int{
		0, 1, 7, 8, 9, 10, 16, 256, -1, -7, -8, -9, -10, -100,
		1 << 32, 1<<62 + 3, -1 << 32, -1<<62 - 3, math.MinInt + 200, math.MaxInt - 200,
	}
}

// lengths are words, and how many cards these are: whole ones, and at last one that is begun.
func lengths() []struct{ words, cards int } {
	return []struct{ words, cards int }{
		{0, 0}, {1, 1}, {2, 1}, {7, 1}, {8, 1}, {9, 2}, {15, 2}, {16, 2}, {17, 3}, {23, 3}, {24, 3}, {25, 4}, {100, 13},
	}
}

// New: none is marked.
func TestNewMarksNone(t *testing.T) {
	for _, base := range bases() {
		for _, x := range lengths() {
			c := cards.New(base, x.words)
			wantCount(t, c, 0)
			for at := base - 20; at < base+120; at++ {
				wantClean(t, c, at)
			}
			wantClean(t, c, far()...)
		}
	}
}

// New: of words below 0 there are none, wherever they begin.
func TestNewBelowNone(t *testing.T) {
	for _, base := range append(bases(), far()...) {
		for _, words := range []int{0, -1, -7, -8, -9, -1 << 32, math.MinInt + 7, math.MinInt + 1, math.MinInt} {
			c := cards.New(base, words)
			refuse(t, c, 0, -1, 1, base)
			if base > math.MinInt+size && base < math.MaxInt-size {
				refuse(t, c, base-size, base-1, base+1, base+size-1, base+size)
			}
			refuse(t, c, far()...)
			wantCount(t, c, 0)
			c.Clear()
			wantCount(t, c, 0)
		}
	}
}

// A place has a card from base to ahead of the end of the last one, whole or begun; Mark tells of no other.
func TestPlacesWithACard(t *testing.T) {
	for _, base := range bases() {
		for _, x := range lengths() {
			end := base + x.cards*size
			for at := base - 20; at < end+20; at++ {
				c := cards.New(base, x.words)
				if at < base || at >= end {
					refuse(t, c, at)
				} else {
					mark(t, c, at)
				}
			}
		}
	}
}

// The document's bounds, one by one, of a base that is no multiple of a card's words, and of a last card of one word.
func TestBoundsOfCards(t *testing.T) {
	c := cards.New(10, 9)
	refuse(t, c, 9, 26, 8, 0, -1, 27, 33)
	mark(t, c, 10)
	wantDirty(t, c, 10, 11, 17)
	wantClean(t, c, 9, 18, 25, 26)
	mark(t, c, 25)
	wantDirty(t, c, 10, 17, 18, 19, 25)
	wantClean(t, c, 9, 26)
	wantCount(t, c, 2)
}

// A mark marks one card alone, whichever of its places it is asked at, and all of its places tell it.
func TestMarkMarksOneCard(t *testing.T) {
	for _, base := range bases() {
		const words, count = 4*size + 1, 5
		for n := range count {
			first := base + n*size
			for at := first; at < first+size; at++ {
				c := cards.New(base, words)
				mark(t, c, at)
				wantCount(t, c, 1)
				for look := base - size; look < base+(count+1)*size; look++ {
					if want := look >= first && look < first+size; c.Dirty(look) != want {
						t.Errorf("base %d: behind Mark(%d) Dirty(%d) = %v", base, at, look, !want)
					}
				}
			}
		}
	}
}

// A card that is marked again is counted once, and Mark still tells that there is one.
func TestMarkTwice(t *testing.T) {
	c := cards.New(-3, 20)
	mark(t, c, 5, 5)
	wantCount(t, c, 1)
	mark(t, c, 12, 8, 5)
	wantCount(t, c, 1)
	wantDirty(t, c, 5, 12)
	mark(t, c, -3, 20, 4, 13)
	wantCount(t, c, 3)
	mark(t, c, -3, 5, 13)
	wantCount(t, c, 3)
}

// Count tells every card, once all are marked.
func TestCountOfAll(t *testing.T) {
	for _, x := range lengths() {
		c := cards.New(5, x.words)
		for n := range x.cards {
			wantCount(t, c, n)
			mark(t, c, 5+n*size)
		}
		wantCount(t, c, x.cards)
		refuse(t, c, 4, 5+x.cards*size)
	}
}

// Dirty changes nothing, of a place with a card and of one without.
func TestDirtyMarksNone(t *testing.T) {
	c := cards.New(0, 16)
	wantClean(t, c, 0, 0, 15, 16, -1)
	wantCount(t, c, 0)
	mark(t, c, 8)
	wantDirty(t, c, 8, 8)
	wantClean(t, c, 7, 7, 16, 16)
	wantCount(t, c, 1)
}

// Clear: none is marked; the cards are there as ahead, and can be marked again.
func TestClear(t *testing.T) {
	for _, base := range bases() {
		c := cards.New(base, 17)
		c.Clear()
		wantCount(t, c, 0)
		for range 3 {
			mark(t, c, base, base+15, base+16)
			wantCount(t, c, 3)
			c.Clear()
			wantCount(t, c, 0)
			for at := base - size; at < base+4*size; at++ {
				wantClean(t, c, at)
			}
			refuse(t, c, base-1, base+24)
		}
		mark(t, c, base+23)
		wantCount(t, c, 1)
		wantDirty(t, c, base+16)
		wantClean(t, c, base, base+15)
		c.Clear()
		c.Clear()
		wantCount(t, c, 0)
	}
}

// Cards of one New do not tell of those of another.
func TestCardsStandAlone(t *testing.T) {
	c, other := cards.New(0, 16), cards.New(0, 16)
	mark(t, c, 0)
	wantCount(t, other, 0)
	wantClean(t, other, 0)
	mark(t, other, 8, 0)
	c.Clear()
	wantCount(t, other, 2)
	wantDirty(t, other, 0, 8)
	wantClean(t, c, 0, 8)
}

// P1, and exact numbers: what is so far off that it wraps round in a sum or a difference has no card, or has its own.
func TestFarPlaces(t *testing.T) {
	for _, x := range []struct {
		base, words   int
		with, without []int
	}{
		{0, 16, []int{0, 15}, far()},
		{math.MinInt, 9, []int{math.MinInt, math.MinInt + 15}, []int{math.MinInt + 16, -1, 0, 1, math.MaxInt - 15, math.MaxInt}},
		{math.MinInt, 0, nil, far()},
		{math.MinInt + 3, 8, []int{math.MinInt + 3, math.MinInt + 10}, []int{math.MinInt, math.MinInt + 2, math.MinInt + 11, math.MaxInt}},
		{math.MaxInt, 1, []int{math.MaxInt}, []int{math.MaxInt - 1, math.MinInt, math.MinInt + 6, -1, 0}},
		{math.MaxInt, 0, nil, far()},
		{math.MaxInt - 7, 1, []int{math.MaxInt - 7, math.MaxInt}, []int{math.MaxInt - 8, math.MinInt, -1, 0}},
		{math.MaxInt - 8, 8, []int{math.MaxInt - 8, math.MaxInt - 1}, []int{math.MaxInt - 9, math.MaxInt, math.MinInt, 0}},
		{math.MaxInt - 8, 9, []int{math.MaxInt - 8, math.MaxInt}, []int{math.MaxInt - 9, math.MinInt, 0}},
		{math.MaxInt, math.MaxInt, []int{math.MaxInt}, []int{math.MaxInt - 1, math.MinInt, -2, -1, 0}},
		{0, math.MaxInt, []int{0, 8, 1 << 62, math.MaxInt}, []int{-1, math.MinInt}},
		{0, math.MaxInt - 7, []int{0, math.MaxInt - 7 - 1}, []int{math.MaxInt - 7, math.MaxInt, -1, math.MinInt}},
		{0, math.MaxInt - 6, []int{0, math.MaxInt - 8, math.MaxInt}, []int{-1, math.MinInt}},
		{1, math.MaxInt, []int{1, 9, math.MaxInt}, []int{0, -1, math.MinInt}},
		{-1, math.MaxInt, []int{-1, 7, math.MaxInt - 1}, []int{math.MaxInt, -2, math.MinInt}},
		{-8, math.MaxInt, []int{-8, 0, math.MaxInt - 8}, []int{math.MaxInt - 7, math.MaxInt, -9, math.MinInt}},
		{-1 << 62, math.MaxInt, []int{-1 << 62, 0, 1<<62 - 1}, []int{1 << 62, math.MaxInt, -1<<62 - 1, math.MinInt}},
		{1 << 62, math.MaxInt, []int{1 << 62, math.MaxInt}, []int{1<<62 - 1, 0, -1, math.MinInt}},
		{math.MinInt, math.MaxInt, []int{math.MinInt, math.MinInt + 8, -9, -1}, []int{0, 1, 8, math.MaxInt}},
		{math.MinInt + 1, math.MaxInt, []int{math.MinInt + 1, -8, 0}, []int{math.MinInt, 1, math.MaxInt}},
		{math.MinInt, math.MaxInt - 7, []int{math.MinInt, -9}, []int{-8, -1, 0, math.MaxInt}},
	} {
		c := cards.New(x.base, x.words)
		refuse(t, c, x.without...)
		mark(t, c, x.with...)
		wantDirty(t, c, x.with...)
		wantClean(t, c, x.without...)
		refuse(t, c, x.without...)
		c.Clear()
		wantCount(t, c, 0)
		wantClean(t, c, x.with...)
	}
}

// Of places that are as far apart as numbers are each has its own card.
func TestFarCardsAreNotOne(t *testing.T) {
	c := cards.New(math.MinInt, math.MaxInt)
	for i, at := range []int{math.MinInt, math.MinInt + 8, -1 << 62, -1 << 32, -17, -9, -1} {
		wantClean(t, c, at)
		mark(t, c, at)
		wantCount(t, c, i+1)
	}
	wantClean(t, c, math.MinInt+16, -1<<62-1, -1<<62+8, -25)
}
