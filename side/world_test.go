package side_test

import (
	"slices"

	"underwood/side"
)

// world is what looks tell of: which words are alive, and to which others each leads, that are alive by it.
type world struct {
	alive map[int64]int // how often each was made so
	leads map[int64][]int64
	keeps []int64 // what Keep was asked of, in order
}

func newWorld(alive ...int64) *world {
	w := &world{alive: map[int64]int{}, leads: map[int64][]int64{}}
	w.live(alive...)
	return w
}

// live makes words alive, with all that they lead to.
func (w *world) live(words ...int64) {
	for _, x := range words {
		w.alive[x]++
		if w.alive[x] == 1 {
			w.live(w.leads[x]...)
		}
	}
}

// lead tells to which words one leads.
func (w *world) lead(from int64, to ...int64) *world {
	w.leads[from] = append(w.leads[from], to...)
	return w
}

func (w *world) isAlive(x int64) bool { return w.alive[x] > 0 }

// kept and now wrap round, so that they tell words apart at both ends of 64 bits, too;
// neither undoes the other, so that it shows which of them was asked.
func (w *world) kept(x int64) int64 { return x + 1000003 }
func (w *world) now(x int64) int64  { return x ^ 1<<40 }

// keep makes a word alive, and the word that it answers, as one is that was brought elsewhere.
func (w *world) keep(x int64) int64 {
	w.keeps = append(w.keeps, x)
	w.live(x, w.kept(x))
	return w.kept(x)
}

func (w *world) living() side.Living {
	return side.Living{Alive: w.isAlive, Keep: w.keep, Now: w.now}
}

// still is a world's looks with a Now that leaves words as they are.
func (w *world) still() side.Living {
	return side.Living{Alive: w.isAlive, Keep: w.keep, Now: func(x int64) int64 { return x }}
}

// asNow answers entries with both words as Now tells them.
func (w *world) asNow(entries []side.Entry) []side.Entry {
	l := slices.Clone(entries)
	for i, e := range l {
		l[i] = entry(w.now(e.Guard), w.now(e.Thing))
	}
	return l
}

// asKept answers entries with their things as Keep answers them.
func (w *world) asKept(entries []side.Entry) []side.Entry {
	l := slices.Clone(entries)
	for i, e := range l {
		l[i].Thing = w.kept(e.Thing)
	}
	return l
}
