package grove

import (
	"underwood/api"
	"underwood/side"
)

// smallCut takes the young things that are not alive, and answers 0;
// ErrFull: all young things, alive or not, have more words than the old space has free ones, and nothing changes.
func (g *Grove) smallCut() int {
	if young, old := g.Used(); young > g.room-old {
		return api.ErrFull
	}
	return g.cutBack(g.isOld)
}

// greatCut takes all things that are not alive, and answers 0;
// ErrFull: those that are have more words than the old space, and nothing changes.
func (g *Grove) greatCut() int {
	return g.cutBack(func(int64) bool { return false })
}

// cutBack leaves what is alive, all of it old; of itself alive is what roots lead to, and each thing of which a look tells that it stays.
func (g *Grove) cutBack(stays func(number int64) bool) int {
	c := &cut{Grove: g, alive: make(map[int64]thing), held: make(map[int64][]api.Val)}
	c.keepAll(stays)
	beside := c.settled()
	if c.words() > g.room {
		return api.ErrFull
	}
	c.breakLost()
	g.things, g.beside, g.aged = c.alive, beside, g.made
	return 0
}

// cut is a grove while it is cut. Nothing of the grove changes till it is known that there is room.
type cut struct {
	*Grove
	alive map[int64]thing     // what is known to be alive, by numbers
	todo  []int64             // what of that was not looked at yet
	held  map[int64][]api.Val // values of ephemerons that were looked at, by keys that were not alive then
}

func (c *cut) keepAll(stays func(number int64) bool) {
	for number := range c.things {
		if stays(number) {
			c.mark(refValue(number))
		}
	}
	c.mark(c.roots...)
	c.spread()
}

// mark makes what values lead to alive.
func (c *cut) mark(values ...api.Val) {
	for _, v := range values {
		if c.isLost(v) {
			c.alive[v.N] = c.things[v.N]
			c.todo = append(c.todo, v.N)
		}
	}
}

// isLost tells whether a value leads to a thing that is not known to be alive.
func (c *cut) isLost(v api.Val) bool { return v.Kind == api.VRef && !c.isAlive(v.N) }

func (c *cut) isAlive(number int64) bool {
	_, ok := c.alive[number]
	return ok
}

// spread marks all that is kept alive by what is alive.
func (c *cut) spread() {
	for n := len(c.todo); n > 0; n = len(c.todo) {
		number := c.todo[n-1]
		c.todo = c.todo[:n-1]
		c.look(number)
	}
}

// look marks what a thing keeps alive of itself, and what it keeps as the key of ephemerons that were looked at ahead of it.
func (c *cut) look(number int64) {
	th := c.alive[number]
	switch th.kind {
	case api.KPair, api.KVector:
		c.mark(th.fields...)
	case api.KWeak:
		c.mark(th.fields[1])
	case api.KEphem:
		c.lookAtEphem(th.fields[0], th.fields[1])
	case api.KGuard:
		for _, waiting := range c.beside.At(number) {
			c.mark(refValue(waiting))
		}
	}
	c.mark(c.held[number]...)
}

// lookAtEphem marks a value; if the key is not alive it is held till that is.
func (c *cut) lookAtEphem(key, value api.Val) {
	if c.isLost(key) {
		c.held[key.N] = append(c.held[key.N], value)
		return
	}
	c.mark(value)
}

// settled answers what stands beside when the cut is made. What comes to wait is kept at once, with all that it keeps alive:
// Settle asks of guardians that are alive by then.
func (c *cut) settled() *side.Side {
	beside := c.beside.Copy()
	beside.Settle(side.Living{
		Alive: c.isAlive,
		Keep: func(number int64) int64 {
			c.mark(refValue(number))
			c.spread()
			return number
		},
		Now: func(number int64) int64 { return number },
	})
	return beside
}

// words answers how many words all that is alive has.
func (c *cut) words() int {
	sum := 0
	for _, th := range c.alive {
		sum += th.words()
	}
	return sum
}

// breakLost lets go of what weak pairs and ephemerons lead to, if that is not alive.
func (c *cut) breakLost() {
	for _, th := range c.alive {
		if th.kind != api.KWeak && th.kind != api.KEphem || !c.isLost(th.fields[0]) {
			continue
		}
		th.fields[0] = api.Val{Kind: api.VGone}
		if th.kind == api.KEphem {
			th.fields[1] = api.Val{Kind: api.VGone}
		}
	}
}
