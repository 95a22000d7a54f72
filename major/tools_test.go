package major_test

import (
	"slices"
	"testing"

	"underwood/api"
	"underwood/major"
	"underwood/minor"
	"underwood/side"
	"underwood/wood"
	"underwood/word"
)

// ground is a wood that is tested; isOld tells of each thing that is made there whether it is to be old.
type ground struct {
	*wood.Wood
	t     *testing.T
	isOld func() bool
}

// newGround answers one in which things are made young.
func newGround(t *testing.T, nursery, old int) *ground {
	t.Helper()
	w, f := wood.New(nursery, old)
	if w == nil || f != (api.Fault{}) {
		t.Fatalf("New(%d, %d) = %v, %v", nursery, old, w, f)
	}
	return &ground{Wood: w, t: t, isOld: func() bool { return false }}
}

// everywhere does a test with all things young, with all of them old, and with each kind by turns.
func everywhere(t *testing.T, test func(g *ground)) {
	t.Helper()
	turn := 0
	ways := map[string]func() bool{
		"young":        func() bool { return false },
		"old":          func() bool { return true },
		"by turns":     func() bool { turn++; return turn%2 == 0 },
		"every third":  func() bool { turn++; return turn%3 == 0 },
		"two of three": func() bool { turn++; return turn%3 > 0 },
	}
	for name, isOld := range ways {
		t.Run(name, func(t *testing.T) {
			turn = 0
			g := newGround(t, api.MaxNursery, api.MaxOld)
			g.isOld = isOld
			test(g)
		})
	}
}

// number answers the word of a number.
func number(n int64) int64 { return n * 4 }

// thing makes one with these fields, and answers the word that leads to it.
func (g *ground) thing(kind int, fields ...int64) int64 {
	g.t.Helper()
	if g.isOld() {
		return g.old(kind, fields...)
	}
	return g.young(kind, fields...)
}

func (g *ground) young(kind int, fields ...int64) int64 {
	g.t.Helper()
	at := g.Make(kind, len(fields))
	if at < 0 {
		g.t.Fatalf("no room for the kind %d with %d fields", kind, len(fields))
	}
	g.link(word.Ref(at), fields...)
	return word.Ref(at)
}

// old leaves a young thing behind to which nothing leads, and which leads to nothing, unless the nursery was empty.
func (g *ground) old(kind int, fields ...int64) int64 {
	g.t.Helper()
	ahead, _ := g.Used()
	to := g.Copy(g.Make(kind, len(fields)))
	if ahead == 0 {
		g.Clear()
	}
	if to < 0 {
		g.t.Fatalf("no room for the kind %d with %d fields", kind, len(fields))
	}
	g.link(word.Ref(to), fields...)
	return word.Ref(to)
}

// link sets fields from the first one on, which all are to be there.
func (g *ground) link(x int64, fields ...int64) {
	g.t.Helper()
	for i, y := range fields {
		if code := g.Set(x, i, y); code != 0 {
			g.t.Fatalf("Set(%d, %d, %d) = %d", x, i, y, code)
		}
	}
}

// leaf makes a thing of two words that is told from others by its number.
func (g *ground) leaf(n int64) int64 {
	g.t.Helper()
	return g.thing(api.KVector, number(n))
}

func (g *ground) wantLeaf(x, n int64) {
	g.t.Helper()
	at, _ := word.At(x)
	kind, fields, _ := g.Kind(x)
	if y, code := g.Get(x, 0); !g.Old(at) || kind != api.KVector || fields != 1 || y != number(n) || code != 0 {
		g.t.Errorf("the word %d leads to the kind %d with %d fields, the first one %d; it is to lead to the number %d, in the old space", x, kind, fields, y, n)
	}
}

func (g *ground) field(x int64, i int) int64 {
	g.t.Helper()
	y, code := g.Get(x, i)
	if code != 0 {
		g.t.Fatalf("Get(%d, %d) has the code %d", x, i, code)
	}
	return y
}

// along answers the things of a list whose field i leads on; it ends with Nil.
func (g *ground) along(x int64, i int) []int64 {
	g.t.Helper()
	var l []int64
	for ; x != word.Nil(); x = g.field(x, i) {
		if len(l) == api.MaxOld {
			g.t.Fatalf("from %d on it leads round", l[0])
		}
		l = append(l, x)
	}
	return l
}

func (g *ground) wantFields(x int64, want ...int64) {
	g.t.Helper()
	_, n, _ := g.Kind(x)
	var got []int64
	for i := range n {
		got = append(got, g.field(x, i))
	}
	if !slices.Equal(got, want) {
		g.t.Errorf("the fields of %d are %v, want %v", x, got, want)
	}
}

func (g *ground) wantBroken(x int64) {
	g.t.Helper()
	g.wantFields(x, word.Gone(), word.Gone())
}

// wantKept holds that an ephemeron leads to the leaf of a key and to that of a value.
func (g *ground) wantKept(x, key, value int64) {
	g.t.Helper()
	g.wantLeaf(g.field(x, 0), key)
	g.wantLeaf(g.field(x, 1), value)
}

func (g *ground) reg(guard, thing int64) {
	g.t.Helper()
	if !g.Side.Reg(side.Entry{Guard: guard, Thing: thing}) {
		g.t.Fatal("the Side is full")
	}
}

// wait lets a thing wait at a guardian, as no cut was needed for.
func (g *ground) wait(guard, thing int64) {
	g.Side.Wait = append(g.Side.Wait, side.Entry{Guard: guard, Thing: thing})
}

// wantWait holds that just the leaves of these numbers wait at a guardian, in this order.
func (g *ground) wantWait(guard int64, numbers ...int64) {
	g.t.Helper()
	l := g.Side.At(guard)
	if len(l) != len(numbers) {
		g.t.Errorf("%d things wait at %d, want %v", len(l), guard, numbers)
		return
	}
	for i, n := range numbers {
		g.wantLeaf(l[i], n)
	}
}

// wantSide holds how many entries there are.
func (g *ground) wantSide(regs, waits int) {
	g.t.Helper()
	if len(g.Side.Regs) != regs || len(g.Side.Wait) != waits {
		g.t.Errorf("registered is %v, and %v waits; want %d and %d", g.Side.Regs, g.Side.Wait, regs, waits)
	}
}

// cut holds what is so behind each great cut that is done, and that so many words were alive.
func (g *ground) cut(alive int) {
	g.t.Helper()
	parts := *g.Wood
	nursery, room := g.sizes()
	if code := major.Cut(g.Wood); code != 0 {
		g.t.Fatalf("Cut has the code %d", code)
	}
	if young, old := g.Used(); young != 0 || old != alive {
		g.t.Errorf("%d, %d words are in use, want 0, %d", young, old, alive)
	}
	if n, o := g.sizes(); n != nursery || o != room {
		g.t.Errorf("the spaces have %d, %d words, and had %d, %d", n, o, nursery, room)
	}
	if n := g.Cards.Count(); n != 0 {
		g.t.Errorf("%d cards are marked", n)
	}
	if g.Arena != parts.Arena || g.Cards != parts.Cards || g.Side != parts.Side || len(g.Roots) != len(parts.Roots) {
		g.t.Error("a part of the wood is another one")
	}
	g.leadsWell()
}

// small does a small cut.
func (g *ground) small() {
	g.t.Helper()
	if code := minor.Cut(g.Wood); code != 0 {
		g.t.Fatalf("the small cut has the code %d", code)
	}
}

// sizes answers how many words the spaces have.
func (g *ground) sizes() (int, int) {
	usedYoung, usedOld := g.Used()
	freeYoung, freeOld := g.Free()
	return usedYoung + freeYoung, usedOld + freeOld
}

// leadsWell holds that things stand one behind the other in the old space, and that what leads to a place leads to one of them.
func (g *ground) leadsWell() {
	g.t.Helper()
	words := slices.Clone(g.Roots)
	for _, e := range slices.Concat(g.Side.Regs, g.Side.Wait) {
		words = append(words, e.Guard, e.Thing)
	}
	_, places := g.Things()
	_, base := g.Bounds()
	end := base
	for _, at := range places {
		_, n, _ := g.Thing(at)
		for i := range n {
			words = append(words, g.Load(at+1+i))
		}
		end += 1 + n
	}
	if _, used := g.Used(); end != base+used {
		g.t.Errorf("the things of the old space end at %d, and what is in use at %d", end, base+used)
	}
	for _, x := range words {
		if at, ok := word.At(x); ok && !slices.Contains(places, at) {
			g.t.Errorf("the word %d leads to no thing of the old space", x)
		}
	}
}

// wantFull holds that a great cut is refused, and changes nothing, however often it is asked for.
func (g *ground) wantFull() {
	g.t.Helper()
	for range 2 {
		ahead := stateOf(g.Wood)
		if code := major.Cut(g.Wood); code != api.ErrFull {
			g.t.Errorf("Cut has the code %d, %d and %d words in use", code, ahead.usedYoung, ahead.usedOld)
		}
		if behind := stateOf(g.Wood); !ahead.equal(behind) {
			g.t.Errorf("a cut that is refused changed %v to %v", ahead, behind)
		}
	}
}

// state is all that a wood holds.
type state struct {
	words              []int64
	usedYoung, usedOld int
	marked             []int
	regs, wait         []side.Entry
	roots              []int64
}

func stateOf(w *wood.Wood) state {
	var s state
	s.words = w.Words()
	s.usedYoung, s.usedOld = w.Used()
	for at := range s.words {
		if w.Cards.Dirty(at) {
			s.marked = append(s.marked, at)
		}
	}
	s.regs, s.wait = slices.Clone(w.Side.Regs), slices.Clone(w.Side.Wait)
	s.roots = slices.Clone(w.Roots)
	return s
}

func (s state) equal(o state) bool {
	return slices.Equal(s.words, o.words) && s.usedYoung == o.usedYoung && s.usedOld == o.usedOld &&
		slices.Equal(s.marked, o.marked) && slices.Equal(s.regs, o.regs) && slices.Equal(s.wait, o.wait) &&
		slices.Equal(s.roots, o.roots)
}

// source gives numbers, the same ones each time.
type source uint64

func (s *source) below(n int) int {
	*s = *s*6364136223846793005 + 1442695040888963407
	return int(uint64(*s)>>33) % n
}
