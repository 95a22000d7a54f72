package major_test

import (
	"cmp"
	"slices"
	"testing"

	"underwood/api"
	"underwood/major"
	"underwood/minor"
	"underwood/side"
	"underwood/word"
)

// thing is itself: it has no place, but the one at which it is looked for in the wood.
type thing struct {
	kind   int
	old    bool
	at     int
	fields []value
}

func (th *thing) words() int { return 1 + len(th.fields) }

// value leads to a thing, or is a word.
type value struct {
	to *thing
	x  int64
}

// word answers the word of a value, by where its thing is looked for.
func (v value) word() int64 {
	if v.to == nil {
		return v.x
	}
	return word.Ref(v.to.at)
}

type guarded struct{ guard, thing *thing }

// model is a wood told otherwise: things that lead to each other, and no cards.
type model struct {
	room       int
	things     []*thing
	roots      []value
	regs, wait []guarded
}

func newModel(room int) *model {
	return &model{room: room, roots: slices.Repeat([]value{{x: word.Nil()}}, api.MaxRoots)}
}

// used answers how many words those things have that a look picks out.
func (m *model) used(look func(th *thing) bool) int {
	n := 0
	for _, th := range m.things {
		if look(th) {
			n += th.words()
		}
	}
	return n
}

func isOld(th *thing) bool   { return th.old }
func isYoung(th *thing) bool { return !th.old }

// life is which things are alive.
type life map[*thing]bool

func (l life) has(v value) bool { return v.to == nil || l[v.to] }

// add makes alive what a value leads to; was it not?
func (l life) add(v value) bool {
	if l.has(v) {
		return false
	}
	l[v.to] = true
	return true
}

// kept answers what a thing that is alive keeps alive.
func (m *model) kept(th *thing, l life) []value {
	switch th.kind {
	case api.KWeak:
		return th.fields[1:]
	case api.KEphem:
		if l.has(th.fields[0]) {
			return th.fields[1:]
		}
		return nil
	case api.KGuard:
		var values []value
		for _, e := range m.wait {
			if e.guard == th {
				values = append(values, value{to: e.thing})
			}
		}
		return values
	}
	return th.fields
}

// spread asks all things, again and again.
func (m *model) spread(l life) {
	for more := true; more; {
		more = false
		for _, th := range m.things {
			if !l[th] {
				continue
			}
			for _, v := range m.kept(th, l) {
				more = l.add(v) || more
			}
		}
	}
}

// settle is Side.Settle's, and spreads at once.
func (m *model) settle(l life) {
	var regs, dead []guarded
	for _, e := range m.regs {
		if l[e.thing] {
			regs = append(regs, e)
		} else {
			dead = append(dead, e)
		}
	}
	for more := true; more; {
		more = false
		var rest []guarded
		for _, e := range dead {
			if !l[e.guard] {
				rest = append(rest, e)
				continue
			}
			more = true
			l[e.thing] = true
			m.wait = append(m.wait, e)
			m.spread(l)
		}
		dead = rest
	}
	lost := func(e guarded) bool { return !l[e.guard] }
	m.regs, m.wait = slices.DeleteFunc(regs, lost), slices.DeleteFunc(m.wait, lost)
}

// cut does a great cut, or a small one.
func (m *model) cut(great bool) int {
	if !great && m.used(isYoung) > m.room-m.used(isOld) {
		return api.ErrFull
	}
	l := life{}
	for _, th := range m.things {
		l[th] = !great && th.old
	}
	for _, v := range m.roots {
		l.add(v)
	}
	then := *m
	then.wait = slices.Clone(m.wait)
	then.spread(l)
	then.settle(l)
	if m.used(func(th *thing) bool { return l[th] }) > m.room {
		return api.ErrFull
	}
	*m = then
	m.things = slices.DeleteFunc(m.things, func(th *thing) bool { return !l[th] })
	for _, th := range m.things {
		gone := value{x: word.Gone()}
		if th.kind == api.KWeak && !l.has(th.fields[0]) {
			th.fields[0] = gone
		}
		if th.kind == api.KEphem && !l.has(th.fields[0]) {
			th.fields[0], th.fields[1] = gone, gone
		}
	}
	return 0
}

// slide looks for the old things one behind the other, in the order in which they stood.
func (m *model) slide(base int) {
	slices.SortStableFunc(m.things, func(a, b *thing) int { return cmp.Compare(a.at, b.at) })
	for _, th := range m.things {
		if th.old {
			th.at = base
			base += th.words()
		}
	}
}

// match finds the young things of the model again behind a cut, and holds that the wood leads from each to the others.
type match struct {
	*ground
	found map[*thing]bool
	todo  []*thing
}

// meet holds that a word is a value; a young thing is where the word leads that is met first.
func (k *match) meet(what string, x int64, v value) {
	k.t.Helper()
	if v.to != nil && !k.found[v.to] {
		at, _ := word.At(x)
		for other := range k.found {
			if other.at == at {
				k.t.Errorf("%s: two things are at %d", what, at)
			}
		}
		v.to.at = at
		k.found[v.to] = true
		k.todo = append(k.todo, v.to)
	}
	if x != v.word() {
		k.t.Errorf("%s: %d, want %d", what, x, v.word())
	}
}

// entries holds that what stands beside is the same, in the same order.
func (k *match) entries(what string, got []side.Entry, want []guarded) {
	k.t.Helper()
	if len(got) != len(want) {
		k.t.Fatalf("%s is %v, want %d", what, got, len(want))
	}
	for i, e := range want {
		k.meet(what, got[i].Guard, value{to: e.guard})
		k.meet(what, got[i].Thing, value{to: e.thing})
	}
}

// compare holds a wood behind a cut against the model.
func (m *model) compare(g *ground) {
	g.t.Helper()
	k := &match{ground: g, found: map[*thing]bool{}}
	for _, th := range m.things {
		if th.old {
			k.found[th] = true
			k.todo = append(k.todo, th)
		}
	}
	for i, v := range m.roots {
		k.meet("a root", g.Roots[i], v)
	}
	k.entries("what is registered", g.Side.Regs, m.regs)
	k.entries("what waits", g.Side.Wait, m.wait)
	_, end := g.Bounds()
	end += m.used(isOld)
	for len(k.todo) > 0 && !g.t.Failed() {
		th := k.todo[0]
		k.todo = k.todo[1:]
		kind, n, _ := g.Kind(word.Ref(th.at))
		if kind != th.kind || n != len(th.fields) || !g.Old(th.at) || th.old != (th.at < end) {
			g.t.Fatalf("at %d is the kind %d with %d fields, want %d with %d", th.at, kind, n, th.kind, len(th.fields))
		}
		for i, v := range th.fields {
			k.meet("a field", g.field(word.Ref(th.at), i), v)
		}
	}
	for _, th := range m.things {
		th.old = true
	}
	if young, old := g.Used(); young != 0 || old != m.used(isOld) || g.Cards.Count() != 0 {
		g.t.Errorf("%d, %d words are in use, want 0, %d; %d cards are marked", young, old, m.used(isOld), g.Cards.Count())
	}
	g.leadsWell()
}

// some answers a value: mostly one that leads to a thing, of those that came last.
func (m *model) some(s *source) value {
	n := len(m.things)
	if n == 0 || s.below(8) == 0 {
		return value{x: []int64{word.Nil(), word.Gone(), number(int64(s.below(9)))}[s.below(3)]}
	}
	if s.below(3) > 0 {
		return value{to: m.things[n-1-s.below(min(n, 8))]}
	}
	return value{to: m.things[s.below(n)]}
}

// guardian answers one of those that there are; nil: there is none.
func (m *model) guardian(s *source) *thing {
	var l []*thing
	for _, th := range m.things {
		if th.kind == api.KGuard {
			l = append(l, th)
		}
	}
	if len(l) == 0 {
		return nil
	}
	return l[s.below(len(l))]
}

func (m *model) make(g *ground, s *source) {
	kind, n := 1+s.below(5), 2
	switch kind {
	case api.KVector:
		n = s.below(5)
	case api.KGuard:
		n = 0
	}
	at := g.Make(kind, n)
	if at < 0 {
		return
	}
	th := &thing{kind: kind, at: at, fields: slices.Repeat([]value{{x: word.Nil()}}, n)}
	m.things = append(m.things, th)
	for i := range n {
		m.set(g, th, i, m.some(s))
	}
}

func (m *model) set(g *ground, th *thing, i int, v value) {
	th.fields[i] = v
	g.Set(word.Ref(th.at), i, v.word())
}

// step does one thing to both, and seldom cuts.
func (m *model) step(g *ground, s *source) {
	g.t.Helper()
	switch n := s.below(40); {
	case n < 18:
		m.make(g, s)
	case n < 26:
		if th := m.some(s).to; th != nil && len(th.fields) > 0 {
			m.set(g, th, s.below(len(th.fields)), m.some(s))
		}
	case n < 31:
		r, v := s.below(api.MaxRoots), m.some(s)
		m.roots[r] = v
		g.Roots[r] = v.word()
	case n < 34:
		r := s.below(api.MaxRoots)
		m.roots[r] = value{x: word.Nil()}
		g.Roots[r] = word.Nil()
	case n < 37:
		guard, th := m.guardian(s), m.some(s).to
		if guard != nil && th != nil && g.Side.Reg(side.Entry{Guard: word.Ref(guard.at), Thing: word.Ref(th.at)}) {
			m.regs = append(m.regs, guarded{guard, th})
		}
	case n < 38:
		m.pop(g, s)
	default:
		m.stepCut(g, s.below(3) > 0)
	}
}

// pop lets what a guardian tells be a root.
func (m *model) pop(g *ground, s *source) {
	g.t.Helper()
	guard := m.guardian(s)
	if guard == nil {
		return
	}
	i := slices.IndexFunc(m.wait, func(e guarded) bool { return e.guard == guard })
	x, ok := g.Side.Pop(word.Ref(guard.at))
	if ok != (i >= 0) {
		g.t.Fatalf("Pop tells %d, %v", x, ok)
	}
	if i < 0 {
		return
	}
	m.roots[0], g.Roots[0] = value{to: m.wait[i].thing}, x
	m.wait = slices.Delete(m.wait, i, i+1)
}

func (m *model) stepCut(g *ground, great bool) {
	g.t.Helper()
	ahead := stateOf(g.Wood)
	code, want := 0, m.cut(great)
	if great {
		code = major.Cut(g.Wood)
	} else {
		code = minor.Cut(g.Wood)
	}
	if code != want {
		g.t.Fatalf("Cut has the code %d, want %d", code, want)
	}
	if code != 0 {
		if behind := stateOf(g.Wood); !ahead.equal(behind) {
			g.t.Errorf("a cut that is refused changed %v to %v", ahead, behind)
		}
		return
	}
	if great {
		_, base := g.Bounds()
		m.slide(base)
	}
	m.compare(g)
}

// P1, P7.1: many steps and cuts, small ones and great ones, one behind the other.
func TestAgainstModel(t *testing.T) {
	s := source(1)
	refused := 0
	for _, x := range [][2]int{{16, 0}, {16, 8}, {16, 40}, {32, 60}, {64, 100}, {64, 200}, {64, 1024}, {128, 300}, {256, 300}, {256, 1024}} {
		for range 60 {
			g, m := newGround(t, x[0], x[1]), newModel(x[1])
			for range 400 {
				m.step(g, &s)
				if t.Failed() {
					t.Fatalf("of a nursery of %d words, an old space of %d", x[0], x[1])
				}
			}
			if major.Cut(g.Wood) != 0 {
				refused++
			}
		}
	}
	if refused == 0 || refused == 600 {
		t.Errorf("of 600 cuts %d are refused: these steps try one way alone", refused)
	}
}

// P1: one wood is cut as another one like it is, to the word.
func TestSameWoodsAreCutTheSame(t *testing.T) {
	for seed := range source(20) {
		var states []state
		for range 4 {
			s := seed
			g, m := newGround(t, 64, 300), newModel(300)
			for range 200 {
				m.step(g, &s)
			}
			states = append(states, stateOf(g.Wood))
		}
		for _, o := range states[1:] {
			if !states[0].equal(o) {
				t.Fatalf("of one wood came %v and %v", states[0], o)
			}
		}
	}
}

// cutAny holds what is so behind each great cut, whatever the words are.
func (g *ground) cutAny() {
	g.t.Helper()
	ahead := stateOf(g.Wood)
	code := major.Cut(g.Wood)
	young, old := g.Used()
	switch {
	case code == api.ErrFull:
		if !ahead.equal(stateOf(g.Wood)) {
			g.t.Errorf("a cut that is refused changed %v", ahead)
		}
	case code != 0 || young != 0 || old > ahead.usedYoung+ahead.usedOld || g.Cards.Count() != 0:
		g.t.Errorf("Cut has the code %d; %d, %d words are in use, %d cards marked", code, young, old, g.Cards.Count())
	}
}

// P1: words of things, too, are overwritten, things are cut off anywhere, cards are marked or not: each cut ends, and has its code.
func TestAnyWords(t *testing.T) {
	s := source(2)
	anyWord := func() int64 {
		if s.below(2) == 0 {
			return word.Ref(s.below(70))
		}
		return int64(s.below(240)) - 10
	}
	for range 400 {
		g := newGround(t, 24, 40)
		for range 60 {
			switch s.below(11) {
			case 0, 1, 2:
				g.Make(1+s.below(5), []int{0, 2, 2, s.below(13)}[s.below(4)])
			case 3:
				g.Copy(s.below(64))
			case 4:
				g.Store(s.below(64), anyWord())
			case 5, 6:
				g.Set(anyWord(), s.below(4), anyWord())
			case 7:
				g.Roots[s.below(api.MaxRoots)] = anyWord()
				g.Side.Reg(side.Entry{Guard: anyWord(), Thing: anyWord()})
			case 8:
				if s.below(3) == 0 {
					g.Arena.Cut(s.below(41))
				}
				g.Cards.Mark(24 + s.below(40))
				g.wait(anyWord(), anyWord())
			case 9:
				g.cutAny()
				g.View()
			case 10:
				minor.Cut(g.Wood)
			}
			if t.Failed() {
				return
			}
		}
	}
}
