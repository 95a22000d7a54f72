package minor_test

import (
	"slices"
	"testing"

	"underwood/api"
	"underwood/minor"
	"underwood/side"
	"underwood/wood"
	"underwood/word"
)

// thing is itself: it has no place, but the one at which it is looked for in the wood.
type thing struct {
	kind   int
	old    bool
	at     int
	fields []value
}

func (th *thing) words() int { return 1 + len(th.fields) }

// value leads to a thing, or is a word.
type value struct {
	to *thing
	x  int64
}

type guarded struct{ guard, thing *thing }

// model is a wood told otherwise: things that lead to each other, and no cards.
type model struct {
	nursery, room int
	things        []*thing
	roots         []value
	regs, wait    []guarded
}

func newModel(nursery, room int) *model {
	return &model{nursery: nursery, room: room, roots: slices.Repeat([]value{{x: word.Nil()}}, api.MaxRoots)}
}

func (m *model) used(old bool) int {
	n := 0
	for _, th := range m.things {
		if th.old == old {
			n += th.words()
		}
	}
	return n
}

// life is which things are alive.
type life map[*thing]int

func (l life) has(v value) bool { return v.to == nil || l[v.to] > 0 }

// add makes alive what a value leads to; was it not?
func (l life) add(v value) bool {
	if l.has(v) {
		return false
	}
	l[v.to] = 1
	return true
}

// kept answers what a thing that is alive keeps alive.
func (m *model) kept(th *thing, l life) []value {
	switch th.kind {
	case api.KWeak:
		return th.fields[1:]
	case api.KEphem:
		if l.has(th.fields[0]) {
			return th.fields[1:]
		}
		return nil
	case api.KGuard:
		var values []value
		for _, e := range m.wait {
			if e.guard == th {
				values = append(values, value{to: e.thing})
			}
		}
		return values
	}
	return th.fields
}

// spread asks all things, again and again.
func (m *model) spread(l life) {
	for more := true; more; {
		more = false
		for _, th := range m.things {
			if l[th] == 0 {
				continue
			}
			for _, v := range m.kept(th, l) {
				more = l.add(v) || more
			}
		}
	}
}

// settle is Side.Settle's, and spreads at once.
func (m *model) settle(l life) {
	var regs, dead []guarded
	for _, e := range m.regs {
		if l[e.thing] > 0 {
			regs = append(regs, e)
		} else {
			dead = append(dead, e)
		}
	}
	for more := true; more; {
		more = false
		var rest []guarded
		for _, e := range dead {
			if l[e.guard] == 0 {
				rest = append(rest, e)
				continue
			}
			more = true
			l[e.thing]++
			m.wait = append(m.wait, e)
			m.spread(l)
		}
		dead = rest
	}
	lost := func(e guarded) bool { return l[e.guard] == 0 }
	m.regs, m.wait = slices.DeleteFunc(regs, lost), slices.DeleteFunc(m.wait, lost)
}

func (m *model) cut() int {
	if m.used(false) > m.room-m.used(true) {
		return api.ErrFull
	}
	l := life{}
	for _, th := range m.things {
		if th.old {
			l[th] = 1
		}
	}
	for _, v := range m.roots {
		l.add(v)
	}
	m.spread(l)
	m.settle(l)
	m.things = slices.DeleteFunc(m.things, func(th *thing) bool { return l[th] == 0 })
	for _, th := range m.things {
		gone := value{x: word.Gone()}
		if th.kind == api.KWeak && !l.has(th.fields[0]) {
			th.fields[0] = gone
		}
		if th.kind == api.KEphem && !l.has(th.fields[0]) {
			th.fields[0], th.fields[1] = gone, gone
		}
	}
	return 0
}

// word answers the word of a value, by where its thing is looked for.
func (v value) word() int64 {
	if v.to == nil {
		return v.x
	}
	return word.Ref(v.to.at)
}

// match finds the things of the model again behind a cut, and holds that the wood leads from each to the others.
type match struct {
	t     *testing.T
	found map[*thing]int
	todo  []*thing
}

// meet holds that a word is a value; a young thing is where the word leads that is met first.
func (k *match) meet(what string, x int64, v value) {
	k.t.Helper()
	if v.to != nil && !v.to.old && k.found[v.to] == 0 {
		at, _ := word.At(x)
		for other, n := range k.found {
			if n > 0 && other.at == at {
				k.t.Errorf("%s: two things are at %d", what, at)
			}
		}
		v.to.at = at
		k.found[v.to]++
		k.todo = append(k.todo, v.to)
	}
	if x != v.word() {
		k.t.Errorf("%s: %d, want %d", what, x, v.word())
	}
}

// entries holds that what stands beside is the same, in the same order.
func (k *match) entries(what string, got []side.Entry, want []guarded) {
	k.t.Helper()
	if len(got) != len(want) {
		k.t.Fatalf("%s is %v, want %d", what, got, len(want))
	}
	for i, e := range want {
		k.meet(what, got[i].Guard, value{to: e.guard})
		k.meet(what, got[i].Thing, value{to: e.thing})
	}
}

// compare holds a wood behind a cut against the model.
func (m *model) compare(t *testing.T, w *wood.Wood) {
	t.Helper()
	k := &match{t: t, found: map[*thing]int{}}
	for _, th := range m.things {
		if th.old {
			k.found[th]++
			k.todo = append(k.todo, th)
		}
	}
	for i, v := range m.roots {
		k.meet("a root", w.Roots[i], v)
	}
	k.entries("what is registered", w.Side.Regs, m.regs)
	k.entries("what waits", w.Side.Wait, m.wait)
	for len(k.todo) > 0 && !t.Failed() {
		th := k.todo[0]
		k.todo = k.todo[1:]
		if kind, n, _ := w.Kind(word.Ref(th.at)); kind != th.kind || n != len(th.fields) || !w.Old(th.at) {
			t.Fatalf("at %d is the kind %d with %d fields, want %d with %d", th.at, kind, n, th.kind, len(th.fields))
		}
		for i, v := range th.fields {
			k.meet("a field", field(t, w, word.Ref(th.at), i), v)
		}
	}
	for _, th := range m.things {
		th.old = true
	}
	young, old := w.Used()
	if young != 0 || old != m.used(true) || w.Cards.Count() != 0 {
		t.Errorf("%d, %d words are in use, want 0, %d; %d cards are marked", young, old, m.used(true), w.Cards.Count())
	}
	leadsNotYoung(t, w)
}

// some answers a value: mostly one that leads to a thing, of those that came last.
func (m *model) some(s *source) value {
	n := len(m.things)
	if n == 0 || s.below(8) == 0 {
		return value{x: []int64{word.Nil(), word.Gone(), number(int64(s.below(9)))}[s.below(3)]}
	}
	if s.below(3) > 0 {
		return value{to: m.things[n-1-s.below(min(n, 8))]}
	}
	return value{to: m.things[s.below(n)]}
}

// guardian answers one of those that there are; nil: there is none.
func (m *model) guardian(s *source) *thing {
	var l []*thing
	for _, th := range m.things {
		if th.kind == api.KGuard {
			l = append(l, th)
		}
	}
	if len(l) == 0 {
		return nil
	}
	return l[s.below(len(l))]
}

func (m *model) make(w *wood.Wood, s *source) {
	kind, n := 1+s.below(5), 2
	switch kind {
	case api.KVector:
		n = s.below(5)
	case api.KGuard:
		n = 0
	}
	at := w.Make(kind, n)
	if at < 0 {
		return
	}
	th := &thing{kind: kind, at: at, fields: slices.Repeat([]value{{x: word.Nil()}}, n)}
	m.things = append(m.things, th)
	for i := range n {
		m.set(w, th, i, m.some(s))
	}
}

func (m *model) set(w *wood.Wood, th *thing, i int, v value) {
	th.fields[i] = v
	w.Set(word.Ref(th.at), i, v.word())
}

// step does one thing to both, and seldom cuts.
func (m *model) step(t *testing.T, w *wood.Wood, s *source) {
	t.Helper()
	switch n := s.below(40); {
	case n < 18:
		m.make(w, s)
	case n < 26:
		if th := m.some(s).to; th != nil && len(th.fields) > 0 {
			m.set(w, th, s.below(len(th.fields)), m.some(s))
		}
	case n < 32:
		r, v := s.below(api.MaxRoots), m.some(s)
		m.roots[r] = v
		w.Roots[r] = v.word()
	case n < 34:
		r := s.below(api.MaxRoots)
		m.roots[r] = value{x: word.Nil()}
		w.Roots[r] = word.Nil()
	case n < 37:
		g, th := m.guardian(s), m.some(s).to
		if g != nil && th != nil && w.Side.Reg(side.Entry{Guard: word.Ref(g.at), Thing: word.Ref(th.at)}) {
			m.regs = append(m.regs, guarded{g, th})
		}
	case n < 38:
		m.pop(t, w, s)
	default:
		m.stepCut(t, w)
	}
}

// pop lets what a guardian tells be a root.
func (m *model) pop(t *testing.T, w *wood.Wood, s *source) {
	t.Helper()
	g := m.guardian(s)
	if g == nil {
		return
	}
	i := slices.IndexFunc(m.wait, func(e guarded) bool { return e.guard == g })
	x, ok := w.Side.Pop(word.Ref(g.at))
	if ok != (i >= 0) {
		t.Fatalf("Pop tells %d, %v", x, ok)
	}
	if i < 0 {
		return
	}
	m.roots[0], w.Roots[0] = value{to: m.wait[i].thing}, x
	m.wait = slices.Delete(m.wait, i, i+1)
}

func (m *model) stepCut(t *testing.T, w *wood.Wood) {
	t.Helper()
	ahead := stateOf(w)
	code, want := minor.Cut(w), m.cut()
	if code != want {
		t.Fatalf("Cut has the code %d, want %d", code, want)
	}
	if code == 0 {
		m.compare(t, w)
	} else if behind := stateOf(w); !ahead.equal(behind) {
		t.Errorf("a cut that is refused changed %v to %v", ahead, behind)
	}
}

// P1, P6.1: many steps and cuts, one behind the other.
func TestAgainstModel(t *testing.T) {
	s := source(1)
	for _, x := range [][2]int{{16, 0}, {16, 40}, {32, 100}, {64, 200}, {64, 1024}, {128, 1024}, {256, 1024}} {
		for range 60 {
			w, m := newWood(t, x[0], x[1]), newModel(x[0], x[1])
			for range 400 {
				m.step(t, w, &s)
				if t.Failed() {
					t.Fatalf("of a nursery of %d words, an old space of %d", x[0], x[1])
				}
			}
		}
	}
}

// P1: one wood is cut as another one like it is, to the word.
func TestSameWoodsAreCutTheSame(t *testing.T) {
	for seed := range source(20) {
		var states []state
		for range 4 {
			s := seed
			w, m := newWood(t, 64, 300), newModel(64, 300)
			for range 200 {
				m.step(t, w, &s)
			}
			states = append(states, stateOf(w))
		}
		for _, o := range states[1:] {
			if !states[0].equal(o) {
				t.Fatalf("of one wood came %v and %v", states[0], o)
			}
		}
	}
}

// P1: words of things, too, are overwritten, things are cut off anywhere, cards are marked or not: each cut ends, and has its code.
func TestAnyWords(t *testing.T) {
	s := source(2)
	anyWord := func() int64 {
		if s.below(2) == 0 {
			return word.Ref(s.below(70))
		}
		return int64(s.below(240)) - 10
	}
	for range 400 {
		w := newWood(t, 24, 40)
		for range 60 {
			switch s.below(10) {
			case 0, 1, 2:
				w.Make(1+s.below(5), []int{0, 2, 2, s.below(13)}[s.below(4)])
			case 3:
				w.Copy(s.below(64))
			case 4:
				w.Store(s.below(64), anyWord())
			case 5, 6:
				w.Set(anyWord(), s.below(4), anyWord())
			case 7:
				w.Roots[s.below(api.MaxRoots)] = anyWord()
				w.Side.Reg(side.Entry{Guard: anyWord(), Thing: anyWord()})
			case 8:
				if s.below(3) == 0 {
					w.Arena.Cut(s.below(41))
				}
				w.Cards.Mark(24 + s.below(40))
				wait(w, anyWord(), anyWord())
			case 9:
				cutAny(t, w)
				w.View()
			}
			if t.Failed() {
				return
			}
		}
	}
}
