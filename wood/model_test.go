package wood_test

import (
	"slices"
	"testing"

	"underwood/api"
	"underwood/side"
	"underwood/wood"
	"underwood/word"
)

// model is a wood told otherwise: a list of things, each of which knows where it is.
type model struct {
	nursery, room int
	usedYoung     int
	usedOld       int
	things        []*thing
	marks         map[int]int
	roots         []int64
	wait          []side.Entry
}

type thing struct {
	kind, at int
	fields   []int64
}

func newModel(nursery, room int) *model {
	return &model{nursery: nursery, room: room, marks: map[int]int{}, roots: slices.Repeat([]int64{2}, api.MaxRoots)}
}

// find answers the thing to which a word leads; nil: it leads to none.
func (m *model) find(x int64) *thing {
	for _, th := range m.things {
		if x == int64(th.at)*4+1 {
			return th
		}
	}
	return nil
}

func (m *model) make(kind, fields int) bool {
	if m.usedYoung+1+fields > m.nursery {
		return false
	}
	m.things = append(m.things, &thing{kind: kind, at: m.usedYoung, fields: slices.Repeat([]int64{2}, fields)})
	m.usedYoung += 1 + fields
	return true
}

func (m *model) copy(th *thing) bool {
	n := 1 + len(th.fields)
	if m.usedOld+n > m.room {
		return false
	}
	m.things = append(m.things, &thing{kind: th.kind, at: m.nursery + m.usedOld, fields: slices.Clone(th.fields)})
	m.usedOld += n
	return true
}

func (m *model) clear() {
	m.usedYoung = 0
	m.things = slices.DeleteFunc(m.things, func(th *thing) bool { return th.at < m.nursery })
}

func (m *model) get(x int64, i int) (int64, int) {
	th := m.find(x)
	switch {
	case th == nil || th.kind == api.KGuard:
		return 0, api.ErrKind
	case i < 0 || i >= len(th.fields):
		return 0, api.ErrRange
	}
	return th.fields[i], 0
}

func (m *model) set(x int64, i int, y int64) int {
	_, code := m.get(x, i)
	if code != 0 {
		return code
	}
	th := m.find(x)
	th.fields[i] = y
	if th.at >= m.nursery && y >= 0 && y%4 == 1 && y/4 < int64(m.usedYoung) {
		m.marks[(th.at-m.nursery)/8]++
	}
	return 0
}

// shown answers the words that a thing's node shows.
func (m *model) shown(th *thing) []int64 {
	if th.kind != api.KGuard {
		return th.fields
	}
	var l []int64
	for _, e := range m.wait {
		if m.find(e.Guard) == th {
			l = append(l, e.Thing)
		}
	}
	return l
}

// met answers the things that roots lead to, in order: by a list of what is still to be looked at, the next one last.
func (m *model) met() []*thing {
	var met []*thing
	todo := slices.Clone(m.roots)
	slices.Reverse(todo)
	for len(todo) > 0 {
		th := m.find(todo[len(todo)-1])
		todo = todo[:len(todo)-1]
		if th == nil || slices.Contains(met, th) {
			continue
		}
		met = append(met, th)
		fields := slices.Clone(m.shown(th))
		slices.Reverse(fields)
		todo = append(todo, fields...)
	}
	return met
}

func (m *model) view() api.View {
	met := m.met()
	values := func(words []int64) []api.Val {
		var l []api.Val
		for _, x := range words {
			v, code := word.Decode(x)
			if n := slices.Index(met, m.find(x)); n >= 0 {
				v.N = int64(n)
			} else if code != 0 || v.Kind == api.VRef {
				v = none
			}
			l = append(l, v)
		}
		return l
	}
	v := api.View{Roots: values(m.roots)}
	for _, th := range met {
		v.Nodes = append(v.Nodes, node(th.kind, values(m.shown(th))...))
	}
	return v
}

// compare holds all that a wood tells against the model.
func (m *model) compare(t *testing.T, w *wood.Wood) {
	t.Helper()
	ahead := stateOf(w)
	for at := range m.nursery + m.room + 2 {
		x := word.Ref(at)
		kind, fields, code := w.Kind(x)
		if th := m.find(x); th == nil {
			if kind != 0 || fields != 0 || code != api.ErrKind {
				t.Errorf("Kind(%d) = %d, %d, %d; no thing is there", x, kind, fields, code)
			}
		} else if kind != th.kind || fields != len(th.fields) || code != 0 {
			t.Errorf("Kind(%d) = %d, %d, %d, want %v", x, kind, fields, code, th)
		}
		for i := -1; i <= fields+1; i++ {
			y, code := w.Get(x, i)
			if want, wantCode := m.get(x, i); y != want || code != wantCode {
				t.Errorf("Get(%d, %d) = %d, %d, want %d, %d", x, i, y, code, want, wantCode)
			}
		}
	}
	for at := range m.room {
		if dirty := w.Cards.Dirty(m.nursery + at); dirty != (m.marks[at/8] > 0) {
			t.Errorf("the card of %d is marked: %v", m.nursery+at, dirty)
		}
	}
	if got, want := w.View(), m.view(); !sameView(got, want) {
		t.Errorf("View() = %v, want %v", got, want)
	}
	if !ahead.equal(stateOf(w)) {
		t.Errorf("what was asked changed %v to %v", ahead, stateOf(w))
	}
}

// source gives numbers, the same ones each time.
type source uint64

func (s *source) below(n int) int {
	*s = *s*6364136223846793005 + 1442695040888963407
	return int(uint64(*s)>>33) % n
}

// some answers a word: mostly one that leads to a thing, or any other.
func (m *model) some(s *source) int64 {
	switch n := s.below(12); {
	case n < 8 && len(m.things) > 0:
		return int64(m.things[s.below(len(m.things))].at)*4 + 1
	case n < 9:
		return int64(s.below(m.nursery+m.room+8))*4 + 1
	case n < 10:
		return int64(s.below(40)) * 4
	default:
		return int64(s.below(60)) - 20
	}
}

// step does one thing to both, and holds the answers against each other.
func (m *model) step(t *testing.T, w *wood.Wood, s *source) {
	t.Helper()
	switch s.below(16) {
	case 0, 1, 2, 3:
		k := kinds()[s.below(len(kinds()))]
		if ok := w.Make(k[0], k[1]) >= 0; ok != m.make(k[0], k[1]) {
			t.Errorf("Make(%d, %d): %v", k[0], k[1], ok)
		}
	case 4, 5:
		if th := m.find(m.some(s)); th != nil {
			if ok := w.Copy(th.at) >= 0; ok != m.copy(th) {
				t.Errorf("Copy(%d): %v", th.at, ok)
			}
		}
	case 6, 7, 8, 9, 10:
		x, i, y := m.some(s), s.below(6)-1, m.some(s)
		if code, want := w.Set(x, i, y), m.set(x, i, y); code != want {
			t.Errorf("Set(%d, %d, %d) = %d, want %d", x, i, y, code, want)
		}
	case 11, 12, 13:
		r := s.below(api.MaxRoots)
		m.roots[r] = m.some(s)
		w.Roots[r] = m.roots[r]
	case 14:
		if len(m.wait) < api.MaxRegs {
			e := side.Entry{Guard: m.some(s), Thing: m.some(s)}
			m.wait = append(m.wait, e)
			w.Side.Wait = append(w.Side.Wait, e)
		}
	case 15:
		m.stepCut(w, s)
	}
}

// stepCut does seldom what a cut does.
func (m *model) stepCut(w *wood.Wood, s *source) {
	switch s.below(8) {
	case 0:
		m.clear()
		w.Clear()
	case 1:
		m.marks = map[int]int{}
		w.Cards.Clear()
	}
}

// P1, P5.1 to P5.4, Kind: many steps, one behind the other.
func TestAgainstModel(t *testing.T) {
	s := source(1)
	for _, x := range [][2]int{{16, 0}, {16, 8}, {16, 40}, {20, 30}, {40, 16}, {64, 64}, {100, 60}} {
		for range 5 {
			w, m := newWood(t, x[0], x[1]), newModel(x[0], x[1])
			for range 150 {
				m.step(t, w, &s)
				m.compare(t, w)
				if t.Failed() {
					return
				}
			}
		}
	}
}

// P1: words of things, too, are overwritten, and things are cut off anywhere.
func TestAnyWords(t *testing.T) {
	s := source(2)
	anyWord := func() int64 {
		if s.below(2) == 0 {
			return word.Ref(s.below(42))
		}
		return int64(s.below(240)) - 10
	}
	for range 60 {
		w := newWood(t, 16, 24)
		for range 80 {
			k := kinds()[s.below(len(kinds()))]
			switch s.below(8) {
			case 0, 1:
				w.Make(k[0], k[1])
			case 2:
				w.Copy(s.below(40))
			case 3:
				w.Store(s.below(40), anyWord())
			case 4, 5:
				wantSet(t, w, anyWord(), s.below(6)-1, anyWord())
			case 6:
				w.Roots[s.below(api.MaxRoots)] = anyWord()
				wait(w, anyWord(), anyWord())
			case 7:
				w.Cut(s.below(25))
			}
			holds(t, w)
			if t.Failed() {
				return
			}
		}
	}
}

// wantSet holds that Set and Get have the same code, and tell of the same field.
func wantSet(t *testing.T, w *wood.Wood, x int64, i int, y int64) {
	t.Helper()
	_, want := w.Get(x, i)
	if want != 0 {
		wantNoSet(t, w, x, i, y, want)
		return
	}
	if code := w.Set(x, i, y); code != 0 {
		t.Errorf("Set(%d, %d, %d) = %d", x, i, y, code)
	}
	wantGet(t, w, x, i, y, 0)
}

// holds asks all of a wood, and holds its answers against each other.
func holds(t *testing.T, w *wood.Wood) {
	t.Helper()
	unchanged(t, w, "what was asked", func() {
		for at := range 42 {
			_, fields, code := w.Kind(word.Ref(at))
			for i := -1; i <= fields; i++ {
				y, c := w.Get(word.Ref(at), i)
				if c == 0 && (code != 0 || y != w.Load(at+1+i)) || c != 0 && y != 0 {
					t.Errorf("Get(%d, %d) = %d, %d", at*4+1, i, y, c)
				}
			}
		}
		v := w.View()
		for _, list := range listsOf(v) {
			for _, x := range list {
				if x.Kind == api.VRef && (x.N < 0 || x.N >= int64(len(v.Nodes))) {
					t.Errorf("the node %d of %d", x.N, len(v.Nodes))
				}
			}
		}
	})
}
