package grove_test

import (
	"slices"

	"underwood/api"
)

// thing is told from others by its address; whether it is old is written on it.
type thing struct {
	kind   int
	old    bool
	fields []value
}

func (th *thing) words() int { return 1 + len(th.fields) }

// value leads to a thing, or is a plain value; two of them are the same just if they are equal.
type value struct {
	to *thing
	v  api.Val
}

func plainValue(kind int, n int64) value { return value{v: api.Val{Kind: kind, N: n}} }

type guarded struct{ guard, thing *thing }

// model is a grove told as slowly and plainly as can be: who is alive is asked of all things, again and again.
type model struct {
	nursery, room int
	things        []*thing
	roots         []value
	regs, wait    []guarded
	small, great  int // how many cuts were made for room
}

func newModel(nursery, room int) *model {
	return &model{nursery: nursery, room: room, roots: make([]value, api.MaxRoots)}
}

// used answers how many words things have in all, the young ones and the old ones.
func (m *model) used() (int, int) {
	young, old := 0, 0
	for _, th := range m.things {
		if th.old {
			old += th.words()
		} else {
			young += th.words()
		}
	}
	return young, old
}

// life is which things are alive.
type life map[*thing]bool

func (l life) has(v value) bool { return v.to == nil || l[v.to] }

// kept answers what a thing that is alive keeps alive.
func (m *model) kept(th *thing, l life) []value {
	switch th.kind {
	case api.KWeak:
		return th.fields[1:]
	case api.KEphem:
		if l.has(th.fields[0]) {
			return th.fields[1:]
		}
		return nil
	case api.KGuard:
		var values []value
		for _, x := range m.waiting(th) {
			values = append(values, value{to: x})
		}
		return values
	}
	return th.fields
}

func (m *model) waiting(guard *thing) []*thing {
	var l []*thing
	for _, e := range m.wait {
		if e.guard == guard {
			l = append(l, e.thing)
		}
	}
	return l
}

// spread asks all things, again and again, till nothing more is alive.
func (m *model) spread(l life) {
	for more := true; more; {
		more = false
		for _, th := range m.things {
			if !l[th] {
				continue
			}
			for _, v := range m.kept(th, l) {
				if !l.has(v) {
					l[v.to] = true
					more = true
				}
			}
		}
	}
}

// settle brings what is lost to wait at guardians.
func (m *model) settle(l life) {
	var regs, dead []guarded
	for _, e := range m.regs {
		if l[e.thing] {
			regs = append(regs, e)
		} else {
			dead = append(dead, e)
		}
	}
	for more := true; more; {
		more = false
		var rest []guarded
		for _, e := range dead {
			if !l[e.guard] {
				rest = append(rest, e)
				continue
			}
			more = true
			l[e.thing] = true
			m.wait = append(m.wait, e)
			m.spread(l)
		}
		dead = rest
	}
	lost := func(e guarded) bool { return !l[e.guard] }
	m.regs, m.wait = slices.DeleteFunc(regs, lost), slices.DeleteFunc(m.wait, lost)
}

// cut does a great cut, or a small one.
func (m *model) cut(great bool) int {
	young, old := m.used()
	if !great && young > m.room-old {
		return api.ErrFull
	}
	l := life{}
	for _, th := range m.things {
		l[th] = !great && th.old
	}
	for _, v := range m.roots {
		if v.to != nil {
			l[v.to] = true
		}
	}
	then := *m
	then.wait = slices.Clone(m.wait)
	then.spread(l)
	then.settle(l)
	then.things = slices.DeleteFunc(slices.Clone(m.things), func(th *thing) bool { return !l[th] })
	if young, old := then.used(); young+old > m.room {
		return api.ErrFull
	}
	*m = then
	for _, th := range m.things {
		th.old = true
		if (th.kind == api.KWeak || th.kind == api.KEphem) && !l.has(th.fields[0]) {
			th.fields[0] = plainValue(api.VGone, 0)
			if th.kind == api.KEphem {
				th.fields[1] = plainValue(api.VGone, 0)
			}
		}
	}
	return 0
}

// refused answers the code of a step that may not be asked for at all.
func refused(x api.Step) int {
	out := func(roots ...int) bool {
		return slices.ContainsFunc(roots, func(r int) bool { return r < 0 || r > 11 })
	}
	bad := false
	switch x.Kind {
	case api.SInt:
		bad = out(x.R) || x.N < -1<<60 || x.N >= 1<<60
	case api.SNil, api.SGuard:
		bad = out(x.R)
	case api.SVector:
		bad = out(x.R, x.A) || x.N < 0 || x.N > 12
	case api.SMove, api.SPop, api.SGet, api.SLen:
		bad = out(x.R, x.A)
	case api.SPair, api.SWeak, api.SEphem, api.SSame:
		bad = out(x.R, x.A, x.B)
	case api.SReg, api.SSet:
		bad = out(x.A, x.B)
	case api.SMinor, api.SMajor:
	default:
		return api.ErrKind
	}
	if bad {
		return api.ErrRange
	}
	return 0
}

// do does a step.
func (m *model) do(x api.Step) int {
	if code := refused(x); code != 0 {
		return code
	}
	switch x.Kind {
	case api.SInt:
		m.roots[x.R] = plainValue(api.VInt, x.N)
	case api.SNil:
		m.roots[x.R] = value{}
	case api.SMove:
		m.roots[x.R] = m.roots[x.A]
	case api.SPair, api.SVector, api.SWeak, api.SEphem, api.SGuard:
		return m.make(x)
	case api.SReg:
		return m.reg(x)
	case api.SPop:
		return m.pop(x)
	case api.SGet, api.SSet, api.SLen:
		return m.field(x)
	case api.SSame:
		n := int64(0)
		if m.roots[x.A] == m.roots[x.B] {
			n = 1
		}
		m.roots[x.R] = plainValue(api.VInt, n)
	case api.SMinor:
		return m.cut(false)
	case api.SMajor:
		return m.cut(true)
	}
	return 0
}

// make makes a thing, and room for it ahead.
func (m *model) make(x api.Step) int {
	th := &thing{}
	fields := []int{x.A, x.B}
	switch x.Kind {
	case api.SPair:
		th.kind = api.KPair
	case api.SWeak:
		th.kind = api.KWeak
	case api.SEphem:
		th.kind = api.KEphem
	case api.SVector:
		th.kind = api.KVector
		fields = slices.Repeat([]int{x.A}, int(x.N))
	default:
		th.kind = api.KGuard
		fields = nil
	}
	young, old := m.used()
	if m.nursery-young < 1+len(fields) {
		great := young > m.room-old
		if code := m.cut(great); code != 0 {
			return code
		}
		if great {
			m.great++
		} else {
			m.small++
		}
	}
	for _, a := range fields {
		th.fields = append(th.fields, m.roots[a])
	}
	m.things = append(m.things, th)
	m.roots[x.R] = value{to: th}
	return 0
}

func isGuardian(th *thing) bool { return th != nil && th.kind == api.KGuard }

func (m *model) reg(x api.Step) int {
	th, guard := m.roots[x.A].to, m.roots[x.B].to
	if th == nil || !isGuardian(guard) {
		return api.ErrKind
	}
	if len(m.regs)+len(m.wait) == 24 {
		return api.ErrFull
	}
	m.regs = append(m.regs, guarded{guard, th})
	return 0
}

func (m *model) pop(x api.Step) int {
	guard := m.roots[x.A].to
	if !isGuardian(guard) {
		return api.ErrKind
	}
	for i, e := range m.wait {
		if e.guard == guard {
			m.wait = slices.Delete(slices.Clone(m.wait), i, i+1)
			m.roots[x.R] = value{to: e.thing}
			return 0
		}
	}
	return api.ErrNone
}

// field does a step that asks for the fields of a thing.
func (m *model) field(x api.Step) int {
	th := m.roots[x.A].to
	if th == nil || th.kind == api.KGuard {
		return api.ErrKind
	}
	if x.Kind == api.SLen {
		m.roots[x.R] = plainValue(api.VInt, int64(len(th.fields)))
		return 0
	}
	if x.I < 0 || x.I >= len(th.fields) {
		return api.ErrRange
	}
	if x.Kind == api.SGet {
		m.roots[x.R] = th.fields[x.I]
	} else {
		th.fields[x.I] = m.roots[x.B]
	}
	return 0
}

// view answers what roots lead to.
func (m *model) view() api.View {
	var v api.View
	numbers := map[*thing]int64{}
	var show func(x value) api.Val
	show = func(x value) api.Val {
		if x.to == nil {
			return x.v
		}
		n, met := numbers[x.to]
		if !met {
			n = int64(len(v.Nodes))
			numbers[x.to] = n
			v.Nodes = append(v.Nodes, api.Node{Kind: x.to.kind})
			var fields []api.Val
			for _, y := range x.to.fields {
				fields = append(fields, show(y))
			}
			for _, y := range m.waiting(x.to) {
				fields = append(fields, show(value{to: y}))
			}
			v.Nodes[n].Fields = fields
		}
		return api.Val{Kind: api.VRef, N: n}
	}
	for _, x := range m.roots {
		v.Roots = append(v.Roots, show(x))
	}
	return v
}
