package pane_test

import (
	"math"
	"math/rand"
	"slices"
	"testing"

	"pane/api"
	"pane/pane"
)

// thing is a surface as the document tells of it. What was asked for is kept as what is to be done, by its kind.
type thing struct {
	parent, w, h, x, y int
	clip               *api.Rect
	asked              map[string]func()
}

// model is a screen that goes about it in another way: all surfaces are in one row, from the back to the front, and
// what is seen is asked point by point.
type model struct {
	w, h  int
	there map[int]*thing
	row   []int
	made  int
}

// isOn tells whether a surface is another one, or is on it.
func (m *model) isOn(id, other int) bool {
	for ; id != api.Top; id = m.there[id].parent {
		if id == other {
			return true
		}
	}
	return false
}

// block tells from where till where in the row a surface and all that is on it stand.
func (m *model) block(id int) (int, int) {
	from := slices.Index(m.row, id)
	to := from
	for to < len(m.row) && m.isOn(m.row[to], id) {
		to++
	}
	return from, to
}

func (m *model) make(parent int) (int, api.Errno) {
	if parent != api.Top && m.there[parent] == nil {
		return 0, api.ErrSurface
	}
	if len(m.there) == api.MaxSurfaces || m.made == api.MaxMade {
		return 0, api.ErrFull
	}
	to := len(m.row)
	if parent != api.Top {
		_, to = m.block(parent)
	}
	m.row = slices.Insert(m.row, to, m.made)
	m.there[m.made] = &thing{parent: parent, asked: map[string]func(){}}
	m.made++
	return m.made - 1, api.OK
}

func (m *model) destroy(id int) {
	from, to := m.block(id)
	for _, g := range m.row[from:to] {
		delete(m.there, g)
	}
	m.row = slices.Delete(m.row, from, to)
}

func (m *model) stack(id, sibling int, above bool) {
	if m.there[sibling] == nil {
		return
	}
	from, to := m.block(id)
	moved := slices.Clone(m.row[from:to])
	m.row = slices.Delete(m.row, from, to)
	before, behind := m.block(sibling)
	if above {
		before = behind
	}
	m.row = slices.Insert(m.row, before, moved...)
}

func (m *model) place(id int) (int, int) {
	if id == api.Top {
		return 0, 0
	}
	x, y := m.place(m.there[id].parent)
	return x + m.there[id].x, y + m.there[id].y
}

// sees tells whether a point of the screen is one of the surface's seen part.
func (m *model) sees(id, x, y int) bool {
	f := m.there[id]
	px, py := m.place(id)
	if x < px || x >= px+f.w || y < py || y >= py+f.h {
		return false
	}
	for ; id != api.Top; id = m.there[id].parent {
		px, py := m.place(id)
		if c := m.there[id].clip; c != nil && !has(rects(*c), x-px, y-py) {
			return false
		}
	}
	return true
}

func (m *model) views() []api.View {
	var l []api.View
	for _, id := range m.row {
		seen := rect(m.w, m.h, 0, 0)
		for x := range m.w {
			for y := range m.h {
				if m.sees(id, x, y) {
					seen = rect(min(seen.X0, x), min(seen.Y0, y), max(seen.X1, x+1), max(seen.Y1, y+1))
				}
			}
		}
		if seen.X1 > 0 {
			x, y := m.place(id)
			l = append(l, view(id, x, y, m.there[id].w, m.there[id].h, seen))
		}
	}
	return l
}

// pair is a screen and its model, told the same by the same throws of the dice.
type pair struct {
	s *pane.Screen
	m *model
	r *rand.Rand
}

// id draws a number that is mostly one of a surface that was made, and sometimes anything.
func (p *pair) id() int {
	if p.r.Intn(20) == 0 {
		return slices.Concat(farOff, []int{api.Top, p.m.made})[p.r.Intn(len(farOff)+2)]
	}
	if len(p.m.row) == 0 || p.r.Intn(20) == 0 {
		return p.r.Intn(p.m.made + 1)
	}
	return p.m.row[p.r.Intn(len(p.m.row))]
}

// number draws one from the least to the most, and sometimes one outside or at the edges.
func (p *pair) number(least, most, limit int) int {
	if p.r.Intn(25) == 0 {
		return []int{-limit, limit, -limit - 1, limit + 1, math.MinInt, math.MaxInt}[p.r.Intn(6)]
	}
	return least + p.r.Intn(most-least+1)
}

func (p *pair) rect() api.Rect {
	const far = api.MaxFar
	return rect(p.number(-4, 2, far), p.number(-4, 2, far), p.number(1, 9, far), p.number(1, 9, far))
}

func rectMayBe(q api.Rect) bool {
	l := []int{q.X0, q.Y0, q.X1, q.Y1}
	return slices.Min(l) >= -2000 && slices.Max(l) <= 2000 && q.X0 <= q.X1 && q.Y0 <= q.Y1
}

// refusal gives the error of the first pair of which the first one holds.
func refusal(when ...any) api.Errno {
	for i := 0; i < len(when); i += 2 {
		if when[i].(bool) {
			return when[i+1].(api.Errno)
		}
	}
	return api.OK
}

// attach tells both of a buffer; it gives what came and what was to come.
func (p *pair) attach(id int) (api.Errno, api.Errno) {
	f := p.m.there[id]
	w, h := p.number(0, 8, api.MaxSide), p.number(0, 8, api.MaxSide)
	n := w * h
	if n < 0 || n > 999 || p.r.Intn(20) == 0 {
		n = p.r.Intn(50)
	}
	l := filled(n, 1, api.Pixel{1, 2, 3, 3})
	bad := n > 0 && p.r.Intn(20) == 0
	if bad {
		l[p.r.Intn(n)] = api.Pixel{0, 4, 0, 3}
	}
	want := refusal(f == nil, api.ErrSurface, w < 0 || w > 24 || h < 0 || h > 24, api.ErrSize, n != w*h || bad, api.ErrPixel)
	if want == api.OK {
		f.asked["attach"] = func() { f.w, f.h = w, h }
	}
	return p.s.Attach(id, w, h, l), want
}

func (p *pair) offset(id int) (api.Errno, api.Errno) {
	f, x, y := p.m.there[id], p.number(-2, 3, api.MaxOffset), p.number(-2, 3, api.MaxOffset)
	want := refusal(f == nil, api.ErrSurface, x < -1000 || x > 1000 || y < -1000 || y > 1000, api.ErrCoord)
	if want == api.OK {
		f.asked["offset"] = func() { f.x, f.y = x, y }
	}
	return p.s.Offset(id, x, y), want
}

func (p *pair) clip(id int) (api.Errno, api.Errno) {
	f, q := p.m.there[id], p.rect()
	want := refusal(f == nil, api.ErrSurface, !rectMayBe(q), api.ErrRect)
	if want == api.OK {
		f.asked["clip"] = func() { f.clip = &q }
	}
	return p.s.Clip(id, q), want
}

func (p *pair) unclip(id int) (api.Errno, api.Errno) {
	f := p.m.there[id]
	want := refusal(f == nil, api.ErrSurface)
	if want == api.OK {
		f.asked["clip"] = func() { f.clip = nil }
	}
	return p.s.Unclip(id), want
}

func (p *pair) stack(id int) (api.Errno, api.Errno) {
	f, sibling, above := p.m.there[id], p.id(), p.r.Intn(2) == 0
	g := p.m.there[sibling]
	want := refusal(f == nil || g == nil, api.ErrSurface)
	if want == api.OK {
		want = refusal(f == g || f.parent != g.parent, api.ErrSibling)
	}
	if want == api.OK {
		f.asked["stack"] = func() { p.m.stack(id, sibling, above) }
	}
	return p.s.Stack(id, sibling, above), want
}

func (p *pair) commit(id int) (api.Errno, api.Errno) {
	f := p.m.there[id]
	if f == nil {
		return p.s.Commit(id), api.ErrSurface
	}
	for _, do := range f.asked {
		do()
	}
	clear(f.asked)
	return p.s.Commit(id), api.OK
}

func (p *pair) destroy(id int) (api.Errno, api.Errno) {
	if p.m.there[id] == nil {
		return p.s.Destroy(id), api.ErrSurface
	}
	p.m.destroy(id)
	return p.s.Destroy(id), api.OK
}

// step does one thing to both, and tells whether they agree.
func (p *pair) step(t *testing.T) bool {
	t.Helper()
	id := p.id()
	calls := []func(int) (api.Errno, api.Errno){p.attach, p.offset, p.clip, p.unclip, p.stack, p.stack, p.commit, p.commit, p.commit, p.commit}
	var got, want api.Errno
	switch n := p.r.Intn(len(calls) * 10); {
	case n < 10:
		parent := p.id()
		if p.r.Intn(3) == 0 {
			parent = api.Top
		}
		a, e := p.s.Make(parent)
		b, f := p.m.make(parent)
		if a != b {
			t.Errorf("Make(%d) = %d, want %d", parent, a, b)
		}
		got, want = e, f
	case n < 13:
		got, want = p.destroy(id)
	default:
		got, want = calls[n%len(calls)](id)
	}
	if got != want {
		t.Errorf("surface %d: %d, want %d", id, got, want)
	}
	if l := p.m.views(); !slices.Equal(p.s.Views(), l) {
		t.Errorf("Views = %v, want %v", p.s.Views(), l)
	}
	return !t.Failed()
}

func TestDrawnCalls(t *testing.T) {
	for seed := range 60 {
		r := rand.New(rand.NewSource(int64(seed)))
		w, h := 1+r.Intn(9), 1+r.Intn(9)
		p := &pair{s: screen(t, w, h, 1+r.Intn(api.MaxBuffers)), m: &model{w: w, h: h, there: map[int]*thing{}}, r: r}
		for step := range 600 {
			if !p.step(t) {
				t.Fatalf("seed %d, step %d", seed, step)
			}
		}
	}
}
