package pane_test

import (
	"math"
	"math/rand"
	"slices"
	"testing"

	"pane/api"
	"pane/pane"
)

// pair is a screen and its model, told the same by the same throws of the dice.
type pair struct {
	s *pane.Screen
	m *model
	r *rand.Rand
}

// id draws a number that is mostly one of a surface that was made, and sometimes anything.
func (p *pair) id() int {
	if p.r.Intn(20) == 0 {
		return slices.Concat(farOff, []int{api.Top, p.m.made})[p.r.Intn(len(farOff)+2)]
	}
	if len(p.m.row) == 0 || p.r.Intn(20) == 0 {
		return p.r.Intn(p.m.made + 1)
	}
	return p.m.row[p.r.Intn(len(p.m.row))]
}

// number draws one from the least to the most, and sometimes one outside or at the edges.
func (p *pair) number(least, most, limit int) int {
	if p.r.Intn(25) == 0 {
		return []int{-limit, limit, -limit - 1, limit + 1, math.MinInt, math.MaxInt}[p.r.Intn(6)]
	}
	return least + p.r.Intn(most-least+1)
}

func (p *pair) rect() api.Rect {
	const far = api.MaxFar
	return rect(p.number(-4, 2, far), p.number(-4, 2, far), p.number(1, 9, far), p.number(1, 9, far))
}

func rectMayBe(q api.Rect) bool {
	l := []int{q.X0, q.Y0, q.X1, q.Y1}
	return slices.Min(l) >= -2000 && slices.Max(l) <= 2000 && q.X0 <= q.X1 && q.Y0 <= q.Y1
}

// refusal gives the error of the first pair of which the first one holds.
func refusal(when ...any) api.Errno {
	for i := 0; i < len(when); i += 2 {
		if when[i].(bool) {
			return when[i+1].(api.Errno)
		}
	}
	return api.OK
}

// pixels draws so many that may be, of few kinds, so that many are alike.
func (p *pair) pixels(n int) []api.Pixel {
	kinds := []api.Pixel{{}, {1, 2, 3, 3}, {200, 0, 7, 255}, {0, 90, 100, 128}, {0, 0, 0, 255}, {254, 253, 0, 254}, {1, 255, 2, 255}, {30, 20, 10, 255}}
	l := make([]api.Pixel, n)
	for i := range l {
		l[i] = kinds[p.r.Intn(len(kinds))]
	}
	return l
}

// buffer draws a size, and not always as many pixels. Often it is the surface's own buffer, with few pixels changed.
func (p *pair) buffer(f *thing) (int, int, []api.Pixel) {
	if f != nil && p.r.Intn(2) == 0 {
		l := slices.Clone(f.pixels)
		for range min(p.r.Intn(3), len(l)) {
			l[p.r.Intn(len(l))] = p.pixels(1)[0]
		}
		return f.w, f.h, l
	}
	w, h := p.number(0, 8, api.MaxSide), p.number(0, 8, api.MaxSide)
	n := w * h
	if n < 0 || n > 999 || p.r.Intn(20) == 0 {
		n = p.r.Intn(50)
	}
	return w, h, p.pixels(n)
}

// attach tells both of a buffer; it gives what came and what was to come.
func (p *pair) attach(id int) (api.Errno, api.Errno) {
	f := p.m.there[id]
	w, h, l := p.buffer(f)
	bad := len(l) > 0 && p.r.Intn(20) == 0
	if bad {
		l[p.r.Intn(len(l))] = api.Pixel{0, 4, 0, 3}
	}
	want := refusal(f == nil, api.ErrSurface, w < 0 || w > 24 || h < 0 || h > 24, api.ErrSize, len(l) != w*h || bad, api.ErrPixel)
	if want == api.OK {
		f.asked["attach"] = func() { f.w, f.h, f.pixels = w, h, l }
	}
	return p.s.Attach(id, w, h, slices.Clone(l)), want
}

func (p *pair) offset(id int) (api.Errno, api.Errno) {
	f, x, y := p.m.there[id], p.number(-2, 3, api.MaxOffset), p.number(-2, 3, api.MaxOffset)
	want := refusal(f == nil, api.ErrSurface, x < -1000 || x > 1000 || y < -1000 || y > 1000, api.ErrCoord)
	if want == api.OK {
		f.asked["offset"] = func() { f.x, f.y = x, y }
	}
	return p.s.Offset(id, x, y), want
}

func (p *pair) clip(id int) (api.Errno, api.Errno) {
	f, q := p.m.there[id], p.rect()
	want := refusal(f == nil, api.ErrSurface, !rectMayBe(q), api.ErrRect)
	if want == api.OK {
		f.asked["clip"] = func() { f.clip = &q }
	}
	return p.s.Clip(id, q), want
}

func (p *pair) unclip(id int) (api.Errno, api.Errno) {
	f := p.m.there[id]
	want := refusal(f == nil, api.ErrSurface)
	if want == api.OK {
		f.asked["clip"] = func() { f.clip = nil }
	}
	return p.s.Unclip(id), want
}

// opaque draws few rectangles mostly, and sometimes as many as there may be, or one more.
func (p *pair) opaque(id int) (api.Errno, api.Errno) {
	f, n := p.m.there[id], p.r.Intn(4)
	if p.r.Intn(10) == 0 {
		n = api.MaxRects + p.r.Intn(2)
	}
	var l []api.Rect
	for range n {
		l = append(l, p.rect())
		if p.r.Intn(3) > 0 {
			l[len(l)-1] = rect(p.r.Intn(4)-1, p.r.Intn(4)-1, 3+p.r.Intn(3), 3+p.r.Intn(3))
		}
	}
	bad := slices.ContainsFunc(l, func(q api.Rect) bool { return !rectMayBe(q) })
	want := refusal(f == nil, api.ErrSurface, len(l) > 20, api.ErrMany, bad, api.ErrRect)
	if want == api.OK {
		f.asked["opaque"] = func() { f.hint = l }
	}
	return p.s.Opaque(id, slices.Clone(l)), want
}

func (p *pair) stack(id int) (api.Errno, api.Errno) {
	f, sibling, above := p.m.there[id], p.id(), p.r.Intn(2) == 0
	g := p.m.there[sibling]
	want := refusal(f == nil || g == nil, api.ErrSurface)
	if want == api.OK {
		want = refusal(f == g || f.parent != g.parent, api.ErrSibling)
	}
	if want == api.OK {
		f.asked["stack"] = func() { p.m.stack(id, sibling, above) }
	}
	return p.s.Stack(id, sibling, above), want
}

func (p *pair) commit(id int) (api.Errno, api.Errno) {
	if p.m.there[id] == nil {
		return p.s.Commit(id), api.ErrSurface
	}
	p.m.commit(id)
	return p.s.Commit(id), api.OK
}

func (p *pair) destroy(id int) (api.Errno, api.Errno) {
	if p.m.there[id] == nil {
		return p.s.Destroy(id), api.ErrSurface
	}
	p.m.destroy(id)
	return p.s.Destroy(id), api.OK
}

// index draws the number of a buffer, and sometimes of none.
func (p *pair) index() int {
	if p.r.Intn(20) == 0 {
		return []int{-1, len(p.m.pages), math.MinInt, math.MaxInt}[p.r.Intn(4)]
	}
	return p.r.Intn(len(p.m.pages))
}

func (p *pair) garbage(t *testing.T) {
	t.Helper()
	i, n := p.index(), p.m.w*p.m.h
	if p.r.Intn(4) == 0 {
		n += p.r.Intn(3) - 1
	}
	l := p.pixels(n)
	for k := range min(n, 3) {
		l[k] = api.Pixel{255, 9, uint8(p.r.Intn(256)), 8} // what may be no pixel may be garbage
	}
	none := i < 0 || i >= len(p.m.pages)
	want := refusal(none, api.ErrBuffer, n != p.m.w*p.m.h, api.ErrPixel)
	if want == api.OK {
		p.m.garbage(i, l)
	}
	if e := p.s.Garbage(i, l); e != want {
		t.Errorf("Garbage(%d) of %d pixels = %d, want %d", i, n, e, want)
	}
}

func (p *pair) repaint(t *testing.T) {
	t.Helper()
	i := p.index()
	got, e := p.s.Repaint(i)
	if i < 0 || i >= len(p.m.pages) {
		if got.Region != nil || got.Blends != 0 || e != api.ErrBuffer {
			t.Errorf("Repaint(%d) = %v, %d", i, got, e)
		}
		return
	}
	old := p.m.age(i)
	cells, blends := p.m.repaint(i)
	if want := wanted(api.Union, cells, nil); !slices.Equal(got.Region, want) || got.Blends != blends || e != api.OK {
		t.Errorf("Repaint(%d) at the age of %d = %v, %d, want %v, %d", i, old, got, e, want, blends)
	}
}

// checkBuffers asks whether all buffers are the model's, and one that has just been painted is the picture.
func (p *pair) checkBuffers(t *testing.T) {
	t.Helper()
	for i, b := range p.m.pages {
		l, age, e := p.s.Look(i)
		if !slices.Equal(l, b.pixels) || age != p.m.age(i) || e != api.OK {
			t.Errorf("Look(%d) = %v, %d, %d, want %v, %d", i, l, age, e, b.pixels, p.m.age(i))
		}
		if b.painted == 0 || b.painted != p.m.repaints || len(b.damaged) > 0 {
			continue
		}
		for k, c := range p.m.points() {
			if want, _ := p.m.picture(c); l[k] != want {
				t.Errorf("buffer %d is %v at %v, the picture is %v", i, l[k], c, want)
			}
		}
	}
}

// step does one thing to both, and tells whether they agree.
func (p *pair) step(t *testing.T) bool {
	t.Helper()
	id := p.id()
	calls := []func(int) (api.Errno, api.Errno){p.attach, p.opaque, p.offset, p.clip, p.unclip, p.stack, p.stack, p.commit, p.commit, p.commit, p.commit}
	var got, want api.Errno
	switch n := p.r.Intn(len(calls) * 12); {
	case n < 10:
		parent := p.id()
		if p.r.Intn(3) == 0 {
			parent = api.Top
		}
		a, e := p.s.Make(parent)
		b, f := p.m.make(parent)
		if a != b {
			t.Errorf("Make(%d) = %d, want %d", parent, a, b)
		}
		got, want = e, f
	case n < 13:
		got, want = p.destroy(id)
	case n < 15:
		p.garbage(t)
	case n < 35:
		p.repaint(t)
	default:
		got, want = calls[n%len(calls)](id)
	}
	if got != want {
		t.Errorf("surface %d: %d, want %d", id, got, want)
	}
	if l := p.m.views(); !slices.Equal(p.s.Views(), l) {
		t.Errorf("Views = %v, want %v", p.s.Views(), l)
	}
	p.checkBuffers(t)
	return !t.Failed()
}

func TestDrawnCalls(t *testing.T) {
	for seed := range 60 {
		r := rand.New(rand.NewSource(int64(seed)))
		w, h, n := 1+r.Intn(9), 1+r.Intn(9), 1+r.Intn(api.MaxBuffers)
		p := &pair{s: screen(t, w, h, n), m: newModel(w, h, n), r: r}
		for step := range 600 {
			if !p.step(t) {
				t.Fatalf("seed %d, step %d", seed, step)
			}
		}
	}
}
