package pane_test

import (
	"slices"

	"pane/api"
)

// thing is a surface as the document tells of it. What was asked for is kept as what is to be done, by its kind.
type thing struct {
	parent, w, h, x, y int
	pixels             []api.Pixel
	clip               *api.Rect
	hint               []api.Rect
	kept               map[point]bool // of its buffer
	asked              map[string]func()
}

// point is a point of the screen: x and y.
type point [2]int

// page is a buffer. It keeps for itself what was damaged since it was painted last.
type page struct {
	pixels  []api.Pixel
	painted int // the number of the repaint, from 1 on; 0 if there was none
	damaged map[point]bool
}

// model is a screen that goes about it in another way: all surfaces are in one row, from the back to the front, and
// what is seen and what is damaged is asked point by point.
type model struct {
	w, h     int
	there    map[int]*thing
	row      []int
	made     int
	pages    []*page
	repaints int
}

func newModel(w, h, n int) *model {
	m := &model{w: w, h: h, there: map[int]*thing{}}
	for range n {
		m.pages = append(m.pages, &page{pixels: make([]api.Pixel, w*h), damaged: map[point]bool{}})
	}
	return m
}

func (m *model) points() []point {
	var l []point
	for y := range m.h {
		for x := range m.w {
			l = append(l, point{x, y})
		}
	}
	return l
}

// isOn tells whether a surface is another one, or is on it.
func (m *model) isOn(id, other int) bool {
	for ; id != api.Top; id = m.there[id].parent {
		if id == other {
			return true
		}
	}
	return false
}

// block tells from where till where in the row a surface and all that is on it stand.
func (m *model) block(id int) (int, int) {
	from := slices.Index(m.row, id)
	to := from
	for to < len(m.row) && m.isOn(m.row[to], id) {
		to++
	}
	return from, to
}

func (m *model) make(parent int) (int, api.Errno) {
	if parent != api.Top && m.there[parent] == nil {
		return 0, api.ErrSurface
	}
	if len(m.there) == api.MaxSurfaces || m.made == api.MaxMade {
		return 0, api.ErrFull
	}
	to := len(m.row)
	if parent != api.Top {
		_, to = m.block(parent)
	}
	m.row = slices.Insert(m.row, to, m.made)
	m.there[m.made] = &thing{parent: parent, asked: map[string]func(){}}
	m.made++
	return m.made - 1, api.OK
}

func (m *model) destroy(id int) {
	m.damage(m.seenOf(id))
	from, to := m.block(id)
	for _, g := range m.row[from:to] {
		delete(m.there, g)
	}
	m.row = slices.Delete(m.row, from, to)
}

func (m *model) stack(id, sibling int, above bool) {
	if m.there[sibling] == nil {
		return
	}
	from, to := m.block(id)
	moved := slices.Clone(m.row[from:to])
	m.row = slices.Delete(m.row, from, to)
	before, behind := m.block(sibling)
	if above {
		before = behind
	}
	m.row = slices.Insert(m.row, before, moved...)
}

func (m *model) place(id int) (int, int) {
	if id == api.Top {
		return 0, 0
	}
	x, y := m.place(m.there[id].parent)
	return x + m.there[id].x, y + m.there[id].y
}

// sees tells whether a point of the screen is one of the surface's seen part.
func (m *model) sees(id, x, y int) bool {
	f := m.there[id]
	px, py := m.place(id)
	if x < px || x >= px+f.w || y < py || y >= py+f.h {
		return false
	}
	for ; id != api.Top; id = m.there[id].parent {
		px, py := m.place(id)
		if c := m.there[id].clip; c != nil && !has(rects(*c), x-px, y-py) {
			return false
		}
	}
	return true
}

// hull gives the smallest rectangle that has all these points, if there are any.
func hull(l []point) api.Rect {
	q := rect(l[0][0], l[0][1], l[0][0]+1, l[0][1]+1)
	for _, c := range l {
		q = rect(min(q.X0, c[0]), min(q.Y0, c[1]), max(q.X1, c[0]+1), max(q.Y1, c[1]+1))
	}
	return q
}

// sight gives the points of a surface's seen part.
func (m *model) sight(id int) []point {
	return slices.DeleteFunc(m.points(), func(c point) bool { return !m.sees(id, c[0], c[1]) })
}

func (m *model) views() []api.View {
	var l []api.View
	for _, id := range m.row {
		if seen := m.sight(id); len(seen) > 0 {
			x, y := m.place(id)
			l = append(l, view(id, x, y, m.there[id].w, m.there[id].h, hull(seen)))
		}
	}
	return l
}

// seenOf gives the points of the seen parts of a surface and of all that is on it.
func (m *model) seenOf(id int) []point {
	var l []point
	from, to := m.block(id)
	for _, g := range m.row[from:to] {
		l = append(l, m.sight(g)...)
	}
	return l
}

// frame tells what of a surface has to stay, if it is to damage no more than its pixels.
func (m *model) frame(id int) [10]int {
	f := m.there[id]
	l := [10]int{f.w, f.h, f.x, f.y}
	if f.clip != nil {
		l[4], l[5], l[6], l[7], l[8] = 1, f.clip.X0, f.clip.Y0, f.clip.X1, f.clip.Y1
	}
	for _, g := range m.row[:slices.Index(m.row, id)] {
		if m.there[g].parent == f.parent {
			l[9]++
		}
	}
	return l
}

func (m *model) damage(l []point) {
	for _, b := range m.pages {
		for _, c := range l {
			b.damaged[c] = true
		}
	}
}

// keep asks each pixel whether it is one of the kept hint.
func (f *thing) keep() {
	f.kept = map[point]bool{}
	for k, p := range f.pixels {
		if x, y := k%f.w, k/f.w; p[3] == 255 && has(f.hint, x, y) {
			f.kept[point{x, y}] = true
		}
	}
}

func (m *model) commit(id int) {
	f := m.there[id]
	frame, seen, pixels := m.frame(id), m.seenOf(id), f.pixels
	for _, do := range f.asked {
		do()
	}
	clear(f.asked)
	f.keep()
	if m.frame(id) != frame {
		m.damage(seen)
		m.damage(m.seenOf(id))
		return
	}
	x, y := m.place(id)
	other := slices.DeleteFunc(m.sight(id), func(c point) bool {
		k := (c[1]-y)*f.w + c[0] - x
		return pixels[k] == f.pixels[k]
	})
	if len(other) > 0 {
		q := hull(other)
		m.damage(slices.DeleteFunc(m.points(), func(c point) bool { return !has(rects(q), c[0], c[1]) }))
	}
}

// picture gives the pixel at a point, made of all that is there, and how many have to be laid for it: with one that
// hides the count begins anew.
func (m *model) picture(c point) (api.Pixel, int) {
	out, laid := [4]int{0, 0, 0, 255}, 0
	for _, id := range m.row {
		if !m.sees(id, c[0], c[1]) {
			continue
		}
		x, y := m.place(id)
		f := m.there[id]
		p := f.pixels[(c[1]-y)*f.w+c[0]-x]
		for i := range out {
			out[i] = int(p[i]) + (out[i]*(255-int(p[3]))+127)/255
		}
		if f.kept[point{c[0] - x, c[1] - y}] {
			laid = 0
		}
		laid++
	}
	return api.Pixel{uint8(out[0]), uint8(out[1]), uint8(out[2]), uint8(out[3])}, laid
}

func (m *model) age(i int) int {
	if m.pages[i].painted == 0 {
		return 0
	}
	return 1 + m.repaints - m.pages[i].painted
}

// repaint tells what is to be painted, as single points, and how many pixels are laid.
func (m *model) repaint(i int) ([]api.Rect, int) {
	b, old := m.pages[i], m.age(i)
	var cells []api.Rect
	blends := 0
	for k, c := range m.points() {
		if old >= 1 && old <= 4 && !b.damaged[c] {
			continue
		}
		p, laid := m.picture(c)
		b.pixels[k] = p
		blends += laid
		cells = append(cells, rect(c[0], c[1], c[0]+1, c[1]+1))
	}
	m.repaints++
	b.painted = m.repaints
	clear(b.damaged)
	return cells, blends
}

func (m *model) garbage(i int, pixels []api.Pixel) {
	*m.pages[i] = page{pixels: slices.Clone(pixels), damaged: map[point]bool{}}
}
