package scene

import (
	"slices"
	"testing"

	"pane/api"
	"pane/grid"
	"pane/region"
)

// laid makes a surface of so many pixels, all of them never set.
func laid(c *Scene, parent int, w, h int) *Surface {
	f := c.Surface(c.Make(c.Parent(parent)))
	f.Attach(grid.New[api.Pixel](w, h))
	f.Commit()
	return f
}

func TestParentAndSurface(t *testing.T) {
	c := New(4, 3)
	if c.Parent(api.Top) == nil || c.Surface(api.Top) != nil {
		t.Error("Top must be a parent, and no surface")
	}
	f := laid(c, api.Top, 1, 1)
	if c.Surface(0) != f || c.Parent(0) != f || c.Surface(1) != nil || c.Parent(1) != nil || c.Parent(-2) != nil {
		t.Error("a surface is found by its number alone")
	}
}

func TestForgetsAllThatIsOnIt(t *testing.T) {
	c := New(4, 3)
	for i := range 5 {
		laid(c, i-1, 1, 1)
	}
	c.Destroy(c.Surface(2))
	if len(c.there) != 2 || len(c.Surface(1).on) != 0 || c.made != 5 {
		t.Errorf("there are %v, %d were made", c.there, c.made)
	}
	c.Destroy(c.Surface(0))
	if len(c.there) != 0 || len(c.ground.on) != 0 {
		t.Errorf("there are %v", c.there)
	}
}

func TestCommitKeepsNothingAsked(t *testing.T) {
	c := New(4, 3)
	f, g := laid(c, api.Top, 1, 1), laid(c, api.Top, 1, 1)
	f.Stack(g, true)
	f.Clip(api.Rect{X1: 1, Y1: 1})
	f.Commit()
	if f.stack != (stacking{}) || !slices.Equal(c.ground.on, []*Surface{g, f}) {
		t.Errorf("still asked for: %v", f.stack)
	}
	f.Stack(g, false)
	c.Destroy(g)
	f.Commit()
	if f.stack != (stacking{}) || !slices.Equal(c.ground.on, []*Surface{f}) {
		t.Errorf("still asked for: %v", f.stack)
	}
}

func TestBeside(t *testing.T) {
	c := New(4, 3)
	a, b := laid(c, api.Top, 1, 1), laid(c, api.Top, 1, 1)
	on, over := laid(c, 0, 1, 1), laid(c, 0, 1, 1)
	for _, p := range [][2]*Surface{{a, b}, {on, over}} {
		if !p[0].Beside(p[1]) || !p[1].Beside(p[0]) {
			t.Errorf("%d and %d are siblings", p[0].number, p[1].number)
		}
	}
	for _, p := range [][2]*Surface{{a, a}, {on, on}, {a, on}, {on, b}} {
		if p[0].Beside(p[1]) || p[1].Beside(p[0]) {
			t.Errorf("%d and %d are no siblings", p[0].number, p[1].number)
		}
	}
}

// Twelve surfaces on each other, each as far away as may be.
func TestSpotOfTheLast(t *testing.T) {
	c := New(4, 3)
	for i := range api.MaxSurfaces {
		f := laid(c, i-1, 1, 1)
		f.Offset(api.MaxOffset, -api.MaxOffset)
		f.Clip(api.Rect{X0: -api.MaxFar, Y0: -api.MaxFar, X1: api.MaxFar, Y1: api.MaxFar})
		f.Commit()
	}
	const far = api.MaxSurfaces * api.MaxOffset
	if v := c.Surface(api.MaxSurfaces - 1).view(); v.X != far || v.Y != -far {
		t.Errorf("it lies at %d, %d", v.X, v.Y)
	}
	if l := c.Views(); len(l) != 0 {
		t.Errorf("seen are %v", l)
	}
}

func checkDamage(t *testing.T, l []api.Rect, want ...api.Rect) {
	t.Helper()
	l = slices.DeleteFunc(slices.Clone(l), func(q api.Rect) bool { return !region.HasPoints(q) })
	if !slices.Equal(l, want) {
		t.Errorf("the damage is %v, want %v", l, want)
	}
}

func TestDamage(t *testing.T) {
	c := New(4, 3)
	f := laid(c, api.Top, 2, 2)
	g := laid(c, 0, 1, 1)
	first, second := api.Rect{X1: 2, Y1: 2}, api.Rect{X1: 1, Y1: 1}
	checkDamage(t, f.Commit())
	f.Offset(2, 0)
	checkDamage(t, f.Commit(), first, second, region.Move(first, 2, 0), region.Move(second, 2, 0))
	f.Offset(3, 0)
	f.Offset(2, 0)
	f.Unclip()
	f.Attach(grid.New[api.Pixel](2, 2))
	checkDamage(t, f.Commit())
	f.Attach(grid.Of(2, 2, []api.Pixel{{}, {0, 0, 0, 1}, {}, {}}))
	checkDamage(t, f.Commit(), api.Rect{X0: 3, X1: 4, Y1: 1})
	f.Offset(-9, 0)
	checkDamage(t, f.Commit(), region.Move(first, 2, 0), region.Move(second, 2, 0))
	checkDamage(t, c.Destroy(g))
	g = laid(c, 0, 3, 1)
	g.Offset(9, 1)
	checkDamage(t, g.Commit(), api.Rect{Y0: 1, X1: 3, Y1: 2})
	checkDamage(t, c.Destroy(f), api.Rect{Y0: 1, X1: 3, Y1: 2})
}

// marks gives the kept hint as rows of signs.
func marks(f *Surface) string {
	out := ""
	for y := range f.kept.Height() {
		for x := range f.kept.Width() {
			if f.kept.At(x, y) {
				out += "x"
			} else {
				out += "."
			}
		}
		out += "/"
	}
	return out
}

func checkMarks(t *testing.T, f *Surface, want string) {
	t.Helper()
	if m := marks(f); m != want {
		t.Errorf("kept is %s, want %s", m, want)
	}
}

func TestKeptHint(t *testing.T) {
	c := New(4, 3)
	f := c.Surface(c.Make(c.Parent(api.Top)))
	checkMarks(t, f, "")
	solid, half := api.Pixel{1, 2, 3, 255}, api.Pixel{0, 0, 0, 254}
	f.Attach(grid.Of(3, 2, []api.Pixel{solid, solid, half, half, solid, solid}))
	f.Commit()
	checkMarks(t, f, ".../.../")
	f.Opaque(region.Of([]api.Rect{{X0: -3, Y0: -3, X1: 30, Y1: 1}, {X0: 2, Y0: 0, X1: 3, Y1: 9}}))
	checkMarks(t, f, ".../.../")
	f.Commit()
	checkMarks(t, f, "xx./..x/")
	f.Attach(grid.Of(4, 1, []api.Pixel{solid, half, solid, solid}))
	checkMarks(t, f, "xx./..x/")
	f.Commit()
	checkMarks(t, f, "x.xx/")
	f.Attach(grid.New[api.Pixel](0, 5))
	f.Commit()
	checkMarks(t, f, "/////")
	f.Attach(grid.Of(1, 2, []api.Pixel{solid, solid}))
	f.Opaque(region.Of([]api.Rect{{X1: 1, Y0: 1, Y1: 2}}))
	f.Commit()
	checkMarks(t, f, "./x/")
	f.Opaque(region.Region{})
	f.Commit()
	checkMarks(t, f, "././")
}

// What is hidden is not laid; and a picture keeps the hints that were.
func TestPictureOfWhatHides(t *testing.T) {
	c := New(2, 1)
	solid := api.Pixel{7, 0, 0, 255}
	for range 3 {
		laid(c, api.Top, 2, 1).Attach(grid.Of(2, 1, []api.Pixel{solid, solid}))
	}
	f := c.Surface(1)
	f.Opaque(region.Of([]api.Rect{{X1: 1, Y1: 1}}))
	for id := range 3 {
		c.Surface(id).Commit()
	}
	hidden := c.Picture()
	f.Opaque(region.Region{})
	f.Commit()
	for _, w := range []struct {
		p       Picture
		x, laid int
	}{{hidden, 0, 2}, {hidden, 1, 3}, {c.Picture(), 0, 3}, {c.Picture(), 1, 3}} {
		if p, n := w.p.At(w.x, 0); p != solid || n != w.laid {
			t.Errorf("at %d it is %v, %d, want %v, %d", w.x, p, n, solid, w.laid)
		}
	}
}

// A picture stays as it was, whatever happens to the surfaces.
func TestPicture(t *testing.T) {
	c := New(2, 1)
	before := c.Picture()
	f := laid(c, api.Top, 1, 1)
	f.Attach(grid.Of(1, 1, []api.Pixel{{7, 0, 0, 255}}))
	f.Commit()
	between := c.Picture()
	f.Attach(grid.Of(1, 1, []api.Pixel{{8, 0, 0, 255}}))
	f.Commit()
	c.Destroy(f)
	for _, w := range []struct {
		p    Picture
		x    int
		want api.Pixel
		laid int
	}{
		{before, 0, api.Pixel{0, 0, 0, 255}, 0}, {between, 0, api.Pixel{7, 0, 0, 255}, 1},
		{between, 1, api.Pixel{0, 0, 0, 255}, 0}, {c.Picture(), 0, api.Pixel{0, 0, 0, 255}, 0},
	} {
		if p, n := w.p.At(w.x, 0); p != w.want || n != w.laid {
			t.Errorf("at %d it is %v, %d, want %v, %d", w.x, p, n, w.want, w.laid)
		}
	}
}
