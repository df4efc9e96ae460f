// Package canvas: the buffers of a screen, what was damaged between their repaints, and painting them.
package canvas

import (
	"pane/api"
	"pane/grid"
	"pane/region"
	"pane/ring"
	"pane/scene"
)

// Canvas is all buffers of a screen.
type Canvas struct {
	screen  api.Rect
	buffers []buffer
	damages ring.Ring[region.Region] // between one repaint and the next; the newest one is since the last
}

// buffer is one of them. Its age is 0 if it was never painted.
type buffer struct {
	pixels grid.Grid[api.Pixel]
	age    int
}

// New gives so many buffers, never painted. A buffer too old for the damages that are kept is painted whole, so there
// is no need for more of them.
func New(width int, height int, buffers int) *Canvas {
	c := &Canvas{screen: api.Rect{X1: width, Y1: height}, damages: ring.New[region.Region](api.MaxAge)}
	for range buffers {
		c.buffers = append(c.buffers, buffer{pixels: grid.New[api.Pixel](width, height)})
	}
	return c
}

// Has tells whether there is such a buffer.
func (c *Canvas) Has(i int) bool {
	return 0 <= i && i < len(c.buffers)
}

// Points tells how many pixels each buffer has.
func (c *Canvas) Points() int {
	return c.screen.X1 * c.screen.Y1
}

// Damage takes note that the picture may have changed in these rectangles.
func (c *Canvas) Damage(l []api.Rect) {
	c.damages.Amend(region.Combine(api.Union, c.damages.Back(0), region.Of(l)))
}

// Fill gives a buffer these pixels, as many as it has. Nobody knows what they show, so it counts as never painted.
func (c *Canvas) Fill(i int, pixels []api.Pixel) {
	c.buffers[i] = buffer{pixels: grid.Of(c.screen.X1, c.screen.Y1, pixels)}
}

// Look gives a buffer's pixels, row by row, and its age.
func (c *Canvas) Look(i int) ([]api.Pixel, int) {
	return c.buffers[i].pixels.Cells(), c.buffers[i].age
}

// Paint paints a buffer where it is out of date.
func (c *Canvas) Paint(i int, picture scene.Picture) api.Painted {
	done := api.Painted{Region: c.outOfDate(c.buffers[i].age).Rects()}
	for _, q := range done.Region {
		done.Blends += c.buffers[i].paint(q, picture)
	}
	c.growOlder()
	c.buffers[i].age = 1
	return done
}

// outOfDate gives the region where a buffer of that age may not be the picture.
func (c *Canvas) outOfDate(age int) region.Region {
	if age == 0 || age > api.MaxAge {
		return region.Of([]api.Rect{c.screen})
	}
	var r region.Region
	for k := range age {
		r = region.Combine(api.Union, r, c.damages.Back(k))
	}
	return r
}

// growOlder counts a repaint more, and begins a new damage behind it.
func (c *Canvas) growOlder() {
	for i := range c.buffers {
		if c.buffers[i].age > 0 {
			c.buffers[i].age++
		}
	}
	c.damages.Add(region.Region{})
}

// paint paints a rectangle, and tells how many pixels of surfaces were laid.
func (b buffer) paint(q api.Rect, picture scene.Picture) int {
	blends := 0
	for y := q.Y0; y < q.Y1; y++ {
		for x := q.X0; x < q.X1; x++ {
			p, laid := picture.At(x, y)
			b.pixels.Set(x, y, p)
			blends += laid
		}
	}
	return blends
}
