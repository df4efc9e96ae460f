package scene

import (
	"pane/api"
	"pane/grid"
	"pane/region"
)

// A damage is told as rectangles, which may have points in common, and need not have any.

// outline is all of a surface by which more may be damaged than some pixels of its own.
type outline struct {
	width, height int
	x, y          int
	clip          api.Rect
	clipped       bool
	at            int // among its siblings
}

func (f *Surface) outline() outline {
	n := f.now
	return outline{
		width: n.pixels.Width(), height: n.pixels.Height(),
		x: n.x, y: n.y,
		clip: n.clip, clipped: n.clipped,
		at: f.parent.find(f.number),
	}
}

// seenParts gives what is seen of the surface and of all that is on it.
func (f *Surface) seenParts() []api.Rect {
	var parts []api.Rect
	for _, l := range f.layers(nil) {
		parts = append(parts, l.view.Seen)
	}
	return parts
}

// otherPixels gives the smallest rectangle of all seen points whose pixel was another one. The outline was the same.
func (f *Surface) otherPixels(was grid.Grid[api.Pixel]) api.Rect {
	var hull api.Rect
	v := f.view()
	for y := v.Seen.Y0; y < v.Seen.Y1; y++ {
		for x := v.Seen.X0; x < v.Seen.X1; x++ {
			if was.At(x-v.X, y-v.Y) != f.now.pixels.At(x-v.X, y-v.Y) {
				hull = region.Hull(hull, api.Rect{X0: x, Y0: y, X1: x + 1, Y1: y + 1})
			}
		}
	}
	return hull
}
