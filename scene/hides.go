package scene

import (
	"pane/api"
	"pane/grid"
	"pane/pixel"
	"pane/region"
)

// keptHint marks the points of the hint at which the buffer lets nothing through.
func (n look) keptHint() grid.Grid[bool] {
	w, h := n.pixels.Width(), n.pixels.Height()
	marks := grid.New[bool](w, h)
	whole := region.Of([]api.Rect{{X1: w, Y1: h}})
	for _, q := range region.Combine(api.Common, n.hint, whole).Rects() {
		for y := q.Y0; y < q.Y1; y++ {
			for x := q.X0; x < q.X1; x++ {
				marks.Set(x, y, pixel.Solid(n.pixels.At(x, y)))
			}
		}
	}
	return marks
}

// has tells whether the surface is seen at a point of the screen.
func (l layer) has(x int, y int) bool {
	return region.Has(l.view.Seen, x, y)
}

// hides tells whether nothing behind the surface need be laid at a point of the screen.
func (l layer) hides(x int, y int) bool {
	return l.has(x, y) && l.kept.At(x-l.view.X, y-l.view.Y)
}

// unhidden gives the layers that none in front of them hides at a point of the screen: the front-most one that hides,
// and all in front of it. The one at the very back need not be asked: it has nothing to hide.
func (p Picture) unhidden(x int, y int) []layer {
	for i := len(p.layers) - 1; i > 0; i-- {
		if p.layers[i].hides(x, y) {
			return p.layers[i:]
		}
	}
	return p.layers
}
