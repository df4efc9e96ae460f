package scene

import (
	"pane/api"
	"pane/grid"
	"pane/region"
)

// spot is a surface's place, and the part of the screen that its clips and those of all that it is on leave.
type spot struct {
	x, y int
	open api.Rect
}

// spot starts at the ground, whose clip is the screen, and follows the surfaces up from there.
func (f *Surface) spot() spot {
	if f.parent == nil {
		return spot{open: f.now.clip}
	}
	s := f.parent.spot()
	s.x += f.now.x
	s.y += f.now.y
	if f.now.clipped {
		s.open = region.Meet(s.open, region.Move(f.now.clip, s.x, s.y))
	}
	return s
}

// view tells where it lies, and what is seen of it, which may be a rectangle without points.
func (f *Surface) view() api.View {
	s, w, h := f.spot(), f.now.pixels.Width(), f.now.pixels.Height()
	whole := api.Rect{X0: s.x, Y0: s.y, X1: s.x + w, Y1: s.y + h}
	return api.View{Surface: f.number, X: s.x, Y: s.y, W: w, H: h, Seen: region.Meet(s.open, whole)}
}

// layer is a surface of which something is seen, with its pixels and its kept hint.
type layer struct {
	view   api.View
	pixels grid.Grid[api.Pixel]
	kept   grid.Grid[bool]
}

// layers adds to a list the surface and, in front of it, all that is on it, as far as something is seen of them.
func (f *Surface) layers(l []layer) []layer {
	if v := f.view(); region.HasPoints(v.Seen) {
		l = append(l, layer{view: v, pixels: f.now.pixels, kept: f.kept})
	}
	for _, g := range f.on {
		l = g.layers(l)
	}
	return l
}
