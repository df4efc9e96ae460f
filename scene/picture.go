package scene

import (
	"pane/api"
	"pane/pixel"
)

// Picture is what the surfaces make together, for as long as none of them changes.
type Picture struct {
	layers []layer // from the back to the front
}

// At gives the picture at a point of the screen, and how many pixels of surfaces were laid there. What is hidden is
// left out: the pixel that hides it would be the same over anything.
func (p Picture) At(x int, y int) (api.Pixel, int) {
	out, laid := pixel.Black(), 0
	for _, l := range p.unhidden(x, y) {
		if l.has(x, y) {
			out = pixel.Over(l.pixels.At(x-l.view.X, y-l.view.Y), out)
			laid++
		}
	}
	return out, laid
}
