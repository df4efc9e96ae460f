// Package scene: the surfaces of a screen: which lies on which, what each of them has, and what is seen of it.
package scene

import (
	"slices"

	"pane/api"
)

// Scene is all surfaces of a screen.
type Scene struct {
	ground *Surface
	there  map[int]*Surface // by number
	made   int              // how many have ever been
}

// New gives a scene without surfaces. The ground that they lie on is kept as a surface too, so that Top is a parent
// like any other: it lies at 0, 0, has no pixels, and its clip is the screen, which cuts all that is on it.
func New(width int, height int) *Scene {
	ground := &Surface{number: api.Top, now: look{clip: api.Rect{X1: width, Y1: height}, clipped: true}}
	return &Scene{ground: ground, there: map[int]*Surface{}}
}

// Surface gives the surface of that number, or nil if there is none.
func (c *Scene) Surface(id int) *Surface {
	return c.there[id]
}

// Parent gives what a surface lies on whose parent has that number, or nil if there is no such parent.
func (c *Scene) Parent(id int) *Surface {
	if id == api.Top {
		return c.ground
	}
	return c.there[id]
}

// Full tells whether no surface more may be made.
func (c *Scene) Full() bool {
	return len(c.there) >= api.MaxSurfaces || c.made >= api.MaxMade
}

// Make makes a surface in front of all that lie on its parent, and tells its number. No number comes twice.
func (c *Scene) Make(parent *Surface) int {
	f := &Surface{number: c.made, parent: parent}
	c.made++
	c.there[f.number] = f
	parent.on = append(parent.on, f)
	return f.number
}

// Destroy takes a surface away, with all that is on it, and tells the damage.
func (c *Scene) Destroy(f *Surface) []api.Rect {
	damage := f.seenParts()
	at := f.parent.find(f.number)
	f.parent.on = slices.Delete(f.parent.on, at, at+1)
	c.forget(f)
	return damage
}

func (c *Scene) forget(f *Surface) {
	delete(c.there, f.number)
	for _, g := range f.on {
		c.forget(g)
	}
}

// Views tells what is seen of the surfaces, from the back to the front.
func (c *Scene) Views() []api.View {
	var l []api.View
	for _, each := range c.ground.layers(nil) {
		l = append(l, each.view)
	}
	return l
}

// Picture gives the picture that the surfaces make, as they are now.
func (c *Scene) Picture() Picture {
	return Picture{layers: c.ground.layers(nil)}
}
