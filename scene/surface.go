package scene

import (
	"slices"

	"pane/api"
	"pane/grid"
	"pane/region"
)

// Surface is one of the surfaces, with all that lie on it, from the back to the front.
type Surface struct {
	number int
	parent *Surface // nil at the ground alone
	on     []*Surface
	now    look            // what it has
	next   look            // what it has from its next Commit on
	stack  stacking        // where it is put at its next Commit
	kept   grid.Grid[bool] // the kept hint: a mark for each pixel; never written into behind the Commit that made it
}

// look is what a surface has of its own.
type look struct {
	pixels  grid.Grid[api.Pixel] // never written into: what was asked for and what is may share it
	x, y    int
	clip    api.Rect
	clipped bool
	hint    region.Region // as asked for: it may reach beyond the buffer, which another buffer may fill
}

// stacking is next to which sibling a surface was asked to lie, if it was. The sibling is kept as its number, since
// it may be gone at the Commit.
type stacking struct {
	asked   bool
	sibling int
	above   bool
}

// Attach asks for a buffer of these pixels.
func (f *Surface) Attach(pixels grid.Grid[api.Pixel]) {
	f.next.pixels = pixels
}

// Offset asks for an offset.
func (f *Surface) Offset(x int, y int) {
	f.next.x, f.next.y = x, y
}

// Clip asks for a clip.
func (f *Surface) Clip(q api.Rect) {
	f.next.clip, f.next.clipped = q, true
}

// Unclip asks for no clip.
func (f *Surface) Unclip() {
	f.next.clip, f.next.clipped = api.Rect{}, false
}

// Opaque asks for a hint.
func (f *Surface) Opaque(hint region.Region) {
	f.next.hint = hint
}

// Beside tells whether another surface is a sibling of this one.
func (f *Surface) Beside(other *Surface) bool {
	return f != other && f.parent == other.parent
}

// Stack asks to lie directly in front of a sibling, or directly behind it.
func (f *Surface) Stack(sibling *Surface, above bool) {
	f.stack = stacking{asked: true, sibling: sibling.number, above: above}
}

// Commit makes all that was asked for be, and tells the damage.
func (f *Surface) Commit() []api.Rect {
	was, pixels, seen := f.outline(), f.now.pixels, f.seenParts()
	f.now = f.next
	f.kept = f.now.keptHint()
	f.restack()
	if f.outline() != was {
		return append(seen, f.seenParts()...)
	}
	return []api.Rect{f.otherPixels(pixels)}
}

// restack puts it next to the sibling that was asked for, if that one is still there.
func (f *Surface) restack() {
	p, s := f.parent, f.stack
	f.stack = stacking{}
	if !s.asked || p.find(s.sibling) < 0 {
		return
	}
	at := p.find(f.number)
	p.on = slices.Delete(p.on, at, at+1)
	to := p.find(s.sibling)
	if s.above {
		to++
	}
	p.on = slices.Insert(p.on, to, f)
}

// find tells where the surface of that number is among those that lie directly on this one; -1 if it does not.
func (f *Surface) find(number int) int {
	return slices.IndexFunc(f.on, func(g *Surface) bool { return g.number == number })
}
