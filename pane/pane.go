// Package pane: a picture made of surfaces that lie over each other: see DOC.md.
package pane

import (
	"pane/api"
	"pane/canvas"
	"pane/grid"
	"pane/pixel"
	"pane/region"
	"pane/scene"
)

// Screen is a screen with its surfaces and buffers.
type Screen struct {
	scene  *scene.Scene
	canvas *canvas.Canvas
}

// Combine combines two regions (P3).
func Combine(kind int, a []api.Rect, b []api.Rect) ([]api.Rect, api.Errno) {
	if kind < api.Union || kind > api.Either {
		return nil, api.ErrKind
	}
	if e := checkRects(a, b); e != api.OK {
		return nil, e
	}
	return region.Combine(kind, region.Of(a), region.Of(b)).Rects(), api.OK
}

// Over lays a pixel over another one (P4).
func Over(s api.Pixel, d api.Pixel) (api.Pixel, api.Errno) {
	if !pixel.MayBe(s) || !pixel.MayBe(d) {
		return api.Pixel{}, api.ErrPixel
	}
	return pixel.Over(s, d), api.OK
}

// New gives a screen (P5).
func New(width int, height int, buffers int) (*Screen, api.Errno) {
	if !within(width, 1, api.MaxSide) || !within(height, 1, api.MaxSide) {
		return nil, api.ErrSize
	}
	if !within(buffers, 1, api.MaxBuffers) {
		return nil, api.ErrBuffer
	}
	return &Screen{scene: scene.New(width, height), canvas: canvas.New(width, height, buffers)}, api.OK
}

// Make makes a surface (P6).
func (s *Screen) Make(parent int) (int, api.Errno) {
	p := s.scene.Parent(parent)
	if p == nil {
		return 0, api.ErrSurface
	}
	if s.scene.Full() {
		return 0, api.ErrFull
	}
	return s.scene.Make(p), api.OK
}

// Destroy takes a surface away, with all that is on it (P6).
func (s *Screen) Destroy(id int) api.Errno {
	f := s.scene.Surface(id)
	if f == nil {
		return api.ErrSurface
	}
	s.canvas.Damage(s.scene.Destroy(f))
	return api.OK
}

// Attach gives a surface a buffer, from its next Commit on (P7).
func (s *Screen) Attach(id int, w int, h int, pixels []api.Pixel) api.Errno {
	f := s.scene.Surface(id)
	if f == nil {
		return api.ErrSurface
	}
	if !within(w, 0, api.MaxSide) || !within(h, 0, api.MaxSide) {
		return api.ErrSize
	}
	if len(pixels) != w*h || !allMayBe(pixels) {
		return api.ErrPixel
	}
	f.Attach(grid.Of(w, h, pixels))
	return api.OK
}

// Offset moves a surface (P7).
func (s *Screen) Offset(id int, x int, y int) api.Errno {
	f := s.scene.Surface(id)
	if f == nil {
		return api.ErrSurface
	}
	if !within(x, -api.MaxOffset, api.MaxOffset) || !within(y, -api.MaxOffset, api.MaxOffset) {
		return api.ErrCoord
	}
	f.Offset(x, y)
	return api.OK
}

// Clip cuts a surface, and all that is on it (P7).
func (s *Screen) Clip(id int, r api.Rect) api.Errno {
	f := s.scene.Surface(id)
	if f == nil {
		return api.ErrSurface
	}
	if !region.MayBe(r) {
		return api.ErrRect
	}
	f.Clip(r)
	return api.OK
}

// Unclip lets it be whole again (P7).
func (s *Screen) Unclip(id int) api.Errno {
	f := s.scene.Surface(id)
	if f == nil {
		return api.ErrSurface
	}
	f.Unclip()
	return api.OK
}

// Opaque says where a surface hides what is below it (P7).
func (s *Screen) Opaque(id int, l []api.Rect) api.Errno {
	f := s.scene.Surface(id)
	if f == nil {
		return api.ErrSurface
	}
	if e := checkRects(l); e != api.OK {
		return e
	}
	f.Opaque(region.Of(l))
	return api.OK
}

// Stack puts a surface directly above a sibling, or below it (P7).
func (s *Screen) Stack(id int, sibling int, above bool) api.Errno {
	f, g := s.scene.Surface(id), s.scene.Surface(sibling)
	if f == nil || g == nil {
		return api.ErrSurface
	}
	if !f.Beside(g) {
		return api.ErrSibling
	}
	f.Stack(g, above)
	return api.OK
}

// Commit makes what was asked for be (P8).
func (s *Screen) Commit(id int) api.Errno {
	f := s.scene.Surface(id)
	if f == nil {
		return api.ErrSurface
	}
	s.canvas.Damage(f.Commit())
	return api.OK
}

// Views tells what can be seen, from the back to the front (P9).
func (s *Screen) Views() []api.View { return s.scene.Views() }

// Garbage fills a buffer with anything (P12).
func (s *Screen) Garbage(i int, pixels []api.Pixel) api.Errno {
	if !s.canvas.Has(i) {
		return api.ErrBuffer
	}
	if len(pixels) != s.canvas.Points() {
		return api.ErrPixel
	}
	s.canvas.Fill(i, pixels)
	return api.OK
}

// Repaint brings a buffer up to date (P11).
func (s *Screen) Repaint(i int) (api.Painted, api.Errno) {
	if !s.canvas.Has(i) {
		return api.Painted{}, api.ErrBuffer
	}
	return s.canvas.Paint(i, s.scene.Picture()), api.OK
}

// Look tells a buffer's pixels, and its age (P12).
func (s *Screen) Look(i int) ([]api.Pixel, int, api.Errno) {
	if !s.canvas.Has(i) {
		return nil, 0, api.ErrBuffer
	}
	pixels, age := s.canvas.Look(i)
	return pixels, age, api.OK
}
