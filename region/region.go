// Package region: sets of points, kept as bands from top to bottom, each with its spans from left to right.
package region

import (
	"math"
	"slices"

	"pane/api"
)

// beyond stands for the next edge of what has no edge left: no coordinate reaches it.
const beyond = math.MaxInt

// span is the columns from from on till ahead of to.
type span struct {
	from, to int
}

// band is the rows from top on till ahead of bottom, all with the same spans.
type band struct {
	top, bottom int
	spans       []span
}

// Region is a set of points in its plain form. Without bands it is the empty one.
type Region struct {
	bands []band
}

// Of gives the points of all these rectangles together.
func Of(l []api.Rect) Region {
	var r Region
	for _, q := range l {
		r = Combine(api.Union, r, one(q))
	}
	return r
}

// one gives the points of a rectangle.
func one(q api.Rect) Region {
	if !HasPoints(q) {
		return Region{}
	}
	return Region{bands: []band{{top: q.Y0, bottom: q.Y1, spans: []span{{from: q.X0, to: q.X1}}}}}
}

// Rects tells the region as rectangles, in its plain form.
func (r Region) Rects() []api.Rect {
	var l []api.Rect
	for _, b := range r.bands {
		for _, s := range b.spans {
			l = append(l, api.Rect{X0: s.from, Y0: b.top, X1: s.to, Y1: b.bottom})
		}
	}
	return l
}

// add puts a band below all others. To keep the plain form, a band without spans is left out, and one that only
// carries on the last one becomes part of it.
func (r *Region) add(b band) {
	if len(b.spans) == 0 {
		return
	}
	last := len(r.bands) - 1
	if last >= 0 && r.bands[last].bottom == b.top && slices.Equal(r.bands[last].spans, b.spans) {
		r.bands[last].bottom = b.bottom
		return
	}
	r.bands = append(r.bands, b)
}
