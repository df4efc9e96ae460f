package pane

import (
	"slices"

	"pane/api"
	"pane/pixel"
	"pane/region"
)

// within tells whether a number is one of those from the least to the most.
func within(n int, least int, most int) bool {
	return least <= n && n <= most
}

// allMayBe tells whether there is no pixel among them that may not be.
func allMayBe(l []api.Pixel) bool {
	return !slices.ContainsFunc(l, func(p api.Pixel) bool { return !pixel.MayBe(p) })
}

// checkRects finds what is wrong with lists of rectangles. Too many in any list comes ahead of a wrong one in any.
func checkRects(lists ...[]api.Rect) api.Errno {
	for _, l := range lists {
		if len(l) > api.MaxRects {
			return api.ErrMany
		}
	}
	for _, l := range lists {
		for _, q := range l {
			if !region.MayBe(q) {
				return api.ErrRect
			}
		}
	}
	return api.OK
}
