package region

import "pane/api"

// MayBe tells whether a rectangle may be. (The ends that are not asked lie between the two that are.)
func MayBe(q api.Rect) bool {
	return -api.MaxFar <= q.X0 && q.X0 <= q.X1 && q.X1 <= api.MaxFar &&
		-api.MaxFar <= q.Y0 && q.Y0 <= q.Y1 && q.Y1 <= api.MaxFar
}

// HasPoints tells whether there is a point in a rectangle. It may have its ends the wrong way round: then there is none.
func HasPoints(q api.Rect) bool {
	return q.X0 < q.X1 && q.Y0 < q.Y1
}

// Has tells whether a point is in a rectangle.
func Has(q api.Rect, x int, y int) bool {
	return q.X0 <= x && x < q.X1 && q.Y0 <= y && y < q.Y1
}

// Meet gives the rectangle of the points that are in both. Without such points its ends may be the wrong way round;
// they stay so in whatever it meets.
func Meet(p api.Rect, q api.Rect) api.Rect {
	return api.Rect{X0: max(p.X0, q.X0), Y0: max(p.Y0, q.Y0), X1: min(p.X1, q.X1), Y1: min(p.Y1, q.Y1)}
}

// Hull gives the smallest rectangle that has all points of both. One without points adds none, wherever its ends are.
func Hull(p api.Rect, q api.Rect) api.Rect {
	if !HasPoints(p) {
		return q
	}
	if !HasPoints(q) {
		return p
	}
	return api.Rect{X0: min(p.X0, q.X0), Y0: min(p.Y0, q.Y0), X1: max(p.X1, q.X1), Y1: max(p.Y1, q.Y1)}
}

// Move gives the rectangle so far to the right and down.
func Move(q api.Rect, x int, y int) api.Rect {
	return api.Rect{X0: q.X0 + x, Y0: q.Y0 + y, X1: q.X1 + x, Y1: q.Y1 + y}
}
