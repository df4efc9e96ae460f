package pane_test

import (
	"math"
	"math/rand"
	"slices"
	"testing"

	"pane/api"
	"pane/pane"
)

var kinds = []int{api.Union, api.Common, api.Less, api.Either}

func rect(x0, y0, x1, y1 int) api.Rect { return api.Rect{X0: x0, Y0: y0, X1: x1, Y1: y1} }

func rects(l ...api.Rect) []api.Rect { return l }

func has(l []api.Rect, x, y int) bool {
	return slices.ContainsFunc(l, func(q api.Rect) bool {
		return q.X0 <= x && x < q.X1 && q.Y0 <= y && y < q.Y1
	})
}

func kept(kind int, p, q bool) bool {
	return [4]bool{p || q, p && q, p && !q, p != q}[kind]
}

// edges gives the coordinates at which a point's being in a list of rectangles may change.
func edges(from, to func(api.Rect) int, l []api.Rect) []int {
	var at []int
	for _, q := range l {
		at = append(at, from(q), to(q))
	}
	slices.Sort(at)
	return slices.Compact(at)
}

// wanted builds the plain form without any walk: it asks for one point of each cell between the edges, and joins
// cells to spans and equal strips to bands.
func wanted(kind int, a, b []api.Rect) []api.Rect {
	all := slices.Concat(a, b)
	xs := edges(func(q api.Rect) int { return q.X0 }, func(q api.Rect) int { return q.X1 }, all)
	ys := edges(func(q api.Rect) int { return q.Y0 }, func(q api.Rect) int { return q.Y1 }, all)
	var out, last []api.Rect
	for i := 1; i < len(ys); i++ {
		var strip []api.Rect
		for j := 1; j < len(xs); j++ {
			x, y := xs[j-1], ys[i-1]
			if !kept(kind, has(a, x, y), has(b, x, y)) {
				continue
			}
			if n := len(strip); n > 0 && strip[n-1].X1 == x {
				strip[n-1].X1 = xs[j]
			} else {
				strip = append(strip, rect(x, y, xs[j], ys[i]))
			}
		}
		same := slices.EqualFunc(strip, last, func(p, q api.Rect) bool { return p.X0 == q.X0 && p.X1 == q.X1 })
		if same {
			for k := range strip {
				strip[k].Y0 = last[k].Y0
			}
			out = out[:len(out)-len(last)]
		}
		out = append(out, strip...)
		last = strip
	}
	return out
}

func checkCombine(t *testing.T, kind int, a, b, want []api.Rect) {
	t.Helper()
	l, e := pane.Combine(kind, a, b)
	if e != api.OK || !slices.Equal(l, want) {
		t.Errorf("Combine(%d, %v, %v) = %v, %d, want %v", kind, a, b, l, e, want)
	}
}

func TestCombineExamples(t *testing.T) {
	a, b := rects(rect(0, 0, 2, 2)), rects(rect(1, 1, 3, 3))
	checkCombine(t, api.Union, a, b, rects(rect(0, 0, 2, 1), rect(0, 1, 3, 2), rect(1, 2, 3, 3)))
	checkCombine(t, api.Common, a, b, rects(rect(1, 1, 2, 2)))
	checkCombine(t, api.Less, a, b, rects(rect(0, 0, 2, 1), rect(0, 1, 1, 2)))
	checkCombine(t, api.Either, a, b, rects(rect(0, 0, 2, 1), rect(0, 1, 1, 2), rect(2, 1, 3, 2), rect(1, 2, 3, 3)))
	checkCombine(t, api.Common, a, nil, nil)
	checkCombine(t, api.Common, a, rects(), nil)
}

func TestCombineTouching(t *testing.T) {
	left, right := rects(rect(0, 0, 2, 1)), rects(rect(2, 0, 3, 1))
	checkCombine(t, api.Union, left, right, rects(rect(0, 0, 3, 1)))
	checkCombine(t, api.Either, right, left, rects(rect(0, 0, 3, 1)))
	checkCombine(t, api.Common, left, right, nil)
	checkCombine(t, api.Less, left, right, left)
	upper, lower := rects(rect(0, 0, 2, 1)), rects(rect(0, 1, 2, 2))
	checkCombine(t, api.Union, lower, upper, rects(rect(0, 0, 2, 2)))
	checkCombine(t, api.Either, upper, lower, rects(rect(0, 0, 2, 2)))
	checkCombine(t, api.Common, upper, lower, nil)
	checkCombine(t, api.Less, upper, lower, upper)
	// Bands that touch and have as many spans, but one span ends elsewhere.
	stairs := rects(rect(0, 0, 2, 1), rect(3, 0, 5, 1), rect(0, 1, 2, 2), rect(3, 1, 6, 2))
	checkCombine(t, api.Union, stairs, nil, stairs)
	// Equal spans, but a row between them.
	apart := rects(rect(0, 0, 2, 1), rect(0, 2, 2, 3))
	checkCombine(t, api.Union, apart, nil, apart)
	checkCombine(t, api.Union, apart, rects(rect(0, 1, 2, 2)), rects(rect(0, 0, 2, 3)))
	checkCombine(t, api.Less, rects(rect(0, 0, 2, 3)), apart, rects(rect(0, 1, 2, 2)))
	// Corners that touch.
	corners := rects(rect(0, 0, 1, 1), rect(1, 1, 2, 2))
	checkCombine(t, api.Union, corners[1:], corners[:1], corners)
}

func TestCombineWithoutPoints(t *testing.T) {
	none := rects(rect(0, 0, 0, 0), rect(1, 1, 1, 5), rect(1, 1, 5, 1), rect(2000, 2000, 2000, 2000), rect(-2000, -2000, 2000, -2000))
	some := rects(rect(0, 0, 6, 6))
	for _, kind := range kinds {
		checkCombine(t, kind, none, none, nil)
		checkCombine(t, kind, nil, nil, nil)
	}
	checkCombine(t, api.Union, none, some, some)
	checkCombine(t, api.Common, some, none, nil)
	checkCombine(t, api.Less, some, none, some)
	checkCombine(t, api.Less, none, some, nil)
	checkCombine(t, api.Either, none, some, some)
}

func TestCombineFarAway(t *testing.T) {
	all := rects(rect(-api.MaxFar, -api.MaxFar, api.MaxFar, api.MaxFar))
	corners := rects(
		rect(-api.MaxFar, -api.MaxFar, 1-api.MaxFar, 1-api.MaxFar), rect(api.MaxFar-1, -api.MaxFar, api.MaxFar, 1-api.MaxFar),
		rect(-api.MaxFar, api.MaxFar-1, 1-api.MaxFar, api.MaxFar), rect(api.MaxFar-1, api.MaxFar-1, api.MaxFar, api.MaxFar))
	checkCombine(t, api.Union, all, corners, all)
	checkCombine(t, api.Union, nil, corners, corners)
	checkCombine(t, api.Common, all, corners, corners)
	rest := rects(rect(1-api.MaxFar, -api.MaxFar, api.MaxFar-1, 1-api.MaxFar), rect(-api.MaxFar, 1-api.MaxFar, api.MaxFar, api.MaxFar-1), rect(1-api.MaxFar, api.MaxFar-1, api.MaxFar-1, api.MaxFar))
	checkCombine(t, api.Less, all, corners, rest)
	checkCombine(t, api.Either, corners, all, rest)
}

// comb gives MaxRects stripes that do not touch, upright or lying.
func comb(upright bool) []api.Rect {
	var l []api.Rect
	for i := range api.MaxRects {
		if upright {
			l = append(l, rect(2*i, 0, 2*i+1, 99))
		} else {
			l = append(l, rect(0, 2*i, 99, 2*i+1))
		}
	}
	return l
}

func TestCombineMostRects(t *testing.T) {
	a, b := comb(true), comb(false)
	for _, kind := range kinds {
		checkCombine(t, kind, a, b, wanted(kind, a, b))
		checkCombine(t, kind, b, a, wanted(kind, b, a))
		checkCombine(t, kind, a, a, wanted(kind, a, a))
	}
	if l, _ := pane.Combine(api.Common, a, b); len(l) != api.MaxRects*api.MaxRects {
		t.Errorf("two combs have %d rectangles in common", len(l))
	}
}

// drawn gives a few rectangles that may be, in a square of that side around 0, 0.
func drawn(r *rand.Rand, most, side int) []api.Rect {
	var l []api.Rect
	for range r.Intn(most + 1) {
		x, y := []int{r.Intn(side+1) - side/2, r.Intn(side+1) - side/2}, []int{r.Intn(side+1) - side/2, r.Intn(side+1) - side/2}
		slices.Sort(x)
		slices.Sort(y)
		l = append(l, rect(x[0], y[0], x[1], y[1]))
	}
	return l
}

func TestCombineDrawn(t *testing.T) {
	r := rand.New(rand.NewSource(1))
	for _, c := range []struct{ rounds, most, side int }{
		{4000, 3, 4}, {4000, 6, 8}, {500, api.MaxRects, 12}, {500, api.MaxRects, 2 * api.MaxFar},
	} {
		for range c.rounds {
			a, b := drawn(r, c.most, c.side), drawn(r, c.most, c.side)
			for _, kind := range kinds {
				checkCombine(t, kind, a, b, wanted(kind, a, b))
			}
			if t.Failed() {
				return
			}
		}
	}
}

func TestCombineRefuses(t *testing.T) {
	good, bad := rects(rect(0, 0, 1, 1)), rects(rect(0, 0, 1, 1), rect(1, 0, 0, 1))
	most, many := make([]api.Rect, api.MaxRects), make([]api.Rect, api.MaxRects+1)
	manyBad := append(slices.Clone(most), rect(0, 1, 0, 0))
	for _, c := range []struct {
		name string
		kind int
		a, b []api.Rect
		want api.Errno
	}{
		{"kind below", -1, good, good, api.ErrKind},
		{"kind above", 4, good, good, api.ErrKind},
		{"least kind", math.MinInt, nil, nil, api.ErrKind},
		{"greatest kind", math.MaxInt, nil, nil, api.ErrKind},
		{"kind and many", 4, many, many, api.ErrKind},
		{"kind and bad", -1, bad, bad, api.ErrKind},
		{"kind, many and bad", 5, manyBad, bad, api.ErrKind},
		{"many in a", api.Union, many, good, api.ErrMany},
		{"many in b", api.Common, good, many, api.ErrMany},
		{"many in a, bad in b", api.Less, many, bad, api.ErrMany},
		{"bad in a, many in b", api.Either, bad, many, api.ErrMany},
		{"many and bad in a", api.Union, manyBad, nil, api.ErrMany},
		{"bad in a", api.Union, bad, good, api.ErrRect},
		{"bad in b", api.Common, good, bad, api.ErrRect},
		{"bad where nothing comes of it", api.Less, nil, bad, api.ErrRect},
		{"as many as there may be", api.Either, most, most, api.OK},
	} {
		l, e := pane.Combine(c.kind, c.a, c.b)
		if e != c.want || len(l) != 0 || e != api.OK && l != nil {
			t.Errorf("%s: %v, %d, want %d", c.name, l, e, c.want)
		}
	}
}

func TestCombineRefusesRects(t *testing.T) {
	far := api.MaxFar
	for _, q := range rects(
		rect(1, 0, 0, 1), rect(0, 1, 1, 0), rect(1, 1, 0, 0), rect(1, 5, 0, 5), rect(5, 1, 5, 0),
		rect(-far-1, 0, 0, 1), rect(0, -far-1, 1, 0), rect(0, 0, far+1, 1), rect(0, 0, 1, far+1),
		rect(-far-1, 0, -far-1, 1), rect(far+1, 0, far+1, 1), rect(0, -far-1, 1, -far-1), rect(0, far+1, 1, far+1),
		rect(math.MinInt, 0, 0, 1), rect(0, math.MinInt, 1, 0), rect(0, 0, math.MaxInt, 1), rect(0, 0, 1, math.MaxInt),
		rect(math.MaxInt, 0, math.MinInt, 1), rect(0, math.MaxInt, 1, math.MinInt), rect(math.MinInt, math.MinInt, math.MaxInt, math.MaxInt),
	) {
		for _, kind := range kinds {
			if l, e := pane.Combine(kind, rects(q), nil); l != nil || e != api.ErrRect {
				t.Errorf("Combine(%d, %v, nothing) = %v, %d", kind, q, l, e)
			}
			if l, e := pane.Combine(kind, nil, rects(rect(0, 0, 1, 1), q)); l != nil || e != api.ErrRect {
				t.Errorf("Combine(%d, nothing, .. %v) = %v, %d", kind, q, l, e)
			}
		}
	}
}

func TestCombineLeavesArguments(t *testing.T) {
	mark := rect(7, 7, 7, 7)
	room := rects(rect(4, 0, 6, 2), rect(0, 0, 2, 2), rect(1, 1, 5, 3), mark, mark, mark)
	before := slices.Clone(room)
	for _, kind := range kinds {
		pane.Combine(kind, room[:2], room[1:3])
		pane.Combine(kind, room[:3], nil)
		pane.Combine(kind, nil, room[:3])
		pane.Combine(kind, room[:3], room[:3])
		pane.Combine(kind, room[:3], rects(rect(1, 0, 0, 0)))
	}
	if !slices.Equal(room, before) {
		t.Errorf("the rectangles have become %v", room)
	}
}

func TestCombineGivesFreshLists(t *testing.T) {
	a, b := rects(rect(0, 0, 2, 2)), rects(rect(1, 1, 3, 3), rect(5, 5, 6, 6))
	for _, kind := range kinds {
		want := wanted(kind, a, b)
		first, _ := pane.Combine(kind, a, b)
		second, _ := pane.Combine(kind, a, b)
		scribble(first, rect(-1, -2, -3, -4))
		if !slices.Equal(second, want) {
			t.Errorf("kind %d: writing into one answer changed another one: %v", kind, second)
		}
		checkCombine(t, kind, a, b, want)
	}
	alone, _ := pane.Combine(api.Union, a, nil)
	scribble(alone, rect(-1, -2, -3, -4))
	scribble(b, rect(-1, -2, -3, -4))
	checkCombine(t, api.Union, a, nil, rects(rect(0, 0, 2, 2)))
}
