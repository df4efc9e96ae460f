package pane_test

import (
	"math"
	"reflect"
	"slices"
	"testing"

	"pane/api"
	"pane/pane"
)

var grey = api.Pixel{9, 9, 9, 255}

// farOff are numbers that are no surface's, whatever happens.
var farOff = []int{api.Top - 1, api.MaxMade, math.MinInt, math.MaxInt, 1 << 32, -1 << 32}

func screen(t *testing.T, w, h, n int) *pane.Screen {
	t.Helper()
	s, e := pane.New(w, h, n)
	if s == nil || e != api.OK {
		t.Fatalf("New(%d, %d, %d) = %v, %d", w, h, n, s, e)
	}
	return s
}

func fine(t *testing.T, what string, e api.Errno) {
	t.Helper()
	if e != api.OK {
		t.Errorf("%s is refused: %d", what, e)
	}
}

func filled(w, h int, p api.Pixel) []api.Pixel {
	return slices.Repeat([]api.Pixel{p}, w*h)
}

func checkMake(t *testing.T, s *pane.Screen, parent, want int, e api.Errno) {
	t.Helper()
	if n, f := s.Make(parent); n != want || f != e {
		t.Errorf("Make(%d) = %d, %d, want %d, %d", parent, n, f, want, e)
	}
}

// lay makes a surface with so many pixels, at an offset.
func lay(t *testing.T, s *pane.Screen, parent, id, w, h, x, y int) {
	t.Helper()
	layOf(t, s, parent, id, w, h, x, y, grey)
}

// layOf makes a surface with so many pixels of one kind, at an offset.
func layOf(t *testing.T, s *pane.Screen, parent, id, w, h, x, y int, p api.Pixel) {
	t.Helper()
	checkMake(t, s, parent, id, api.OK)
	fine(t, "Attach", s.Attach(id, w, h, filled(w, h, p)))
	fine(t, "Offset", s.Offset(id, x, y))
	fine(t, "Commit", s.Commit(id))
}

func view(id, x, y, w, h int, seen api.Rect) api.View {
	return api.View{Surface: id, X: x, Y: y, W: w, H: h, Seen: seen}
}

func checkViews(t *testing.T, s *pane.Screen, want ...api.View) {
	t.Helper()
	if l := s.Views(); !slices.Equal(l, want) {
		t.Errorf("Views = %v, want %v", l, want)
	}
}

// checkOrder asks only which surfaces are seen, from the back to the front.
func checkOrder(t *testing.T, s *pane.Screen, want ...int) {
	t.Helper()
	var l []int
	for _, v := range s.Views() {
		l = append(l, v.Surface)
	}
	if !slices.Equal(l, want) {
		t.Errorf("seen are %v, want %v", l, want)
	}
}

// checkSame asks whether two screens that were told the same are the same, to the last thing kept.
func checkSame(t *testing.T, what string, a, b *pane.Screen) {
	t.Helper()
	if !reflect.DeepEqual(a, b) {
		t.Errorf("%s: the screens differ", what)
	}
}

func TestNewSizes(t *testing.T) {
	for w := 1; w <= api.MaxSide; w++ {
		for n := 1; n <= api.MaxBuffers; n++ {
			s := screen(t, w, api.MaxSide+1-w, n)
			checkViews(t, s)
			lay(t, s, api.Top, 0, api.MaxSide, api.MaxSide, 0, 0)
			checkViews(t, s, view(0, 0, 0, api.MaxSide, api.MaxSide, rect(0, 0, w, api.MaxSide+1-w)))
		}
	}
}

func TestNewRefuses(t *testing.T) {
	const most = api.MaxSide
	for _, c := range []struct {
		w, h, n int
		want    api.Errno
	}{
		{0, 1, 1, api.ErrSize}, {1, 0, 1, api.ErrSize}, {0, 0, 1, api.ErrSize}, {-1, 1, 1, api.ErrSize}, {1, -1, 1, api.ErrSize},
		{most + 1, 1, 1, api.ErrSize}, {1, most + 1, 1, api.ErrSize}, {math.MaxInt, 1, 1, api.ErrSize}, {1, math.MaxInt, 1, api.ErrSize},
		{math.MinInt, 1, 1, api.ErrSize}, {1, math.MinInt, 1, api.ErrSize},
		{0, 1, 0, api.ErrSize}, {1, most + 1, 4, api.ErrSize}, {math.MinInt, math.MaxInt, math.MinInt, api.ErrSize},
		{1, 1, 0, api.ErrBuffer}, {most, most, -1, api.ErrBuffer}, {1, 1, api.MaxBuffers + 1, api.ErrBuffer},
		{1, 1, math.MaxInt, api.ErrBuffer}, {1, 1, math.MinInt, api.ErrBuffer},
	} {
		if s, e := pane.New(c.w, c.h, c.n); s != nil || e != c.want {
			t.Errorf("New(%d, %d, %d) = %v, %d, want %d", c.w, c.h, c.n, s, e, c.want)
		}
	}
}

func TestScreensLeaveEachOtherAlone(t *testing.T) {
	a, b := screen(t, 4, 3, 2), screen(t, 4, 3, 2)
	lay(t, a, api.Top, 0, 2, 2, 0, 0)
	fine(t, "Clip", a.Clip(0, rect(0, 0, 1, 1)))
	checkViews(t, b)
	if e := b.Commit(0); e != api.ErrSurface {
		t.Errorf("a surface of one screen is on another one: %d", e)
	}
	lay(t, b, api.Top, 0, 1, 1, 3, 2)
	fine(t, "Commit", b.Commit(0))
	checkViews(t, a, view(0, 0, 0, 2, 2, rect(0, 0, 2, 2)))
	checkViews(t, b, view(0, 3, 2, 1, 1, rect(3, 2, 4, 3)))
	fine(t, "Destroy", b.Destroy(0))
	fine(t, "Commit", a.Commit(0))
	checkViews(t, a, view(0, 0, 0, 2, 2, rect(0, 0, 1, 1)))
	checkSame(t, "two new ones", screen(t, 4, 3, 2), screen(t, 4, 3, 2))
}
