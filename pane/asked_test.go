package pane_test

import (
	"math"
	"reflect"
	"slices"
	"testing"

	"pane/api"
	"pane/pane"
)

func TestAskedWaitsForCommit(t *testing.T) {
	s := screen(t, 4, 3, 2)
	checkMake(t, s, api.Top, 0, api.OK)
	fine(t, "Attach", s.Attach(0, 2, 2, filled(2, 2, grey)))
	checkViews(t, s)
	fine(t, "Commit", s.Commit(0))
	at := func(x, y int, seen api.Rect) {
		t.Helper()
		checkViews(t, s, view(0, x, y, 2, 2, seen))
	}
	at(0, 0, rect(0, 0, 2, 2))
	fine(t, "Offset", s.Offset(0, 1, 1))
	at(0, 0, rect(0, 0, 2, 2))
	fine(t, "Commit", s.Commit(0))
	at(1, 1, rect(1, 1, 3, 3))
	fine(t, "Clip", s.Clip(0, rect(1, 0, 2, 1)))
	at(1, 1, rect(1, 1, 3, 3))
	fine(t, "Commit", s.Commit(0))
	at(1, 1, rect(2, 1, 3, 2))
	fine(t, "Unclip", s.Unclip(0))
	at(1, 1, rect(2, 1, 3, 2))
	fine(t, "Commit", s.Commit(0))
	at(1, 1, rect(1, 1, 3, 3))
	fine(t, "Attach", s.Attach(0, 1, 1, filled(1, 1, grey)))
	at(1, 1, rect(1, 1, 3, 3))
	fine(t, "Commit", s.Commit(0))
	checkViews(t, s, view(0, 1, 1, 1, 1, rect(1, 1, 2, 2)))
}

func TestAskedTwice(t *testing.T) {
	s := screen(t, 9, 9, 1)
	lay(t, s, api.Top, 0, 1, 1, 0, 0)
	fine(t, "Attach", s.Attach(0, 2, 2, filled(2, 2, grey)))
	fine(t, "Attach", s.Attach(0, 3, 4, filled(3, 4, grey)))
	fine(t, "Offset", s.Offset(0, 5, 5))
	fine(t, "Offset", s.Offset(0, 1, 2))
	fine(t, "Clip", s.Clip(0, rect(0, 0, 1, 1)))
	fine(t, "Clip", s.Clip(0, rect(1, 0, 3, 2)))
	checkViews(t, s, view(0, 0, 0, 1, 1, rect(0, 0, 1, 1)))
	fine(t, "Commit", s.Commit(0))
	checkViews(t, s, view(0, 1, 2, 3, 4, rect(2, 2, 4, 4)))
	fine(t, "Clip", s.Clip(0, rect(0, 0, 1, 1)))
	fine(t, "Unclip", s.Unclip(0))
	fine(t, "Commit", s.Commit(0))
	checkViews(t, s, view(0, 1, 2, 3, 4, rect(1, 2, 4, 6)))
	fine(t, "Unclip", s.Unclip(0))
	fine(t, "Clip", s.Clip(0, rect(0, 0, 1, 1)))
	fine(t, "Commit", s.Commit(0))
	checkViews(t, s, view(0, 1, 2, 3, 4, rect(1, 2, 2, 3)))
	fine(t, "Offset", s.Offset(0, 7, 7))
	fine(t, "Offset", s.Offset(0, 1, 2))
	fine(t, "Commit", s.Commit(0))
	checkViews(t, s, view(0, 1, 2, 3, 4, rect(1, 2, 2, 3)))
}

// Each thing alone is committed, and leaves the others as they were.
func TestCommitLeavesTheRest(t *testing.T) {
	s := screen(t, 9, 9, 1)
	lay(t, s, api.Top, 0, 4, 4, 1, 1)
	lay(t, s, api.Top, 1, 1, 1, 8, 8)
	other := view(1, 8, 8, 1, 1, rect(8, 8, 9, 9))
	fine(t, "Clip", s.Clip(0, rect(1, 1, 3, 4)))
	fine(t, "Commit", s.Commit(0))
	want := view(0, 1, 1, 4, 4, rect(2, 2, 4, 5))
	checkViews(t, s, want, other)
	fine(t, "Commit", s.Commit(0))
	checkViews(t, s, want, other)
	fine(t, "Offset", s.Offset(0, 2, 1))
	fine(t, "Commit", s.Commit(0))
	checkViews(t, s, view(0, 2, 1, 4, 4, rect(3, 2, 5, 5)), other)
	fine(t, "Attach", s.Attach(0, 2, 9, filled(2, 9, grey)))
	fine(t, "Commit", s.Commit(0))
	checkViews(t, s, view(0, 2, 1, 2, 9, rect(3, 2, 4, 5)), other)
	fine(t, "Stack", s.Stack(0, 1, true))
	fine(t, "Commit", s.Commit(0))
	checkViews(t, s, other, view(0, 2, 1, 2, 9, rect(3, 2, 4, 5)))
	fine(t, "Unclip", s.Unclip(0))
	fine(t, "Commit", s.Commit(0))
	checkViews(t, s, other, view(0, 2, 1, 2, 9, rect(2, 1, 4, 9)))
}

// A Commit is one surface's: what was asked for its parent, its children and its siblings goes on waiting.
func TestCommitIsOneSurfaces(t *testing.T) {
	s := screen(t, 9, 9, 1)
	for i, parent := range []int{api.Top, 0, 1, 0} {
		lay(t, s, parent, i, 1, 1, 1, 1)
	}
	for i := range 4 {
		fine(t, "Offset", s.Offset(i, 2, 1))
	}
	places := func(want ...[2]int) {
		t.Helper()
		for i, v := range s.Views() {
			if [2]int{v.X, v.Y} != want[v.Surface] {
				t.Errorf("view %d is %v, want it at %v", i, v, want[v.Surface])
			}
		}
	}
	places([2]int{1, 1}, [2]int{2, 2}, [2]int{3, 3}, [2]int{2, 2})
	fine(t, "Commit", s.Commit(1))
	places([2]int{1, 1}, [2]int{3, 2}, [2]int{4, 3}, [2]int{2, 2})
	fine(t, "Commit", s.Commit(3))
	places([2]int{1, 1}, [2]int{3, 2}, [2]int{4, 3}, [2]int{3, 2})
	fine(t, "Commit", s.Commit(0))
	places([2]int{2, 1}, [2]int{4, 2}, [2]int{5, 3}, [2]int{4, 2})
	fine(t, "Commit", s.Commit(2))
	places([2]int{2, 1}, [2]int{4, 2}, [2]int{6, 3}, [2]int{4, 2})
	checkOrder(t, s, 0, 1, 2, 3)
}

func TestAttachSizes(t *testing.T) {
	s := screen(t, api.MaxSide, api.MaxSide, 1)
	checkMake(t, s, api.Top, 0, api.OK)
	for w := range api.MaxSide + 1 {
		for h := range api.MaxSide + 1 {
			fine(t, "Attach", s.Attach(0, w, h, filled(w, h, grey)))
			fine(t, "Commit", s.Commit(0))
			if w == 0 || h == 0 {
				checkViews(t, s)
			} else {
				checkViews(t, s, view(0, 0, 0, w, h, rect(0, 0, w, h)))
			}
		}
	}
	fine(t, "Attach of nothing", s.Attach(0, 0, 0, nil))
	fine(t, "Attach of nothing", s.Attach(0, api.MaxSide, 0, []api.Pixel{}))
	fine(t, "Commit", s.Commit(0))
	checkViews(t, s)
}

func TestOffsetFar(t *testing.T) {
	const far = api.MaxOffset
	s := screen(t, 4, 3, 1)
	lay(t, s, api.Top, 0, 2, 2, far, -far)
	checkViews(t, s)
	lay(t, s, 0, 1, 2, 2, 1-far, far)
	checkViews(t, s, view(1, 1, 0, 2, 2, rect(1, 0, 3, 2)))
	fine(t, "Offset", s.Offset(0, -far, far))
	fine(t, "Offset", s.Offset(1, far, -far))
	fine(t, "Commit", s.Commit(0))
	fine(t, "Commit", s.Commit(1))
	checkViews(t, s, view(1, 0, 0, 2, 2, rect(0, 0, 2, 2)))
}

// refuse is what has something wrong: with a surface that there is, and which has the number 0.
func refuse(s *pane.Screen) map[string][2]api.Errno {
	const side, off, far = api.MaxSide, api.MaxOffset, api.MaxFar
	many := make([]api.Rect, api.MaxRects+1)
	badMany := append(rects(rect(1, 0, 0, 0)), many...)
	bad := filled(2, 2, grey)
	bad[3] = api.Pixel{0, 0, 2, 1}
	badFirst := filled(2, 2, grey)
	badFirst[0] = api.Pixel{255, 0, 0, 254}
	return map[string][2]api.Errno{
		"Attach, wide":             {s.Attach(0, side+1, 1, filled(side+1, 1, grey)), api.ErrSize},
		"Attach, high":             {s.Attach(0, 1, side+1, filled(side+1, 1, grey)), api.ErrSize},
		"Attach, w below 0":        {s.Attach(0, -1, 1, nil), api.ErrSize},
		"Attach, h below 0":        {s.Attach(0, 0, -1, nil), api.ErrSize},
		"Attach, both below 0":     {s.Attach(0, -2, -2, filled(2, 2, grey)), api.ErrSize},
		"Attach, least":            {s.Attach(0, math.MinInt, 2, nil), api.ErrSize},
		"Attach, greatest":         {s.Attach(0, 2, math.MaxInt, nil), api.ErrSize},
		"Attach, round to nothing": {s.Attach(0, 1<<32, 1<<32, nil), api.ErrSize},
		"Attach, size and pixel":   {s.Attach(0, side+1, 1, bad), api.ErrSize},
		"Attach, too few":          {s.Attach(0, 2, 2, filled(1, 3, grey)), api.ErrPixel},
		"Attach, too many":         {s.Attach(0, 2, 2, filled(1, 5, grey)), api.ErrPixel},
		"Attach, none":             {s.Attach(0, 1, 1, nil), api.ErrPixel},
		"Attach, some for none":    {s.Attach(0, 0, 5, filled(1, 5, grey)), api.ErrPixel},
		"Attach, last may not be":  {s.Attach(0, 2, 2, bad), api.ErrPixel},
		"Attach, first may not be": {s.Attach(0, 2, 2, badFirst), api.ErrPixel},
		"Offset, right":            {s.Offset(0, off+1, 0), api.ErrCoord},
		"Offset, left":             {s.Offset(0, -off-1, 0), api.ErrCoord},
		"Offset, down":             {s.Offset(0, 0, off+1), api.ErrCoord},
		"Offset, up":               {s.Offset(0, 0, -off-1), api.ErrCoord},
		"Offset, least":            {s.Offset(0, math.MinInt, math.MinInt), api.ErrCoord},
		"Offset, greatest":         {s.Offset(0, 1, math.MaxInt), api.ErrCoord},
		"Clip, X turned":           {s.Clip(0, rect(1, 0, 0, 0)), api.ErrRect},
		"Clip, Y turned":           {s.Clip(0, rect(0, 1, 0, 0)), api.ErrRect},
		"Clip, far right":          {s.Clip(0, rect(0, 0, far+1, 1)), api.ErrRect},
		"Clip, far up":             {s.Clip(0, rect(0, -far-1, 1, 1)), api.ErrRect},
		"Clip, greatest":           {s.Clip(0, rect(math.MinInt, math.MinInt, math.MaxInt, math.MaxInt)), api.ErrRect},
		"Opaque, many":             {s.Opaque(0, many), api.ErrMany},
		"Opaque, many and wrong":   {s.Opaque(0, badMany), api.ErrMany},
		"Opaque, X turned":         {s.Opaque(0, rects(rect(1, 0, 0, 1))), api.ErrRect},
		"Opaque, Y turned":         {s.Opaque(0, rects(rect(0, 1, 1, 0))), api.ErrRect},
		"Opaque, far left":         {s.Opaque(0, rects(rect(-far-1, 0, 1, 1))), api.ErrRect},
		"Opaque, far right":        {s.Opaque(0, rects(rect(0, 0, far+1, 1))), api.ErrRect},
		"Opaque, far up":           {s.Opaque(0, rects(rect(0, -far-1, 1, 1))), api.ErrRect},
		"Opaque, far down":         {s.Opaque(0, rects(rect(0, 0, 1, far+1))), api.ErrRect},
		"Opaque, no points, far":   {s.Opaque(0, rects(rect(far+1, 0, far+1, 0))), api.ErrRect},
		"Opaque, last is wrong":    {s.Opaque(0, rects(rect(0, 0, 1, 1), rect(0, 0, 2, 2), rect(2, 0, 1, 1))), api.ErrRect},
		"Opaque, first is wrong":   {s.Opaque(0, badMany[:api.MaxRects]), api.ErrRect},
		"Opaque, greatest":         {s.Opaque(0, rects(rect(math.MinInt, math.MinInt, math.MaxInt, math.MaxInt))), api.ErrRect},
		"Stack, itself above":      {s.Stack(0, 0, true), api.ErrSibling},
		"Stack, itself below":      {s.Stack(0, 0, false), api.ErrSibling},
		"Stack, its child":         {s.Stack(0, 2, true), api.ErrSibling},
		"Stack, its parent":        {s.Stack(2, 0, true), api.ErrSibling},
		"Stack, a nephew":          {s.Stack(1, 2, false), api.ErrSibling},
		"Stack, the screen":        {s.Stack(0, api.Top, true), api.ErrSurface},
		"Stack, none":              {s.Stack(0, 3, true), api.ErrSurface},
		"Stack of none":            {s.Stack(3, 0, true), api.ErrSurface},
		"Stack of the screen":      {s.Stack(api.Top, api.Top, true), api.ErrSurface},
		"Commit of the screen":     {s.Commit(api.Top), api.ErrSurface},
		"Destroy of the screen":    {s.Destroy(api.Top), api.ErrSurface},
	}
}

// family gives a screen with two surfaces and one on the first, and something asked for each.
func family(t *testing.T) *pane.Screen {
	t.Helper()
	s := screen(t, 9, 9, 2)
	lay(t, s, api.Top, 0, 2, 2, 1, 1)
	lay(t, s, api.Top, 1, 3, 3, 2, 2)
	lay(t, s, 0, 2, 1, 1, 0, 0)
	fine(t, "Offset", s.Offset(0, 4, 4))
	fine(t, "Clip", s.Clip(0, rect(0, 0, 1, 2)))
	fine(t, "Attach", s.Attach(0, 3, 3, filled(3, 3, grey)))
	fine(t, "Stack", s.Stack(0, 1, true))
	fine(t, "Clip", s.Clip(1, rect(0, 0, 2, 2)))
	fine(t, "Offset", s.Offset(2, 1, 1))
	fine(t, "Opaque", s.Opaque(0, rects(rect(0, 0, 1, 1))))
	fine(t, "Opaque", s.Opaque(1, rects(rect(1, 1, 9, 9), rect(0, 0, 1, 2))))
	return s
}

func TestRefusedChangesNothing(t *testing.T) {
	s := family(t)
	for name, c := range refuse(s) {
		if c[0] != c[1] {
			t.Errorf("%s: %d, want %d", name, c[0], c[1])
		}
	}
	checkGone(t, s, farOff...)
	checkMake(t, s, 3, 0, api.ErrSurface)
	checkSame(t, "refused", s, family(t))
	// What was asked for before is still asked for.
	for id := range 3 {
		fine(t, "Commit", s.Commit(id))
	}
	checkViews(t, s, view(1, 2, 2, 3, 3, rect(2, 2, 4, 4)), view(0, 4, 4, 3, 3, rect(4, 4, 5, 6)))
	fine(t, "Unclip", s.Unclip(0))
	fine(t, "Commit", s.Commit(0))
	checkViews(t, s, view(1, 2, 2, 3, 3, rect(2, 2, 4, 4)), view(0, 4, 4, 3, 3, rect(4, 4, 7, 7)), view(2, 5, 5, 1, 1, rect(5, 5, 6, 6)))
}

func TestRefusedWhenFullChangesNothing(t *testing.T) {
	full := func() *pane.Screen {
		s := screen(t, 4, 3, 1)
		for i := range api.MaxSurfaces {
			checkMake(t, s, api.Top, i, api.OK)
		}
		return s
	}
	s := full()
	for range 3 {
		checkMake(t, s, 0, 0, api.ErrFull)
		checkMake(t, s, api.Top, 0, api.ErrFull)
	}
	checkSame(t, "full", s, full())
}

// attached gives a screen with a surface for which these four pixels were asked.
func attached(t *testing.T, pixels []api.Pixel) *pane.Screen {
	t.Helper()
	s := screen(t, 4, 3, 1)
	checkMake(t, s, api.Top, 0, api.OK)
	fine(t, "Attach", s.Attach(0, 2, 2, pixels))
	return s
}

func TestAttachKeepsEachPixel(t *testing.T) {
	for i := range 4 {
		pixels := filled(2, 2, grey)
		pixels[i] = api.Pixel{9, 9, 8, 255}
		a, b := attached(t, pixels), attached(t, filled(2, 2, grey))
		fine(t, "Commit", a.Commit(0))
		fine(t, "Commit", b.Commit(0))
		if reflect.DeepEqual(a, b) {
			t.Errorf("pixel %d is lost", i)
		}
	}
}

func TestAttachLeavesPixelsAlone(t *testing.T) {
	mark := api.Pixel{7, 7, 7, 7}
	room := append(filled(2, 2, grey), mark, mark, mark)
	before := slices.Clone(room)
	s, want := attached(t, room[:4]), attached(t, filled(2, 2, grey))
	for i := range room {
		room[i] = mark
	}
	checkSame(t, "written into ahead of the Commit", s, want)
	fine(t, "Commit", s.Commit(0))
	fine(t, "Commit", want.Commit(0))
	checkSame(t, "committed", s, want)
	copy(room, before)
	s.Attach(0, 2, 2, room[:4])
	s.Attach(0, 2, 1, room[:4])
	s.Attach(0, 0, 9, room[:0])
	s.Commit(0)
	if !slices.Equal(room, before) {
		t.Errorf("the pixels have become %v", room)
	}
}
