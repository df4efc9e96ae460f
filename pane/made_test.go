package pane_test

import (
	"testing"

	"pane/api"
	"pane/pane"
)

func checkGone(t *testing.T, s *pane.Screen, l ...int) {
	t.Helper()
	for _, id := range l {
		for i, e := range []api.Errno{
			s.Destroy(id), s.Attach(id, 0, 0, nil), s.Attach(id, -1, 99, filled(1, 1, api.Pixel{1})), s.Offset(id, 0, 0), s.Offset(id, 9999, 0),
			s.Clip(id, rect(0, 0, 1, 1)), s.Clip(id, rect(1, 0, 0, 0)), s.Unclip(id),
			s.Opaque(id, nil), s.Opaque(id, make([]api.Rect, api.MaxRects+1)), s.Opaque(id, rects(rect(1, 0, 0, 0))), s.Stack(id, 0, true), s.Stack(0, id, false),
			s.Stack(id, id, true), s.Commit(id),
		} {
			if e != api.ErrSurface {
				t.Errorf("surface %d, call %d: %d", id, i, e)
			}
		}
		if id != api.Top {
			checkMake(t, s, id, 0, api.ErrSurface)
		}
	}
}

func TestMakeCounts(t *testing.T) {
	s := screen(t, 4, 3, 1)
	checkGone(t, s, farOff...)
	checkGone(t, s, api.Top, 0, 1)
	checkMake(t, s, api.Top, 0, api.OK)
	checkGone(t, s, api.Top, 1)
	checkMake(t, s, 1, 0, api.ErrSurface)
	checkMake(t, s, 0, 1, api.OK)
	checkMake(t, s, api.Top, 2, api.OK)
	checkMake(t, s, 1, 3, api.OK)
	checkGone(t, s, farOff...)
	checkViews(t, s)
}

func TestMakeInFront(t *testing.T) {
	s := screen(t, 4, 3, 1)
	lay(t, s, api.Top, 0, 1, 1, 0, 0)
	lay(t, s, api.Top, 1, 1, 1, 0, 0)
	lay(t, s, 0, 2, 1, 1, 0, 0)
	lay(t, s, 0, 3, 1, 1, 0, 0)
	lay(t, s, 2, 4, 1, 1, 0, 0)
	lay(t, s, api.Top, 5, 1, 1, 0, 0)
	checkOrder(t, s, 0, 2, 4, 3, 1, 5)
	fine(t, "Stack", s.Stack(5, 0, false))
	fine(t, "Commit", s.Commit(5))
	lay(t, s, api.Top, 6, 1, 1, 0, 0)
	checkOrder(t, s, 5, 0, 2, 4, 3, 1, 6)
}

func TestMakeAtATime(t *testing.T) {
	s := screen(t, 4, 3, 1)
	for i := range api.MaxSurfaces {
		checkMake(t, s, i-1, i, api.OK)
	}
	checkMake(t, s, api.Top, 0, api.ErrFull)
	checkMake(t, s, 0, 0, api.ErrFull)
	checkMake(t, s, api.MaxSurfaces, 0, api.ErrSurface)
	checkMake(t, s, -2, 0, api.ErrSurface)
	// One less, one more: the number of the one that is gone stays unused, and so do those that were refused.
	fine(t, "Destroy", s.Destroy(api.MaxSurfaces-1))
	checkMake(t, s, api.MaxSurfaces-1, 0, api.ErrSurface)
	checkMake(t, s, 3, api.MaxSurfaces, api.OK)
	checkMake(t, s, 3, 0, api.ErrFull)
	// All that are on the one that goes make room.
	fine(t, "Destroy", s.Destroy(2))
	for i := range api.MaxSurfaces - 2 {
		checkMake(t, s, 1, api.MaxSurfaces+1+i, api.OK)
	}
	checkMake(t, s, 1, 0, api.ErrFull)
}

func TestMakeEver(t *testing.T) {
	s := screen(t, 4, 3, 1)
	checkMake(t, s, api.Top, 0, api.OK)
	for i := 1; i < api.MaxMade-1; i++ {
		checkMake(t, s, i%2-1, i, api.OK)
		fine(t, "Destroy", s.Destroy(i))
	}
	checkMake(t, s, 0, api.MaxMade-1, api.OK)
	checkMake(t, s, 0, 0, api.ErrFull)
	checkMake(t, s, api.Top, 0, api.ErrFull)
	checkMake(t, s, 7, 0, api.ErrSurface)
	checkMake(t, s, api.MaxMade, 0, api.ErrSurface)
	fine(t, "Destroy", s.Destroy(0))
	checkMake(t, s, api.Top, 0, api.ErrFull)
	checkMake(t, s, 0, 0, api.ErrSurface)
}

func TestDestroyWithAllThatIsOnIt(t *testing.T) {
	s := screen(t, 4, 3, 1)
	for i, parent := range []int{api.Top, 0, 1, 0, 2, api.Top, 5} {
		lay(t, s, parent, i, 1, 1, 0, 0)
	}
	checkOrder(t, s, 0, 1, 2, 4, 3, 5, 6)
	fine(t, "Destroy", s.Destroy(1))
	checkOrder(t, s, 0, 3, 5, 6)
	checkGone(t, s, 1, 2, 4)
	fine(t, "Commit", s.Commit(3))
	fine(t, "Destroy", s.Destroy(6))
	checkOrder(t, s, 0, 3, 5)
	fine(t, "Destroy", s.Destroy(0))
	checkOrder(t, s, 5)
	checkGone(t, s, 0, 1, 2, 3, 4, 6)
	fine(t, "Destroy", s.Destroy(5))
	checkViews(t, s)
	checkGone(t, s, 0, 1, 2, 3, 4, 5, 6, 7)
	lay(t, s, api.Top, 7, 1, 1, 0, 0)
	checkOrder(t, s, 7)
}

// A surface goes at once, whatever was asked for it and not committed.
func TestDestroyWaitsForNothing(t *testing.T) {
	s := screen(t, 4, 3, 1)
	lay(t, s, api.Top, 0, 2, 2, 0, 0)
	lay(t, s, api.Top, 1, 2, 2, 0, 0)
	fine(t, "Offset", s.Offset(0, 1, 1))
	fine(t, "Stack", s.Stack(0, 1, true))
	fine(t, "Destroy", s.Destroy(0))
	checkOrder(t, s, 1)
	fine(t, "Commit", s.Commit(1))
	checkOrder(t, s, 1)
	checkGone(t, s, 0)
}
