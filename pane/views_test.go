package pane_test

import (
	"slices"
	"testing"

	"pane/api"
)

func TestViewsExample(t *testing.T) {
	s := screen(t, 4, 3, 2)
	lay(t, s, api.Top, 0, 2, 2, 0, 0)
	checkViews(t, s, view(0, 0, 0, 2, 2, rect(0, 0, 2, 2)))
	fine(t, "Offset", s.Offset(0, 1, 1))
	fine(t, "Commit", s.Commit(0))
	checkMake(t, s, 0, 1, api.OK)
	fine(t, "Attach", s.Attach(1, 4, 4, make([]api.Pixel, 16)))
	fine(t, "Offset", s.Offset(1, 1, 0))
	fine(t, "Commit", s.Commit(1))
	checkViews(t, s, view(0, 1, 1, 2, 2, rect(1, 1, 3, 3)), view(1, 2, 1, 4, 4, rect(2, 1, 4, 3)))
	fine(t, "Clip", s.Clip(0, rect(0, 0, 2, 1)))
	fine(t, "Commit", s.Commit(0))
	checkViews(t, s, view(0, 1, 1, 2, 2, rect(1, 1, 3, 2)), view(1, 2, 1, 4, 4, rect(2, 1, 3, 2)))
}

func TestViewsAtTheEdgesOfTheScreen(t *testing.T) {
	s := screen(t, 4, 3, 1)
	checkMake(t, s, api.Top, 0, api.OK)
	fine(t, "Attach", s.Attach(0, 2, 2, filled(2, 2, grey)))
	for x := -3; x <= 5; x++ {
		for y := -3; y <= 4; y++ {
			fine(t, "Offset", s.Offset(0, x, y))
			fine(t, "Commit", s.Commit(0))
			if x <= -2 || x >= 4 || y <= -2 || y >= 3 {
				checkViews(t, s)
				continue
			}
			checkViews(t, s, view(0, x, y, 2, 2, rect(max(x, 0), max(y, 0), min(x+2, 4), min(y+2, 3))))
		}
	}
}

func TestViewsOfClips(t *testing.T) {
	const far = api.MaxFar
	for _, c := range []struct{ clip, seen api.Rect }{
		{rect(0, 0, 3, 3), rect(2, 1, 5, 4)},
		{rect(-far, -far, far, far), rect(2, 1, 5, 4)},
		{rect(1, 0, 2, 3), rect(3, 1, 4, 4)},
		{rect(0, 1, 3, 2), rect(2, 2, 5, 3)},
		{rect(-1, -1, 1, 1), rect(2, 1, 3, 2)},
		{rect(2, 2, 9, 9), rect(4, 3, 5, 4)},
		{rect(0, 0, 0, 0), api.Rect{}},
		{rect(1, 1, 1, 3), api.Rect{}},
		{rect(1, 1, 3, 1), api.Rect{}},
		{rect(3, 0, 9, 9), api.Rect{}},
		{rect(0, 3, 9, 9), api.Rect{}},
		{rect(-9, -9, 0, 9), api.Rect{}},
		{rect(-9, -9, 9, 0), api.Rect{}},
		{rect(far, far, far, far), api.Rect{}},
	} {
		s := screen(t, 8, 8, 1)
		lay(t, s, api.Top, 0, 3, 3, 2, 1)
		lay(t, s, 0, 1, 3, 3, 0, 0)
		fine(t, "Clip", s.Clip(0, c.clip))
		fine(t, "Commit", s.Commit(0))
		if c.seen == (api.Rect{}) {
			checkViews(t, s)
			continue
		}
		checkViews(t, s, view(0, 2, 1, 3, 3, c.seen), view(1, 2, 1, 3, 3, c.seen))
	}
}

// A clip cuts its surface and what is on it, not its parent nor its siblings; clips that have nothing in common leave
// nothing, even where the points between them lie.
func TestViewsOfClipsOverEachOther(t *testing.T) {
	s := screen(t, 9, 9, 1)
	lay(t, s, api.Top, 0, 9, 9, 0, 0)
	lay(t, s, 0, 1, 6, 6, 1, 1)
	lay(t, s, 1, 2, 6, 6, 1, 1)
	lay(t, s, 0, 3, 6, 6, 2, 2)
	fine(t, "Clip", s.Clip(1, rect(0, 0, 4, 4)))
	fine(t, "Commit", s.Commit(1))
	back, front := view(0, 0, 0, 9, 9, rect(0, 0, 9, 9)), view(3, 2, 2, 6, 6, rect(2, 2, 8, 8))
	checkViews(t, s, back, view(1, 1, 1, 6, 6, rect(1, 1, 5, 5)), view(2, 2, 2, 6, 6, rect(2, 2, 5, 5)), front)
	fine(t, "Clip", s.Clip(2, rect(2, 1, 9, 9)))
	fine(t, "Commit", s.Commit(2))
	checkViews(t, s, back, view(1, 1, 1, 6, 6, rect(1, 1, 5, 5)), view(2, 2, 2, 6, 6, rect(4, 3, 5, 5)), front)
	fine(t, "Clip", s.Clip(2, rect(4, 4, 5, 5)))
	fine(t, "Commit", s.Commit(2))
	checkViews(t, s, back, view(1, 1, 1, 6, 6, rect(1, 1, 5, 5)), front)
	lay(t, s, 2, 4, 9, 9, 0, 0)
	checkViews(t, s, back, view(1, 1, 1, 6, 6, rect(1, 1, 5, 5)), front)
}

// What is on a surface that can't be seen itself may be seen.
func TestViewsOnWhatIsNotSeen(t *testing.T) {
	s := screen(t, 4, 3, 1)
	checkMake(t, s, api.Top, 0, api.OK)
	lay(t, s, 0, 1, 2, 2, 1, 1)
	want := view(1, 1, 1, 2, 2, rect(1, 1, 3, 3))
	checkViews(t, s, want)
	fine(t, "Attach", s.Attach(0, 0, api.MaxSide, nil))
	fine(t, "Commit", s.Commit(0))
	checkViews(t, s, want)
	fine(t, "Attach", s.Attach(0, 2, 2, filled(2, 2, grey)))
	fine(t, "Offset", s.Offset(0, -9, 0))
	fine(t, "Offset", s.Offset(1, 9, 1))
	fine(t, "Commit", s.Commit(0))
	fine(t, "Commit", s.Commit(1))
	checkViews(t, s, view(1, 0, 1, 2, 2, rect(0, 1, 2, 3)))
}

func TestViewsGivesFreshLists(t *testing.T) {
	s := screen(t, 4, 3, 1)
	lay(t, s, api.Top, 0, 2, 2, 0, 0)
	lay(t, s, api.Top, 1, 1, 1, 1, 1)
	lay(t, s, 1, 2, 1, 1, 0, 0)
	first, second := s.Views(), s.Views()
	want := slices.Clone(first)
	scribble(first, view(9, 9, 9, 9, 9, rect(9, 9, 9, 9)))
	if !slices.Equal(second, want) {
		t.Errorf("writing into one answer changed another one: %v", second)
	}
	checkViews(t, s, want...)
	fine(t, "Offset", s.Offset(1, 2, 2))
	fine(t, "Commit", s.Commit(1))
	fine(t, "Destroy", s.Destroy(0))
	if !slices.Equal(second, want) {
		t.Errorf("a later call changed an answer: %v", second)
	}
}
