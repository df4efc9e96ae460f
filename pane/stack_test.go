package pane_test

import (
	"testing"

	"pane/api"
	"pane/pane"
)

// row gives a screen on which so many surfaces lie, all on Top and at 0, 0.
func row(t *testing.T, n int) *pane.Screen {
	t.Helper()
	s := screen(t, 4, 3, 1)
	for i := range n {
		lay(t, s, api.Top, i, 1, 1, 0, 0)
	}
	return s
}

func restack(t *testing.T, s *pane.Screen, id, sibling int, above bool) {
	t.Helper()
	fine(t, "Stack", s.Stack(id, sibling, above))
	fine(t, "Commit", s.Commit(id))
}

func TestStackExample(t *testing.T) {
	s := row(t, 3)
	checkOrder(t, s, 0, 1, 2)
	restack(t, s, 0, 1, true)
	checkOrder(t, s, 1, 0, 2)
	restack(t, s, 2, 1, false)
	checkOrder(t, s, 2, 1, 0)
}

func TestStackFromEachToEach(t *testing.T) {
	for _, c := range []struct {
		id, sibling int
		above       bool
		want        []int
	}{
		{0, 1, false, []int{0, 1, 2, 3}}, {0, 1, true, []int{1, 0, 2, 3}},
		{0, 2, false, []int{1, 0, 2, 3}}, {0, 2, true, []int{1, 2, 0, 3}},
		{0, 3, false, []int{1, 2, 0, 3}}, {0, 3, true, []int{1, 2, 3, 0}},
		{1, 0, false, []int{1, 0, 2, 3}}, {1, 0, true, []int{0, 1, 2, 3}},
		{1, 3, false, []int{0, 2, 1, 3}}, {1, 3, true, []int{0, 2, 3, 1}},
		{3, 0, false, []int{3, 0, 1, 2}}, {3, 0, true, []int{0, 3, 1, 2}},
		{3, 2, false, []int{0, 1, 3, 2}}, {3, 2, true, []int{0, 1, 2, 3}},
		{2, 1, false, []int{0, 2, 1, 3}}, {2, 1, true, []int{0, 1, 2, 3}},
	} {
		s := row(t, 4)
		restack(t, s, c.id, c.sibling, c.above)
		checkOrder(t, s, c.want...)
		fine(t, "Commit", s.Commit(c.id))
		checkOrder(t, s, c.want...)
	}
}

func TestStackTakesItsOwnAlong(t *testing.T) {
	s := row(t, 2)
	lay(t, s, 0, 2, 1, 1, 0, 0)
	lay(t, s, 0, 3, 1, 1, 0, 0)
	lay(t, s, 2, 4, 1, 1, 0, 0)
	lay(t, s, 1, 5, 1, 1, 0, 0)
	checkOrder(t, s, 0, 2, 4, 3, 1, 5)
	restack(t, s, 2, 3, true)
	checkOrder(t, s, 0, 3, 2, 4, 1, 5)
	restack(t, s, 0, 1, true)
	checkOrder(t, s, 1, 5, 0, 3, 2, 4)
	if e := s.Stack(2, 5, true); e != api.ErrSibling {
		t.Errorf("Stack beside a cousin: %d", e)
	}
}

func TestStackWaitsForItsOwnCommit(t *testing.T) {
	s := row(t, 4)
	fine(t, "Stack", s.Stack(0, 3, true))
	checkOrder(t, s, 0, 1, 2, 3)
	fine(t, "Commit", s.Commit(3))
	checkOrder(t, s, 0, 1, 2, 3)
	// The sibling is looked for where it lies at the Commit.
	restack(t, s, 3, 1, false)
	checkOrder(t, s, 0, 3, 1, 2)
	fine(t, "Commit", s.Commit(0))
	checkOrder(t, s, 3, 0, 1, 2)
	// What was committed is not asked for any more.
	restack(t, s, 3, 2, true)
	checkOrder(t, s, 0, 1, 2, 3)
	fine(t, "Commit", s.Commit(0))
	checkOrder(t, s, 0, 1, 2, 3)
}

func TestStackTwice(t *testing.T) {
	s := row(t, 4)
	fine(t, "Stack", s.Stack(0, 3, true))
	fine(t, "Stack", s.Stack(0, 1, true))
	fine(t, "Commit", s.Commit(0))
	checkOrder(t, s, 1, 0, 2, 3)
	fine(t, "Stack", s.Stack(0, 3, true))
	fine(t, "Stack", s.Stack(0, 3, false))
	fine(t, "Commit", s.Commit(0))
	checkOrder(t, s, 1, 2, 0, 3)
}

func TestStackBesideOneThatIsGone(t *testing.T) {
	s := row(t, 4)
	fine(t, "Stack", s.Stack(0, 1, true))
	fine(t, "Stack", s.Stack(0, 3, true)) // the last one counts, even if it comes to nothing
	fine(t, "Offset", s.Offset(0, 2, 2))
	fine(t, "Destroy", s.Destroy(3))
	checkOrder(t, s, 0, 1, 2)
	fine(t, "Commit", s.Commit(0))
	at := rect(0, 0, 1, 1)
	checkViews(t, s, view(0, 2, 2, 1, 1, rect(2, 2, 3, 3)), view(1, 0, 0, 1, 1, at), view(2, 0, 0, 1, 1, at))
	if e := s.Stack(0, 3, true); e != api.ErrSurface {
		t.Errorf("Stack beside one that is gone: %d", e)
	}
	// A new surface is not taken for the one that is gone.
	fine(t, "Stack", s.Stack(0, 2, true))
	fine(t, "Destroy", s.Destroy(2))
	lay(t, s, api.Top, 4, 1, 1, 0, 0)
	fine(t, "Commit", s.Commit(0))
	checkOrder(t, s, 0, 1, 4)
	// And what came to nothing is not asked for any more.
	fine(t, "Commit", s.Commit(0))
	checkOrder(t, s, 0, 1, 4)
}
