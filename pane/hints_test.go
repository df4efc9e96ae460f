package pane_test

import (
	"math/rand"
	"slices"
	"testing"

	"pane/api"
	"pane/pane"
)

// hint asks for a hint and commits it.
func hint(t *testing.T, s *pane.Screen, id int, l ...api.Rect) {
	t.Helper()
	fine(t, "Opaque", s.Opaque(id, l))
	fine(t, "Commit", s.Commit(id))
}

// checkBlends paints a buffer whole, and asks how many pixels were laid, and what it shows, if rows are given.
func checkBlends(t *testing.T, s *pane.Screen, blends int, rows ...string) {
	t.Helper()
	l, _, _ := s.Look(0)
	fine(t, "Garbage", s.Garbage(0, filled(len(l), 1, shade(7))))
	p, e := s.Repaint(0)
	if p.Blends != blends || e != api.OK {
		t.Errorf("Repaint(0) = %v, %d, want %d", p, e, blends)
	}
	if len(rows) > 0 {
		checkLook(t, s, 0, 1, rows...)
	}
}

// twoLayers gives a screen of 4 by 3 that surface 0 covers, and surface 1, of 2 by 2 at 1, 1, in front of it.
func twoLayers(t *testing.T) *pane.Screen {
	t.Helper()
	s := screen(t, 4, 3, 1)
	layOf(t, s, api.Top, 0, 4, 3, 0, 0, shade(1))
	layOf(t, s, api.Top, 1, 2, 2, 1, 1, shade(2))
	checkBlends(t, s, 12+4, "1111", "1221", "1221")
	return s
}

func TestHintExample(t *testing.T) {
	s := screen(t, 4, 3, 2)
	lay(t, s, api.Top, 0, 2, 2, 1, 1)
	layOf(t, s, 0, 1, 4, 4, 1, 0, api.Pixel{})
	layOf(t, s, api.Top, 2, 4, 3, 0, 0, shade(1))
	restack(t, s, 2, 0, false)
	checkBlends(t, s, 12+4+4, "1111", "1991", "1991")
	hint(t, s, 0, rect(0, 0, 2, 2))
	checkBlends(t, s, 8+4+4, "1111", "1991", "1991")
	hint(t, s, 1, rect(0, 0, 4, 4))
	checkBlends(t, s, 8+4+4, "1111", "1991", "1991")
}

func TestOpaqueMayBe(t *testing.T) {
	const far = api.MaxFar
	s := twoLayers(t)
	for i, c := range []struct {
		l      []api.Rect
		hidden int
	}{
		{nil, 0}, {[]api.Rect{}, 0}, {make([]api.Rect, api.MaxRects), 0},
		{rects(rect(-far, -far, far, far)), 4}, {slices.Repeat(rects(rect(-far, -far, far, far)), api.MaxRects), 4},
		{rects(rect(far, far, far, far), rect(-far, -far, -far, -far), rect(0, 0, far, 0)), 0},
		{rects(rect(-far, -far, 0, far), rect(-far, -far, far, 0), rect(2, -far, far, far), rect(-far, 2, far, far)), 0},
		{rects(rect(0, 0, 1, 1)), 1}, {rects(rect(1, 0, 2, 1)), 1}, {rects(rect(0, 1, 1, 2)), 1}, {rects(rect(1, 1, 2, 2)), 1},
		{rects(rect(1, 1, 2, 2), rect(0, 0, 1, 1)), 2}, {rects(rect(0, 0, 1, 2), rect(0, 0, 2, 1)), 3},
		{rects(rect(0, 0, 1, 2), rect(0, 0, 1, 2), rect(0, 1, 1, 1)), 2}, {rects(rect(1, -5, 9, 1), rect(-5, 1, 1, 9)), 2},
	} {
		hint(t, s, 1, c.l...)
		checkRepaint(t, s, 0, 0)
		checkBlends(t, s, 16-c.hidden, "1111", "1221", "1221")
		if t.Failed() {
			t.Fatalf("hint %d, %v", i, c.l)
		}
	}
}

// What is asked for is so from the surface's own next Commit on; the last one counts, whether or not it is the less.
func TestHintWaitsForCommit(t *testing.T) {
	s := twoLayers(t)
	fine(t, "Opaque", s.Opaque(1, rects(rect(0, 0, 2, 2))))
	checkBlends(t, s, 16)
	fine(t, "Commit", s.Commit(0))
	checkBlends(t, s, 16)
	fine(t, "Commit", s.Commit(1))
	checkBlends(t, s, 12)
	fine(t, "Commit", s.Commit(1))
	checkBlends(t, s, 12)
	fine(t, "Opaque", s.Opaque(1, nil))
	checkBlends(t, s, 12)
	fine(t, "Commit", s.Commit(1))
	checkBlends(t, s, 16)
	fine(t, "Opaque", s.Opaque(1, rects(rect(0, 0, 2, 2))))
	hint(t, s, 1, rect(0, 0, 1, 1))
	checkBlends(t, s, 15)
	hint(t, s, 1, rect(1, 1, 2, 2))
	checkBlends(t, s, 15)
	fine(t, "Opaque", s.Opaque(1, nil))
	hint(t, s, 1, rect(0, 0, 2, 1))
	checkBlends(t, s, 14)
	fine(t, "Opaque", s.Opaque(1, rects(rect(0, 0, 2, 2))))
	hint(t, s, 1)
	checkBlends(t, s, 16)
}

// A refused hint leaves the one that was asked for, and the one that is.
func TestHintRefusedChangesNothing(t *testing.T) {
	s := twoLayers(t)
	refused := func() {
		t.Helper()
		for _, c := range []struct {
			l    []api.Rect
			want api.Errno
		}{
			{make([]api.Rect, api.MaxRects+1), api.ErrMany}, {make([]api.Rect, 999), api.ErrMany},
			{rects(rect(0, 0, 2, 2), rect(1, 0, 0, 0)), api.ErrRect},
		} {
			if e := s.Opaque(1, c.l); e != c.want {
				t.Errorf("Opaque of %d = %d, want %d", len(c.l), e, c.want)
			}
		}
	}
	hint(t, s, 1, rect(0, 0, 1, 1))
	refused()
	fine(t, "Commit", s.Commit(1))
	checkBlends(t, s, 15)
	fine(t, "Opaque", s.Opaque(1, rects(rect(0, 0, 2, 1))))
	refused()
	checkBlends(t, s, 15)
	fine(t, "Commit", s.Commit(1))
	checkBlends(t, s, 14)
}

// The kept hint is that of the hint and the buffer at the Commit, in whatever order they came.
func TestKeptHintOfBuffers(t *testing.T) {
	s := twoLayers(t)
	hint(t, s, 1, rect(-1, 0, 3, 2))
	checkBlends(t, s, 12)
	// The hint stays, and reaches as far into another buffer as it was asked for.
	attach(t, s, 1, 1, 1, drawing("3"))
	checkBlends(t, s, 11+1, "1111", "1311", "1111")
	attach(t, s, 1, 3, 2, drawing("234", "567"))
	checkBlends(t, s, 6+6, "1111", "1234", "1567")
	attach(t, s, 1, 0, 0, nil)
	checkBlends(t, s, 12)
	attach(t, s, 1, 2, 0, nil)
	checkBlends(t, s, 12)
	// A buffer that was not committed keeps nothing and loses nothing.
	fine(t, "Attach", s.Attach(1, 2, 1, drawing("33")))
	checkBlends(t, s, 12)
	fine(t, "Commit", s.Commit(1))
	checkBlends(t, s, 10+2, "1111", "1331", "1111")
	fine(t, "Attach", s.Attach(1, 2, 1, filled(2, 1, api.Pixel{})))
	checkBlends(t, s, 10+2, "1111", "1331", "1111")
	fine(t, "Commit", s.Commit(1))
	checkBlends(t, s, 12+2, "1111", "1111", "1111")
	fine(t, "Commit", s.Commit(1))
	checkBlends(t, s, 12+2, "1111", "1111", "1111")
	// The hint is there again as soon as the pixels are.
	attach(t, s, 1, 2, 1, []api.Pixel{{}, shade(4)})
	checkBlends(t, s, 11+2, "1111", "1141", "1111")
	attach(t, s, 1, 2, 1, drawing("45"))
	checkBlends(t, s, 10+2, "1111", "1451", "1111")
	// Both in one Commit.
	fine(t, "Opaque", s.Opaque(1, rects(rect(1, 0, 2, 2))))
	attach(t, s, 1, 2, 2, []api.Pixel{shade(6), shade(6), shade(6), {}})
	checkBlends(t, s, 11+4, "1111", "1661", "1611")
	fine(t, "Attach", s.Attach(1, 2, 2, filled(2, 2, shade(5))))
	hint(t, s, 1, rect(0, 1, 1, 2))
	checkBlends(t, s, 11+4, "1111", "1551", "1551")
}

// A surface that was given a hint while it had no buffer has it with its first one.
func TestHintAheadOfBuffer(t *testing.T) {
	s := screen(t, 2, 1, 1)
	layOf(t, s, api.Top, 0, 2, 1, 0, 0, shade(1))
	checkMake(t, s, api.Top, 1, api.OK)
	hint(t, s, 1, rect(0, 0, 1, 1))
	checkBlends(t, s, 2, "11")
	attach(t, s, 1, 2, 1, drawing("23"))
	checkBlends(t, s, 1+2, "23")
}

func TestHintOfEveryAlpha(t *testing.T) {
	s := screen(t, 1, 1, 1)
	layOf(t, s, api.Top, 0, 1, 1, 0, 0, shade(200))
	checkMake(t, s, api.Top, 1, api.OK)
	hint(t, s, 1, rect(0, 0, 1, 1))
	for a := range 256 {
		p := api.Pixel{uint8(a), 0, uint8(a / 2), uint8(a)}
		attach(t, s, 1, 1, 1, []api.Pixel{p})
		if a < 255 {
			checkBlends(t, s, 2)
		} else {
			checkBlends(t, s, 1)
		}
		want, _ := pane.Over(p, shade(200))
		if l, _, _ := s.Look(0); l[0] != want {
			t.Errorf("%v over it is %v, want %v", p, l[0], want)
		}
	}
}

// It hides what is behind it, whoever's that is, and nothing in front of it.
func TestHidesWhatIsBehind(t *testing.T) {
	for hider, laid := range []int{7, 6, 5, 4, 3, 2, 1} {
		s := screen(t, 1, 1, 1)
		// From the back to the front: 0, on it 1, on that 2, on 0 3, then 4, on it 5, then 6.
		for i, parent := range []int{api.Top, 0, 1, 0, api.Top, 4, api.Top} {
			layOf(t, s, parent, i, 1, 1, 0, 0, shade(uint8(i)))
		}
		checkBlends(t, s, 7, "6")
		hint(t, s, hider, rect(0, 0, 1, 1))
		checkBlends(t, s, laid, "6")
		// One behind it that hides makes no difference, one in front of it does.
		for other := range hider {
			hint(t, s, other, rect(0, 0, 1, 1))
			checkBlends(t, s, laid, "6")
		}
		for other := hider + 1; other < 7; other++ {
			hint(t, s, other, rect(0, 0, 1, 1))
			checkBlends(t, s, 7-other, "6")
		}
	}
}

// What can be seen through lies in front of what hides: all of that is laid.
func TestHidesUnderWhatIsSeenThrough(t *testing.T) {
	s := screen(t, 1, 1, 1)
	half := api.Pixel{10, 0, 0, 128}
	pixels := []api.Pixel{shade(9), half, shade(100), half, {}, half}
	want := shade(0)
	for i, p := range pixels {
		layOf(t, s, api.Top, i, 1, 1, 0, 0, p)
		hint(t, s, i, rect(0, 0, 1, 1))
		want, _ = pane.Over(p, want)
	}
	checkBlends(t, s, 4)
	if l, _, _ := s.Look(0); l[0] != want {
		t.Errorf("it is %v, want %v", l[0], want)
	}
}

// The kept hint goes where the surface goes, and with what that is on.
func TestHintIsMoved(t *testing.T) {
	s := screen(t, 6, 5, 1)
	layOf(t, s, api.Top, 0, 3, 1, 0, 0, shade(1))
	layOf(t, s, api.Top, 1, 0, 0, 0, 0, shade(2))
	layOf(t, s, 1, 2, 2, 1, 0, 0, shade(3))
	hint(t, s, 2, rect(1, 0, 2, 1))
	for _, c := range [][3]int{{0, 0, 4}, {-1, 0, 3}, {-2, 0, 3}, {1, 0, 4}, {2, 0, 5}, {0, 1, 5}, {0, -1, 3}, {5, 0, 4}, {5, 4, 4}} {
		// Once the surface itself, once what it is on, once both.
		move(t, s, 2, c[0], c[1])
		checkBlends(t, s, c[2])
		move(t, s, 2, 0, 0)
		move(t, s, 1, c[0], c[1])
		checkBlends(t, s, c[2])
		move(t, s, 1, c[0]-7, c[1]+4)
		move(t, s, 2, 7, -4)
		checkBlends(t, s, c[2])
		move(t, s, 1, 0, 0)
		move(t, s, 2, 0, 0)
	}
	checkBlends(t, s, 4, "331000", "000000", "000000", "000000", "000000")
}

// Where the surface is not seen, it hides nothing: beyond a clip of its own, or one of what it is on.
func TestHintIsCut(t *testing.T) {
	for id, name := range []string{"its parent's", "its own"} {
		s := screen(t, 4, 3, 1)
		layOf(t, s, api.Top, 0, 0, 0, 1, 0, shade(1))
		layOf(t, s, 0, 1, 3, 3, 0, 0, shade(2))
		layOf(t, s, api.Top, 2, 4, 3, 0, 0, shade(3))
		restack(t, s, 2, 0, false)
		hint(t, s, 1, rect(0, 0, 2, 3))
		checkBlends(t, s, 12-6+9, "3222", "3222", "3222")
		for _, c := range []struct {
			q            api.Rect
			seen, hidden int
		}{
			{rect(0, 0, 3, 3), 9, 6}, {rect(1, 1, 3, 2), 2, 1}, {rect(2, 0, 3, 3), 3, 0}, {rect(0, 0, 1, 1), 1, 1}, {rect(0, 0, 0, 0), 0, 0},
			{rect(-9, -9, 9, 1), 3, 2}, {rect(-9, 2, 9, 9), 3, 2}, {rect(-9, -9, 0, 9), 0, 0}, {rect(3, 0, 9, 9), 0, 0},
		} {
			cut(t, s, id, c.q)
			checkBlends(t, s, 12-c.hidden+c.seen)
		}
		uncut(t, s, id)
		checkBlends(t, s, 12-6+9, "3222", "3222", "3222")
		if t.Failed() {
			t.Fatalf("by %s clip", name)
		}
	}
}

// A clip cuts what is seen, not the hint: at the next clip all of it counts.
func TestHintOutlivesClips(t *testing.T) {
	s := twoLayers(t)
	cut(t, s, 1, rect(0, 0, 1, 1))
	hint(t, s, 1, rect(0, 0, 2, 2))
	checkBlends(t, s, 12-1+1)
	move(t, s, 1, 3, 2)
	checkBlends(t, s, 12-1+1)
	uncut(t, s, 1)
	move(t, s, 1, 0, 0)
	checkBlends(t, s, 12-4+4, "2211", "2211", "1111")
}

func TestHintInAnotherOrder(t *testing.T) {
	s := twoLayers(t)
	hint(t, s, 0, rect(0, 0, 4, 3))
	checkBlends(t, s, 12+4, "1111", "1221", "1221")
	restack(t, s, 0, 1, true)
	checkBlends(t, s, 12, "1111", "1111", "1111")
	layOf(t, s, 0, 2, 1, 1, 0, 0, shade(3))
	checkBlends(t, s, 12+1, "3111", "1111", "1111")
	fine(t, "Destroy", s.Destroy(0))
	checkBlends(t, s, 4, "0000", "0220", "0220")
}

// A hint damages nothing; and only what is painted is counted.
func TestHintDamagesNothing(t *testing.T) {
	s := screen(t, 4, 3, 2)
	layOf(t, s, api.Top, 0, 4, 3, 0, 0, shade(1))
	layOf(t, s, api.Top, 1, 3, 3, 0, 0, shade(2))
	checkRepaint(t, s, 0, 12+9, rect(0, 0, 4, 3))
	hint(t, s, 1, rect(0, 0, 2, 3))
	checkRepaint(t, s, 0, 0)
	hint(t, s, 1)
	checkRepaint(t, s, 0, 0)
	hint(t, s, 1, rect(1, 1, 2, 2))
	checkRepaint(t, s, 0, 0)
	checkRepaint(t, s, 1, 12+9-1, rect(0, 0, 4, 3))
	// Together with other pixels it damages those alone.
	pixels := filled(3, 3, shade(2))
	pixels[4] = shade(5)
	fine(t, "Opaque", s.Opaque(1, rects(rect(0, 0, 3, 3))))
	attach(t, s, 1, 3, 3, pixels)
	checkRepaint(t, s, 0, 1, rect(1, 1, 2, 2))
	checkLook(t, s, 0, 1, "2221", "2521", "2221")
	// What is hidden is damaged all the same.
	attach(t, s, 0, 4, 3, drawing("4111", "1111", "1114"))
	checkRepaint(t, s, 0, 9+3, rect(0, 0, 4, 3))
	checkLook(t, s, 0, 1, "2221", "2521", "2224")
	attach(t, s, 0, 4, 3, drawing("3111", "1111", "1114"))
	checkRepaint(t, s, 0, 1, rect(0, 0, 1, 1))
	// Two points, one of them hidden.
	move(t, s, 1, 1, 0)
	checkRepaint(t, s, 0, 3+9, rect(0, 0, 4, 3))
	checkRepaint(t, s, 1, 3+9, rect(0, 0, 4, 3))
	checkLook(t, s, 1, 1, "3222", "1252", "1222")
	attach(t, s, 0, 4, 3, drawing("6611", "1111", "1114"))
	checkRepaint(t, s, 0, 1+1, rect(0, 0, 2, 1))
}

// The hint is neither the list that was handed in nor its spare room.
func TestOpaqueLeavesListsAlone(t *testing.T) {
	s, want := twoLayers(t), twoLayers(t)
	mark := rect(-9, -9, 99, 99)
	room := rects(rect(0, 0, 1, 1), rect(1, 0, 2, 1), mark, mark)
	before := slices.Clone(room)
	fine(t, "Opaque", s.Opaque(1, room[:2]))
	fine(t, "Opaque", want.Opaque(1, slices.Clone(room[:2])))
	if e := s.Opaque(0, slices.Repeat(room, 6)); e != api.ErrMany {
		t.Errorf("Opaque of 24 = %d", e)
	}
	if !slices.Equal(room, before) {
		t.Errorf("the list has become %v", room)
	}
	scribble(room, mark)
	checkSame(t, "written into ahead of the Commit", s, want)
	fine(t, "Commit", s.Commit(1))
	fine(t, "Commit", want.Commit(1))
	scribble(room, rect(0, 0, 0, 0))
	checkBlends(t, s, 14)
	checkBlends(t, want, 14)
	checkSame(t, "committed", s, want)
	if !slices.Equal(room, make([]api.Rect, 4)) {
		t.Errorf("the list has become %v", room)
	}
}

func TestHintsAreOneScreens(t *testing.T) {
	a, b := twoLayers(t), twoLayers(t)
	hint(t, a, 1, rect(0, 0, 2, 2))
	fine(t, "Commit", b.Commit(1))
	checkBlends(t, b, 16)
	checkBlends(t, a, 12)
}

// Of all hints, of pixels that hide and others: the picture is the same as without any, and no more is laid.
func TestHintsKeepThePicture(t *testing.T) {
	r := rand.New(rand.NewSource(7))
	kinds := []api.Pixel{shade(3), {5, 0, 9, 200}, {}, {250, 1, 2, 255}}
	for range 200 {
		a, b := screen(t, 6, 5, 1), screen(t, 6, 5, 1)
		for i := range 8 {
			w, h, x, y := r.Intn(6), r.Intn(6), r.Intn(6)-2, r.Intn(5)-2
			pixels := make([]api.Pixel, w*h)
			for k := range pixels {
				pixels[k] = kinds[r.Intn(len(kinds))]
			}
			parent := max(api.Top, i-1-r.Intn(2*i+1))
			for _, s := range []*pane.Screen{a, b} {
				checkMake(t, s, parent, i, api.OK)
				fine(t, "Offset", s.Offset(i, x, y))
				attach(t, s, i, w, h, pixels)
			}
			hint(t, a, i, rect(r.Intn(3), r.Intn(3), 2+r.Intn(4), 2+r.Intn(4)), rect(-2, -2, r.Intn(4), r.Intn(4)))
		}
		p, _ := a.Repaint(0)
		q, _ := b.Repaint(0)
		k, _, _ := a.Look(0)
		l, _, _ := b.Look(0)
		if !slices.Equal(k, l) || p.Blends > q.Blends {
			t.Fatalf("with hints: %v, %d blends; without: %v, %d blends", k, p.Blends, l, q.Blends)
		}
	}
}
