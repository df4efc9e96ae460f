package pane_test

import (
	"slices"
	"strings"
	"testing"

	"pane/api"
	"pane/pane"
)

func checkAges(t *testing.T, s *pane.Screen, want ...int) {
	t.Helper()
	for i, age := range want {
		if _, n, e := s.Look(i); n != age || e != api.OK {
			t.Errorf("the age of buffer %d is %d, %d, want %d", i, n, e, age)
		}
	}
}

func TestNewBuffers(t *testing.T) {
	for n := 1; n <= api.MaxBuffers; n++ {
		s := screen(t, 4, 3, n)
		for i := range n {
			checkLook(t, s, i, 0, "----", "----", "----")
		}
		for i := n; i <= api.MaxBuffers; i++ {
			checkNoBuffer(t, s, i)
		}
	}
}

func checkNoBuffer(t *testing.T, s *pane.Screen, i int) {
	t.Helper()
	if p, e := s.Repaint(i); p.Region != nil || p.Blends != 0 || e != api.ErrBuffer {
		t.Errorf("Repaint(%d) = %v, %d", i, p, e)
	}
	if l, age, e := s.Look(i); l != nil || age != 0 || e != api.ErrBuffer {
		t.Errorf("Look(%d) = %v, %d, %d", i, l, age, e)
	}
	for _, n := range []int{0, 1, 11, 12, 13, 600} {
		if e := s.Garbage(i, make([]api.Pixel, n)); e != api.ErrBuffer {
			t.Errorf("Garbage(%d) of %d pixels = %d", i, n, e)
		}
	}
}

func TestAgesInTurns(t *testing.T) {
	s := screen(t, 4, 3, 3)
	all := rect(0, 0, 4, 3)
	checkAges(t, s, 0, 0, 0)
	checkRepaint(t, s, 1, 0, all)
	checkAges(t, s, 0, 1, 0)
	checkRepaint(t, s, 1, 0)
	checkAges(t, s, 0, 1, 0)
	checkRepaint(t, s, 0, 0, all)
	checkAges(t, s, 1, 2, 0)
	checkRepaint(t, s, 2, 0, all)
	checkAges(t, s, 2, 3, 1)
	checkRepaint(t, s, 1, 0)
	checkAges(t, s, 3, 1, 2)
	for range 100 {
		checkRepaint(t, s, 1, 0)
	}
	checkAges(t, s, 103, 1, 102)
	// Nothing else makes them older.
	lay(t, s, api.Top, 0, 1, 1, 0, 0)
	move(t, s, 0, 1, 0)
	fine(t, "Destroy", s.Destroy(0))
	checkNoBuffer(t, s, 3)
	checkAges(t, s, 103, 1, 102)
}

// Each buffer is painted where the picture changed since its own last turn, whoever was painted between.
func TestRepaintInTurns(t *testing.T) {
	s := screen(t, 6, 1, 2)
	layOf(t, s, api.Top, 0, 1, 1, 0, 0, shade(1))
	checkRepaint(t, s, 0, 1, rect(0, 0, 6, 1))
	move(t, s, 0, 1, 0)
	checkRepaint(t, s, 1, 1, rect(0, 0, 6, 1))
	move(t, s, 0, 2, 0)
	checkRepaint(t, s, 0, 1, rect(0, 0, 3, 1))
	checkRepaint(t, s, 0, 0)
	move(t, s, 0, 5, 0)
	checkRepaint(t, s, 1, 1, rect(1, 0, 3, 1), rect(5, 0, 6, 1))
	checkRepaint(t, s, 0, 1, rect(2, 0, 3, 1), rect(5, 0, 6, 1))
	checkLook(t, s, 0, 1, "000001")
	checkLook(t, s, 1, 2, "000001")
	checkRepaint(t, s, 1, 0)
	checkRepaint(t, s, 0, 0)
}

// A picture that changes at another point ahead of each repaint: the damages of as many repaints as the age count.
func TestRepaintAtEachAge(t *testing.T) {
	for others := range api.MaxAge + 3 {
		s := screen(t, 12, 1, 2)
		checkRepaint(t, s, 0, 0, rect(0, 0, 12, 1))
		lay(t, s, api.Top, 0, 12, 1, 0, 0)
		checkRepaint(t, s, 0, 12, rect(0, 0, 12, 1))
		pixels := filled(12, 1, grey)
		for k := range others {
			pixels[k] = shade(uint8(k + 1))
			attach(t, s, 0, 12, 1, pixels)
			s.Repaint(1)
		}
		pixels[others] = shade(8)
		attach(t, s, 0, 12, 1, pixels)
		checkAges(t, s, others+1)
		if others+1 > api.MaxAge {
			checkRepaint(t, s, 0, 12, rect(0, 0, 12, 1))
		} else {
			checkRepaint(t, s, 0, others+1, rect(0, 0, others+1, 1))
		}
		checkLook(t, s, 0, 1, "12345678"[:others]+"8"+strings.Repeat("9", 11-others))
	}
}

// Too old is painted whole, even if nothing changed; and from then on it is as young as any.
func TestRepaintOfTheOld(t *testing.T) {
	s := screen(t, 4, 3, 2)
	lay(t, s, api.Top, 0, 2, 2, 1, 1)
	checkRepaint(t, s, 0, 4, rect(0, 0, 4, 3))
	for range api.MaxAge - 1 {
		s.Repaint(1)
	}
	checkAges(t, s, api.MaxAge)
	checkRepaint(t, s, 0, 0)
	for range api.MaxAge {
		s.Repaint(1)
	}
	checkAges(t, s, api.MaxAge+1)
	checkRepaint(t, s, 0, 4, rect(0, 0, 4, 3))
	checkRepaint(t, s, 0, 0)
	checkRepaint(t, s, 1, 0)
}

func TestGarbage(t *testing.T) {
	s := screen(t, 4, 3, 2)
	lay(t, s, api.Top, 0, 1, 1, 3, 2)
	all := rect(0, 0, 4, 3)
	// What may be no pixel may be garbage; so may what looks like the picture.
	wild := filled(4, 3, api.Pixel{255, 3, 200, 7})
	wild[5] = api.Pixel{}
	for _, pixels := range [][]api.Pixel{wild, drawing("0000", "0000", "0009"), make([]api.Pixel, 12)} {
		for range 2 {
			fine(t, "Garbage", s.Garbage(0, pixels))
			if l, age, e := s.Look(0); !slices.Equal(l, pixels) || age != 0 || e != api.OK {
				t.Errorf("Look(0) = %v, %d, %d, want %v, 0", l, age, e, pixels)
			}
		}
		checkRepaint(t, s, 0, 1, all)
		checkLook(t, s, 0, 1, "0000", "0000", "0009")
		checkRepaint(t, s, 0, 0)
	}
}

// It makes no buffer older, and is no repaint: the others' damages stay theirs.
func TestGarbageIsOneBuffers(t *testing.T) {
	s := screen(t, 4, 3, 3)
	all := rect(0, 0, 4, 3)
	for i := range 3 {
		checkRepaint(t, s, i, 0, all)
	}
	lay(t, s, api.Top, 0, 1, 1, 3, 2)
	checkAges(t, s, 3, 2, 1)
	fine(t, "Garbage", s.Garbage(1, filled(4, 3, shade(7))))
	checkAges(t, s, 3, 0, 1)
	checkLook(t, s, 0, 3, "0000", "0000", "0000")
	checkLook(t, s, 1, 0, "7777", "7777", "7777")
	checkRepaint(t, s, 2, 1, rect(3, 2, 4, 3))
	checkAges(t, s, 4, 0, 1)
	checkRepaint(t, s, 0, 1, rect(3, 2, 4, 3))
	checkAges(t, s, 1, 0, 2)
	for range api.MaxAge + 2 {
		checkRepaint(t, s, 2, 0)
	}
	checkLook(t, s, 1, 0, "7777", "7777", "7777")
	checkRepaint(t, s, 1, 1, all)
	checkLook(t, s, 1, 1, "0000", "0000", "0009")
}

func TestGarbageRefuses(t *testing.T) {
	s := screen(t, 4, 3, 2)
	checkRepaint(t, s, 0, 0, rect(0, 0, 4, 3))
	for _, n := range []int{0, 1, 11, 13, 24, 576} {
		for i := range 2 {
			if e := s.Garbage(i, filled(1, n, grey)); e != api.ErrPixel {
				t.Errorf("Garbage(%d) of %d pixels = %d", i, n, e)
			}
		}
	}
	if e := s.Garbage(0, nil); e != api.ErrPixel {
		t.Errorf("Garbage of nil = %d", e)
	}
	checkLook(t, s, 0, 1, "0000", "0000", "0000")
	checkLook(t, s, 1, 0, "----", "----", "----")
}

// halfPainted gives a screen with two buffers of two ages, and damage that no repaint has seen.
func halfPainted(t *testing.T) *pane.Screen {
	t.Helper()
	s := screen(t, 4, 3, 2)
	lay(t, s, api.Top, 0, 2, 2, 0, 0)
	checkRepaint(t, s, 0, 4, rect(0, 0, 4, 3))
	lay(t, s, 0, 1, 2, 2, 1, 1)
	checkRepaint(t, s, 1, 8, rect(0, 0, 4, 3))
	move(t, s, 1, 2, 1)
	return s
}

func TestPaintingRefusedChangesNothing(t *testing.T) {
	s := halfPainted(t)
	for _, i := range slices.Concat(noBuffers, []int{2}) {
		checkNoBuffer(t, s, i)
	}
	for n := range 12 {
		if e := s.Garbage(1, make([]api.Pixel, n)); e != api.ErrPixel {
			t.Errorf("Garbage(1) of %d pixels = %d", n, e)
		}
	}
	s.Commit(7)
	s.Destroy(7)
	checkSame(t, "refused", s, halfPainted(t))
	checkRepaint(t, s, 1, 4+1, rect(1, 1, 4, 3))
	checkRepaint(t, s, 0, 4+1, rect(1, 1, 4, 3))
}

func TestLookChangesNothing(t *testing.T) {
	s := halfPainted(t)
	for i := range 2 {
		s.Look(i)
	}
	s.Views()
	checkSame(t, "looked at", s, halfPainted(t))
}
