package pane_test

import (
	"math"
	"slices"
	"strings"
	"testing"

	"pane/api"
	"pane/pane"
)

// noBuffers are numbers that are no buffer's, whatever the screen.
var noBuffers = []int{-1, api.MaxBuffers, math.MinInt, math.MaxInt, 1 << 32, -1 << 32}

// shade is a pixel that lets nothing through, one of ten kinds.
func shade(n uint8) api.Pixel { return api.Pixel{n, n, n, 255} }

// drawing gives the pixels of rows of signs: a digit is the shade of that number, and '-' a pixel that was never painted.
func drawing(rows ...string) []api.Pixel {
	var l []api.Pixel
	for _, c := range strings.Join(rows, "") {
		if c == '-' {
			l = append(l, api.Pixel{})
		} else {
			l = append(l, shade(uint8(c-'0')))
		}
	}
	return l
}

func checkRepaint(t *testing.T, s *pane.Screen, i, blends int, want ...api.Rect) {
	t.Helper()
	if p, e := s.Repaint(i); !slices.Equal(p.Region, want) || p.Blends != blends || e != api.OK {
		t.Errorf("Repaint(%d) = %v, %d, want %v, %d", i, p, e, want, blends)
	}
}

func checkLook(t *testing.T, s *pane.Screen, i, age int, rows ...string) {
	t.Helper()
	if l, n, e := s.Look(i); !slices.Equal(l, drawing(rows...)) || n != age || e != api.OK {
		t.Errorf("Look(%d) = %v, %d, %d, want %v, %d", i, l, n, e, rows, age)
	}
}

// clean gives a screen of 6 by 5, painted while there was nothing on it.
func clean(t *testing.T) *pane.Screen {
	t.Helper()
	s := screen(t, 6, 5, 1)
	checkRepaint(t, s, 0, 0, rect(0, 0, 6, 5))
	return s
}

func attach(t *testing.T, s *pane.Screen, id, w, h int, pixels []api.Pixel) {
	t.Helper()
	fine(t, "Attach", s.Attach(id, w, h, pixels))
	fine(t, "Commit", s.Commit(id))
}

func move(t *testing.T, s *pane.Screen, id, x, y int) {
	t.Helper()
	fine(t, "Offset", s.Offset(id, x, y))
	fine(t, "Commit", s.Commit(id))
}

func cut(t *testing.T, s *pane.Screen, id int, q api.Rect) {
	t.Helper()
	fine(t, "Clip", s.Clip(id, q))
	fine(t, "Commit", s.Commit(id))
}

func uncut(t *testing.T, s *pane.Screen, id int) {
	t.Helper()
	fine(t, "Unclip", s.Unclip(id))
	fine(t, "Commit", s.Commit(id))
}

func TestRepaintExample(t *testing.T) {
	s := screen(t, 4, 3, 2)
	lay(t, s, api.Top, 0, 2, 2, 0, 0)
	checkRepaint(t, s, 0, 4, rect(0, 0, 4, 3))
	checkLook(t, s, 0, 1, "9900", "9900", "0000")
	checkRepaint(t, s, 0, 0)
	checkLook(t, s, 0, 1, "9900", "9900", "0000")
	move(t, s, 0, 1, 1)
	checkRepaint(t, s, 0, 4, rect(0, 0, 2, 1), rect(0, 1, 3, 2), rect(1, 2, 3, 3))
	checkLook(t, s, 0, 1, "0000", "0990", "0990")
	checkLook(t, s, 1, 0, "----", "----", "----")
}

func TestRepaintOfSizes(t *testing.T) {
	for _, c := range [][2]int{{1, 2}, {1, api.MaxSide}, {api.MaxSide, 1}, {api.MaxSide, api.MaxSide}, {5, 7}} {
		s := screen(t, c[0], c[1], 1)
		lay(t, s, api.Top, 0, api.MaxSide, api.MaxSide, 0, 0)
		checkRepaint(t, s, 0, c[0]*c[1], rect(0, 0, c[0], c[1]))
		checkLook(t, s, 0, 1, strings.Repeat("9", c[0]*c[1]))
		move(t, s, 0, c[0]-1, c[1]-1)
		checkRepaint(t, s, 0, 1, rect(0, 0, c[0], c[1]))
		checkLook(t, s, 0, 1, strings.Repeat("0", c[0]*c[1]-1), "9")
	}
}

// What is asked for shows when it is committed, and a surface that has no pixels yet shows nothing.
func TestRepaintWaitsForCommit(t *testing.T) {
	s := clean(t)
	checkMake(t, s, api.Top, 0, api.OK)
	fine(t, "Attach", s.Attach(0, 2, 1, filled(2, 1, shade(1))))
	fine(t, "Offset", s.Offset(0, 1, 1))
	fine(t, "Clip", s.Clip(0, rect(0, 0, 1, 1)))
	checkRepaint(t, s, 0, 0)
	fine(t, "Commit", s.Commit(0))
	s.Views()
	checkRepaint(t, s, 0, 1, rect(1, 1, 2, 2))
	checkLook(t, s, 0, 1, "000000", "010000", "000000", "000000", "000000")
	lay(t, s, api.Top, 1, 0, 0, 0, 0)
	checkRepaint(t, s, 0, 0)
}

func TestRepaintOfMoves(t *testing.T) {
	s := clean(t)
	layOf(t, s, api.Top, 0, 2, 2, 0, 0, shade(1))
	layOf(t, s, 0, 1, 1, 2, 2, 1, shade(2))
	layOf(t, s, api.Top, 2, 1, 1, 1, 1, shade(3))
	checkRepaint(t, s, 0, 4+2+1, rect(0, 0, 2, 1), rect(0, 1, 3, 2), rect(2, 2, 3, 3))
	checkLook(t, s, 0, 1, "110000", "132000", "002000", "000000", "000000")
	// All that is on it goes along.
	move(t, s, 0, 3, 0)
	checkRepaint(t, s, 0, 4+2+1, rect(0, 0, 2, 1), rect(3, 0, 5, 1), rect(0, 1, 6, 2), rect(2, 2, 3, 3), rect(5, 2, 6, 3))
	checkLook(t, s, 0, 1, "000110", "030112", "000002", "000000", "000000")
	// Partly beyond the edge, then wholly: what is not seen is not damaged.
	move(t, s, 0, 3, -1)
	checkRepaint(t, s, 0, 2+2, rect(3, 0, 6, 2), rect(5, 2, 6, 3))
	checkLook(t, s, 0, 1, "000112", "030002", "000000", "000000", "000000")
	move(t, s, 0, 100, 100)
	checkRepaint(t, s, 0, 0, rect(3, 0, 6, 1), rect(5, 1, 6, 2))
	move(t, s, 0, -100, 7)
	checkRepaint(t, s, 0, 0)
	checkLook(t, s, 0, 1, "000000", "030000", "000000", "000000", "000000")
	// There and back again, with a Commit between: it was damaged.
	move(t, s, 2, 2, 1)
	move(t, s, 2, 1, 1)
	checkRepaint(t, s, 0, 1, rect(1, 1, 3, 2))
	// Without a Commit between nothing is.
	fine(t, "Offset", s.Offset(2, 5, 3))
	move(t, s, 2, 1, 1)
	checkRepaint(t, s, 0, 0)
}

func TestRepaintOfSizesThatChange(t *testing.T) {
	s := clean(t)
	layOf(t, s, api.Top, 0, 2, 2, 1, 1, shade(1))
	layOf(t, s, 0, 1, 1, 1, 3, 2, shade(2))
	checkRepaint(t, s, 0, 5, rect(1, 1, 3, 3), rect(4, 3, 5, 4))
	// Wider and higher, with all that is on it.
	attach(t, s, 0, 3, 2, filled(3, 2, shade(1)))
	checkRepaint(t, s, 0, 7, rect(1, 1, 4, 3), rect(4, 3, 5, 4))
	attach(t, s, 0, 3, 3, filled(3, 3, shade(1)))
	checkRepaint(t, s, 0, 10, rect(1, 1, 4, 3), rect(1, 3, 5, 4))
	checkLook(t, s, 0, 1, "000000", "011100", "011100", "011120", "000000")
	// Nothing is left of it; then it is nothing in another way: what is on it is damaged all the same.
	attach(t, s, 0, 0, 3, nil)
	checkRepaint(t, s, 0, 1, rect(1, 1, 4, 3), rect(1, 3, 5, 4))
	attach(t, s, 0, 4, 0, nil)
	checkRepaint(t, s, 0, 1, rect(4, 3, 5, 4))
	attach(t, s, 0, 4, 0, nil)
	checkRepaint(t, s, 0, 0)
	checkLook(t, s, 0, 1, "000000", "000000", "000000", "000020", "000000")
	// As many pixels, but another size.
	attach(t, s, 1, 1, 2, filled(1, 2, shade(3)))
	checkRepaint(t, s, 0, 2, rect(4, 3, 5, 5))
	attach(t, s, 1, 2, 1, filled(2, 1, shade(3)))
	checkRepaint(t, s, 0, 2, rect(4, 3, 6, 4), rect(4, 4, 5, 5))
	checkLook(t, s, 0, 1, "000000", "000000", "000000", "000033", "000000")
}

func TestRepaintOfClips(t *testing.T) {
	s := clean(t)
	layOf(t, s, api.Top, 0, 3, 3, 1, 1, shade(1))
	layOf(t, s, 0, 1, 2, 2, 2, 2, shade(2))
	checkRepaint(t, s, 0, 13, rect(1, 1, 4, 3), rect(1, 3, 5, 4), rect(3, 4, 5, 5))
	cut(t, s, 0, rect(1, 1, 3, 4))
	checkRepaint(t, s, 0, 4+2, rect(1, 1, 4, 3), rect(1, 3, 5, 4), rect(3, 4, 5, 5))
	checkLook(t, s, 0, 1, "000000", "000000", "001100", "001200", "000200")
	// Another clip, though all looks the same.
	cut(t, s, 0, rect(1, 1, 3, 5))
	checkRepaint(t, s, 0, 4+2, rect(2, 2, 4, 4), rect(3, 4, 4, 5))
	cut(t, s, 0, rect(1, 1, 3, 5))
	checkRepaint(t, s, 0, 0)
	uncut(t, s, 0)
	checkRepaint(t, s, 0, 13, rect(1, 1, 4, 3), rect(1, 3, 5, 4), rect(3, 4, 5, 5))
	checkLook(t, s, 0, 1, "000000", "011100", "011100", "011220", "000220")
	uncut(t, s, 0)
	checkRepaint(t, s, 0, 0)
	// A clip that cuts nothing off is one, all the same; so is one that leaves nothing.
	cut(t, s, 0, rect(-api.MaxFar, -api.MaxFar, api.MaxFar, api.MaxFar))
	checkRepaint(t, s, 0, 13, rect(1, 1, 4, 3), rect(1, 3, 5, 4), rect(3, 4, 5, 5))
	cut(t, s, 0, rect(0, 0, 0, 0))
	checkRepaint(t, s, 0, 0, rect(1, 1, 4, 3), rect(1, 3, 5, 4), rect(3, 4, 5, 5))
	cut(t, s, 0, rect(9, 9, 9, 9))
	checkRepaint(t, s, 0, 0)
	// Clip, then Unclip, ahead of one Commit: it has none, as before.
	uncut(t, s, 0)
	checkRepaint(t, s, 0, 13, rect(1, 1, 4, 3), rect(1, 3, 5, 4), rect(3, 4, 5, 5))
	fine(t, "Clip", s.Clip(0, rect(0, 0, 1, 1)))
	uncut(t, s, 0)
	checkRepaint(t, s, 0, 0)
	// Having the clip 0,0-0,0 is not the same as having none.
	cut(t, s, 1, rect(0, 0, 0, 0))
	checkRepaint(t, s, 0, 1, rect(3, 3, 5, 5))
}

func TestRepaintOfStacks(t *testing.T) {
	s := clean(t)
	layOf(t, s, api.Top, 0, 3, 3, 0, 0, shade(1))
	layOf(t, s, api.Top, 1, 3, 3, 1, 1, shade(2))
	layOf(t, s, api.Top, 2, 3, 3, 2, 2, shade(3))
	layOf(t, s, 0, 3, 1, 1, 4, 4, shade(4))
	checkRepaint(t, s, 0, 28, rect(0, 0, 3, 1), rect(0, 1, 4, 2), rect(0, 2, 5, 3), rect(1, 3, 5, 4), rect(2, 4, 5, 5))
	checkLook(t, s, 0, 1, "111000", "122200", "123330", "023330", "003330")
	// To the front, with all that is on it: where it lies.
	restack(t, s, 0, 2, true)
	checkRepaint(t, s, 0, 9+4+1+1+1, rect(0, 0, 3, 3), rect(4, 4, 5, 5))
	checkLook(t, s, 0, 1, "111000", "111200", "111330", "023330", "003340")
	// Where it lies already.
	restack(t, s, 0, 2, true)
	checkRepaint(t, s, 0, 0)
	restack(t, s, 1, 2, false)
	checkRepaint(t, s, 0, 0)
	// To the back, behind one that it has no point in common with.
	restack(t, s, 0, 1, false)
	checkRepaint(t, s, 0, 16, rect(0, 0, 3, 3), rect(4, 4, 5, 5))
	checkLook(t, s, 0, 1, "111000", "122200", "123330", "023330", "003330")
	// A sibling that is gone, and one that goes: the others have another place then, but not by a Commit.
	layOf(t, s, api.Top, 4, 0, 0, 0, 0, shade(5))
	restack(t, s, 4, 0, false)
	fine(t, "Stack", s.Stack(2, 4, false))
	fine(t, "Destroy", s.Destroy(4))
	fine(t, "Commit", s.Commit(2))
	fine(t, "Commit", s.Commit(0))
	checkRepaint(t, s, 0, 0)
}

func TestRepaintOfWhatIsGone(t *testing.T) {
	s := clean(t)
	layOf(t, s, api.Top, 0, 6, 2, 0, 0, shade(1))
	layOf(t, s, 0, 1, 2, 2, 1, 1, shade(2))
	layOf(t, s, 1, 2, 2, 2, 3, 1, shade(3))
	layOf(t, s, 0, 3, 1, 1, 2, 2, shade(4))
	checkRepaint(t, s, 0, 12+4+4+1, rect(0, 0, 6, 2), rect(1, 2, 3, 3), rect(4, 2, 6, 3), rect(4, 3, 6, 4))
	checkLook(t, s, 0, 1, "111111", "122111", "024033", "000033", "000000")
	// What was asked for it and never committed is nowhere.
	fine(t, "Offset", s.Offset(1, 0, 3))
	fine(t, "Destroy", s.Destroy(1))
	checkRepaint(t, s, 0, 2+1, rect(1, 1, 3, 2), rect(1, 2, 3, 3), rect(4, 2, 6, 3), rect(4, 3, 6, 4))
	checkLook(t, s, 0, 1, "111111", "111111", "004000", "000000", "000000")
	// What is not seen leaves nothing behind.
	move(t, s, 3, 9, 9)
	checkRepaint(t, s, 0, 0, rect(2, 2, 3, 3))
	fine(t, "Destroy", s.Destroy(3))
	checkRepaint(t, s, 0, 0)
	fine(t, "Destroy", s.Destroy(0))
	checkRepaint(t, s, 0, 0, rect(0, 0, 6, 2))
	checkLook(t, s, 0, 1, strings.Repeat("0", 30))
}
