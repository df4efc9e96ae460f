package pane_test

import (
	"slices"
	"testing"

	"pane/api"
	"pane/pane"
)

// A Commit of pixels alone damages the smallest rectangle of those that are others: here each pixel, in each of its
// four parts.
func TestRepaintOfOnePixel(t *testing.T) {
	s := clean(t)
	layOf(t, s, api.Top, 0, 3, 2, 2, 1, shade(1))
	layOf(t, s, 0, 1, 1, 1, 0, 0, api.Pixel{})
	checkRepaint(t, s, 0, 7, rect(2, 1, 5, 3))
	pixels := filled(3, 2, shade(1))
	for k := range pixels {
		for part := range 4 {
			pixels[k][part] ^= 1 << (part + 1) // alpha goes to 239, which is still above the colours
			attach(t, s, 0, 3, 2, pixels)
			x, y := 2+k%3, 1+k/3
			blends := 1
			if k == 0 {
				blends = 2
			}
			checkRepaint(t, s, 0, blends, rect(x, y, x+1, y+1))
			l, _, _ := s.Look(0)
			if want, _ := pane.Over(pixels[k], shade(0)); l[6*y+x] != want {
				t.Errorf("pixel %d, part %d: %v, want %v", k, part, l[6*y+x], want)
			}
			attach(t, s, 0, 3, 2, pixels)
			checkRepaint(t, s, 0, 0)
		}
	}
}

func TestRepaintOfTwoPixels(t *testing.T) {
	s := clean(t)
	layOf(t, s, api.Top, 0, 3, 3, 1, 1, shade(1))
	checkRepaint(t, s, 0, 9, rect(1, 1, 4, 4))
	old := filled(3, 3, shade(1))
	for i := range old {
		for k := range i {
			pixels := slices.Clone(old)
			pixels[i], pixels[k] = shade(2), shade(3)
			attach(t, s, 0, 3, 3, pixels)
			q := rect(1+min(i%3, k%3), 1+k/3, 2+max(i%3, k%3), 2+i/3)
			checkRepaint(t, s, 0, (q.X1-q.X0)*(q.Y1-q.Y0), q)
			attach(t, s, 0, 3, 3, old)
			checkRepaint(t, s, 0, (q.X1-q.X0)*(q.Y1-q.Y0), q)
		}
	}
	checkLook(t, s, 0, 1, "000000", "011100", "011100", "011100", "000000")
}

// Two Commits: two rectangles, and the points between them are not damaged.
func TestRepaintOfPixelsInTwoCommits(t *testing.T) {
	s := clean(t)
	layOf(t, s, api.Top, 0, 4, 1, 0, 0, shade(1))
	checkRepaint(t, s, 0, 4, rect(0, 0, 4, 1))
	attach(t, s, 0, 4, 1, drawing("2111"))
	attach(t, s, 0, 4, 1, drawing("2113"))
	checkRepaint(t, s, 0, 2, rect(0, 0, 1, 1), rect(3, 0, 4, 1))
	attach(t, s, 0, 4, 1, drawing("1111"))
	attach(t, s, 0, 4, 1, drawing("2113"))
	checkRepaint(t, s, 0, 4, rect(0, 0, 4, 1))
	// Asked for twice ahead of one Commit: as if the first had not been.
	fine(t, "Attach", s.Attach(0, 4, 1, drawing("4444")))
	attach(t, s, 0, 4, 1, drawing("2513"))
	checkRepaint(t, s, 0, 1, rect(1, 0, 2, 1))
	fine(t, "Attach", s.Attach(0, 1, 1, drawing("4")))
	attach(t, s, 0, 4, 1, drawing("2513"))
	checkRepaint(t, s, 0, 0)
	checkLook(t, s, 0, 1, "251300", "000000", "000000", "000000", "000000")
}

// Pixels that are cut off, or beyond the screen's edge, damage nothing; they count from where they are seen on.
func TestRepaintOfPixelsThatAreNotSeen(t *testing.T) {
	s := clean(t)
	layOf(t, s, api.Top, 0, 3, 3, 1, 1, shade(1))
	layOf(t, s, api.Top, 1, 3, 1, 4, 0, shade(1))
	cut(t, s, 0, rect(0, 1, 2, 3))
	checkRepaint(t, s, 0, 6, rect(4, 0, 6, 1), rect(1, 1, 4, 4))
	attach(t, s, 0, 3, 3, drawing("222", "112", "112"))
	attach(t, s, 1, 3, 1, drawing("112"))
	checkRepaint(t, s, 0, 0)
	attach(t, s, 0, 3, 3, drawing("333", "143", "113"))
	attach(t, s, 1, 3, 1, drawing("313"))
	checkRepaint(t, s, 0, 2, rect(4, 0, 5, 1), rect(2, 2, 3, 3))
	checkLook(t, s, 0, 1, "000031", "000000", "014000", "011000", "000000")
	uncut(t, s, 0)
	move(t, s, 1, 3, 0)
	checkRepaint(t, s, 0, 12, rect(3, 0, 6, 1), rect(1, 1, 4, 4))
	checkLook(t, s, 0, 1, "000313", "033300", "014300", "011300", "000000")
	// Nor does a surface that is not seen at all, or is cut by what it is on.
	move(t, s, 0, -3, 0)
	checkRepaint(t, s, 0, 0, rect(1, 1, 4, 4))
	attach(t, s, 0, 3, 3, filled(3, 3, shade(5)))
	checkRepaint(t, s, 0, 0)
	cut(t, s, 1, rect(0, 0, 3, 1))
	layOf(t, s, 1, 2, 1, 2, 0, 0, shade(6))
	checkRepaint(t, s, 0, 4, rect(3, 0, 6, 1))
	attach(t, s, 2, 1, 2, drawing("67"))
	checkRepaint(t, s, 0, 0)
	attach(t, s, 2, 1, 2, drawing("87"))
	checkRepaint(t, s, 0, 2, rect(3, 0, 4, 1))
	checkLook(t, s, 0, 1, "000813", "000000", "000000", "000000", "000000")
}

// What lies behind another surface is seen, as the document has it: it is damaged, and without a hint it is laid.
func TestRepaintOfPixelsBehindOthers(t *testing.T) {
	s := clean(t)
	layOf(t, s, api.Top, 0, 2, 1, 0, 0, shade(1))
	layOf(t, s, api.Top, 1, 2, 1, 0, 0, shade(2))
	checkRepaint(t, s, 0, 4, rect(0, 0, 2, 1))
	attach(t, s, 0, 2, 1, drawing("13"))
	checkRepaint(t, s, 0, 2, rect(1, 0, 2, 1))
	checkLook(t, s, 0, 1, "220000", "000000", "000000", "000000", "000000")
	fine(t, "Destroy", s.Destroy(1))
	checkRepaint(t, s, 0, 2, rect(0, 0, 2, 1))
	checkLook(t, s, 0, 1, "130000", "000000", "000000", "000000", "000000")
}

// Three surfaces over each other, in every alpha: each is laid over what those behind it made, which began as black.
func TestRepaintOfEveryAlpha(t *testing.T) {
	s := screen(t, 1, 1, 1)
	for i := range 3 {
		checkMake(t, s, i-1, i, api.OK)
	}
	for a := range 256 {
		b, c := (a*7+3)%256, (a*5+200)%256
		layers := []api.Pixel{{uint8(a), uint8(a / 2), 0, uint8(a)}, {0, uint8(b / 3), uint8(b), uint8(b)}, {uint8(c / 4), uint8(c), 0, uint8(c)}}
		want := api.Pixel{0, 0, 0, 255}
		for i, p := range layers {
			attach(t, s, i, 1, 1, []api.Pixel{p})
			want, _ = pane.Over(p, want)
		}
		checkRepaint(t, s, 0, 3, rect(0, 0, 1, 1))
		if l, _, _ := s.Look(0); l[0] != want || want[3] != 255 {
			t.Errorf("%v over each other are %v, want %v", layers, l[0], want)
		}
	}
}

// A surface's own pixels are at its place, row by row.
func TestRepaintOfEachPixelInItsPlace(t *testing.T) {
	s := clean(t)
	checkMake(t, s, api.Top, 0, api.OK)
	fine(t, "Offset", s.Offset(0, -1, -1))
	attach(t, s, 0, 3, 4, drawing("123", "456", "789", "987"))
	checkRepaint(t, s, 0, 6, rect(0, 0, 2, 3))
	checkLook(t, s, 0, 1, "560000", "890000", "870000", "000000", "000000")
	move(t, s, 0, 4, 2)
	checkRepaint(t, s, 0, 6, rect(0, 0, 2, 2), rect(0, 2, 2, 3), rect(4, 2, 6, 3), rect(4, 3, 6, 5))
	checkLook(t, s, 0, 1, "000000", "000000", "000012", "000045", "000078")
}
