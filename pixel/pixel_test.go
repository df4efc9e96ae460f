package pixel

import (
	"testing"

	"pane/api"
)

// nearest rounds n / 255 by trying: the formula that it stands against adds 127 and divides.
func nearest(n int) int {
	k := 0
	for 255*k+127 < n {
		k++
	}
	return k
}

func TestOverOfAllThatMayBe(t *testing.T) {
	for a := range 256 {
		var rest [256]int
		for d := range rest {
			rest[d] = nearest(d * (255 - a))
		}
		for c := range a + 1 {
			for d := range 256 {
				s, under := api.Pixel{uint8(c), uint8(a), 0, uint8(a)}, api.Pixel{uint8(d), 0, uint8(d), uint8(d)}
				want := api.Pixel{uint8(c + rest[d]), uint8(a), uint8(rest[d]), uint8(a + rest[d])}
				p := Over(s, under)
				if p != want || !MayBe(p) {
					t.Fatalf("Over(%v, %v) = %v, want %v", s, under, p, want)
				}
			}
		}
	}
}

func TestMayBe(t *testing.T) {
	for a := range 256 {
		for c := range 256 {
			for i := range 3 {
				p := api.Pixel{3: uint8(a)}
				p[i] = uint8(c)
				if MayBe(p) != (c <= a) {
					t.Errorf("MayBe(%v) = %v", p, MayBe(p))
				}
			}
		}
	}
}

// A pixel that is solid is itself over anything, and no other one is.
func TestSolid(t *testing.T) {
	for a := range 256 {
		p, white, black := api.Pixel{0, uint8(a / 2), uint8(a), uint8(a)}, api.Pixel{255, 255, 255, 255}, api.Pixel{0, 0, 0, 255}
		if Solid(p) != (a == 255) || Solid(p) != (Over(p, white) == p && Over(p, black) == p) {
			t.Errorf("Solid(%v) = %v", p, Solid(p))
		}
	}
}

func TestBlack(t *testing.T) {
	if p := Black(); p != (api.Pixel{0, 0, 0, 255}) || !MayBe(p) {
		t.Errorf("Black is %v", p)
	}
}
