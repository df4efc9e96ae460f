package pane_test

import (
	"testing"

	"pane/api"
	"pane/pane"
)

func checkOver(t *testing.T, s, d, want api.Pixel) {
	t.Helper()
	if p, e := pane.Over(s, d); p != want || e != api.OK {
		t.Errorf("Over(%v, %v) = %v, %d, want %v", s, d, p, e, want)
	}
}

func TestOverExamples(t *testing.T) {
	checkOver(t, api.Pixel{255, 0, 0, 255}, api.Pixel{0, 9, 20, 30}, api.Pixel{255, 0, 0, 255})
	checkOver(t, api.Pixel{}, api.Pixel{5, 6, 7, 8}, api.Pixel{5, 6, 7, 8})
	checkOver(t, api.Pixel{100, 0, 0, 128}, api.Pixel{0, 0, 200, 255}, api.Pixel{100, 0, 100, 255})
}

func TestOverWhereNothingOrAllIsSeenThrough(t *testing.T) {
	for a := range 256 {
		for c := range a + 1 {
			p := api.Pixel{uint8(c), uint8(a - c), uint8(a), uint8(a)}
			checkOver(t, api.Pixel{}, p, p)
			checkOver(t, p, api.Pixel{}, p)
			opaque := api.Pixel{uint8(c), 0, 255, 255}
			checkOver(t, opaque, p, opaque)
		}
	}
}

func TestOverRoundsToTheNearest(t *testing.T) {
	// 254 lets 1 of 255 through: of 127 nothing is left, of 128 one.
	checkOver(t, api.Pixel{0, 1, 254, 254}, api.Pixel{127, 128, 255, 255}, api.Pixel{0, 2, 255, 255})
	checkOver(t, api.Pixel{10, 20, 30, 127}, api.Pixel{10, 20, 30, 127}, api.Pixel{15, 30, 45, 191})
}

func TestOverRefuses(t *testing.T) {
	good := api.Pixel{1, 2, 3, 4}
	for i := range 3 {
		for a := range 255 {
			bad := api.Pixel{3: uint8(a)}
			bad[i] = uint8(a + 1)
			for _, c := range [][2]api.Pixel{{bad, good}, {good, bad}, {bad, bad}, {{0, 0, 0, 255}, bad}, {bad, {}}, {{}, bad}} {
				if p, e := pane.Over(c[0], c[1]); p != (api.Pixel{}) || e != api.ErrPixel {
					t.Errorf("Over(%v, %v) = %v, %d", c[0], c[1], p, e)
				}
			}
		}
	}
	if p, e := pane.Over(api.Pixel{200, 0, 0, 100}, api.Pixel{}); p != (api.Pixel{}) || e != api.ErrPixel {
		t.Errorf("Over of 200, 0, 0, 100 = %v, %d", p, e)
	}
}
