package canvas

import (
	"slices"
	"testing"

	"pane/api"
	"pane/grid"
	"pane/scene"
)

func rect(x0, y0, x1, y1 int) api.Rect { return api.Rect{X0: x0, Y0: y0, X1: x1, Y1: y1} }

func filled(n int, p api.Pixel) []api.Pixel { return slices.Repeat([]api.Pixel{p}, n) }

var (
	black = api.Pixel{0, 0, 0, 255}
	white = api.Pixel{255, 255, 255, 255}
)

// whiteOver gives a picture of 4 by 3 that is white all over.
func whiteOver() scene.Picture {
	c := scene.New(4, 3)
	f := c.Surface(c.Make(c.Parent(api.Top)))
	f.Attach(grid.Of(4, 3, filled(12, white)))
	f.Commit()
	return c.Picture()
}

func check(t *testing.T, got api.Painted, blends int, want ...api.Rect) {
	t.Helper()
	if !slices.Equal(got.Region, want) || got.Blends != blends {
		t.Errorf("painted are %v, want %v, %d", got, want, blends)
	}
}

func TestHasAndPoints(t *testing.T) {
	c := New(4, 3, 2)
	if c.Has(-1) || !c.Has(0) || !c.Has(1) || c.Has(2) || c.Points() != 12 {
		t.Errorf("it is %v", c)
	}
}

// The picture has become another one without any damage: nothing is written but where a damage is.
func TestPaintWritesNoOtherPixel(t *testing.T) {
	c := New(4, 3, 2)
	check(t, c.Paint(0, scene.New(4, 3).Picture()), 0, rect(0, 0, 4, 3))
	check(t, c.Paint(0, whiteOver()), 0)
	c.Damage([]api.Rect{rect(1, 1, 3, 2), rect(2, 0, 3, 3)})
	c.Damage([]api.Rect{rect(0, 0, 0, 2), rect(4, 2, 1, 3)})
	check(t, c.Paint(0, whiteOver()), 4, rect(2, 0, 3, 1), rect(1, 1, 3, 2), rect(2, 2, 3, 3))
	want := filled(12, black)
	for _, k := range []int{2, 5, 6, 10} {
		want[k] = white
	}
	if l, age := c.Look(0); !slices.Equal(l, want) || age != 1 {
		t.Errorf("it is %v, %d, want %v", l, age, want)
	}
	if l, age := c.Look(1); !slices.Equal(l, make([]api.Pixel, 12)) || age != 0 {
		t.Errorf("the other one is %v, %d", l, age)
	}
}

// A buffer's age is how many damages it has to catch up with, the newest one among them.
func TestDamagesUpToMaxAge(t *testing.T) {
	c := New(9, 1, 1)
	for k := range 7 {
		c.Damage([]api.Rect{rect(k, 0, k+1, 1)})
		c.growOlder()
	}
	c.Damage([]api.Rect{rect(7, 0, 8, 1)})
	for age := 1; age <= api.MaxAge; age++ {
		if l := c.outOfDate(age).Rects(); !slices.Equal(l, []api.Rect{rect(8-age, 0, 8, 1)}) {
			t.Errorf("at the age of %d: %v", age, l)
		}
	}
	for _, age := range []int{0, api.MaxAge + 1, 999} {
		if l := c.outOfDate(age).Rects(); !slices.Equal(l, []api.Rect{rect(0, 0, 9, 1)}) {
			t.Errorf("at the age of %d: %v", age, l)
		}
	}
}
