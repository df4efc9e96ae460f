package region

import (
	"math/rand"
	"reflect"
	"slices"
	"testing"

	"pane/api"
)

func rect(x0, y0, x1, y1 int) api.Rect { return api.Rect{X0: x0, Y0: y0, X1: x1, Y1: y1} }

func drawn(r *rand.Rand) Region {
	var l []api.Rect
	for range r.Intn(6) {
		x, y := r.Intn(9)-4, r.Intn(9)-4
		l = append(l, rect(x, y, x+r.Intn(5), y+r.Intn(5)))
	}
	return Of(l)
}

func ordered(l []span) bool {
	for i, s := range l {
		if s.from >= s.to || i > 0 && l[i-1].to >= s.from {
			return false
		}
	}
	return len(l) > 0
}

// plain tells whether the bands keep what the plain form asks of them.
func plain(r Region) bool {
	for i, b := range r.bands {
		if b.top >= b.bottom || !ordered(b.spans) {
			return false
		}
		if i == 0 {
			continue
		}
		above := r.bands[i-1]
		if above.bottom > b.top || above.bottom == b.top && slices.Equal(above.spans, b.spans) {
			return false
		}
	}
	return true
}

func TestBandsStayPlain(t *testing.T) {
	r := rand.New(rand.NewSource(2))
	for range 3000 {
		a, b := drawn(r), drawn(r)
		for _, kind := range []int{api.Union, api.Common, api.Less, api.Either} {
			if c := Combine(kind, a, b); !plain(c) {
				t.Fatalf("Combine(%d, %v, %v) = %v", kind, a, b, c)
			}
		}
	}
}

func TestLawsOfSets(t *testing.T) {
	r := rand.New(rand.NewSource(4))
	for range 3000 {
		a, b := drawn(r), drawn(r)
		common, either := Combine(api.Common, a, b), Combine(api.Either, a, b)
		for name, pair := range map[string][2]Region{
			"union":        {Combine(api.Union, a, b), Combine(api.Union, common, either)},
			"less":         {Combine(api.Less, a, b), Combine(api.Either, a, common)},
			"union turned": {Combine(api.Union, a, b), Combine(api.Union, b, a)},
			"either twice": {Combine(api.Either, either, b), a},
			"nothing left": {Combine(api.Less, a, a), Region{}},
			"told":         {Of(a.Rects()), a},
		} {
			if !reflect.DeepEqual(pair[0], pair[1]) {
				t.Fatalf("%s: of %v and %v: %v is not %v", name, a, b, pair[0], pair[1])
			}
		}
	}
}

func TestCombineSharesNothing(t *testing.T) {
	a, b := Of([]api.Rect{rect(0, 0, 2, 2)}), Region{}
	c := Combine(api.Union, a, b)
	c.bands[0].spans[0].from = -9
	c.bands[0].top = -9
	if a.bands[0].spans[0].from != 0 || a.bands[0].top != 0 {
		t.Errorf("writing into what came out changed what went in: %v", a)
	}
}

func TestMayBe(t *testing.T) {
	const far = api.MaxFar
	for _, q := range []api.Rect{{}, rect(-far, -far, far, far), rect(far, far, far, far), rect(-far, -far, -far, -far), rect(1, 2, 1, 9)} {
		if !MayBe(q) {
			t.Errorf("%v may not be", q)
		}
	}
	for _, q := range []api.Rect{rect(1, 0, 0, 0), rect(0, 1, 0, 0), rect(-far-1, 0, 0, 0), rect(0, -far-1, 0, 0), rect(0, 0, far+1, 0), rect(0, 0, 0, far+1)} {
		if MayBe(q) {
			t.Errorf("%v may be", q)
		}
	}
}

func TestRectsWithoutPointsHaveNoBands(t *testing.T) {
	for _, q := range []api.Rect{{}, rect(1, 1, 1, 5), rect(1, 1, 5, 1), rect(-3, 2, -3, 2)} {
		if r := one(q); len(r.bands) != 0 {
			t.Errorf("%v gives %v", q, r)
		}
	}
}

func TestHasPoints(t *testing.T) {
	for q, want := range map[api.Rect]bool{
		rect(0, 0, 1, 1): true, rect(-5, -5, -4, 3): true,
		rect(0, 0, 0, 1): false, rect(0, 0, 1, 0): false, rect(2, 0, 1, 5): false, rect(0, 2, 5, 1): false, {}: false,
	} {
		if HasPoints(q) != want {
			t.Errorf("HasPoints(%v) is not %t", q, want)
		}
	}
}

func TestMeet(t *testing.T) {
	a := rect(0, 0, 4, 4)
	for _, c := range [][2]api.Rect{
		{rect(1, 2, 3, 9), rect(1, 2, 3, 4)}, {rect(-1, -1, 9, 9), a}, {a, a}, {rect(-3, 1, 2, 2), rect(0, 1, 2, 2)},
	} {
		if p, q := Meet(a, c[0]), Meet(c[0], a); p != c[1] || q != c[1] {
			t.Errorf("%v meets %v in %v and %v", a, c[0], p, q)
		}
	}
	for _, q := range []api.Rect{rect(4, 0, 5, 4), rect(0, 4, 4, 5), rect(-2, -2, 0, 9), rect(6, 6, 7, 7), rect(2, 2, 2, 2)} {
		none := Meet(a, q)
		if HasPoints(none) || HasPoints(Meet(none, rect(-9, -9, 9, 9))) || HasPoints(Meet(q, none)) {
			t.Errorf("%v meets %v in %v", a, q, none)
		}
	}
}

func TestMove(t *testing.T) {
	if q := Move(rect(1, 2, 3, 4), 10, -20); q != rect(11, -18, 13, -16) {
		t.Errorf("it is moved to %v", q)
	}
}

func TestHas(t *testing.T) {
	q := rect(-1, 2, 3, 4)
	for x := -3; x < 6; x++ {
		for y := -1; y < 7; y++ {
			if Has(q, x, y) != (x >= -1 && x <= 2 && y >= 2 && y <= 3) {
				t.Errorf("Has(%v, %d, %d) = %v", q, x, y, Has(q, x, y))
			}
		}
	}
	for _, none := range []api.Rect{{}, rect(0, 0, 0, 5), rect(3, 0, 1, 5)} {
		if Has(none, 0, 0) || Has(none, 2, 2) {
			t.Errorf("%v has a point", none)
		}
	}
}

func TestHull(t *testing.T) {
	for _, c := range []struct{ p, q, want api.Rect }{
		{rect(0, 0, 1, 1), rect(3, 4, 4, 5), rect(0, 0, 4, 5)},
		{rect(3, 0, 4, 1), rect(0, 4, 1, 5), rect(0, 0, 4, 5)},
		{rect(0, 0, 9, 9), rect(3, 4, 4, 5), rect(0, 0, 9, 9)},
		{rect(-3, -2, -1, -1), rect(-2, -5, 0, 7), rect(-3, -5, 0, 7)},
		{api.Rect{}, rect(3, 4, 4, 5), rect(3, 4, 4, 5)},
		{rect(9, 9, 9, 12), rect(3, 4, 4, 5), rect(3, 4, 4, 5)},
		{rect(9, 9, 5, 12), rect(-3, -4, -2, -1), rect(-3, -4, -2, -1)},
	} {
		if r := Hull(c.p, c.q); r != c.want {
			t.Errorf("Hull(%v, %v) = %v, want %v", c.p, c.q, r, c.want)
		}
		if r := Hull(c.q, c.p); r != c.want {
			t.Errorf("Hull(%v, %v) = %v, want %v", c.q, c.p, r, c.want)
		}
	}
	if r := Hull(rect(5, 5, 5, 9), rect(1, 2, 1, 2)); HasPoints(r) {
		t.Errorf("of no points there is %v", r)
	}
}
