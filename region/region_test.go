package region

import (
	"math/rand"
	"reflect"
	"slices"
	"testing"

	"pane/api"
)

func rect(x0, y0, x1, y1 int) api.Rect { return api.Rect{X0: x0, Y0: y0, X1: x1, Y1: y1} }

func drawn(r *rand.Rand) Region {
	var l []api.Rect
	for range r.Intn(6) {
		x, y := r.Intn(9)-4, r.Intn(9)-4
		l = append(l, rect(x, y, x+r.Intn(5), y+r.Intn(5)))
	}
	return Of(l)
}

func ordered(l []span) bool {
	for i, s := range l {
		if s.from >= s.to || i > 0 && l[i-1].to >= s.from {
			return false
		}
	}
	return len(l) > 0
}

// plain tells whether the bands keep what the plain form asks of them.
func plain(r Region) bool {
	for i, b := range r.bands {
		if b.top >= b.bottom || !ordered(b.spans) {
			return false
		}
		if i == 0 {
			continue
		}
		above := r.bands[i-1]
		if above.bottom > b.top || above.bottom == b.top && slices.Equal(above.spans, b.spans) {
			return false
		}
	}
	return true
}

func TestBandsStayPlain(t *testing.T) {
	r := rand.New(rand.NewSource(2))
	for range 3000 {
		a, b := drawn(r), drawn(r)
		for _, kind := range []int{api.Union, api.Common, api.Less, api.Either} {
			if c := Combine(kind, a, b); !plain(c) {
				t.Fatalf("Combine(%d, %v, %v) = %v", kind, a, b, c)
			}
		}
	}
}

func TestLawsOfSets(t *testing.T) {
	r := rand.New(rand.NewSource(4))
	for range 3000 {
		a, b := drawn(r), drawn(r)
		common, either := Combine(api.Common, a, b), Combine(api.Either, a, b)
		for name, pair := range map[string][2]Region{
			"union":        {Combine(api.Union, a, b), Combine(api.Union, common, either)},
			"less":         {Combine(api.Less, a, b), Combine(api.Either, a, common)},
			"union turned": {Combine(api.Union, a, b), Combine(api.Union, b, a)},
			"either twice": {Combine(api.Either, either, b), a},
			"nothing left": {Combine(api.Less, a, a), Region{}},
			"told":         {Of(a.Rects()), a},
		} {
			if !reflect.DeepEqual(pair[0], pair[1]) {
				t.Fatalf("%s: of %v and %v: %v is not %v", name, a, b, pair[0], pair[1])
			}
		}
	}
}

func TestCombineSharesNothing(t *testing.T) {
	a, b := Of([]api.Rect{rect(0, 0, 2, 2)}), Region{}
	c := Combine(api.Union, a, b)
	c.bands[0].spans[0].from = -9
	c.bands[0].top = -9
	if a.bands[0].spans[0].from != 0 || a.bands[0].top != 0 {
		t.Errorf("writing into what came out changed what went in: %v", a)
	}
}

func TestMayBe(t *testing.T) {
	const far = api.MaxFar
	for _, q := range []api.Rect{{}, rect(-far, -far, far, far), rect(far, far, far, far), rect(-far, -far, -far, -far), rect(1, 2, 1, 9)} {
		if !MayBe(q) {
			t.Errorf("%v may not be", q)
		}
	}
	for _, q := range []api.Rect{rect(1, 0, 0, 0), rect(0, 1, 0, 0), rect(-far-1, 0, 0, 0), rect(0, -far-1, 0, 0), rect(0, 0, far+1, 0), rect(0, 0, 0, far+1)} {
		if MayBe(q) {
			t.Errorf("%v may be", q)
		}
	}
}

func TestRectsWithoutPointsHaveNoBands(t *testing.T) {
	for _, q := range []api.Rect{{}, rect(1, 1, 1, 5), rect(1, 1, 5, 1), rect(-3, 2, -3, 2)} {
		if r := one(q); len(r.bands) != 0 {
			t.Errorf("%v gives %v", q, r)
		}
	}
}
