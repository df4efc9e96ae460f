package ring

import (
	"slices"
	"testing"
)

// told gives all that a ring has, from the newest on.
func told[T any](r Ring[T]) []T {
	var l []T
	for k := range r.cells {
		l = append(l, r.Back(k))
	}
	return l
}

func TestNewIsNeverSet(t *testing.T) {
	for many := 1; many <= 5; many++ {
		if l := told(New[int](many)); !slices.Equal(l, make([]int, many)) {
			t.Errorf("New(%d) has %v", many, l)
		}
	}
}

func TestAddDropsTheOldest(t *testing.T) {
	for many := 1; many <= 5; many++ {
		r, want := New[int](many), make([]int, many)
		for i := 1; i <= 3*many+1; i++ {
			r.Add(i)
			want = slices.Insert(want, 0, i)[:many]
			if l := told(r); !slices.Equal(l, want) {
				t.Errorf("a ring of %d has %v, want %v", many, l, want)
			}
		}
	}
}

func TestAmendIsOfTheNewest(t *testing.T) {
	r := New[string](3)
	r.Amend("a")
	r.Add("b")
	r.Add("c")
	r.Amend("d")
	r.Amend("e")
	if l := told(r); !slices.Equal(l, []string{"e", "b", "a"}) {
		t.Errorf("it has %v", l)
	}
	r.Add("f")
	r.Amend("g")
	if l := told(r); !slices.Equal(l, []string{"g", "e", "b"}) {
		t.Errorf("it has %v", l)
	}
}
