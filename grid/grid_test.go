package grid

import (
	"slices"
	"testing"
)

func TestNewIsNeverSet(t *testing.T) {
	for _, c := range [][2]int{{0, 0}, {0, 5}, {5, 0}, {1, 1}, {4, 3}} {
		g := New[int](c[0], c[1])
		if g.Width() != c[0] || g.Height() != c[1] || !slices.Equal(g.cells, make([]int, c[0]*c[1])) {
			t.Errorf("New(%d, %d) = %v", c[0], c[1], g)
		}
	}
}

func TestOfKeepsRowsAndColumns(t *testing.T) {
	g := Of(3, 2, []string{"a", "b", "c", "d", "e", "f"})
	if g.Width() != 3 || g.Height() != 2 || !slices.Equal(g.cells, []string{"a", "b", "c", "d", "e", "f"}) {
		t.Errorf("it is %v", g)
	}
}

func TestOfCopies(t *testing.T) {
	room := []int{1, 2, 3, 4, 9, 9}
	g := Of(2, 2, room[:4])
	room[0] = 7
	if !slices.Equal(g.cells, []int{1, 2, 3, 4}) {
		t.Errorf("writing into the list changed the grid: %v", g)
	}
	for i := range g.cells[:cap(g.cells)] {
		g.cells[:cap(g.cells)][i] = 5
	}
	if !slices.Equal(room, []int{7, 2, 3, 4, 9, 9}) {
		t.Errorf("writing into the grid changed the list: %v", room)
	}
}
