package grid

import (
	"slices"
	"testing"
)

func TestNewIsNeverSet(t *testing.T) {
	for _, c := range [][2]int{{0, 0}, {0, 5}, {5, 0}, {1, 1}, {4, 3}} {
		g := New[int](c[0], c[1])
		if g.Width() != c[0] || g.Height() != c[1] || !slices.Equal(g.cells, make([]int, c[0]*c[1])) {
			t.Errorf("New(%d, %d) = %v", c[0], c[1], g)
		}
	}
}

func TestOfKeepsRowsAndColumns(t *testing.T) {
	g := Of(3, 2, []string{"a", "b", "c", "d", "e", "f"})
	if g.Width() != 3 || g.Height() != 2 || !slices.Equal(g.cells, []string{"a", "b", "c", "d", "e", "f"}) {
		t.Errorf("it is %v", g)
	}
}

func TestOfCopies(t *testing.T) {
	room := []int{1, 2, 3, 4, 9, 9}
	g := Of(2, 2, room[:4])
	room[0] = 7
	if !slices.Equal(g.cells, []int{1, 2, 3, 4}) {
		t.Errorf("writing into the list changed the grid: %v", g)
	}
	for i := range g.cells[:cap(g.cells)] {
		g.cells[:cap(g.cells)][i] = 5
	}
	if !slices.Equal(room, []int{7, 2, 3, 4, 9, 9}) {
		t.Errorf("writing into the grid changed the list: %v", room)
	}
}

func TestAtIsInItsColumnAndRow(t *testing.T) {
	g := Of(3, 2, []string{"a", "b", "c", "d", "e", "f"})
	for i, want := range []string{"a", "b", "c", "d", "e", "f"} {
		if c := g.At(i%3, i/3); c != want {
			t.Errorf("At(%d, %d) = %s, want %s", i%3, i/3, c, want)
		}
	}
}

func TestSetWritesOneCell(t *testing.T) {
	for i := range 6 {
		g, want := New[bool](3, 2), make([]bool, 6)
		g.Set(i%3, i/3, true)
		want[i] = true
		if !slices.Equal(g.cells, want) {
			t.Errorf("Set(%d, %d) made %v", i%3, i/3, g)
		}
	}
}

func TestCellsAreTheCallers(t *testing.T) {
	g := Of(2, 2, []int{1, 2, 3, 4})
	l, m := g.Cells(), g.Cells()
	if !slices.Equal(l, []int{1, 2, 3, 4}) {
		t.Errorf("they are %v", l)
	}
	for i := range l[:cap(l)] {
		l[:cap(l)][i] = 9
	}
	if !slices.Equal(m, []int{1, 2, 3, 4}) || !slices.Equal(g.cells, m) {
		t.Errorf("writing into one list changed %v or %v", m, g)
	}
	g.Set(0, 0, 7)
	if m[0] != 1 {
		t.Errorf("Set changed a list: %v", m)
	}
}
