// Package grid: what lies in rows and columns.
package grid

// Grid is cells of any type, in so many rows of so many columns.
type Grid[T any] struct {
	width, height int
	cells         []T // row by row
}

// New gives a grid of cells that were never set. Neither side is below 0.
func New[T any](width int, height int) Grid[T] {
	return Grid[T]{width: width, height: height, cells: make([]T, width*height)}
}

// Of gives a grid of these cells, row by row, as many as it has room for. They are copied, since the list is the
// caller's, who may write into it later.
func Of[T any](width int, height int, cells []T) Grid[T] {
	g := New[T](width, height)
	copy(g.cells, cells)
	return g
}

// Width tells how many columns there are.
func (g Grid[T]) Width() int { return g.width }

// Height tells how many rows there are.
func (g Grid[T]) Height() int { return g.height }
