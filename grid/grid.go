// Package grid: what lies in rows and columns.
package grid

import "slices"

// Grid is cells of any type, in so many rows of so many columns.
type Grid[T any] struct {
	width, height int
	cells         []T // row by row
}

// New gives a grid of cells that were never set. Neither side is below 0.
func New[T any](width int, height int) Grid[T] {
	return Grid[T]{width: width, height: height, cells: make([]T, width*height)}
}

// Of gives a grid of these cells, row by row, as many as it has room for. They are copied, since the list is the
// caller's, who may write into it later.
func Of[T any](width int, height int, cells []T) Grid[T] {
	g := New[T](width, height)
	copy(g.cells, cells)
	return g
}

// Width tells how many columns there are.
func (g Grid[T]) Width() int { return g.width }

// Height tells how many rows there are.
func (g Grid[T]) Height() int { return g.height }

// At gives the cell in a column and a row that there are.
func (g Grid[T]) At(x int, y int) T { return g.cells[y*g.width+x] }

// Set writes that cell. A grid that was copied has it in common with its copies, so it is written in them too.
func (g Grid[T]) Set(x int, y int, cell T) { g.cells[y*g.width+x] = cell }

// Cells gives all cells, row by row. The list is the caller's, who may write into it.
func (g Grid[T]) Cells() []T { return slices.Clone(g.cells) }
