// Package ring: the last few of what comes again and again.
package ring

// Ring is the last few of any type: where one more comes in, the oldest goes.
type Ring[T any] struct {
	cells  []T
	newest int // where it is; each one's elder stands ahead of it, the last cell's behind the first
}

// New gives a ring of so many, at least one, none of which was ever set.
func New[T any](many int) Ring[T] {
	return Ring[T]{cells: make([]T, many)}
}

// Add puts one in, as the newest.
func (r *Ring[T]) Add(v T) {
	r.newest = (r.newest + 1) % len(r.cells)
	r.cells[r.newest] = v
}

// Amend puts another one in the newest one's stead.
func (r *Ring[T]) Amend(v T) {
	r.cells[r.newest] = v
}

// Back gives the one that so many others are newer than, fewer than there are.
func (r Ring[T]) Back(k int) T {
	return r.cells[(r.newest-k+len(r.cells))%len(r.cells)]
}
