package pane

import (
	"reflect"
	"testing"

	"pane/api"
	"pane/grid"
)

func TestNewGivesEmptyBuffers(t *testing.T) {
	for n := 1; n <= api.MaxBuffers; n++ {
		s, e := New(4, 3, n)
		if e != api.OK || len(s.buffers) != n {
			t.Fatalf("New(4, 3, %d) has %v, %d", n, s, e)
		}
		for i, b := range s.buffers {
			if want := grid.Of(4, 3, make([]api.Pixel, 12)); !reflect.DeepEqual(b, want) {
				t.Errorf("New(4, 3, %d): buffer %d is %v", n, i, b)
			}
		}
	}
}
