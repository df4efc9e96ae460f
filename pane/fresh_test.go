package pane_test

import (
	"slices"
	"testing"

	"pane/api"
)

// scribble writes into a list and into its spare room.
func scribble[T any](l []T, v T) {
	room := l[:cap(l)]
	for i := range room {
		room[i] = v
	}
}

func TestRepaintGivesFreshLists(t *testing.T) {
	s := screen(t, 4, 3, 3)
	lay(t, s, api.Top, 0, 2, 2, 0, 0)
	for i := range 3 {
		s.Repaint(i)
	}
	move(t, s, 0, 1, 1)
	want := rects(rect(0, 0, 2, 1), rect(0, 1, 3, 2), rect(1, 2, 3, 3))
	first, _ := s.Repaint(0)
	second, _ := s.Repaint(1)
	if !slices.Equal(first.Region, want) || !slices.Equal(second.Region, want) {
		t.Fatalf("they are %v and %v, want %v", first, second, want)
	}
	scribble(first.Region, rect(9, 9, 9, 9))
	if !slices.Equal(second.Region, want) {
		t.Errorf("writing into one answer changed another one: %v", second)
	}
	checkRepaint(t, s, 2, 4, want...)
	checkLook(t, s, 2, 1, "0000", "0990", "0990")
	fine(t, "Destroy", s.Destroy(0))
	checkRepaint(t, s, 1, 0, rect(1, 1, 3, 3))
	if !slices.Equal(second.Region, want) {
		t.Errorf("a later call changed an answer: %v", second)
	}
}

func TestLookGivesFreshLists(t *testing.T) {
	s := screen(t, 4, 3, 1)
	layOf(t, s, api.Top, 0, 4, 3, 0, 0, shade(1))
	checkRepaint(t, s, 0, 12, rect(0, 0, 4, 3))
	first, _, _ := s.Look(0)
	second, _, _ := s.Look(0)
	scribble(first, shade(5))
	if !slices.Equal(second, filled(4, 3, shade(1))) {
		t.Errorf("writing into one answer changed another one: %v", second)
	}
	checkLook(t, s, 0, 1, "1111", "1111", "1111")
	// Neither the buffer nor the surface is changed by it.
	move(t, s, 0, 2, 1)
	checkRepaint(t, s, 0, 4, rect(0, 0, 4, 3))
	checkLook(t, s, 0, 1, "0000", "0011", "0011")
	fine(t, "Garbage", s.Garbage(0, filled(4, 3, shade(6))))
	if !slices.Equal(second, filled(4, 3, shade(1))) {
		t.Errorf("a later call changed an answer: %v", second)
	}
}

func TestGarbageLeavesPixelsAlone(t *testing.T) {
	s := screen(t, 2, 2, 2)
	lay(t, s, api.Top, 0, 1, 1, 0, 0)
	room := drawing("12", "34", "5678")
	fine(t, "Garbage", s.Garbage(0, room[:4]))
	fine(t, "Garbage", s.Garbage(1, room[:4]))
	checkRepaint(t, s, 0, 1, rect(0, 0, 2, 2))
	if e := s.Garbage(1, room[:3]); e != api.ErrPixel {
		t.Errorf("Garbage of three pixels = %d", e)
	}
	if !slices.Equal(room, drawing("12345678")) {
		t.Errorf("the pixels have become %v", room)
	}
	checkLook(t, s, 1, 0, "12", "34")
	scribble(room, shade(9))
	checkLook(t, s, 1, 0, "12", "34")
	l, _, _ := s.Look(1)
	scribble(l, shade(8))
	checkLook(t, s, 1, 0, "12", "34")
	if !slices.Equal(room, drawing("99999999")) {
		t.Errorf("the pixels have become %v", room)
	}
}

// The pixels of a surface are neither those that were handed in nor those that are painted.
func TestAttachedPixelsStay(t *testing.T) {
	s := screen(t, 2, 1, 1)
	pixels := drawing("12")
	checkMake(t, s, api.Top, 0, api.OK)
	attach(t, s, 0, 2, 1, pixels)
	checkRepaint(t, s, 0, 2, rect(0, 0, 2, 1))
	scribble(pixels, shade(7))
	layOf(t, s, api.Top, 1, 2, 1, 0, 0, shade(3))
	checkRepaint(t, s, 0, 4, rect(0, 0, 2, 1))
	checkLook(t, s, 0, 1, "33")
	fine(t, "Destroy", s.Destroy(1))
	checkRepaint(t, s, 0, 2, rect(0, 0, 2, 1))
	checkLook(t, s, 0, 1, "12")
	// What is asked for is held against what was committed, not against what the list has become since.
	attach(t, s, 0, 2, 1, drawing("12"))
	checkRepaint(t, s, 0, 0)
}

func TestScreensPaintEachTheirOwn(t *testing.T) {
	a, b := screen(t, 3, 1, 2), screen(t, 3, 1, 2)
	layOf(t, a, api.Top, 0, 1, 1, 0, 0, shade(1))
	checkRepaint(t, a, 0, 1, rect(0, 0, 3, 1))
	checkLook(t, b, 0, 0, "---")
	checkRepaint(t, b, 1, 0, rect(0, 0, 3, 1))
	move(t, a, 0, 1, 0)
	checkRepaint(t, b, 1, 0)
	checkAges(t, a, 1, 0)
	checkRepaint(t, a, 0, 1, rect(0, 0, 2, 1))
	fine(t, "Garbage", b.Garbage(0, drawing("777")))
	checkLook(t, a, 0, 1, "010")
	checkLook(t, b, 0, 0, "777")
	checkLook(t, b, 1, 1, "000")
}
