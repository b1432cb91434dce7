package tests

import (
	"strings"
	"testing"

	"loop.example/ternnat/impl"
)

// boardOf is NatBoard, asked with care: nothing is written into the book or behind the ends of its lists, and neither another call,
// nor spare room, nor how an empty list is given, nor what becomes of the book is to be seen in the text.
func boardOf(t *testing.T, b impl.NatBook) string {
	t.Helper()
	given, whole := withRoom(b)
	before := ownCopy(whole)
	text := impl.NatBoard(given)
	kept := strings.Clone(text)
	if !sameBook(whole, before) {
		t.Errorf("something was written into an argument, or behind its end: %+v", b)
	}
	if again := impl.NatBoard(given); again != kept {
		t.Errorf("the board changes from call to call: %q, then %q: %+v", kept, again, b)
	}
	ruin(whole)
	if text != kept {
		t.Errorf("the board changes with the book it was told of: %q, then %q", kept, text)
	}
	for _, v := range []impl.NatBook{withNil(ownCopy(b)), withEmpty(ownCopy(b))} {
		if other := impl.NatBoard(v); other != kept {
			t.Errorf("an empty list or spare room is to be seen on the board: %q and %q: %+v", kept, other, b)
		}
	}
	return kept
}

// wantBoard wants these lines, each with a newline behind it, and no more; without lines it wants the empty text.
func wantBoard(t *testing.T, name string, b impl.NatBook, lines ...string) {
	t.Helper()
	want := ""
	for _, line := range lines {
		want += line + "\n"
	}
	if got := boardOf(t, b); got != want {
		t.Errorf("%s: the board is %q, not %q: %+v", name, got, want, b)
	}
}

// wantLine wants one line of the board, by its place from 0 on, among so many as the book asks for.
func wantLine(t *testing.T, name string, b impl.NatBook, place int, line string) {
	t.Helper()
	lines := strings.SplitAfter(boardOf(t, b), "\n")
	if len(lines) != 1+len(b.Doors)+len(b.Entries)+1 || lines[len(lines)-1] != "" {
		t.Errorf("%s: the lines are %q: %+v", name, lines, b)
		return
	}
	if lines[place] != line+"\n" {
		t.Errorf("%s: line %q, not %q: %+v", name, lines[place], line, b)
	}
}
