package tests

import (
	"fmt"
	"math/rand/v2"
	"slices"
	"strings"
	"testing"

	"loop.example/ternnat/impl"
)

// boardByDocument is NatBoard of chapter 4 written out once more.
func boardByDocument(b impl.NatBook) string {
	if !okByDocument(b) {
		return ""
	}
	text := fmt.Sprintf("now %d\n", b.Now)
	own := fmt.Sprintf("%d.%d", b.Own>>8, b.Own&255)
	for _, d := range b.Doors {
		text += fmt.Sprintf("door %d %s:%d to %d.%d:%d\n", d.Kind, own, d.Outer, d.Inner>>8, d.Inner&255, d.InnerPort)
	}
	for _, e := range b.Entries {
		text += fmt.Sprintf("flow %d %d.%d:%d as %s:%d to %d.%d:%d ", e.Kind, e.Inner>>8, e.Inner&255, e.InnerPort, own, e.Outer, e.Peer>>8, e.Peer&255, e.PeerPort)
		if until := e.Last + 8; b.Now < until {
			text += fmt.Sprintf("left %d\n", until-b.Now)
		} else {
			text += fmt.Sprintf("rests %d\n", until+4-b.Now)
		}
	}
	return text
}

// readBoard is the book that a board tells of, as far as it does: it has nothing of Addr, Len, Low and High.
func readBoard(t *testing.T, text string) impl.NatBook {
	t.Helper()
	var b impl.NatBook
	at := func(high, low int) int { return high*256 + low }
	for i, line := range strings.SplitAfter(text, "\n") {
		var inner, own, peer [2]int
		var d impl.NatDoor
		var e impl.NatEntry
		var state string
		var ticks int
		switch {
		case line == "" && i > 0:
		case i == 0:
			read(t, line, "now %d\n", &b.Now)
		case strings.HasPrefix(line, "door"):
			read(t, line, "door %d %d.%d:%d to %d.%d:%d\n", &d.Kind, &own[0], &own[1], &d.Outer, &inner[0], &inner[1], &d.InnerPort)
			d.Inner, b.Own = at(inner[0], inner[1]), at(own[0], own[1])
			b.Doors = append(b.Doors, d)
		default:
			read(t, line, "flow %d %d.%d:%d as %d.%d:%d to %d.%d:%d %s %d\n", &e.Kind, &inner[0], &inner[1], &e.InnerPort,
				&own[0], &own[1], &e.Outer, &peer[0], &peer[1], &e.PeerPort, &state, &ticks)
			e.Inner, e.Peer, b.Own = at(inner[0], inner[1]), at(peer[0], peer[1]), at(own[0], own[1])
			e.Last = b.Now + ticks - map[string]int{"left": 8, "rests": 12}[state]
			b.Entries = append(b.Entries, e)
		}
	}
	return b
}

func read(t *testing.T, line, form string, into ...any) {
	t.Helper()
	if n, err := fmt.Sscanf(line, form, into...); n != len(into) || err != nil {
		t.Errorf("line %q is not of the form %q: %v", line, form, err)
	}
}

// checkPromise8 sees that the board of a book that is ok has a line for Now, for each door and for each entry, and no other:
// what can be read from it is what the book holds.
func checkPromise8(t *testing.T, b impl.NatBook) {
	t.Helper()
	text := boardOf(t, b)
	if n := strings.Count(text, "\n"); n != 1+len(b.Doors)+len(b.Entries) || !strings.HasSuffix(text, "\n") {
		t.Errorf("%d lines: %q of %+v", n, text, b)
	}
	want := b
	want.Addr, want.Len, want.Low, want.High = 0, 0, 0, 0
	if len(b.Doors)+len(b.Entries) == 0 {
		want.Own = 0
	}
	if got := readBoard(t, text); !sameBook(got, want) {
		t.Errorf("the board %q tells of %+v, not of %+v", text, got, want)
	}
}

// Promise 8 in books by chance, some of them at the last ticks, with entries of every age and of every number.
func TestPromise8(t *testing.T) {
	r := rand.New(rand.NewPCG(17, 8))
	var doors [7]int
	var entries [17]int
	var ages [12]int
	for range 6000 {
		b := okBookByChance(r)
		if r.IntN(4) == 0 {
			b = moved(b, 1000000-b.Now-r.IntN(2))
		}
		checkPromise8(t, b)
		doors[len(b.Doors)]++
		entries[len(b.Entries)]++
		for _, e := range b.Entries {
			ages[b.Now-e.Last]++
		}
		if t.Failed() {
			t.FailNow()
		}
	}
	if slices.Min(doors[:]) < 5 || slices.Min(entries[:]) < 5 || slices.Min(ages[:]) < 100 {
		t.Errorf("too few books of one sort to tell much: doors %v, entries %v, ages %v", doors, entries, ages)
	}
}

func TestPromise8AtItsEdges(t *testing.T) {
	checkPromise8(t, bareBook())
	checkPromise8(t, withDoors(manyDoors(6)...))
	checkPromise8(t, withEntries(manyEntries(16)...))
	b := withEntries(manyEntries(16)...)
	b.Doors = manyDoors(6)
	for age := range 12 {
		for i := range b.Entries {
			b.Entries[i].Last = 100 - age
		}
		checkPromise8(t, b)
	}
	for _, now := range []int{0, 1000000} {
		b := bareBook()
		b.Now = now
		checkPromise8(t, b)
		checkPromise8(t, moved(fullBook(), now-100))
	}
}

// Promise 8 in books that came by NatOut and NatTick.
func TestPromise8ByPassing(t *testing.T) {
	r := rand.New(rand.NewPCG(18, 8))
	for range 60 {
		w := worldByChance(r)
		for range 60 {
			if r.IntN(3) > 0 {
				w.book, _, _ = impl.NatOut(w.book, flowOf(r))
			} else {
				w.book, _ = impl.NatTick(w.book)
			}
			checkPromise8(t, w.book)
		}
	}
}

// Books by chance, many of them disturbed, held against chapter 4 written out once more.
func TestBoardsByChance(t *testing.T) {
	r := rand.New(rand.NewPCG(19, 4))
	told, empty := 0, 0
	for i := range 20000 {
		b := crowded(r)
		if i%2 == 0 {
			b = bookByChance(r)
		}
		for range r.IntN(3) {
			disturb(r, &b)
		}
		want := boardByDocument(b)
		if want == "" {
			empty++
		} else {
			told++
		}
		if got := boardOf(t, b); got != want {
			t.Fatalf("the board is %q, not %q: %+v", got, want, b)
		}
	}
	if told < 2000 || empty < 2000 {
		t.Errorf("%d boards are told and %d are empty: too few of one sort to tell much", told, empty)
	}
}
