package tests

import (
	"math"
	"slices"
	"testing"

	"loop.example/ternnat/impl"
)

// fullBook has NatMaxEntries entries that live, of kind 2 to 51202 and 80, which take every port from 40 to 55, and a door.
func fullBook() impl.NatBook {
	b := withEntries(manyEntries(16)...)
	b.High = 55
	b.Doors = []impl.NatDoor{{Kind: 2, Outer: 22, Inner: 2600, InnerPort: 22}}
	return b
}

// tightBook has two ports, which two entries take: one that lives, one that rests.
func tightBook() impl.NatBook {
	b := withEntries(manyEntries(2)...)
	b.High = 41
	b.Entries[1].Last = 92
	b.Doors = []impl.NatDoor{{Kind: 2, Outer: 22, Inner: 2600, InnerPort: 22}}
	return b
}

// fromFull is a flow that would need a new entry in fullBook and tightBook, towards the peer of theirs.
func fromFull() impl.NatFlow {
	return impl.NatFlow{Kind: 2, From: 2700, FromPort: 7, To: 51202, ToPort: 80}
}

// answerTo is what a peer answers to what an entry went out as.
func answerTo(b impl.NatBook, e impl.NatEntry) impl.NatFlow {
	return impl.NatFlow{Kind: e.Kind, From: e.Peer, FromPort: e.PeerPort, To: b.Own, ToPort: e.Outer}
}

// asBegun is the flow of an entry as it is inside.
func asBegun(e impl.NatEntry) impl.NatFlow {
	return impl.NatFlow{Kind: e.Kind, From: e.Inner, FromPort: e.InnerPort, To: e.Peer, ToPort: e.PeerPort}
}

// wrongFlows are the flow with one number after the other put where no flow has it.
func wrongFlows(f impl.NatFlow) []impl.NatFlow {
	var all []impl.NatFlow
	for i, limits := range [][2]int{{1, 7}, {0, 65535}, {1, 65535}, {0, 65535}, {1, 65535}} {
		for _, v := range []int{limits[0] - 1, limits[1] + 1, math.MinInt, math.MaxInt, -65536, 1 << 40} {
			g := f
			*[]*int{&g.Kind, &g.From, &g.FromPort, &g.To, &g.ToPort}[i] = v
			all = append(all, g)
		}
	}
	return all
}

func TestOutCodeBook(t *testing.T) {
	flows := append(wrongFlows(plainFlow())[:2], plainFlow(), impl.NatFlow{},
		impl.NatFlow{Kind: 1, From: 2561, FromPort: 22, To: 9, ToPort: 9},
		impl.NatFlow{Kind: 1, From: 9, FromPort: 9, To: 51202, ToPort: 80},
		impl.NatFlow{Kind: 1, From: 2562, FromPort: 7, To: 2563, ToPort: 80},
		impl.NatFlow{Kind: 3, From: 2570, FromPort: 7, To: 9, ToPort: 9},
	)
	for _, b := range wrongBooks() {
		for _, f := range flows {
			wantOut(t, "1 ahead of all", b, f, 1, 0)
		}
	}
	b := fullBook()
	b.Own = 51202
	wantOut(t, "1 ahead of 4 and 5", b, fromFull(), 1, 0)
	wantOut(t, "1 ahead of an entry that lives", b, asBegun(b.Entries[3]), 1, 0)
	wantOut(t, "nothing is no book", impl.NatBook{}, plainFlow(), 1, 0)
	wantOut(t, "nothing of nothing", impl.NatBook{}, impl.NatFlow{}, 1, 0)
	b = fullBook()
	b.Entries = append(b.Entries, impl.NatEntry{Kind: 3, Peer: 9, PeerPort: 9, Outer: 40, Inner: 2560, InnerPort: 9, Last: 100})
	wantOut(t, "one entry too many", b, fromFull(), 1, 0)
}

// wrongBooks are plainBook with one number after the other put where it may not be.
func wrongBooks() []impl.NatBook {
	return wrongOf(plainBook, slices.Concat(bookFields(), doorFields(), entryFields()))
}

// wrongOf are a book with one number after the other put where it may not be.
func wrongOf(fresh func() impl.NatBook, cases []fieldCase) []impl.NatBook {
	var all []impl.NatBook
	for _, c := range cases {
		b := fresh()
		for _, v := range append(c.wrong, farFrom(*c.field(&b))...) {
			b := fresh()
			*c.field(&b) = v
			all = append(all, b)
		}
	}
	return all
}

func TestOutCodeFlow(t *testing.T) {
	byDoor := impl.NatFlow{Kind: 2, From: 2600, FromPort: 22, To: 9, ToPort: 9}
	for _, b := range []impl.NatBook{plainBook(), bareBook(), fullBook(), tightBook()} {
		wantOut(t, "nothing", b, impl.NatFlow{}, 2, 0)
		for _, f := range []impl.NatFlow{plainFlow(), fromFull(), byDoor, asBegun(manyEntries(1)[0])} {
			for _, g := range wrongFlows(f) {
				wantOut(t, "2", b, g, 2, 0)
				g.From, g.To = g.To, g.From
				wantOut(t, "2 ahead of 3", b, g, 2, 0)
			}
		}
	}
}

func TestOutCodeWay(t *testing.T) {
	for _, b := range []impl.NatBook{plainBook(), bareBook(), fullBook(), tightBook()} {
		for _, f := range []impl.NatFlow{plainFlow(), fromFull()} {
			for _, from := range []int{0, 2559, 2816, 51201, 51202, 65535} {
				g := f
				g.From = from
				wantOut(t, "not from inside", b, g, 3, 0)
			}
			for _, to := range []int{2560, 2561, 2562, 2563, 2700, 2815, 51201} {
				g := f
				g.To = to
				wantOut(t, "not to outside", b, g, 3, 0)
			}
		}
	}
	for _, to := range []int{2560, 2600, 2815, 51201} {
		wantOut(t, "3 ahead of a door", fullBook(), impl.NatFlow{Kind: 2, From: 2600, FromPort: 22, To: to, ToPort: 9}, 3, 0)
		wantOut(t, "3 ahead of a door", plainBook(), impl.NatFlow{Kind: 1, From: 2561, FromPort: 22, To: to, ToPort: 22}, 3, 0)
	}
	b := tightBook()
	wantOut(t, "3 ahead of 5", b, impl.NatFlow{Kind: 2, From: 9, FromPort: 7, To: 51202, ToPort: 80}, 3, 0)
	for addr, code := range map[int]int{2559: 0, 2560: 3, 2815: 3, 2816: 0, 51200: 0, 51201: 3, 51202: 0, 0: 0, 65535: 0} {
		wantOut(t, "to", plainBook(), impl.NatFlow{Kind: 3, From: 2570, FromPort: 5, To: addr, ToPort: 5}, code, 40)
	}
	for addr, code := range map[int]int{2559: 3, 2560: 0, 2815: 0, 2816: 3} {
		wantOut(t, "from", plainBook(), impl.NatFlow{Kind: 3, From: addr, FromPort: 5, To: 9, ToPort: 5}, code, 40)
	}
}

// A door serves its own, whatever the book holds beside it, and the book stays.
func TestOutByDoor(t *testing.T) {
	for _, b := range []impl.NatBook{fullBook(), tightBook()} {
		f := impl.NatFlow{Kind: 2, From: 2600, FromPort: 22, To: 51202, ToPort: 80}
		wantOutStays(t, "a door ahead of 4 and 5", b, f, 22)
		f.To, f.ToPort = 0, 65535
		wantOutStays(t, "a door to anybody", b, f, 22)
	}
	b := tightBook()
	for _, f := range []impl.NatFlow{
		{Kind: 1, From: 2600, FromPort: 22, To: 9, ToPort: 9},
		{Kind: 2, From: 2601, FromPort: 22, To: 9, ToPort: 9},
		{Kind: 2, From: 2600, FromPort: 23, To: 9, ToPort: 9},
	} {
		if behind := wantOut(t, "not by the door", b, f, 0, 40); len(behind.Entries) != 3 {
			t.Errorf("%+v makes no entry", f)
		}
	}
	b = withDoors(manyDoors(6)...)
	for _, d := range b.Doors {
		f := impl.NatFlow{Kind: 1, From: d.Inner, FromPort: d.InnerPort, To: 9, ToPort: 9}
		wantOutStays(t, "each door", b, f, d.Outer)
		f.Kind = 2
		wantOut(t, "of another kind", b, f, 0, 40)
	}
}

// Of a door and an entry that lives the door comes first: the entry is not kept longer.
func TestDoorAheadOfEntry(t *testing.T) {
	b := plainBook()
	b.Doors[0].Inner, b.Doors[0].InnerPort = 2562, 7
	wantOutStays(t, "a door ahead of an entry", b, plainFlow(), 22)
	wantIn(t, "the entry is there yet", b, answerTo(b, b.Entries[0]), 2562, 7)
	b.Doors[0].Kind = 2
	if behind := wantOut(t, "a door of another kind", b, plainFlow(), 0, 40); behind.Entries[0].Last != 100 {
		t.Error("the entry's Last is not Now")
	}
}

// A flow whose entry lives goes out under its port in a book with no room left; its entry's Last is Now then.
func TestOutByEntryInFullBook(t *testing.T) {
	for _, now := range []int{100, 101, 107} {
		for i := range 16 {
			b := fullBook()
			b.Now = now
			want := ownCopy(b)
			want.Entries[i].Last = now
			if behind := wantOut(t, "an entry ahead of 4 and 5", b, asBegun(b.Entries[i]), 0, 40+i); !sameBook(behind, want) {
				t.Errorf("entry %d at %d: %+v", i, now, behind.Entries)
			}
		}
	}
	b := fullBook()
	b.Now = 108
	wantOut(t, "an entry that rests", b, asBegun(b.Entries[0]), 4, 0)
	b = tightBook()
	wantOut(t, "an entry ahead of 5", b, asBegun(b.Entries[0]), 0, 40)
	wantOut(t, "an entry that rests", b, asBegun(b.Entries[1]), 5, 0)
}

func TestOutCodeFull(t *testing.T) {
	b := fullBook()
	wantOut(t, "4 ahead of 5", b, fromFull(), 4, 0)
	b.High = 60
	wantOut(t, "4 with ports left", b, fromFull(), 4, 0)
	wantOut(t, "4 to another peer", b, impl.NatFlow{Kind: 5, From: 2700, FromPort: 7, To: 9, ToPort: 9}, 4, 0)
	b.Entries = b.Entries[:15]
	wantOut(t, "room for one", b, fromFull(), 0, 55)
	b.High = 54
	wantOut(t, "5 with room for one", b, fromFull(), 5, 0)
	for i := range b.Entries {
		b.Entries[i].Last = 89
	}
	wantOut(t, "5, all rest", b, fromFull(), 5, 0)
	b = fullBook()
	for i := range b.Entries {
		b.Entries[i].Last = 89
	}
	wantOut(t, "4 ahead of 5, all rest", b, fromFull(), 4, 0)
	wantOut(t, "4, its entry rests", b, asBegun(b.Entries[15]), 4, 0)
}

func TestInCodeBook(t *testing.T) {
	flows := append(wrongFlows(plainFlow())[:2], impl.NatFlow{},
		impl.NatFlow{Kind: 1, From: 51202, FromPort: 80, To: 51201, ToPort: 40},
		impl.NatFlow{Kind: 1, From: 9, FromPort: 9, To: 51201, ToPort: 22},
		impl.NatFlow{Kind: 1, From: 9, FromPort: 9, To: 51201, ToPort: 23},
		impl.NatFlow{Kind: 1, From: 2562, FromPort: 9, To: 51201, ToPort: 22},
		impl.NatFlow{Kind: 1, From: 9, FromPort: 9, To: 9, ToPort: 22},
	)
	for _, b := range wrongBooks() {
		for _, f := range flows {
			wantNotIn(t, "1 ahead of all", b, f, 1)
		}
	}
	wantNotIn(t, "nothing of nothing", impl.NatBook{}, impl.NatFlow{}, 1)
}

func TestInCodeFlow(t *testing.T) {
	for _, b := range []impl.NatBook{plainBook(), bareBook(), fullBook()} {
		wantNotIn(t, "nothing", b, impl.NatFlow{}, 2)
		for _, f := range []impl.NatFlow{
			{Kind: 1, From: 51202, FromPort: 80, To: 51201, ToPort: 40},
			{Kind: 1, From: 9, FromPort: 9, To: 51201, ToPort: 22},
			{Kind: 2, From: 9, FromPort: 9, To: 51201, ToPort: 22},
			{Kind: 2, From: 51202, FromPort: 80, To: 51201, ToPort: 41},
			{Kind: 5, From: 9, FromPort: 9, To: 51201, ToPort: 9},
		} {
			for _, g := range wrongFlows(f) {
				wantNotIn(t, "2 ahead of a door, an entry and 6", b, g, 2)
				g.From, g.To = g.To, g.From
				wantNotIn(t, "2 ahead of 3", b, g, 2)
			}
		}
	}
}

func TestInCodeWay(t *testing.T) {
	for _, b := range []impl.NatBook{plainBook(), bareBook(), fullBook()} {
		for _, f := range []impl.NatFlow{
			{Kind: 1, From: 51202, FromPort: 80, To: 51201, ToPort: 40},
			{Kind: 2, From: 51202, FromPort: 80, To: 51201, ToPort: 41},
			{Kind: 1, From: 9, FromPort: 9, To: 51201, ToPort: 22},
			{Kind: 2, From: 9, FromPort: 9, To: 51201, ToPort: 22},
			{Kind: 2, From: 9, FromPort: 9, To: 51201, ToPort: 23},
		} {
			for _, to := range []int{0, 9, 2560, 2562, 2815, 51200, 51202, 65535} {
				g := f
				g.To = to
				wantNotIn(t, "3, not to Own", b, g, 3)
			}
			for _, from := range []int{2560, 2561, 2562, 2700, 2815, 51201} {
				g := f
				g.From = from
				wantNotIn(t, "3, not from outside", b, g, 3)
			}
		}
	}
	for _, from := range []int{0, 2559, 2816, 51200, 51202, 65535} {
		wantIn(t, "from outside", plainBook(), impl.NatFlow{Kind: 1, From: from, FromPort: 9, To: 51201, ToPort: 22}, 2561, 22)
	}
}

// Each door lets in who comes to its Outer, from wherever; nobody else.
func TestInByDoor(t *testing.T) {
	b := withDoors(manyDoors(6)...)
	b.Doors[5].Kind = 4
	for i, d := range b.Doors {
		for _, from := range []int{0, 9, 51202, 65535} {
			for _, port := range []int{1, 40, 65535} {
				wantIn(t, "by a door", b, impl.NatFlow{Kind: d.Kind, From: from, FromPort: port, To: b.Own, ToPort: d.Outer}, 2560+i, 22)
			}
		}
		wantNotIn(t, "of another kind", b, impl.NatFlow{Kind: 2, From: 9, FromPort: 9, To: b.Own, ToPort: d.Outer}, 6)
	}
	wantNotIn(t, "below the doors", b, impl.NatFlow{Kind: 1, From: 9, FromPort: 9, To: b.Own, ToPort: 9}, 6)
	wantNotIn(t, "behind the doors", b, impl.NatFlow{Kind: 1, From: 9, FromPort: 9, To: b.Own, ToPort: 15}, 6)
	wantNotIn(t, "to InnerPort", b, impl.NatFlow{Kind: 1, From: 9, FromPort: 9, To: b.Own, ToPort: 22}, 6)
}

// An entry lets in what its peer sends, of its kind, from its port, to its port; the nearest beside it are refused.
func TestInByEntry(t *testing.T) {
	b := fullBook()
	for i, e := range b.Entries {
		f := answerTo(b, e)
		wantIn(t, "by an entry", b, f, 2560+i, 7)
		for _, n := range []*int{&f.Kind, &f.From, &f.FromPort} {
			*n++
			wantNotIn(t, "beside an entry", b, f, 6)
			*n -= 2
			if n != &f.From {
				wantNotIn(t, "beside an entry", b, f, 6)
			} else {
				wantNotIn(t, "from Own", b, f, 3)
			}
			*n++
		}
	}
	f := answerTo(b, b.Entries[0])
	f.ToPort = 39
	wantNotIn(t, "below the ports", b, f, 6)
	f.ToPort = 56
	wantNotIn(t, "behind the ports", b, f, 6)
	wantNotIn(t, "nobody asked", bareBook(), f, 6)
}

func TestTickCodes(t *testing.T) {
	for _, b := range wrongBooks() {
		wantTick(t, "1", b, 1)
	}
	wantTick(t, "nothing", impl.NatBook{}, 1)
	b := plainBook()
	b.Now, b.Entries[0].Last = 1000000, 999990
	wantTick(t, "2", b, 2)
	for _, last := range []int{999988, 1000001} {
		c := ownCopy(b)
		c.Entries[0].Last = last
		wantTick(t, "1 ahead of 2", c, 1)
	}
	c := ownCopy(b)
	c.Own = 2560
	wantTick(t, "1 ahead of 2", c, 1)
	c = ownCopy(b)
	c.Now = 1000001
	wantTick(t, "past the last tick", c, 1)
	b.Now, b.Entries[0].Last = 999999, 999989
	b = wantTick(t, "the last tick but one", b, 0)
	if b.Now != 1000000 || len(b.Entries) != 1 || b.Entries[0].Last != 999989 {
		t.Errorf("the last tick: %+v", b)
	}
	wantTick(t, "the last tick", b, 2)
	c = bareBook()
	c.Now = 0
	if c = wantTick(t, "the first tick", c, 0); c.Now != 1 {
		t.Errorf("the first tick: %+v", c)
	}
}

// At the last tick flows go out and come in as ever; only no tick passes.
func TestAtTheLastTick(t *testing.T) {
	b := bareBook()
	b.Now = 1000000
	b = wantOut(t, "at the last tick", b, plainFlow(), 0, 40)
	wantIn(t, "at the last tick", b, answerTo(b, b.Entries[0]), 2562, 7)
	for range 20 {
		b = wantTick(t, "refused", b, 2)
	}
	wantIn(t, "a tick that is refused does not count", b, answerTo(b, b.Entries[0]), 2562, 7)
	wantOutStays(t, "a tick that is refused does not count", b, plainFlow(), 40)
}

// Numbers from anywhere, in books and flows: an answer, and no panic.
func TestWildPassing(t *testing.T) {
	wild := []int{math.MinInt, math.MinInt + 1, -65536, -1, 0, 1, 8, 17, 40, 2562, 51201, 65535, 65536, 1000000, math.MaxInt - 1, math.MaxInt}
	for _, v := range wild {
		for _, w := range wild {
			d := impl.NatDoor{Kind: v, Outer: w, Inner: v, InnerPort: w}
			e := impl.NatEntry{Kind: w, Peer: v, PeerPort: w, Outer: v, Inner: w, InnerPort: v, Last: w}
			b := impl.NatBook{Addr: v, Len: w, Own: v, Low: w, High: v, Now: w, Doors: []impl.NatDoor{d, d}, Entries: []impl.NatEntry{e, e}}
			f := impl.NatFlow{Kind: v, From: w, FromPort: v, To: w, ToPort: v}
			wantOut(t, "wild", b, f, 1, 0)
			wantNotIn(t, "wild", b, f, 1)
			wantTick(t, "wild", b, 1)
			checkByDocument(t, plainBook(), f)
			checkByDocument(t, plainBook(), impl.NatFlow{Kind: 1, From: v, FromPort: w, To: w, ToPort: v})
			checkByDocument(t, plainBook(), impl.NatFlow{Kind: 1, From: 2562, FromPort: 7, To: v, ToPort: w})
			checkByDocument(t, plainBook(), impl.NatFlow{Kind: 1, From: v, FromPort: w, To: 51201, ToPort: 40})
		}
	}
	far := bareBook()
	far.Entries = make([]impl.NatEntry, 100000)
	far.Doors = make([]impl.NatDoor, 100000)
	wantOut(t, "very long lists", far, plainFlow(), 1, 0)
	wantNotIn(t, "very long lists", far, plainFlow(), 1)
	wantTick(t, "very long lists", far, 1)
}
