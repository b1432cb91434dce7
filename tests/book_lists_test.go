package tests

import (
	"math"
	"slices"
	"testing"

	"loop.example/ternnat/impl"
)

// withDoors is a book of these doors alone.
func withDoors(doors ...impl.NatDoor) impl.NatBook {
	b := bareBook()
	b.Doors = doors
	return b
}

// withEntries is a book of these entries alone.
func withEntries(entries ...impl.NatEntry) impl.NatBook {
	b := bareBook()
	b.Entries = entries
	return b
}

// manyDoors are n doors of one kind.
func manyDoors(n int) []impl.NatDoor {
	var doors []impl.NatDoor
	for i := range n {
		doors = append(doors, impl.NatDoor{Kind: 1, Outer: 10 + i, Inner: 2560 + i, InnerPort: 22})
	}
	return doors
}

// manyEntries are n entries that live, to one peer, of which no two are from the same address.
func manyEntries(n int) []impl.NatEntry {
	var entries []impl.NatEntry
	for i := range n {
		entries = append(entries, impl.NatEntry{Kind: 2, Peer: 51202, PeerPort: 80, Outer: 40 + i, Inner: 2560 + i, InnerPort: 7, Last: 100})
	}
	return entries
}

// ofEachKind is a book with a door and an entry of each kind, as far as there is room: a number of one may change and the order stays.
func ofEachKind() impl.NatBook {
	b := bareBook()
	for kind := 1; kind <= 7; kind++ {
		if kind <= 6 {
			b.Doors = append(b.Doors, impl.NatDoor{Kind: kind, Outer: 22, Inner: 2561, InnerPort: 22})
		}
		b.Entries = append(b.Entries, impl.NatEntry{Kind: kind, Peer: 51202, PeerPort: 80, Outer: 40, Inner: 2562, InnerPort: 7, Last: 95})
	}
	return b
}

func TestHowManyDoors(t *testing.T) {
	for n := range 12 {
		wantOk(t, n <= 6, withDoors(manyDoors(n)...), "doors")
	}
	for _, n := range []int{20, 1000, 100000} {
		doors := make([]impl.NatDoor, n)
		for i := range doors {
			doors[i] = impl.NatDoor{Kind: i*7/n + 1, Outer: i%60000 + 100, Inner: 2560 + i%256, InnerPort: i/256 + 1}
		}
		wantOk(t, false, withDoors(doors...), "far too many doors")
	}
}

func TestHowManyEntries(t *testing.T) {
	for n := range 20 {
		wantOk(t, n <= 16, withEntries(manyEntries(n)...), "entries")
		resting := manyEntries(n)
		for i := range resting {
			resting[i].Last = 100 - 11
		}
		wantOk(t, n <= 16, withEntries(resting...), "entries that rest")
	}
	for _, n := range []int{21, 1000, 100000} {
		b := withEntries()
		b.Low, b.High = 1, 65535
		for i := range n {
			b.Entries = append(b.Entries, impl.NatEntry{Kind: 2, Peer: 51202, PeerPort: i/60000 + 1, Outer: i%60000 + 1, Inner: 2560, InnerPort: i%60000 + 1, Last: 100})
		}
		wantOk(t, false, b, "far too many entries")
	}
	b := withEntries(manyEntries(16)...)
	b.Doors = manyDoors(6)
	wantOk(t, true, b, "as many as may be")
}

// What is wrong with a door or an entry counts at each place, and not at the first or the last alone.
func TestWrongAtEachPlace(t *testing.T) {
	wantOk(t, true, ofEachKind(), "of each kind")
	for place := range 6 {
		for _, c := range doorFields()[1:] {
			for _, v := range c.wrong {
				b := ofEachKind()
				b.Doors[0], b.Doors[place] = b.Doors[place], b.Doors[0]
				*c.field(&b) = v
				b.Doors[0], b.Doors[place] = b.Doors[place], b.Doors[0]
				wantOk(t, false, b, c.name)
			}
		}
	}
	for place := range 7 {
		for _, c := range entryFields()[1:] {
			for _, v := range c.wrong {
				b := ofEachKind()
				b.Entries[0], b.Entries[place] = b.Entries[place], b.Entries[0]
				*c.field(&b) = v
				b.Entries[0], b.Entries[place] = b.Entries[place], b.Entries[0]
				wantOk(t, false, b, c.name)
			}
		}
	}
	for place := range 16 {
		b := withEntries(manyEntries(16)...)
		b.Entries[place].Last = 88
		wantOk(t, false, b, "too old")
		b.Entries[place].Last = 89
		wantOk(t, true, b, "just not too old")
		b.Entries[place].Inner = 2816
		wantOk(t, false, b, "not inside")
	}
}

// A kind past the last, or ahead of the first, leaves the order as it is.
func TestWrongKindInOrder(t *testing.T) {
	doors := manyDoors(6)
	doors[5].Kind = 7
	wantOk(t, true, withDoors(doors...), "door of the last kind")
	doors[5].Kind = 8
	wantOk(t, false, withDoors(doors...), "door past the last kind")
	doors[5].Kind, doors[0].Kind = 1, 0
	wantOk(t, false, withDoors(doors...), "door ahead of the first kind")
	entries := manyEntries(16)
	entries[0].Kind, entries[15].Kind = 1, 7
	wantOk(t, true, withEntries(entries...), "entries of the first and the last kind")
	entries[15].Kind = 8
	wantOk(t, false, withEntries(entries...), "entry past the last kind")
	entries[15].Kind, entries[0].Kind = 7, 0
	wantOk(t, false, withEntries(entries...), "entry ahead of the first kind")
}

// Two doors by their Kind and Outer: in order just if the first is less, by Kind and then by Outer.
func TestDoorOrder(t *testing.T) {
	for bits := range 16 {
		one, two := bits%4, bits/4
		d := impl.NatDoor{Kind: 3 + one/2, Outer: 10 + one%2, Inner: 2560, InnerPort: 22}
		e := impl.NatDoor{Kind: 3 + two/2, Outer: 10 + two%2, Inner: 2561, InnerPort: 22}
		wantOk(t, one < two, withDoors(d, e), "two doors")
	}
	d := impl.NatDoor{Kind: 1, Outer: 65535, Inner: 2815, InnerPort: 65535}
	e := impl.NatDoor{Kind: 2, Outer: 1, Inner: 2560, InnerPort: 1}
	wantOk(t, true, withDoors(d, e), "by Kind ahead of Outer")
	wantOk(t, false, withDoors(e, d), "by Kind ahead of Outer")
	d, e = impl.NatDoor{Kind: 1, Outer: 1, Inner: 2815, InnerPort: 65535}, impl.NatDoor{Kind: 1, Outer: 65535, Inner: 2560, InnerPort: 1}
	wantOk(t, true, withDoors(d, e), "by Outer, on both sides of the range")
	wantOk(t, false, withDoors(e, d), "by Outer, on both sides of the range")
	for i := range 5 {
		doors := manyDoors(6)
		doors[i], doors[i+1] = doors[i+1], doors[i]
		wantOk(t, false, withDoors(doors...), "two doors exchanged")
		doors = manyDoors(6)
		doors[i].Outer = doors[i+1].Outer
		wantOk(t, false, withDoors(doors...), "two doors with one Outer")
	}
	doors := manyDoors(6)
	slices.Reverse(doors)
	wantOk(t, false, withDoors(doors...), "doors descending")
}

// Two entries by their Kind, Peer, PeerPort and Outer, in this order.
func TestEntryOrder(t *testing.T) {
	of := func(key, inner, last int) impl.NatEntry {
		return impl.NatEntry{Kind: 3 + key/8, Peer: 9000 + key/4%2, PeerPort: 80 + key/2%2, Outer: 50 + key%2, Inner: inner, InnerPort: 7, Last: last}
	}
	for one := range 16 {
		for two := range 16 {
			wantOk(t, one < two, withEntries(of(one, 2561, 100), of(two, 2560, 100)), "two entries that live")
			wantOk(t, one < two, withEntries(of(one, 2561, 92), of(two, 2561, 89)), "two entries that rest")
			wantOk(t, one < two, withEntries(of(one, 2561, 100), of(two, 2561, 90)), "one that lives, one that rests")
		}
	}
	for i := range 15 {
		entries := manyEntries(16)
		entries[i], entries[i+1] = entries[i+1], entries[i]
		wantOk(t, false, withEntries(entries...), "two entries exchanged")
		entries = manyEntries(16)
		entries[i].Outer = entries[i+1].Outer
		wantOk(t, false, withEntries(entries...), "two entries with one Outer to one peer")
		entries[i].Last = 90
		wantOk(t, false, withEntries(entries...), "an Outer that rests is taken as well")
	}
	entries := manyEntries(16)
	slices.Reverse(entries)
	wantOk(t, false, withEntries(entries...), "entries descending")
}

// Two doors may share all but Kind and Outer, and all but Kind, Inner and InnerPort.
func TestWhatDoorsShare(t *testing.T) {
	d := impl.NatDoor{Kind: 1, Outer: 10, Inner: 2561, InnerPort: 22}
	for bits := range 8 {
		e := impl.NatDoor{Kind: 1 + bits&1, Outer: 11, Inner: 2561 + bits>>1&1, InnerPort: 22 + bits>>2&1}
		wantOk(t, bits != 0, withDoors(d, e), "doors with two Outers")
		e.Outer = 10
		wantOk(t, bits&1 == 1, withDoors(d, e), "doors with one Outer")
		e.Outer = 9
		wantOk(t, bits&1 == 1, withDoors(d, e), "doors with Outers descending")
	}
	wantOk(t, true, withDoors(d, impl.NatDoor{Kind: 1, Outer: 22, Inner: 2583, InnerPort: 1}), "like sums")
	wantOk(t, true, withDoors(d, impl.NatDoor{Kind: 1, Outer: 22, Inner: 2562, InnerPort: 21}), "like sums")
}

// Doors that are not neighbours are held against each other too.
func TestDoorsFarApartShare(t *testing.T) {
	for i := range 6 {
		for j := range i {
			doors := manyDoors(6)
			doors[i].Inner = doors[j].Inner
			wantOk(t, false, withDoors(doors...), "one Inner and InnerPort")
			doors[i].InnerPort = 23
			wantOk(t, true, withDoors(doors...), "one Inner, two InnerPorts")
		}
	}
	d := impl.NatDoor{Kind: 1, Outer: 10, Inner: 2561, InnerPort: 22}
	e := impl.NatDoor{Kind: 1, Outer: 11, Inner: 2560, InnerPort: 22}
	f := impl.NatDoor{Kind: 2, Outer: 9, Inner: 2561, InnerPort: 22}
	g := impl.NatDoor{Kind: 2, Outer: 10, Inner: 2560, InnerPort: 22}
	wantOk(t, true, withDoors(d, e, f, g), "the same of two kinds")
	g.Inner = 2561
	wantOk(t, false, withDoors(d, e, f, g), "the same of one kind, the second")
}

// Two that live must differ in Kind, Inner, InnerPort, Peer or PeerPort; one that rests may be like any.
func TestWhatEntriesShare(t *testing.T) {
	d := impl.NatEntry{Kind: 1, Peer: 51202, PeerPort: 80, Outer: 45, Inner: 2561, InnerPort: 7}
	for bits := range 32 {
		e := impl.NatEntry{Kind: 1 + bits&1, Peer: 51202 + bits>>1&1, PeerPort: 80 + bits>>2&1, Outer: 46, Inner: 2561 + bits>>3&1, InnerPort: 7 + bits>>4&1}
		for _, now := range []int{11, 12, 100, 1000000} {
			for one := range 12 {
				for two := range 12 {
					d.Last, e.Last = now-one, now-two
					b := withEntries(d, e)
					b.Now = now
					wantOk(t, bits != 0 || one >= 8 || two >= 8, b, "two entries")
				}
			}
		}
	}
}

// Entries that are not neighbours are held against each other too.
func TestEntriesFarApartShare(t *testing.T) {
	for i := range 16 {
		for j := range i {
			entries := manyEntries(16)
			entries[i].Inner = entries[j].Inner
			wantOk(t, false, withEntries(entries...), "both live")
			entries[i].Last, entries[j].Last = 93, 93
			wantOk(t, false, withEntries(entries...), "both live yet")
			entries[i].Last = 92
			wantOk(t, true, withEntries(entries...), "the second rests")
			entries[j].Last = 92
			wantOk(t, true, withEntries(entries...), "both rest")
			entries[i].Last = 100
			wantOk(t, true, withEntries(entries...), "the first rests")
		}
	}
}

// All sixteen may be one flow, if at most one of them lives.
func TestOneFlowManyEntries(t *testing.T) {
	entries := manyEntries(16)
	for i := range entries {
		entries[i].Inner, entries[i].Last = 2560, 89+i%4
	}
	wantOk(t, true, withEntries(entries...), "all rest")
	for i := range entries {
		entries := slices.Clone(entries)
		entries[i].Last = 93
		wantOk(t, true, withEntries(entries...), "one lives")
		entries[(i+5)%16].Last = 100
		wantOk(t, false, withEntries(entries...), "two live")
	}
}

// Whether an entry lives hangs on Now.
func TestRestsAsNowGoesOn(t *testing.T) {
	entries := manyEntries(2)
	entries[1].Inner = entries[0].Inner
	entries[0].Last, entries[1].Last = 0, 3
	for now := range 14 {
		b := withEntries(entries...)
		b.Now = now
		wantOk(t, now >= 8 && now <= 11, b, "two of one flow")
	}
}

// What entries may share with each other and with doors, as nothing bars it.
func TestWhatMayBeShared(t *testing.T) {
	b := plainBook()
	b.Doors[0].Inner, b.Doors[0].InnerPort = b.Entries[0].Inner, b.Entries[0].InnerPort
	wantOk(t, true, b, "a door and an entry of one Inner and InnerPort")
	d := plainBook().Entries[0]
	for name, e := range map[string]impl.NatEntry{
		"one Outer to two peers":      {Kind: 1, Peer: 51203, PeerPort: 80, Outer: 40, Inner: 2562, InnerPort: 7, Last: 95},
		"one Outer to two peer ports": {Kind: 1, Peer: 51202, PeerPort: 81, Outer: 40, Inner: 2562, InnerPort: 7, Last: 95},
		"one Outer of two kinds":      {Kind: 2, Peer: 51202, PeerPort: 80, Outer: 40, Inner: 2562, InnerPort: 7, Last: 95},
		"one peer of two inside":      {Kind: 1, Peer: 51202, PeerPort: 80, Outer: 41, Inner: 2563, InnerPort: 7, Last: 95},
		"one peer of two ports":       {Kind: 1, Peer: 51202, PeerPort: 80, Outer: 41, Inner: 2562, InnerPort: 8, Last: 95},
	} {
		wantOk(t, true, withEntries(d, e), name)
	}
}

func TestExampleBook(t *testing.T) {
	wantOk(t, true, exampleBook(), "example")
}

// Wild numbers everywhere at once: refused, and answered.
func TestWildBooks(t *testing.T) {
	wild := []int{math.MinInt, math.MinInt + 1, -65536, -1, 0, 1, 17, 65536, math.MaxInt - 1, math.MaxInt}
	for _, v := range wild {
		for _, w := range wild {
			d := impl.NatDoor{Kind: v, Outer: w, Inner: v, InnerPort: w}
			e := impl.NatEntry{Kind: w, Peer: v, PeerPort: w, Outer: v, Inner: w, InnerPort: v, Last: w}
			b := impl.NatBook{Addr: v, Len: w, Own: v, Low: w, High: v, Now: w, Doors: []impl.NatDoor{d, d}, Entries: []impl.NatEntry{e, e}}
			wantOk(t, false, b, "wild")
			b = bareBook()
			b.Doors = []impl.NatDoor{d, d}
			wantOk(t, false, b, "wild doors")
			b = bareBook()
			b.Entries = []impl.NatEntry{e, e}
			wantOk(t, false, b, "wild entries")
			b = plainBook()
			b.Addr, b.Len, b.Low, b.Now = v, w, w, v
			wantOk(t, false, b, "wild book")
		}
	}
}
