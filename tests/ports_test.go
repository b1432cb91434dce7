package tests

import (
	"slices"
	"testing"

	"loop.example/ternnat/impl"
)

// takenBook has entries of kind 2 to 51202 and 80 on the ports given, one that lives and one that rests in turn.
func takenBook(ports ...int) impl.NatBook {
	b := bareBook()
	b.High = 45
	for i, port := range ports {
		b.Entries = append(b.Entries, impl.NatEntry{Kind: 2, Peer: 51202, PeerPort: 80, Outer: port, Inner: 2560 + i, InnerPort: 7, Last: 100 - i%2*8})
	}
	return b
}

// Of each choice of ports that are taken: the least that is not, or 5.
func TestLeastFreePort(t *testing.T) {
	for bits := range 64 {
		var taken []int
		least := 0
		for port := 45; port >= 40; port-- {
			if bits>>(port-40)&1 == 1 {
				taken = append(taken, port)
			} else {
				least = port
			}
		}
		slices.Sort(taken)
		b := takenBook(taken...)
		if least == 0 {
			wantOut(t, "no port", b, fromFull(), 5, 0)
			continue
		}
		want := ownCopy(b)
		want.Entries = append(want.Entries, impl.NatEntry{Kind: 2, Peer: 51202, PeerPort: 80, Outer: least, Inner: 2700, InnerPort: 7, Last: 100})
		slices.SortFunc(want.Entries, func(d, e impl.NatEntry) int { return d.Outer - e.Outer })
		if behind := wantOut(t, "the least free port", b, fromFull(), 0, least); !sameBook(behind, want) {
			t.Errorf("ports %v: behind it %+v", taken, behind.Entries)
		}
	}
}

// A port is taken towards one port of one peer, of one kind, alone.
func TestPortFreeTowardsAnother(t *testing.T) {
	b := takenBook(40, 41, 42, 43, 44, 45)
	wantOut(t, "all are taken", b, fromFull(), 5, 0)
	for name, f := range map[string]impl.NatFlow{
		"another kind, less":         {Kind: 1, From: 2700, FromPort: 7, To: 51202, ToPort: 80},
		"another kind":               {Kind: 3, From: 2700, FromPort: 7, To: 51202, ToPort: 80},
		"another peer, less":         {Kind: 2, From: 2700, FromPort: 7, To: 51200, ToPort: 80},
		"another peer":               {Kind: 2, From: 2700, FromPort: 7, To: 51203, ToPort: 80},
		"another port of it, less":   {Kind: 2, From: 2700, FromPort: 7, To: 51202, ToPort: 79},
		"another port of it":         {Kind: 2, From: 2700, FromPort: 7, To: 51202, ToPort: 81},
		"the same inside, elsewhere": {Kind: 2, From: 2560, FromPort: 7, To: 51203, ToPort: 80},
	} {
		wantOut(t, name, b, f, 0, 40)
	}
	for _, f := range []impl.NatFlow{
		{Kind: 2, From: 2700, FromPort: 8, To: 51202, ToPort: 80},
		{Kind: 2, From: 2560, FromPort: 8, To: 51202, ToPort: 80},
		{Kind: 2, From: 2561, FromPort: 7, To: 51202, ToPort: 80},
	} {
		wantOut(t, "taken, whoever asks", b, f, 5, 0)
	}
}

// What rests takes its port at every age, up to the tick at which it is gone.
func TestRestingPortIsTaken(t *testing.T) {
	for age := range 12 {
		b := takenBook(40)
		b.High = 40
		b.Entries[0].Last = 100 - age
		wantOut(t, "taken", b, fromFull(), 5, 0)
		b.High = 41
		wantOut(t, "the next", b, fromFull(), 0, 41)
		b.High = 40
		b = afterTicks(t, b, 11-age)
		wantOut(t, "taken yet", b, fromFull(), 5, 0)
		b = afterTicks(t, b, 1)
		wantOut(t, "free", b, fromFull(), 0, 40)
	}
}

// Ports at the ends of what there is.
func TestPortsAtTheEnds(t *testing.T) {
	b := bareBook()
	b.Low, b.High = 1, 65535
	b = wantOut(t, "the first", b, fromFull(), 0, 1)
	f := fromFull()
	f.From = 2701
	wantOut(t, "the second", b, f, 0, 2)
	b = bareBook()
	b.Low, b.High = 65535, 65535
	b = wantOut(t, "the last", b, fromFull(), 0, 65535)
	wantOut(t, "past the last", b, f, 5, 0)
	b = bareBook()
	b.Low, b.High = 65534, 65535
	b = wantOut(t, "the last but one", b, fromFull(), 0, 65534)
	b = wantOut(t, "the last", b, f, 0, 65535)
	f.From = 2702
	wantOut(t, "past the last", b, f, 5, 0)
}

// Sixteen flows from one book to one peer have ports one behind the other; the seventeenth has no room.
func TestPortsOneByOne(t *testing.T) {
	b := bareBook()
	b.Low, b.High = 100, 200
	for i := range 16 {
		b = wantOut(t, "one by one", b, impl.NatFlow{Kind: 2, From: 2815 - i, FromPort: 7, To: 51202, ToPort: 80}, 0, 100+i)
		if len(b.Entries) != i+1 {
			t.Fatalf("%d entries behind %d flows", len(b.Entries), i+1)
		}
	}
	wantOut(t, "one too many", b, impl.NatFlow{Kind: 2, From: 2560, FromPort: 7, To: 51202, ToPort: 80}, 4, 0)
}

// A new entry stands by Kind, then Peer, then PeerPort, then Outer, whatever else it has.
func TestWhereNewEntryStands(t *testing.T) {
	of := func(key, outer int) impl.NatEntry {
		return impl.NatEntry{Kind: 3 + key/4, Peer: 9000 + key/2%2, PeerPort: 80 + key%2, Outer: outer, Inner: 2600, InnerPort: 7, Last: 95}
	}
	for bits := range 256 {
		b := bareBook()
		for key := range 8 {
			if bits>>key&1 == 1 {
				b.Entries = append(b.Entries, of(key, 40))
			}
		}
		for key := range 8 {
			e := of(key, 40+bits>>key&1)
			e.Inner, e.InnerPort, e.Last = 2815-key, 65535-key, 100
			want := ownCopy(b)
			want.Entries = append(want.Entries, e)
			slices.SortFunc(want.Entries, func(d, e impl.NatEntry) int { return slices.Compare(orderOf(d), orderOf(e)) })
			if behind := wantOut(t, "in order", b, asBegun(e), 0, e.Outer); !sameBook(behind, want) {
				t.Fatalf("%+v into %+v: %+v", e, b.Entries, behind.Entries)
			}
		}
	}
}

// The example of the board, by flows and ticks.
func TestExampleByFlows(t *testing.T) {
	b := impl.NatBook{Addr: 2560, Len: 8, Own: 51201, Low: 40, High: 41, Doors: []impl.NatDoor{{Kind: 1, Outer: 22, Inner: 2561, InnerPort: 22}}}
	f := plainFlow()
	b = wantOut(t, "at 0", b, f, 0, 40)
	b = afterTicks(t, b, 8)
	f.From = 2563
	b = wantOut(t, "at 8", b, f, 0, 41)
	b = afterTicks(t, b, 1)
	want := impl.NatBook{
		Addr: 2560, Len: 8, Own: 51201, Low: 40, High: 41, Now: 9,
		Doors: []impl.NatDoor{{Kind: 1, Outer: 22, Inner: 2561, InnerPort: 22}},
		Entries: []impl.NatEntry{
			{Kind: 1, Peer: 51202, PeerPort: 80, Outer: 40, Inner: 2562, InnerPort: 7, Last: 0},
			{Kind: 1, Peer: 51202, PeerPort: 80, Outer: 41, Inner: 2563, InnerPort: 7, Last: 8},
		},
	}
	if !sameBook(b, want) {
		t.Errorf("%+v", b)
	}
}
