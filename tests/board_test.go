package tests

import (
	"strconv"
	"testing"

	"loop.example/ternnat/impl"
)

// exampleBook is the book of the document's example.
func exampleBook() impl.NatBook {
	return impl.NatBook{
		Addr: 2560, Len: 8, Own: 51201, Low: 40, High: 41, Now: 9,
		Doors: []impl.NatDoor{{Kind: 1, Outer: 22, Inner: 2561, InnerPort: 22}},
		Entries: []impl.NatEntry{
			{Kind: 1, Peer: 51202, PeerPort: 80, Outer: 40, Inner: 2562, InnerPort: 7, Last: 0},
			{Kind: 1, Peer: 51202, PeerPort: 80, Outer: 41, Inner: 2563, InnerPort: 7, Last: 8},
		},
	}
}

// boardText is the text of the document's example, sign by sign.
const boardText = "now 9\n" +
	"door 1 200.1:22 to 10.1:22\n" +
	"flow 1 10.2:7 as 200.1:40 to 200.2:80 rests 3\n" +
	"flow 1 10.3:7 as 200.1:41 to 200.2:80 left 7\n"

func TestBoardExample(t *testing.T) {
	if got := boardOf(t, exampleBook()); got != boardText {
		t.Errorf("the board is %q, not %q", got, boardText)
	}
}

// The document's example as its words tell it: the flows go out, and ticks pass.
func TestBoardExampleByPassing(t *testing.T) {
	b := exampleBook()
	b.Now, b.Entries = 0, nil
	wantBoard(t, "at first", b, "now 0", "door 1 200.1:22 to 10.1:22")
	b = wantOut(t, "at 0", b, impl.NatFlow{Kind: 1, From: 2562, FromPort: 7, To: 51202, ToPort: 80}, 0, 40)
	wantBoard(t, "one went out", b, "now 0", "door 1 200.1:22 to 10.1:22", "flow 1 10.2:7 as 200.1:40 to 200.2:80 left 8")
	b = afterTicks(t, b, 8)
	b = wantOut(t, "at 8", b, impl.NatFlow{Kind: 1, From: 2563, FromPort: 7, To: 51202, ToPort: 80}, 0, 41)
	wantBoard(t, "both went out", b, "now 8", "door 1 200.1:22 to 10.1:22",
		"flow 1 10.2:7 as 200.1:40 to 200.2:80 rests 4", "flow 1 10.3:7 as 200.1:41 to 200.2:80 left 8")
	b = afterTicks(t, b, 1)
	if !sameBook(b, exampleBook()) {
		t.Errorf("the book is %+v", b)
	}
	if got := boardOf(t, b); got != boardText {
		t.Errorf("the board is %q, not %q", got, boardText)
	}
	b = afterTicks(t, b, 2)
	wantBoard(t, "the last tick of the first", b, "now 11", "door 1 200.1:22 to 10.1:22",
		"flow 1 10.2:7 as 200.1:40 to 200.2:80 rests 1", "flow 1 10.3:7 as 200.1:41 to 200.2:80 left 5")
	b = afterTicks(t, b, 1)
	wantBoard(t, "the first is gone", b, "now 12", "door 1 200.1:22 to 10.1:22", "flow 1 10.3:7 as 200.1:41 to 200.2:80 left 4")
	b = afterTicks(t, b, 8)
	wantBoard(t, "both are gone", b, "now 20", "door 1 200.1:22 to 10.1:22")
}

// agesOnBoard is how the line of an entry ends, by its age.
func agesOnBoard() []string {
	return []string{
		"left 8", "left 7", "left 6", "left 5", "left 4", "left 3", "left 2", "left 1",
		"rests 4", "rests 3", "rests 2", "rests 1",
	}
}

// An entry of each age, at every Now at which it may be so old, and past either end of its time.
func TestBoardAges(t *testing.T) {
	for age, end := range agesOnBoard() {
		for _, now := range []int{0, 1, 2, 3, 4, 5, 6, 7, 8, 9, 10, 11, 12, 13, 100, 65536, 999999, 1000000} {
			b := withEntries(plainBook().Entries...)
			b.Now, b.Entries[0].Last = now, now-age
			if now < age {
				wantBoard(t, "it went out ahead of 0", b)
				continue
			}
			wantBoard(t, "an age", b, "now "+strconv.Itoa(now), "flow 1 10.2:7 as 200.1:40 to 200.2:80 "+end)
		}
	}
	for _, age := range []int{-100, -1, 12, 13, 100} {
		b := withEntries(plainBook().Entries...)
		b.Entries[0].Last = b.Now - age
		wantBoard(t, "no age of an entry", b)
	}
}

// An entry as it grows old tick by tick, till it is gone; going out again makes it new.
func TestBoardAsTicksPass(t *testing.T) {
	for _, start := range []int{0, 5, 999988} {
		b := begun(t, start)
		for age, end := range agesOnBoard() {
			wantBoard(t, "as ticks pass", b, "now "+strconv.Itoa(start+age), "flow 1 10.2:7 as 200.1:40 to 200.2:80 "+end)
			if age < 8 {
				again := wantOut(t, "again", b, plainFlow(), 0, 40)
				wantBoard(t, "again", again, "now "+strconv.Itoa(start+age), "flow 1 10.2:7 as 200.1:40 to 200.2:80 left 8")
			} else {
				anew := wantOut(t, "anew", b, plainFlow(), 0, 41)
				wantBoard(t, "anew", anew, "now "+strconv.Itoa(start+age),
					"flow 1 10.2:7 as 200.1:40 to 200.2:80 "+end, "flow 1 10.2:7 as 200.1:41 to 200.2:80 left 8")
			}
			b = afterTicks(t, b, 1)
		}
		wantBoard(t, "gone", b, "now "+strconv.Itoa(start+12))
	}
}

// Entries of all ages in one book: each line is told by its own entry.
func TestBoardOfAllAges(t *testing.T) {
	for shift := range 12 {
		b := withEntries(manyEntries(12)...)
		lines := []string{"now 100"}
		for i := range b.Entries {
			age := (i*5 + shift) % 12
			b.Entries[i].Last = 100 - age
			lines = append(lines, "flow 2 10."+strconv.Itoa(i)+":7 as 200.1:"+strconv.Itoa(40+i)+" to 200.2:80 "+agesOnBoard()[age])
		}
		wantBoard(t, "all ages", b, lines...)
	}
}

// writtenAddr is an address, and how it is written.
type writtenAddr struct {
	addr    int
	written string
}

func writtenAddrs() []writtenAddr {
	return []writtenAddr{
		{0, "0.0"}, {1, "0.1"}, {9, "0.9"}, {10, "0.10"}, {100, "0.100"}, {254, "0.254"}, {255, "0.255"}, {256, "1.0"}, {257, "1.1"},
		{511, "1.255"}, {512, "2.0"}, {2560, "10.0"}, {25600, "100.0"}, {25610, "100.10"}, {32767, "127.255"}, {32768, "128.0"},
		{51201, "200.1"}, {65279, "254.255"}, {65280, "255.0"}, {65281, "255.1"}, {65534, "255.254"}, {65535, "255.255"},
	}
}

// Each address as each of the three that a line has.
func TestBoardAddresses(t *testing.T) {
	all := writtenAddrs()
	for i, inner := range all {
		for j, own := range all {
			peer := all[(i+1)%len(all)]
			if (i+1)%len(all) == j {
				peer = all[(i+2)%len(all)]
			}
			b := impl.NatBook{
				Addr: inner.addr, Len: 16, Own: own.addr, Low: 5, High: 5, Now: 3,
				Doors:   []impl.NatDoor{{Kind: 4, Outer: 6, Inner: inner.addr, InnerPort: 8}},
				Entries: []impl.NatEntry{{Kind: 3, Peer: peer.addr, PeerPort: 9, Outer: 5, Inner: inner.addr, InnerPort: 2, Last: 3}},
			}
			if i == j {
				wantBoard(t, "Own is inside", b)
				continue
			}
			wantBoard(t, "addresses", b, "now 3", "door 4 "+own.written+":6 to "+inner.written+":8",
				"flow 3 "+inner.written+":2 as "+own.written+":5 to "+peer.written+":9 left 8")
		}
	}
}

// Every address there is, as Inner, Own and Peer.
func TestBoardEveryAddress(t *testing.T) {
	written := func(a int) string { return strconv.Itoa(a>>8) + "." + strconv.Itoa(a&255) }
	for a := range 65536 {
		own, peer := (a+300)%65536, (a+40000)%65536
		b := impl.NatBook{
			Addr: a, Len: 16, Own: own, Low: 5, High: 5,
			Doors:   []impl.NatDoor{{Kind: 4, Outer: 6, Inner: a, InnerPort: 8}},
			Entries: []impl.NatEntry{{Kind: 3, Peer: peer, PeerPort: 9, Outer: 5, Inner: a, InnerPort: 2}},
		}
		want := "now 0\ndoor 4 " + written(own) + ":6 to " + written(a) + ":8\n" +
			"flow 3 " + written(a) + ":2 as " + written(own) + ":5 to " + written(peer) + ":9 left 8\n"
		if got := impl.NatBoard(b); got != want {
			t.Fatalf("the board is %q, not %q", got, want)
		}
	}
}

// Each port by itself at its ends, and where it gains a digit.
func TestBoardPorts(t *testing.T) {
	for _, p := range []int{1, 2, 9, 10, 11, 99, 100, 255, 256, 999, 1000, 9999, 10000, 40000, 65534, 65535} {
		port := strconv.Itoa(p)
		b := plainBook()
		b.Low, b.High = 50000, 50000
		b.Entries[0].Outer = 50000
		b.Doors[0].Outer = p
		wantLine(t, "Outer of a door", b, 1, "door 1 200.1:"+port+" to 10.1:22")
		b.Doors[0].Outer, b.Doors[0].InnerPort = 22, p
		wantLine(t, "InnerPort of a door", b, 1, "door 1 200.1:22 to 10.1:"+port)
		b.Entries[0].InnerPort = p
		wantLine(t, "InnerPort of an entry", b, 2, "flow 1 10.2:"+port+" as 200.1:50000 to 200.2:80 left 3")
		b.Entries[0].InnerPort, b.Entries[0].PeerPort = 7, p
		wantLine(t, "PeerPort", b, 2, "flow 1 10.2:7 as 200.1:50000 to 200.2:"+port+" left 3")
		b.Entries[0].PeerPort, b.Entries[0].Outer = 80, p
		b.Low, b.High, b.Doors = p, p, nil
		wantLine(t, "Outer of an entry", b, 1, "flow 1 10.2:7 as 200.1:"+port+" to 200.2:80 left 3")
	}
}

func TestBoardKinds(t *testing.T) {
	for kind := 1; kind <= 7; kind++ {
		k := strconv.Itoa(kind)
		b := plainBook()
		b.Doors[0].Kind = kind
		wantBoard(t, "kind of a door", b, "now 100", "door "+k+" 200.1:22 to 10.1:22", "flow 1 10.2:7 as 200.1:40 to 200.2:80 left 3")
		b = plainBook()
		b.Entries[0].Kind = kind
		wantBoard(t, "kind of an entry", b, "now 100", "door 1 200.1:22 to 10.1:22", "flow "+k+" 10.2:7 as 200.1:40 to 200.2:80 left 3")
	}
}

// What each number of a line stands for: all of them are different.
func TestBoardAllNumbersDiffer(t *testing.T) {
	b := impl.NatBook{
		Addr: 4096, Len: 4, Own: 12802, Low: 70, High: 90, Now: 64,
		Doors:   []impl.NatDoor{{Kind: 5, Outer: 33, Inner: 4613, InnerPort: 44}},
		Entries: []impl.NatEntry{{Kind: 6, Peer: 15390, PeerPort: 55, Outer: 77, Inner: 5128, InnerPort: 66, Last: 62}},
	}
	wantBoard(t, "living", b, "now 64", "door 5 50.2:33 to 18.5:44", "flow 6 20.8:66 as 50.2:77 to 60.30:55 left 6")
	b.Entries[0].Last = 54
	wantBoard(t, "resting", b, "now 64", "door 5 50.2:33 to 18.5:44", "flow 6 20.8:66 as 50.2:77 to 60.30:55 rests 2")
}

// Without doors and entries there is a line for Now yet.
func TestBoardBare(t *testing.T) {
	for now, line := range map[int]string{0: "now 0", 1: "now 1", 9: "now 9", 10: "now 10", 65536: "now 65536", 999999: "now 999999", 1000000: "now 1000000"} {
		b := bareBook()
		b.Now = now
		wantBoard(t, "bare", b, line)
	}
	for _, now := range []int{-1, -1000000, 1000001} {
		b := bareBook()
		b.Now = now
		wantBoard(t, "no Now", b)
	}
}

// With as many doors as may be, or fewer, each has its line; one more, and there is no board. Entries likewise.
func TestBoardHowMany(t *testing.T) {
	for n := range 9 {
		for m := range 19 {
			b := bareBook()
			b.Doors, b.Entries = manyDoors(n), manyEntries(m)
			lines := []string{"now 100"}
			for i := range n {
				lines = append(lines, "door 1 200.1:"+strconv.Itoa(10+i)+" to 10."+strconv.Itoa(i)+":22")
			}
			for i := range m {
				lines = append(lines, "flow 2 10."+strconv.Itoa(i)+":7 as 200.1:"+strconv.Itoa(40+i)+" to 200.2:80 left 8")
			}
			if n > 6 || m > 16 {
				lines = nil
			}
			wantBoard(t, "how many", b, lines...)
		}
	}
}

// The lines stand as the lists do: doors ahead of entries whatever their kinds, and by number where the order of their signs is another.
func TestBoardOrder(t *testing.T) {
	b := bareBook()
	b.Low, b.High = 9, 100
	b.Doors = []impl.NatDoor{
		{Kind: 2, Outer: 8, Inner: 2579, InnerPort: 22},
		{Kind: 2, Outer: 1000, Inner: 2562, InnerPort: 22},
		{Kind: 7, Outer: 1, Inner: 2560, InnerPort: 22},
	}
	b.Entries = []impl.NatEntry{
		{Kind: 1, Peer: 9, PeerPort: 80, Outer: 9, Inner: 2590, InnerPort: 7, Last: 90},
		{Kind: 1, Peer: 9, PeerPort: 80, Outer: 10, Inner: 2560, InnerPort: 7, Last: 100},
		{Kind: 1, Peer: 9, PeerPort: 100, Outer: 9, Inner: 2590, InnerPort: 7, Last: 89},
		{Kind: 1, Peer: 1024, PeerPort: 9, Outer: 100, Inner: 2570, InnerPort: 7, Last: 93},
		{Kind: 1, Peer: 2304, PeerPort: 9, Outer: 100, Inner: 2570, InnerPort: 7, Last: 92},
		{Kind: 6, Peer: 8, PeerPort: 1, Outer: 9, Inner: 2569, InnerPort: 1, Last: 100},
	}
	wantBoard(t, "order", b, "now 100",
		"door 2 200.1:8 to 10.19:22",
		"door 2 200.1:1000 to 10.2:22",
		"door 7 200.1:1 to 10.0:22",
		"flow 1 10.30:7 as 200.1:9 to 0.9:80 rests 2",
		"flow 1 10.0:7 as 200.1:10 to 0.9:80 left 8",
		"flow 1 10.30:7 as 200.1:9 to 0.9:100 rests 1",
		"flow 1 10.10:7 as 200.1:100 to 4.0:9 left 1",
		"flow 1 10.10:7 as 200.1:100 to 9.0:9 rests 4",
		"flow 6 10.9:1 as 200.1:9 to 0.8:1 left 8",
	)
}

// Lines that are like each other but for one sign, and a door and an entry that serve one flow, have each a line of its own.
func TestBoardKeepsLikeLines(t *testing.T) {
	b := bareBook()
	b.Doors = []impl.NatDoor{{Kind: 1, Outer: 22, Inner: 2562, InnerPort: 7}, {Kind: 2, Outer: 22, Inner: 2562, InnerPort: 7}}
	b.Entries = []impl.NatEntry{
		{Kind: 1, Peer: 51202, PeerPort: 80, Outer: 40, Inner: 2562, InnerPort: 7, Last: 92},
		{Kind: 1, Peer: 51202, PeerPort: 80, Outer: 41, Inner: 2562, InnerPort: 7, Last: 92},
		{Kind: 1, Peer: 51202, PeerPort: 80, Outer: 42, Inner: 2562, InnerPort: 7, Last: 100},
		{Kind: 2, Peer: 51202, PeerPort: 80, Outer: 42, Inner: 2562, InnerPort: 7, Last: 100},
	}
	wantBoard(t, "like lines", b, "now 100",
		"door 1 200.1:22 to 10.2:7",
		"door 2 200.1:22 to 10.2:7",
		"flow 1 10.2:7 as 200.1:40 to 200.2:80 rests 4",
		"flow 1 10.2:7 as 200.1:41 to 200.2:80 rests 4",
		"flow 1 10.2:7 as 200.1:42 to 200.2:80 left 8",
		"flow 2 10.2:7 as 200.1:42 to 200.2:80 left 8",
	)
}
