package tests

import (
	"math/rand/v2"
	"slices"
	"testing"

	"loop.example/ternnat/impl"
)

// insideByDocument asks for a book that is ok.
func insideByDocument(b impl.NatBook, a int) bool {
	return a >= b.Addr && a < b.Addr+65536>>b.Len
}

func flowOkByDocument(f impl.NatFlow) bool {
	return f.Kind >= 1 && f.Kind <= 7 &&
		f.From >= 0 && f.From <= 65535 && f.To >= 0 && f.To <= 65535 &&
		f.FromPort >= 1 && f.FromPort <= 65535 && f.ToPort >= 1 && f.ToPort <= 65535
}

// outByDocument is NatOut of chapter 3 written out once more.
func outByDocument(b impl.NatBook, f impl.NatFlow) told {
	switch {
	case !okByDocument(b):
		return told{code: 1}
	case !flowOkByDocument(f):
		return told{book: b, code: 2}
	case !insideByDocument(b, f.From) || insideByDocument(b, f.To) || f.To == b.Own:
		return told{book: b, code: 3}
	}
	as := func(b impl.NatBook, port int) told {
		return told{book: b, flow: impl.NatFlow{Kind: f.Kind, From: b.Own, FromPort: port, To: f.To, ToPort: f.ToPort}}
	}
	for _, d := range b.Doors {
		if d.Kind == f.Kind && d.Inner == f.From && d.InnerPort == f.FromPort {
			return as(b, d.Outer)
		}
	}
	taken := map[int]bool{}
	behind := ownCopy(b)
	for i, e := range b.Entries {
		if e.Kind != f.Kind || e.Peer != f.To || e.PeerPort != f.ToPort {
			continue
		}
		taken[e.Outer] = true
		if e.Inner == f.From && e.InnerPort == f.FromPort && b.Now-e.Last <= 7 {
			behind.Entries[i].Last = b.Now
			return as(behind, e.Outer)
		}
	}
	if len(b.Entries) == 16 {
		return told{book: b, code: 4}
	}
	for port := b.Low; port <= b.High; port++ {
		if !taken[port] {
			behind.Entries = append(behind.Entries, impl.NatEntry{Kind: f.Kind, Peer: f.To, PeerPort: f.ToPort, Outer: port, Inner: f.From, InnerPort: f.FromPort, Last: b.Now})
			slices.SortFunc(behind.Entries, func(d, e impl.NatEntry) int { return slices.Compare(orderOf(d), orderOf(e)) })
			return as(behind, port)
		}
	}
	return told{book: b, code: 5}
}

// inByDocument is NatIn of chapter 3 written out once more.
func inByDocument(b impl.NatBook, f impl.NatFlow) told {
	switch {
	case !okByDocument(b):
		return told{code: 1}
	case !flowOkByDocument(f):
		return told{code: 2}
	case f.To != b.Own || insideByDocument(b, f.From) || f.From == b.Own:
		return told{code: 3}
	}
	to := func(inner, port int) told {
		return told{flow: impl.NatFlow{Kind: f.Kind, From: f.From, FromPort: f.FromPort, To: inner, ToPort: port}}
	}
	for _, d := range b.Doors {
		if d.Kind == f.Kind && d.Outer == f.ToPort {
			return to(d.Inner, d.InnerPort)
		}
	}
	for _, e := range b.Entries {
		if e.Kind == f.Kind && e.Peer == f.From && e.PeerPort == f.FromPort && e.Outer == f.ToPort && b.Now-e.Last <= 7 {
			return to(e.Inner, e.InnerPort)
		}
	}
	return told{code: 6}
}

// tickByDocument is NatTick of chapter 3 written out once more.
func tickByDocument(b impl.NatBook) told {
	if !okByDocument(b) {
		return told{code: 1}
	}
	if b.Now == 1000000 {
		return told{book: b, code: 2}
	}
	behind := b
	behind.Now++
	behind.Entries = nil
	for _, e := range b.Entries {
		if behind.Now-e.Last <= 11 {
			behind.Entries = append(behind.Entries, e)
		}
	}
	return told{book: behind}
}

// checkByDocument asks all three of a book and a flow, and tells their codes.
func checkByDocument(t *testing.T, b impl.NatBook, f impl.NatFlow) (out, in, tick int) {
	t.Helper()
	o, i, n := goOut(t, b, f), comeIn(t, b, f), passTick(t, b)
	if want := outByDocument(b, f); !o.same(want) {
		t.Errorf("%+v out of %+v: %+v, not %+v", f, b, o, want)
	}
	if want := inByDocument(b, f); !i.same(want) {
		t.Errorf("%+v in to %+v: %+v, not %+v", f, b, i, want)
	}
	if want := tickByDocument(b); !n.same(want) {
		t.Errorf("a tick of %+v: %+v, not %+v", b, n, want)
	}
	return o.code, i.code, n.code
}

// flowByChance is mostly one that has to do with the book: a flow of a door or an entry, or an answer, or one near it.
func flowByChance(r *rand.Rand, b impl.NatBook) impl.NatFlow {
	near := func(of ...int) int { return of[r.IntN(len(of))] }
	f := impl.NatFlow{Kind: 1 + r.IntN(7), From: b.Addr + r.IntN(3), FromPort: 1 + r.IntN(3), To: near(b.Own+1, b.Own-1, 9, b.Own, b.Addr), ToPort: 1 + r.IntN(2)}
	if len(b.Doors) > 0 && r.IntN(4) == 0 {
		d := b.Doors[r.IntN(len(b.Doors))]
		f = impl.NatFlow{Kind: d.Kind, From: d.Inner, FromPort: d.InnerPort, To: near(b.Own+1, b.Own-1, 9), ToPort: 1 + r.IntN(3)}
		if r.IntN(2) == 0 {
			f = impl.NatFlow{Kind: d.Kind, From: near(b.Own+1, b.Own-1, 9), FromPort: 1 + r.IntN(3), To: b.Own, ToPort: d.Outer}
		}
	} else if len(b.Entries) > 0 && r.IntN(4) > 0 {
		e := b.Entries[r.IntN(len(b.Entries))]
		f = asBegun(e)
		if r.IntN(2) == 0 {
			f = answerTo(b, e)
		}
	}
	if r.IntN(3) == 0 {
		n := []*int{&f.Kind, &f.From, &f.FromPort, &f.To, &f.ToPort}[r.IntN(5)]
		*n = near(*n+1, *n-1, *n+2, 0, 65536, b.Own, b.Addr, b.Low, b.High)
	}
	return f
}

// moved is the book with all its ticks so much later.
func moved(b impl.NatBook, by int) impl.NatBook {
	b = ownCopy(b)
	b.Now += by
	for i := range b.Entries {
		b.Entries[i].Last += by
	}
	return b
}

// crowded is a book by chance with few peers and ports, so that they are taken, and with many entries.
func crowded(r *rand.Rand) impl.NatBook {
	b := impl.NatBook{Addr: 2560, Len: 8 + r.IntN(8), Own: 51201, Low: 40, High: 40 + r.IntN(4), Now: 20}
	kinds, ports := 1+r.IntN(3), 1+r.IntN(2)
	for kind := 1; kind <= kinds; kind++ {
		for peer := range 2 {
			for port := 1; port <= ports; port++ {
				for outer := b.Low; outer <= b.High; outer++ {
					if len(b.Entries) < 16 && r.IntN(8) > 0 {
						b.Entries = append(b.Entries, impl.NatEntry{Kind: kind, Peer: b.Own + 1 + peer, PeerPort: port, Outer: outer, Inner: b.Addr + r.IntN(2), InnerPort: 1 + r.IntN(3), Last: 9 + r.IntN(12)})
					}
				}
			}
		}
	}
	if r.IntN(2) == 0 {
		b.Doors = []impl.NatDoor{{Kind: 1, Outer: 22, Inner: b.Addr, InnerPort: 1}}
	}
	return b
}

// Books and flows by chance, held against chapter 3 written out once more; each code comes up often.
func TestPassingByChance(t *testing.T) {
	r := rand.New(rand.NewPCG(5, 3))
	var outs, ins, ticks [7]int
	for i := range 30000 {
		b := crowded(r)
		if i%2 == 0 {
			b = bookByChance(r)
		}
		if r.IntN(8) == 0 {
			disturb(r, &b)
		}
		if r.IntN(4) == 0 {
			b = moved(b, 1000000-b.Now-r.IntN(2))
		}
		out, in, tick := checkByDocument(t, b, flowByChance(r, b))
		outs[out]++
		ins[in]++
		ticks[tick]++
		if t.Failed() {
			t.FailNow()
		}
	}
	for code := range 7 {
		if code != 6 && outs[code] < 200 || code != 4 && code != 5 && ins[code] < 200 || code < 3 && ticks[code] < 200 {
			t.Errorf("code %d comes up too seldom to tell much: %v, %v, %v", code, outs, ins, ticks)
		}
	}
}
