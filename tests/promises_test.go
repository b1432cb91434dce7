package tests

import (
	"math/rand/v2"
	"testing"

	"loop.example/ternnat/impl"
)

// passage is a flow that went out: when, and as what.
type passage struct {
	at              int
	inside, outside impl.NatFlow
}

// world is a book that began without entries, and all that went out of it.
type world struct {
	book impl.NatBook
	gone []passage
}

// worldByChance has few addresses and ports, so that flows often meet; some begin not long ahead of the last tick.
func worldByChance(r *rand.Rand) *world {
	b := impl.NatBook{Addr: 2560, Len: 8, Own: 51201, Low: 40, High: 40 + r.IntN(6), Now: r.IntN(3)}
	if r.IntN(6) == 0 {
		b.Now = 1000000 - r.IntN(60)
	}
	for kind := 1; kind <= 2; kind++ {
		if r.IntN(2) == 0 {
			b.Doors = append(b.Doors, impl.NatDoor{Kind: kind, Outer: 22, Inner: 2560, InnerPort: 7})
		}
	}
	return &world{book: b}
}

// flowOf is one of the few flows from inside.
func flowOf(r *rand.Rand) impl.NatFlow {
	return impl.NatFlow{Kind: 1 + r.IntN(2), From: 2560 + r.IntN(3), FromPort: 7 + r.IntN(2), To: 51202 + r.IntN(2), ToPort: 80 + r.IntN(2)}
}

// fromOutside are all flows that could come in to a book of a world, and some that could not.
func fromOutside(b impl.NatBook) []impl.NatFlow {
	var all []impl.NatFlow
	for kind := 1; kind <= 3; kind++ {
		for peer := 51202; peer <= 51204; peer++ {
			for port := 79; port <= 81; port++ {
				for _, outer := range []int{7, 22, 39, 40, 41, 42, 43, 44, 45, 46} {
					all = append(all, impl.NatFlow{Kind: kind, From: peer, FromPort: port, To: b.Own, ToPort: outer})
				}
			}
		}
	}
	return all
}

func hasDoor(b impl.NatBook, f impl.NatFlow) (impl.NatDoor, bool) {
	for _, d := range b.Doors {
		if d.Kind == f.Kind && d.Outer == f.ToPort {
			return d, true
		}
	}
	return impl.NatDoor{}, false
}

// asker is the last flow that went out within NatLife ticks as what this one answers.
func (w *world) asker(f impl.NatFlow) (impl.NatFlow, bool) {
	for i := len(w.gone) - 1; i >= 0 && w.book.Now-w.gone[i].at < impl.NatLife; i-- {
		if w.gone[i].outside == impl.NatBack(f) {
			return w.gone[i].inside, true
		}
	}
	return impl.NatFlow{}, false
}

// checkPromise1 asks for every flow whether it comes in just as what went out says; it tells how many come in by an entry.
func (w *world) checkPromise1(t *testing.T) int {
	t.Helper()
	answers := 0
	for _, f := range fromOutside(w.book) {
		got, code := impl.NatIn(w.book, f)
		want, wantCode := impl.NatFlow{}, 6
		if d, ok := hasDoor(w.book, f); ok {
			want, wantCode = impl.NatFlow{Kind: f.Kind, From: f.From, FromPort: f.FromPort, To: d.Inner, ToPort: d.InnerPort}, 0
		} else if asked, ok := w.asker(f); ok {
			want, wantCode = impl.NatBack(asked), 0
			answers++
		}
		if got != want || code != wantCode {
			t.Fatalf("promise 1: %+v comes in as %+v with code %d, not as %+v with code %d: %+v", f, got, code, want, wantCode, w.book)
		}
	}
	return answers
}

// checkPromise2 holds what went out last against all that went out not long ahead of it.
func (w *world) checkPromise2(t *testing.T) {
	t.Helper()
	last := w.gone[len(w.gone)-1]
	for i := len(w.gone) - 2; i >= 0 && last.at-w.gone[i].at < impl.NatLife+impl.NatRest; i-- {
		if w.gone[i].outside == last.outside && w.gone[i].inside != last.inside {
			t.Fatalf("promise 2: %+v and %+v", w.gone[i], last)
		}
	}
}

// checkPromise3 asks there and back of a flow that went out, with the book behind it.
func checkPromise3(t *testing.T, f impl.NatFlow, a told) {
	t.Helper()
	if back, code := impl.NatIn(a.book, impl.NatBack(a.flow)); code != 0 || back != impl.NatBack(f) {
		t.Fatalf("promise 3: %+v goes out as %+v, its answer comes in as %+v with code %d: %+v", f, a.flow, back, code, a.book)
	}
	if again := goOut(t, a.book, f); !again.same(a) {
		t.Fatalf("promise 3: %+v goes out as %+v, and once more as %+v: %+v, behind it %+v", f, a.flow, again.flow, a.book, again.book)
	}
}

// send lets a flow go out of the world, and holds it against promises 2 and 3; it tells the code.
func (w *world) send(t *testing.T, f impl.NatFlow) int {
	t.Helper()
	a := goOut(t, w.book, f)
	if a.code == 0 {
		w.gone = append(w.gone, passage{w.book.Now, f, a.flow})
		w.book = a.book
		w.checkPromise2(t)
		checkPromise3(t, f, a)
	}
	return a.code
}

// wait lets ticks pass; they are refused at the last one alone.
func (w *world) wait(t *testing.T, n int) {
	t.Helper()
	for range n {
		a := passTick(t, w.book)
		if (a.code == 2) != (w.book.Now == 1000000) || a.code == 1 {
			t.Fatalf("a tick with code %d: %+v", a.code, w.book)
		}
		w.book = a.book
	}
}

// Long runs in which flows go out and come in and ticks pass, now fast and now slowly: promises 1, 2, 3 and 4.
func TestLongRuns(t *testing.T) {
	r := rand.New(rand.NewPCG(11, 4))
	var codes [7]int
	answers := 0
	for range 60 {
		w := worldByChance(r)
		pace := 2 + r.IntN(8)
		for range 150 {
			if r.IntN(10) < pace {
				codes[w.send(t, flowOf(r))]++
			} else {
				w.wait(t, 1+r.IntN(8)/7*r.IntN(8))
			}
			if r.IntN(3) == 0 {
				answers += w.checkPromise1(t)
				checkPromise4(t, w.book)
			}
		}
	}
	if codes[0] < 1000 || codes[4] < 50 || codes[5] < 50 || answers < 1000 {
		t.Errorf("too seldom to tell much: codes %v, %d answers", codes, answers)
	}
}

// checkPromise4 asks for each flow from outside whether it comes in just if the book has a door or an entry that lives for it,
// to somebody inside and from whom it was; it tells how many come in.
func checkPromise4(t *testing.T, b impl.NatBook) int {
	t.Helper()
	in := 0
	flows := fromOutside(b)
	for _, e := range b.Entries {
		flows = append(flows, answerTo(b, e))
	}
	for _, d := range b.Doors {
		flows = append(flows, impl.NatFlow{Kind: d.Kind, From: (b.Own + 1) % 65536, FromPort: 9, To: b.Own, ToPort: d.Outer})
	}
	for _, f := range flows {
		got, code := impl.NatIn(b, f)
		if want := letsIn(b, f); (code == 0) != want {
			t.Fatalf("promise 4: %+v comes in to %+v with code %d", f, b, code)
		}
		if code == 0 {
			in++
			if got.Kind != f.Kind || got.From != f.From || got.FromPort != f.FromPort || !impl.NatInside(b, got.To) {
				t.Fatalf("promise 4: %+v comes in to %+v as %+v", f, b, got)
			}
		}
	}
	return in
}

// letsIn says whether there is a door, or an entry that lives, for a flow from outside.
func letsIn(b impl.NatBook, f impl.NatFlow) bool {
	if f.From == b.Own || insideByDocument(b, f.From) {
		return false
	}
	if _, ok := hasDoor(b, f); ok {
		return true
	}
	for _, e := range b.Entries {
		if b.Now-e.Last < impl.NatLife && answerTo(b, e) == f {
			return true
		}
	}
	return false
}

// okBookByChance draws till a book is ok.
func okBookByChance(r *rand.Rand) impl.NatBook {
	for {
		b := crowded(r)
		if r.IntN(2) == 0 {
			b = bookByChance(r)
		}
		if okByDocument(b) {
			return b
		}
	}
}

// Promise 4 in books of any sort, not only such as came by NatOut.
func TestPromise4(t *testing.T) {
	r := rand.New(rand.NewPCG(12, 4))
	in := 0
	for range 600 {
		in += checkPromise4(t, okBookByChance(r))
	}
	if in < 1000 {
		t.Errorf("%d flows come in: too few to tell much", in)
	}
}

// Promise 5: behind 8 ticks only doors let in, behind 4 more there are no entries; and not sooner, for what went out last.
func TestPromise5(t *testing.T) {
	r := rand.New(rand.NewPCG(13, 5))
	for range 600 {
		b := okBookByChance(r)
		if r.IntN(2) == 0 {
			b = moved(b, 1000000-12-b.Now)
		}
		a := goOut(t, b, flowOf(r))
		if a.code == 0 {
			b = a.book
		}
		behind := afterTicks(t, b, impl.NatLife)
		for _, e := range b.Entries {
			if _, code := impl.NatIn(behind, answerTo(b, e)); code != 6 {
				t.Fatalf("promise 5: %+v lets in with code %d: %+v", e, code, behind)
			}
		}
		for _, f := range fromOutside(b) {
			if _, door := hasDoor(b, f); !door {
				if _, code := impl.NatIn(behind, f); code == 0 {
					t.Fatalf("promise 5: %+v comes in to %+v", f, behind)
				}
			}
		}
		if len(b.Doors) != len(behind.Doors) {
			t.Fatalf("promise 5: doors go: %+v", behind)
		}
		if behind = afterTicks(t, behind, impl.NatRest); len(behind.Entries) != 0 {
			t.Fatalf("promise 5: entries are left: %+v", behind)
		}
	}
}

// Promise 5 at its edges: an entry of this tick lets in behind 7 ticks, and is there behind 11.
func TestPromise5NotSooner(t *testing.T) {
	for _, start := range []int{0, 100, 999988} {
		b := begun(t, start)
		answer := answerTo(b, b.Entries[0])
		b = afterTicks(t, b, impl.NatLife-1)
		wantIn(t, "promise 5, one tick sooner", b, answer, 2562, 7)
		b = afterTicks(t, b, impl.NatRest)
		if len(b.Entries) != 1 {
			t.Errorf("promise 5: gone one tick sooner: %+v", b)
		}
	}
}

// apartFlows are n flows of which no two are of one Kind to one To and ToPort; some are of doors, some from one seat.
func apartFlows(r *rand.Rand, n int) []impl.NatFlow {
	var flows []impl.NatFlow
	for _, key := range r.Perm(7 * 3 * 3)[:n] {
		flows = append(flows, impl.NatFlow{Kind: 1 + key/9, From: 2560 + r.IntN(2), FromPort: 7 + r.IntN(2), To: 51202 + key/3%3, ToPort: 80 + key%3})
	}
	return flows
}

// outInOrder sends flows out in the order of their places given; it tells the book behind them, and each flow outside by its place.
func outInOrder(t *testing.T, b impl.NatBook, flows []impl.NatFlow, order []int) (impl.NatBook, []impl.NatFlow) {
	t.Helper()
	outside := make([]impl.NatFlow, len(flows))
	for _, i := range order {
		a := goOut(t, b, flows[i])
		if a.code != 0 {
			t.Fatalf("promise 6: %+v is refused with code %d: %+v", flows[i], a.code, b)
		}
		b, outside[i] = a.book, a.flow
	}
	return b, outside
}

// Promise 6: up to 16 flows in one tick, no two of one Kind to one To and ToPort, in any order.
func TestPromise6(t *testing.T) {
	r := rand.New(rand.NewPCG(14, 6))
	for round := range 150 {
		w := worldByChance(r)
		n := 1 + round%impl.NatMaxEntries
		flows := apartFlows(r, n)
		book, outside := outInOrder(t, w.book, flows, r.Perm(n))
		for range 4 {
			again, outsideAgain := outInOrder(t, w.book, flows, r.Perm(n))
			if !sameBook(book, again) {
				t.Fatalf("promise 6: %+v and %+v", book, again)
			}
			for i := range flows {
				if outside[i] != outsideAgain[i] {
					t.Fatalf("promise 6: %+v goes out as %+v and as %+v", flows[i], outside[i], outsideAgain[i])
				}
			}
		}
	}
}

// Promise 2 at its edge: a port is given to another 12 ticks behind the last time, and not 11 ticks behind it.
func TestPromise2Edge(t *testing.T) {
	other := plainFlow()
	other.From = 2563
	for age := range 12 {
		b := afterTicks(t, begun(t, 100), age)
		wantOut(t, "promise 2, another port", b, other, 0, 41)
	}
	b := afterTicks(t, begun(t, 100), 12)
	wantOut(t, "promise 2, the port anew", b, other, 0, 40)
	b = afterTicks(t, begun(t, 100), 5)
	b = wantOut(t, "again", b, plainFlow(), 0, 40)
	b = afterTicks(t, b, 11)
	wantOut(t, "promise 2, counted from the last time", b, other, 0, 41)
	b = afterTicks(t, b, 1)
	wantOut(t, "promise 2, the port anew", b, other, 0, 40)
}

// Promise 1 at its edge: a port given anew answers to its new flow, and to nobody between.
func TestPromise1PortGivenAnew(t *testing.T) {
	other := plainFlow()
	other.From, other.FromPort = 2563, 9
	b := begun(t, 100)
	answer := answerTo(b, b.Entries[0])
	wantIn(t, "promise 1, the first", b, answer, 2562, 7)
	b = afterTicks(t, b, 12)
	wantNotIn(t, "promise 1, nobody", b, answer, 6)
	b = wantOut(t, "anew", b, other, 0, 40)
	wantIn(t, "promise 1, the second", b, answer, 2563, 9)
}

// Promise 3 by a door, by an entry that is new and by one that lives, at the first and at the last tick.
func TestPromise3(t *testing.T) {
	for _, now := range []int{0, 100, 1000000} {
		b := moved(plainBook(), max(now-100, -95))
		b.Now = now
		for _, f := range []impl.NatFlow{
			plainFlow(),
			{Kind: 1, From: 2561, FromPort: 22, To: 9, ToPort: 9},
			{Kind: 1, From: 2561, FromPort: 22, To: 51202, ToPort: 80},
			{Kind: 1, From: 2815, FromPort: 65535, To: 65535, ToPort: 65535},
			{Kind: 7, From: 2560, FromPort: 1, To: 0, ToPort: 1},
			{Kind: 1, From: 2563, FromPort: 7, To: 51202, ToPort: 80},
		} {
			a := goOut(t, b, f)
			if a.code != 0 {
				t.Fatalf("%+v is refused with code %d: %+v", f, a.code, b)
			}
			checkPromise3(t, f, a)
		}
	}
}
