package impl

import "cmp"

// Limits of books.
const (
	NatMaxDoors   = 6
	NatMaxEntries = 16
	NatMaxTick    = 1000000
	NatLife       = 8
	NatRest       = 4
)

// NatDoor lets flows come in to a port: to an address and a port inside.
type NatDoor struct {
	Kind      int
	Outer     int
	Inner     int
	InnerPort int
}

// NatEntry is a flow that somebody inside began: to which peer, under which port.
type NatEntry struct {
	Kind      int
	Peer      int
	PeerPort  int
	Outer     int
	Inner     int
	InnerPort int
	Last      int
}

// NatBook is all flows under one address.
type NatBook struct {
	Addr    int
	Len     int
	Own     int
	Low     int
	High    int
	Doors   []NatDoor
	Now     int
	Entries []NatEntry
}

// natCheck is one condition of a book.
type natCheck func(b NatBook) bool

// natSeat is somebody inside to whom flows of a kind come.
type natSeat struct {
	kind  int
	inner int
	port  int
}

// NatBookOk says whether a book is ok.
func NatBookOk(b NatBook) bool {
	for _, holds := range natChecks() {
		if !holds(b) {
			return false
		}
	}
	return true
}

// NatInside says whether an address is inside.
func NatInside(b NatBook, addr int) bool {
	return NatBookOk(b) && natIsInside(b, addr)
}

// natChecks lists the conditions such that each may lean on those ahead of it:
// what is inside is asked only once Addr and Len are known to be sound, what lives only once each Last is.
func natChecks() []natCheck {
	return []natCheck{
		natRangeOk,
		natOwnOk,
		natPortsOk,
		natNowOk,
		natDoorsOk,
		natDoorsOrdered,
		natDoorsApart,
		natEntriesOk,
		natEntriesOrdered,
		natLivingApart,
	}
}

func natRangeOk(b NatBook) bool {
	return natWithin(b.Len, 0, NatBits) && natIsAddr(b.Addr) && b.Addr%natSize(b) == 0
}

func natOwnOk(b NatBook) bool {
	return natIsAddr(b.Own) && !natIsInside(b, b.Own)
}

func natPortsOk(b NatBook) bool {
	return 1 <= b.Low && b.Low <= b.High && b.High <= NatMaxPort
}

func natNowOk(b NatBook) bool {
	return natWithin(b.Now, 0, NatMaxTick)
}

func natDoorsOk(b NatBook) bool {
	if len(b.Doors) > NatMaxDoors {
		return false
	}
	for _, d := range b.Doors {
		if !natDoorOk(b, d) {
			return false
		}
	}
	return true
}

func natDoorOk(b NatBook, d NatDoor) bool {
	return natIsKind(d.Kind) &&
		natIsPort(d.Outer) && !natWithin(d.Outer, b.Low, b.High) &&
		natIsInside(b, d.Inner) && natIsPort(d.InnerPort)
}

func natDoorsOrdered(b NatBook) bool {
	return natNeighbours(b.Doors, natDoorAhead)
}

func natDoorAhead(d, e NatDoor) bool {
	return cmp.Or(
		cmp.Compare(d.Kind, e.Kind),
		cmp.Compare(d.Outer, e.Outer),
	) < 0
}

func natDoorsApart(b NatBook) bool {
	return natApart(b.Doors, NatDoor.seat)
}

func (d NatDoor) seat() natSeat {
	return natSeat{kind: d.Kind, inner: d.Inner, port: d.InnerPort}
}

func natEntriesOk(b NatBook) bool {
	if len(b.Entries) > NatMaxEntries {
		return false
	}
	for _, e := range b.Entries {
		if !natEntryOk(b, e) {
			return false
		}
	}
	return true
}

func natEntryOk(b NatBook, e NatEntry) bool {
	return NatFlowOk(natEntryFlow(e)) &&
		natIsInside(b, e.Inner) &&
		natIsPeer(b, e.Peer) &&
		natWithin(e.Outer, b.Low, b.High) &&
		natWithin(e.Last, 0, b.Now) && b.Now-e.Last < NatLife+NatRest
}

func natEntriesOrdered(b NatBook) bool {
	return natNeighbours(b.Entries, natEntryAhead)
}

func natEntryAhead(d, e NatEntry) bool {
	return natEntryOrder(d, e) < 0
}

func natEntryOrder(d, e NatEntry) int {
	return cmp.Or(
		cmp.Compare(d.Kind, e.Kind),
		cmp.Compare(d.Peer, e.Peer),
		cmp.Compare(d.PeerPort, e.PeerPort),
		cmp.Compare(d.Outer, e.Outer),
	)
}

// natLivingApart leaves out what rests: its flow may have gone out anew, under another port.
func natLivingApart(b NatBook) bool {
	var living []NatEntry
	for _, e := range b.Entries {
		if natLives(b, e) {
			living = append(living, e)
		}
	}
	return natApart(living, natEntryFlow)
}

func natLives(b NatBook, e NatEntry) bool {
	return b.Now-e.Last < NatLife
}

// natEntryFlow is the flow as somebody inside began it.
func natEntryFlow(e NatEntry) NatFlow {
	return NatFlow{Kind: e.Kind, From: e.Inner, FromPort: e.InnerPort, To: e.Peer, ToPort: e.PeerPort}
}

// natSize is how many addresses are inside; it asks for a Len that is in 0..NatBits.
func natSize(b NatBook) int {
	return 1 << (NatBits - b.Len)
}

func natIsInside(b NatBook, addr int) bool {
	return natWithin(addr, b.Addr, b.Addr+natSize(b)-1)
}

// natIsPeer says whether flows from inside may go there; who is inside, or has Own, is reached without a port outside.
func natIsPeer(b NatBook, addr int) bool {
	return !natIsInside(b, addr) && addr != b.Own
}

func natIsKind(n int) bool {
	return natWithin(n, 1, NatMaxKind)
}

func natIsAddr(n int) bool {
	return natWithin(n, 0, NatMaxAddr)
}

func natIsPort(n int) bool {
	return natWithin(n, 1, NatMaxPort)
}

func natWithin(n, least, most int) bool {
	return least <= n && n <= most
}

// natNeighbours says whether each two neighbours of a list are as asked.
func natNeighbours[T any](list []T, ahead func(a, b T) bool) bool {
	for i := 1; i < len(list); i++ {
		if !ahead(list[i-1], list[i]) {
			return false
		}
	}
	return true
}

// natApart says whether no two of a list have the same key.
func natApart[T any, K comparable](list []T, key func(x T) K) bool {
	holders := map[K]int{}
	for i, x := range list {
		k := key(x)
		if _, held := holders[k]; held {
			return false
		}
		holders[k] = i
	}
	return true
}
