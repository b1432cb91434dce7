// Package impl: flows from inside to outside, under one address.
package impl

// Limits of flows.
const (
	NatBits    = 16
	NatMaxAddr = 65535
	NatMaxPort = 65535
	NatMaxKind = 7
)

// NatFlow is from where to where packets go.
type NatFlow struct {
	Kind     int
	From     int
	FromPort int
	To       int
	ToPort   int
}

// natWay is which way a flow goes: as it was begun, or as it is answered.
type natWay int

const (
	natAsked natWay = iota
	natAnswered
)

// of is the flow as it goes that way.
func (w natWay) of(f NatFlow) NatFlow {
	if w == natAsked {
		return f
	}
	return NatFlow{Kind: f.Kind, From: f.To, FromPort: f.ToPort, To: f.From, ToPort: f.FromPort}
}

// NatFlowOk says whether a flow is ok.
func NatFlowOk(f NatFlow) bool {
	return f == natNearestOk(f)
}

// NatBack is the flow of the answers to a flow.
func NatBack(f NatFlow) NatFlow {
	return natAnswered.of(f)
}

// natNearestOk holds each field within its limits, so that a flow equals what comes of it just if it is ok.
func natNearestOk(f NatFlow) NatFlow {
	return NatFlow{
		Kind:     min(max(f.Kind, 1), NatMaxKind),
		From:     min(max(f.From, 0), NatMaxAddr),
		FromPort: min(max(f.FromPort, 1), NatMaxPort),
		To:       min(max(f.To, 0), NatMaxAddr),
		ToPort:   min(max(f.ToPort, 1), NatMaxPort),
	}
}
