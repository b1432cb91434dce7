package tests

import (
	"testing"

	"loop.example/ternnat/impl"
)

func plainFlow() impl.NatFlow {
	return impl.NatFlow{Kind: 1, From: 2562, FromPort: 7, To: 51202, ToPort: 80}
}

// checkPromise7 holds a flow against promise 7, and NatBack against what chapter 1 says.
func checkPromise7(t *testing.T, f impl.NatFlow) {
	t.Helper()
	g := impl.NatBack(f)
	if want := (impl.NatFlow{Kind: f.Kind, From: f.To, FromPort: f.ToPort, To: f.From, ToPort: f.FromPort}); g != want {
		t.Errorf("NatBack of %+v is %+v", f, g)
	}
	if h := impl.NatBack(g); h != f {
		t.Errorf("NatBack of NatBack of %+v is %+v", f, h)
	}
	if impl.NatFlowOk(f) != impl.NatFlowOk(g) {
		t.Errorf("NatFlowOk of %+v is not that of its answers", f)
	}
}

func TestFlowOrdinary(t *testing.T) {
	for _, f := range []impl.NatFlow{
		plainFlow(),
		{Kind: 3, From: 1, FromPort: 2, To: 4, ToPort: 5},
		{Kind: 7, From: 300, FromPort: 9, To: 300, ToPort: 9},
		{Kind: 2, From: 300, FromPort: 9, To: 300, ToPort: 10},
		{Kind: 2, From: 300, FromPort: 9, To: 301, ToPort: 9},
	} {
		if !impl.NatFlowOk(f) {
			t.Errorf("not ok: %+v", f)
		}
		checkPromise7(t, f)
	}
}

func TestFlowNothing(t *testing.T) {
	if impl.NatFlowOk(impl.NatFlow{}) {
		t.Error("nothing is no flow that is ok")
	}
	checkPromise7(t, impl.NatFlow{})
}

func TestFlowFieldEdges(t *testing.T) {
	for _, c := range []struct {
		name        string
		field       func(f *impl.NatFlow) *int
		least, most int
	}{
		{"Kind", func(f *impl.NatFlow) *int { return &f.Kind }, 1, 7},
		{"From", func(f *impl.NatFlow) *int { return &f.From }, 0, 65535},
		{"FromPort", func(f *impl.NatFlow) *int { return &f.FromPort }, 1, 65535},
		{"To", func(f *impl.NatFlow) *int { return &f.To }, 0, 65535},
		{"ToPort", func(f *impl.NatFlow) *int { return &f.ToPort }, 1, 65535},
	} {
		check := func(v int, want bool) {
			f := plainFlow()
			*c.field(&f) = v
			if impl.NatFlowOk(f) != want {
				t.Errorf("%s %d: NatFlowOk is not %v", c.name, v, want)
			}
			checkPromise7(t, f)
		}
		for v := c.least; v <= c.most; v++ {
			check(v, true)
		}
		check(c.least-1, false)
		check(c.most+1, false)
		f := plainFlow()
		for _, v := range farFrom(*c.field(&f)) {
			check(v, false)
		}
	}
}

// All fields at once, each at, within and past its edges.
func TestFlowEdgesTogether(t *testing.T) {
	far := farFrom(5)
	kinds := append([]int{0, 1, 7, 8}, far[0], far[len(far)-1])
	addrs := append([]int{-1, 0, 65535, 65536}, far[0], far[len(far)-1])
	ports := append([]int{0, 1, 65535, 65536}, far[0], far[len(far)-1])
	within := func(v, least, most int) bool { return v >= least && v <= most }
	for _, kind := range kinds {
		for _, from := range addrs {
			for _, fromPort := range ports {
				for _, to := range addrs {
					for _, toPort := range ports {
						f := impl.NatFlow{Kind: kind, From: from, FromPort: fromPort, To: to, ToPort: toPort}
						want := within(kind, 1, 7) && within(from, 0, 65535) && within(to, 0, 65535) && within(fromPort, 1, 65535) && within(toPort, 1, 65535)
						if impl.NatFlowOk(f) != want {
							t.Fatalf("NatFlowOk is not %v: %+v", want, f)
						}
						checkPromise7(t, f)
					}
				}
			}
		}
	}
}

func TestLimits(t *testing.T) {
	got := [...]int{impl.NatBits, impl.NatMaxAddr, impl.NatMaxPort, impl.NatMaxKind, impl.NatMaxDoors, impl.NatMaxEntries, impl.NatMaxTick, impl.NatLife, impl.NatRest}
	if got != [...]int{16, 65535, 65535, 7, 6, 16, 1000000, 8, 4} {
		t.Errorf("limits are %v", got)
	}
}
