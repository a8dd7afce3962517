package tests

import (
	"fmt"
	"math"
	"math/rand/v2"
	"slices"
	"strings"
	"testing"

	"loop.example/g00814/impl"
)

// Promise 8: what isn't taken changes nothing; what is answered is gone, once; what is drained is gone, once.

const (
	suOk     = 0
	suBad    = 1
	suTime   = 2
	suDevice = 3
	suCost   = 4
	suBody   = 5
	suTtl    = 6
	suQueue  = 7
	suFull   = 8
	rcAck    = 0
	rcNack   = 1
	rcHello  = 2
	rcShort  = 3
	rcCheck  = 4
	rcForm   = 5
	rcBad    = 6
	rcDevice = 7
	rcOdd    = 8
	rcStale  = 9
)

func TestTakeCodes(t *testing.T) {
	submit := []int{impl.SuOk, impl.SuBad, impl.SuTime, impl.SuDevice, impl.SuCost, impl.SuBody, impl.SuTtl, impl.SuQueue, impl.SuFull}
	if want := []int{suOk, suBad, suTime, suDevice, suCost, suBody, suTtl, suQueue, suFull}; !slices.Equal(submit, want) {
		t.Errorf("%v, want %v", submit, want)
	}
	receive := []int{impl.RcAck, impl.RcNack, impl.RcHello, impl.RcShort, impl.RcCheck, impl.RcForm, impl.RcBad, impl.RcDevice, impl.RcOdd, impl.RcStale}
	if want := []int{rcAck, rcNack, rcHello, rcShort, rcCheck, rcForm, rcBad, rcDevice, rcOdd, rcStale}; !slices.Equal(receive, want) {
		t.Errorf("%v, want %v", receive, want)
	}
}

// The plain ways

// message is what is handed in.
type message struct {
	device, cost int
	body         string
	ttl          int
}

func plainSubmit(g impl.Gate, m message) (impl.Gate, int, int) {
	for i, so := range []bool{
		!plainGateOk(g),
		g.Now == maxTime,
		!between(m.device, 1, g.Config.Devices),
		!between(m.cost, 1, maxCost),
		len(m.body) > maxBody,
		!between(m.ttl, 1, g.Config.Policy.Ttl),
		plainOpenOf(g, m.device) >= g.Config.Queue,
		len(g.Events) >= maxEvents || g.Last >= maxId,
	} {
		if so {
			return g, 0, suBad + i
		}
	}
	h := copyGate(g)
	addEvent(&h, impl.Event{Id: g.Last + 1, Device: m.device, Cost: m.cost, Body: m.body, At: g.Now, Ttl: m.ttl, Next: g.Now})
	return h, g.Last + 1, suOk
}

func plainReceive(g impl.Gate, s string) (impl.Gate, int, int) {
	f, why := plainGet(s)
	switch {
	case !plainGateOk(g):
		return g, 0, rcBad
	case why != geOk:
		return g, 0, map[int]int{geShort: rcShort, geCheck: rcCheck, geForm: rcForm}[why]
	case f.Device > g.Config.Devices:
		return g, 0, rcDevice
	case f.Kind == frSend:
		return g, 0, rcOdd
	case f.Kind == frHello:
		return plainConnect(g, f.Device), 0, rcHello
	}
	h := copyGate(g)
	link := &h.Links[f.Device-1]
	at := slices.IndexFunc(link.Flying, func(y impl.Fly) bool { return y.Seq == f.Seq })
	if at < 0 || f.Epoch != link.Epoch {
		return g, 0, rcStale
	}
	id := link.Flying[at].Id
	link.Flying = slices.Delete(link.Flying, at, at+1)
	if f.Kind == frNack {
		setStatus(&h, id, evWaiting)
		return h, id, rcNack
	}
	place := plainEventAt(h, id)
	h.Events = slices.Delete(h.Events, place, place+1)
	h.Acked++
	return h, id, rcAck
}

// plainRelink puts another Link in the place of a Device's, and takes back all that flew to that Device.
func plainRelink(g impl.Gate, device int, another func(impl.Link) impl.Link) impl.Gate {
	if !plainGateOk(g) || !between(device, 1, g.Config.Devices) {
		return g
	}
	h := copyGate(g)
	h.Links[device-1] = another(h.Links[device-1])
	for i, e := range h.Events {
		if e.Device == device && e.Status == evFlying {
			h.Events[i].Status = evWaiting
		}
	}
	return h
}

func plainConnect(g impl.Gate, device int) impl.Gate {
	if between(device, 1, len(g.Links)) && g.Links[device-1].Epoch == maxEpoch {
		return g
	}
	return plainRelink(g, device, func(l impl.Link) impl.Link { return impl.Link{Up: true, Epoch: l.Epoch + 1} })
}

func plainDisconnect(g impl.Gate, device int) impl.Gate {
	return plainRelink(g, device, func(l impl.Link) impl.Link { return impl.Link{Epoch: l.Epoch, Seq: l.Seq} })
}

func plainDrain(g impl.Gate) (impl.Gate, []int) {
	if !plainGateOk(g) {
		return g, nil
	}
	h := copyGate(g)
	h.Events = slices.DeleteFunc(h.Events, func(e impl.Event) bool { return e.Status == evDead })
	h.Letters = nil
	h.Drained += len(g.Letters)
	return h, g.Letters
}

// The functions below hold an answer against the plain way, and tell it.

func sameSubmit(t *testing.T, g impl.Gate, m message) (impl.Gate, int, int) {
	t.Helper()
	got, id, code := impl.Submit(g, m.device, m.cost, m.body, m.ttl)
	want, wantId, wantCode := plainSubmit(g, m)
	if !sameGate(got, want) || id != wantId || code != wantCode {
		t.Fatalf("Submit(%+v, %+v) = %+v, %d, %d, want %+v, %d, %d", g, m, got, id, code, want, wantId, wantCode)
	}
	return got, id, code
}

func sameReceive(t *testing.T, g impl.Gate, s string) (impl.Gate, int, int) {
	t.Helper()
	got, id, code := impl.Receive(g, s)
	want, wantId, wantCode := plainReceive(g, s)
	if !sameGate(got, want) || id != wantId || code != wantCode {
		t.Fatalf("Receive(%+v, %q) = %+v, %d, %d, want %+v, %d, %d", g, s, got, id, code, want, wantId, wantCode)
	}
	return got, id, code
}

func sameConnect(t *testing.T, g impl.Gate, device int) impl.Gate {
	t.Helper()
	return sameRelink(t, "Connect", g, device, impl.Connect, plainConnect)
}

func sameDisconnect(t *testing.T, g impl.Gate, device int) impl.Gate {
	t.Helper()
	return sameRelink(t, "Disconnect", g, device, impl.Disconnect, plainDisconnect)
}

func sameRelink(t *testing.T, name string, g impl.Gate, device int, relink, plainly func(impl.Gate, int) impl.Gate) impl.Gate {
	t.Helper()
	got, want := relink(g, device), plainly(g, device)
	if !sameGate(got, want) {
		t.Fatalf("%s(%+v, %d) = %+v, want %+v", name, g, device, got, want)
	}
	return got
}

func sameDrain(t *testing.T, g impl.Gate) (impl.Gate, []int) {
	t.Helper()
	got, ids := impl.Drain(g)
	want, wantIds := plainDrain(g)
	if !sameGate(got, want) || !slices.Equal(ids, wantIds) {
		t.Fatalf("Drain(%+v) = %+v, %v, want %+v, %v", g, got, ids, want, wantIds)
	}
	return got, ids
}

// Submit

func plainMessage() message { return message{device: 1, cost: 3, body: "hi", ttl: 20} }

func TestSubmit(t *testing.T) {
	bodies := []string{"", "a", "\x00\xff\n", anyBytes()[:maxBody], anyBytes()[256-maxBody:]}
	for name, base := range map[string]func() impl.Gate{"empty": emptyGate, "busy": busyGate} {
		for device := 2; device <= 3; device++ {
			for i, body := range bodies {
				g := base()
				cost, ttl := 1+2*i, 1+12*i
				got, id, code := impl.Submit(g, device, cost, body, ttl)
				want := base()
				want.Last++
				want.Taken++
				want.Events = append(want.Events, impl.Event{Id: want.Last, Device: device, Cost: cost, Body: body, At: g.Now, Ttl: ttl, Next: g.Now, Status: evWaiting})
				if id != want.Last || code != suOk || !sameGate(got, want) || !impl.GateOk(got) || !sameGate(g, base()) {
					t.Errorf("to the %s one, Submit(.., %d, %d, %q, %d) = %+v, %d, %d", name, device, cost, body, ttl, got, id, code)
				}
			}
		}
	}
}

// What was taken is Ready at once.
func TestSubmitInARow(t *testing.T) {
	g := emptyGate()
	g.Now = 7
	for id := 1; id <= 9; id++ {
		h, got, code := impl.Submit(g, 1+id%3, id, fmt.Sprint(id), id)
		if got != id || code != suOk || !impl.GateOk(h) || h.Taken != id || h.Last != id || len(h.Events) != id || impl.EventAt(h, id) != id-1 {
			t.Fatalf("the %dth Submit: %+v, %d, %d", id, h, got, code)
		}
		g = h
	}
	for device, want := range map[int][]int{1: {3, 6, 9}, 2: {1, 4, 7}, 3: {2, 5, 8}} {
		if got := impl.ReadyOf(g, device); !slices.Equal(got, want) {
			t.Errorf("ReadyOf(.., %d) = %v, want %v", device, got, want)
		}
	}
}

// wideGate would take a message for its first Device, and much may be added to it: it has 6 Devices, of which each has but one Event.
func wideGate() impl.Gate {
	g := impl.NewGate(mostConfig())
	g.Config.Queue, g.Config.Policy = 3, plainConfig().Policy
	g.Now = 9
	for i := range maxDevice {
		addEvent(&g, impl.Event{Id: 2 + 3*i, Device: i + 1, Cost: 1, At: i, Ttl: 50, Next: 8 + i%3})
	}
	return g
}

// queueUp gives a Device as many open Events of that Status as it may have, and one each that is EvExpired or EvDead.
func queueUp(g *impl.Gate, device, status int) {
	event := func(status int) {
		addEvent(g, impl.Event{Id: g.Last + 1, Device: device, Cost: 1, Ttl: 9, Status: status})
	}
	event(evExpired)
	event(evDead)
	g.Letters = append(g.Letters, g.Last)
	for plainOpenOf(*g, device) < g.Config.Queue {
		event(status)
		if status == evFlying {
			addFly(g, device-1, g.Last)
		}
	}
}

// fillUp adds Events that are over till there are so many.
func fillUp(g *impl.Gate, n int) {
	for len(g.Events) < n {
		addEvent(g, impl.Event{Id: g.Last + 1, Device: 1 + g.Last%g.Config.Devices, Cost: 1, Ttl: 1, Status: evExpired})
	}
}

// fault is what makes a code so, by itself.
type fault func(g *impl.Gate, m *message)

func submitFaults() [][]fault {
	return [][]fault{
		suBad: {
			func(g *impl.Gate, m *message) { g.Turn = -1 },
			func(g *impl.Gate, m *message) { g.Taken++ },
			func(g *impl.Gate, m *message) { g.Events[0].Cost = 0 },
		},
		suTime: {func(g *impl.Gate, m *message) { g.Now = maxTime }},
		suDevice: {
			func(g *impl.Gate, m *message) { m.device = 0 },
			func(g *impl.Gate, m *message) { m.device = maxDevice + 1 },
			func(g *impl.Gate, m *message) { m.device = math.MinInt },
		},
		suCost: {
			func(g *impl.Gate, m *message) { m.cost = 0 },
			func(g *impl.Gate, m *message) { m.cost = maxCost + 1 },
		},
		suBody: {
			func(g *impl.Gate, m *message) { m.body = strings.Repeat("b", maxBody+1) },
			func(g *impl.Gate, m *message) { m.body = strings.Repeat("\x00", 256) },
		},
		suTtl: {
			func(g *impl.Gate, m *message) { m.ttl = 0 },
			func(g *impl.Gate, m *message) { m.ttl = g.Config.Policy.Ttl + 1 },
		},
		suQueue: {
			func(g *impl.Gate, m *message) { queueUp(g, 1, evWaiting) },
			func(g *impl.Gate, m *message) { queueUp(g, 1, evFlying) },
		},
		suFull: {
			func(g *impl.Gate, m *message) { fillUp(g, maxEvents) },
			func(g *impl.Gate, m *message) { g.Last = maxId },
			func(g *impl.Gate, m *message) { fillUp(g, maxEvents); g.Last = maxId },
		},
	}
}

// Each code by itself, and all of them in each choice that there is: the first one counts.
func TestSubmitTellsTheFirstCode(t *testing.T) {
	faults := submitFaults()
	times := make([]int, len(faults))
	var try func(code int, chosen []int)
	try = func(code int, chosen []int) {
		if code > suBad {
			for i := range len(faults[code]) + 1 {
				try(code-1, append(slices.Clone(chosen), i))
			}
			return
		}
		// What makes the Gate wrong comes last of all, so that the others meet a right one.
		for i := range len(faults[suBad]) + 1 {
			g, m := wideGate(), plainMessage()
			want := suOk
			put := func(code, n int) {
				if n == 0 {
					return
				}
				faults[code][n-1](&g, &m)
				if want == suOk || code < want {
					want = code
				}
			}
			// The others come in their order, as what makes a gate full leaves no room for a queue.
			for at, n := range slices.Backward(chosen) {
				put(suFull-at, n)
			}
			put(suBad, i)
			before := copyGate(g)
			got, id, code := sameSubmit(t, g, m)
			times[code]++
			if code != want || (id != 0) != (want == suOk) || impl.GateOk(got) != (want != suBad) || !sameGate(g, before) {
				t.Fatalf("Submit(%+v, %+v) = %+v, %d, %d, want the code %d", g, m, got, id, code, want)
			}
			if want != suOk && !sameGate(got, before) {
				t.Fatalf("what isn't taken changes %+v: %+v", before, got)
			}
		}
	}
	try(suFull, nil)
	if times[suOk] != 1 || slices.Min(times) != 1 || slices.Max(times[suBad:]) < 1000 {
		t.Errorf("but each code came so often: %v", times)
	}
}

func TestSubmitAtEachEdge(t *testing.T) {
	at := func(name string, want int, change fault) {
		t.Helper()
		g, m := wideGate(), plainMessage()
		change(&g, &m)
		got, id, code := sameSubmit(t, g, m)
		if code != want || impl.GateOk(got) != (want != suBad) || (id == got.Last && len(got.Events) == len(g.Events)+1) != (want == suOk) {
			t.Errorf("%s: Submit(%+v, %+v) = %+v, %d, %d, want the code %d", name, g, m, got, id, code, want)
		}
	}
	put := func(name string, codes map[int]int, change func(g *impl.Gate, m *message, n int)) {
		t.Helper()
		for n, want := range codes {
			at(fmt.Sprint(name, " ", n), want, func(g *impl.Gate, m *message) { change(g, m, n) })
		}
	}
	const least, most = math.MinInt, math.MaxInt
	put("Now", map[int]int{8: suOk, maxTime - 1: suOk, maxTime: suTime, maxTime + 1: suBad, -1: suBad, least: suBad, most: suBad}, func(g *impl.Gate, m *message, n int) { g.Now = n })
	put("Device", map[int]int{least: suDevice, -1: suDevice, 0: suDevice, 1: suOk, 2: suOk, 6: suOk, 7: suDevice, 1<<32 + 1: suDevice, most: suDevice}, func(g *impl.Gate, m *message, n int) { m.device = n })
	put("cost", map[int]int{least: suCost, -1: suCost, 0: suCost, 1: suOk, 2: suOk, 8: suOk, 9: suOk, 10: suCost, 1<<32 + 1: suCost, most: suCost}, func(g *impl.Gate, m *message, n int) { m.cost = n })
	put("a body of", map[int]int{0: suOk, 1: suOk, 39: suOk, 40: suOk, 41: suBody, 256: suBody, 257: suBody, 1 << 16: suBody}, func(g *impl.Gate, m *message, n int) { m.body = strings.Repeat("\xff", n) })
	put("ttl", map[int]int{least: suTtl, -1: suTtl, 0: suTtl, 1: suOk, 2: suOk, 49: suOk, 50: suOk, 51: suTtl, maxTtl: suTtl, 1<<32 + 1: suTtl, most: suTtl}, func(g *impl.Gate, m *message, n int) { m.ttl = n })
	put("the least Ttl, and ttl", map[int]int{0: suTtl, 1: suOk, 2: suTtl}, func(g *impl.Gate, m *message, n int) { g.Config.Policy.Ttl, m.ttl = 1, n })
	put("the most Ttl, and ttl", map[int]int{0: suTtl, maxTtl - 1: suOk, maxTtl: suOk, maxTtl + 1: suTtl}, func(g *impl.Gate, m *message, n int) { g.Config.Policy.Ttl, m.ttl = maxTtl, n })
	put("Last", map[int]int{17: suOk, maxId - 2: suOk, maxId - 1: suOk, maxId: suFull, maxId + 1: suBad, most: suBad}, func(g *impl.Gate, m *message, n int) { g.Last = n })
	put("so many Events", map[int]int{58: suOk, 59: suOk, 60: suFull, 61: suBad}, func(g *impl.Gate, m *message, n int) { fillUp(g, n) })
}

func TestSubmitToEachDeviceThatThereIs(t *testing.T) {
	for devices := 1; devices <= maxDevice; devices++ {
		for device := -1; device <= maxDevice+2; device++ {
			c := mostConfig()
			c.Devices, c.Budget = devices, 1
			m := plainMessage()
			m.device = device
			want := suOk
			if !between(device, 1, devices) {
				want = suDevice
			}
			if got, id, code := sameSubmit(t, impl.NewGate(c), m); code != want || (id == 1) != (want == suOk) || !impl.GateOk(got) {
				t.Errorf("Submit to %d of %d Devices = %+v, %d, %d", device, devices, got, id, code)
			}
		}
	}
}

// However many more are over: what is open counts, whether it flies or not.
func TestSubmitToAQueue(t *testing.T) {
	for queue := 1; queue <= maxQueue; queue++ {
		for open := 0; open <= queue; open++ {
			for _, over := range []int{0, 1, 5} {
				g := impl.NewGate(mostConfig())
				g.Config.Queue = queue
				for range over {
					addEvent(&g, impl.Event{Id: g.Last + 1, Device: 2, Cost: 1, Ttl: 1, Status: evExpired})
					addEvent(&g, impl.Event{Id: g.Last + 1, Device: 2, Cost: 1, Ttl: 1, Status: evDead})
					g.Letters = append(g.Letters, g.Last)
				}
				for i := range open {
					addEvent(&g, impl.Event{Id: g.Last + 1, Device: 2, Cost: 1, Ttl: 1, Status: i % 2})
					if i%2 == evFlying {
						addFly(&g, 1, g.Last)
					}
				}
				m, other := plainMessage(), plainMessage()
				m.device, other.device = 2, 3
				want := suOk
				if open == queue {
					want = suQueue
				}
				if got, _, code := sameSubmit(t, g, m); code != want || !impl.GateOk(got) {
					t.Errorf("Submit to a Queue of %d with %d open and %d that are over: %d", queue, open, 2*over, code)
				}
				if _, _, code := sameSubmit(t, g, other); code != suOk {
					t.Errorf("Submit to another Device: %d", code)
				}
			}
		}
	}
}

// A gate is filled till nothing more is taken: it is full by its queues, or by all Events that it has.
func TestSubmitUntilTheGateIsFull(t *testing.T) {
	g := impl.NewGate(mostConfig())
	for n := range maxEvents {
		h, id, code := impl.Submit(g, 1+n%maxDevice, maxCost, anyBytes()[:maxBody], maxTtl)
		if id != n+1 || code != suOk || !impl.GateOk(h) {
			t.Fatalf("Submit to a gate of %d: %d, %d", n, id, code)
		}
		g = h
	}
	for device := 1; device <= maxDevice; device++ {
		if h, id, code := impl.Submit(g, device, 1, "", 1); id != 0 || code != suQueue || !sameGate(h, g) {
			t.Errorf("Submit to a gate whose queues are full: %d, %d", id, code)
		}
		over := copyGate(g)
		setStatus(&over, device, evExpired)
		if h, id, code := impl.Submit(over, device, 1, "", 1); id != 0 || code != suFull || !sameGate(h, over) {
			t.Errorf("Submit to a gate of as many Events as there may be: %d, %d", id, code)
		}
		setStatus(&over, device, evDead)
		over.Letters = []int{device}
		drained, _ := impl.Drain(over)
		h, id, code := impl.Submit(drained, device, 1, "", 1)
		if id != maxEvents+1 || code != suOk || !impl.GateOk(h) {
			t.Errorf("Submit where one was drained: %d, %d", id, code)
		}
		if _, id, code = impl.Submit(h, device, 1, "", 1); id != 0 || code != suQueue {
			t.Errorf("Submit where as many as were drained were taken: %d, %d", id, code)
		}
	}
}

// Of each Id one is taken, and gone again, till there is none left.
func TestSubmitUntilThereIsNoIdLeft(t *testing.T) {
	g := impl.Connect(impl.NewGate(leastConfig()), 1)
	for n := 1; n <= maxId; n++ {
		h, id, code := impl.Submit(g, 1, 1, "", 1)
		if id != n || code != suOk {
			t.Fatalf("the %dth Submit: %d, %d", n, id, code)
		}
		gone := 0
		if n%2 == 0 {
			setStatus(&h, id, evDead)
			h.Letters = []int{id}
			var ids []int
			g, ids = impl.Drain(h)
			gone = append(ids, 0)[0]
		} else {
			launch(t, &h, id, 5)
			g, gone, _ = impl.Receive(h, answerOf(h, id, frAck))
		}
		if gone != n || len(g.Events) != 0 || g.Acked != (n+1)/2 || g.Drained != n/2 {
			t.Fatalf("of %d, %d is gone: %+v", n, gone, g)
		}
	}
	if h, id, code := impl.Submit(g, 1, 1, "", 1); id != 0 || code != suFull || !sameGate(h, g) || !impl.GateOk(h) {
		t.Errorf("Submit where there is no Id left: %+v, %d, %d", h, id, code)
	}
}

// launch knocks for an Event that waits, in the plain way.
func launch(t *testing.T, g *impl.Gate, id, until int) {
	t.Helper()
	e := &g.Events[plainEventAt(*g, id)]
	l, seq := plainLaunch(g.Links[e.Device-1], id, until)
	if seq == 0 || e.Status != evWaiting {
		t.Fatalf("%d can't be launched in %+v", id, g)
	}
	g.Links[e.Device-1] = l
	*e = plainKnocked(*e, g.Now, 3)
}

// answerOf is the bytes of an answer to what flies.
func answerOf(g impl.Gate, id, kind int) string {
	for i, l := range g.Links {
		for _, f := range l.Flying {
			if f.Id == id {
				return plainPut(impl.Frame{Kind: kind, Device: i + 1, Epoch: l.Epoch, Seq: f.Seq})
			}
		}
	}
	return ""
}

// Receive

func TestReceiveAck(t *testing.T) {
	for _, id := range []int{6, 9, 12, 20} {
		g := busyGate()
		got, gone, code := sameReceive(t, g, answerOf(g, id, frAck))
		if gone != id || code != rcAck || !impl.GateOk(got) || got.Acked != 5 || got.Taken != 19 || got.Drained != 3 || len(got.Events) != 11 || impl.EventAt(got, id) != -1 {
			t.Errorf("the ack of %d: %+v, %d, %d", id, got, gone, code)
		}
		device := g.Events[plainEventAt(g, id)].Device
		if flying := idsOf(got.Links[device-1].Flying); len(flying) != 1 || flying[0] == id || len(got.Links[2-device].Flying) != 2 {
			t.Errorf("the ack of %d leaves %v", id, got.Links)
		}
	}
	// All of it, written out.
	want := busyGate()
	want.Links[0].Flying = []impl.Fly{{Seq: 7, Id: 9, Until: 21}}
	want.Events = slices.Delete(want.Events, 8, 9)
	want.Acked = 5
	if got, id, code := impl.Receive(busyGate(), plainPut(impl.Frame{Kind: frAck, Device: 1, Epoch: 2, Seq: 4})); id != 20 || code != rcAck || !sameGate(got, want) {
		t.Errorf("the ack: %+v, %d, %d, want %+v", got, id, code, want)
	}
}

func TestReceiveNack(t *testing.T) {
	for _, id := range []int{6, 9, 12, 20} {
		g := busyGate()
		got, back, code := sameReceive(t, g, answerOf(g, id, frNack))
		place := plainEventAt(g, id)
		if back != id || code != rcNack || !impl.GateOk(got) || got.Acked != 4 || len(got.Events) != 12 || got.Events[place] != withStatus(g.Events[place], evWaiting) {
			t.Errorf("the nack of %d: %+v, %d, %d", id, got, back, code)
		}
	}
	want := busyGate()
	want.Links[1].Flying = []impl.Fly{{Seq: 1, Id: 6, Until: 1}}
	want.Events[5].Status = evWaiting
	if got, id, code := impl.Receive(busyGate(), plainPut(impl.Frame{Kind: frNack, Device: 2, Epoch: 1, Seq: 2})); id != 12 || code != rcNack || !sameGate(got, want) {
		t.Errorf("the nack: %+v, %d, %d, want %+v", got, id, code, want)
	}
}

// Whatever Epoch it tells, a hello begins the next one of the Link.
func TestReceiveHello(t *testing.T) {
	for device := 1; device <= 3; device++ {
		for _, epoch := range []int{0, 1, 2, 3, 5, 6, maxEpoch} {
			g := busyGate()
			got, id, code := sameReceive(t, g, plainPut(impl.Frame{Kind: frHello, Device: device, Epoch: epoch}))
			if id != 0 || code != rcHello || !impl.GateOk(got) || !sameGate(got, impl.Connect(g, device)) || !got.Links[device-1].Up || got.Links[device-1].Epoch != g.Links[device-1].Epoch+1 {
				t.Errorf("the hello of %d: %+v, %d, %d", device, got, id, code)
			}
		}
	}
	last := busyGate()
	last.Links[0].Epoch = maxEpoch
	if got, id, code := sameReceive(t, last, plainPut(impl.Frame{Kind: frHello, Device: 1})); id != 0 || code != rcHello || !sameGate(got, last) {
		t.Errorf("a hello in the last epoch: %+v, %d, %d", got, id, code)
	}
}

// untaken looks whether bytes are refused with a code, and nothing else comes of them.
func untaken(t *testing.T, g impl.Gate, s string, want int) {
	t.Helper()
	if got, id, code := sameReceive(t, g, s); id != 0 || code != want || !sameGate(got, g) {
		t.Errorf("Receive(%+v, %q) = %+v, %d, %d, want the code %d", g, s, got, id, code, want)
	}
}

// unreadBytes are such as GetFrame refuses, by the code that Receive has for that.
func unreadBytes() map[int][]string {
	ack := plainPut(impl.Frame{Kind: frAck, Device: 1, Epoch: 2, Seq: 4})
	short, check, form := []string{""}, []string{ack + "x", "x" + ack, ack + ack, strings.Repeat("x", 1000)}, []string{
		withSum("\x02\x00\x00\x02\x00\x04\x00\x00\x00"),
		withSum("\x02\x07\x00\x02\x00\x04\x00\x00\x00"),
		withSum("\x00\x01\x00\x02\x00\x04\x00\x00\x00"),
		withSum("\x05\x01\x00\x02\x00\x04\x00\x00\x00"),
		withSum("\x02\x01\x00\x02\x00\x00\x00\x00\x00"),
		withSum("\x03\x01\x00\x02\x00\x04\x00\x00\x00"),
		withSum("\x02\x01\x00\x02\x00\x04\x00\x14\x00"),
		withSum("\x02\x01\x00\x02\x00\x04\x00\x00\x01"),
		withSum("\x02\x01\x00\x02\x00\x04\x00\x00\x00\x00"),
		withSum("\x01\x01\x00\x02\x00\x04\x00\x14\x02a"),
		withSum("\x01\x01\x00\x02\x00\x04\x00\x14\x29" + strings.Repeat("a", 41)),
		withSum(strings.Repeat("\x00", 9)),
		withSum(anyBytes()),
	}
	for n := range len(ack) {
		short = append(short, ack[:n], strings.Repeat("\x00", n))
		changed := []byte(ack)
		changed[n]++
		check = append(check, string(changed))
	}
	return map[int][]string{rcShort: short, rcCheck: check, rcForm: form}
}

func TestReceiveOfWhatCantBeRead(t *testing.T) {
	wrong := busyGate()
	wrong.Turn = 3
	for code, texts := range unreadBytes() {
		for _, s := range texts {
			untaken(t, busyGate(), s, code)
			untaken(t, emptyGate(), s, code)
			untaken(t, wrong, s, rcBad)
			untaken(t, impl.Gate{}, s, rcBad)
		}
	}
}

// framesOf are one of each kind, that a Device may send or get.
func framesOf(device, epoch, seq int) map[int]impl.Frame {
	return map[int]impl.Frame{
		frSend:  {Kind: frSend, Device: device, Epoch: epoch, Seq: seq, Id: 20, Body: "hi"},
		frAck:   {Kind: frAck, Device: device, Epoch: epoch, Seq: seq},
		frHello: {Kind: frHello, Device: device, Epoch: epoch},
		frNack:  {Kind: frNack, Device: device, Epoch: epoch, Seq: seq},
	}
}

// A frame is for a Device that there is, and isn't an FrSend; each of both is refused, the first one first.
func TestReceiveOfFramesThatArentForAGate(t *testing.T) {
	wrong := busyGate()
	wrong.Taken++
	for device := 1; device <= maxDevice; device++ {
		for kind, f := range framesOf(device, 2, 4) {
			s := plainPut(f)
			untaken(t, wrong, s, rcBad)
			switch {
			case device > 3:
				untaken(t, busyGate(), s, rcDevice)
				untaken(t, emptyGate(), s, rcDevice)
			case kind == frSend:
				untaken(t, busyGate(), s, rcOdd)
				untaken(t, emptyGate(), s, rcOdd)
			}
		}
	}
	for devices := 1; devices <= maxDevice; devices++ {
		c := mostConfig()
		c.Devices, c.Budget = devices, 1
		for device := 1; device <= maxDevice; device++ {
			for kind, f := range framesOf(device, 0, 1) {
				want := map[int]int{frSend: rcOdd, frAck: rcStale, frHello: rcHello, frNack: rcStale}[kind]
				if device > devices {
					want = rcDevice
				}
				if got, id, code := sameReceive(t, impl.NewGate(c), plainPut(f)); id != 0 || code != want || !impl.GateOk(got) {
					t.Errorf("for %d of %d Devices a frame of kind %d: %d, %d", device, devices, kind, id, code)
				}
			}
		}
	}
}

func TestReceiveOfStaleAnswers(t *testing.T) {
	down := busyGate()
	down.Links[2].Seq = 4
	for _, kind := range []int{frAck, frNack} {
		stale := func(g impl.Gate, device, epoch, seq int) {
			t.Helper()
			untaken(t, g, plainPut(impl.Frame{Kind: kind, Device: device, Epoch: epoch, Seq: seq}), rcStale)
		}
		// Of another Epoch.
		for _, epoch := range []int{0, 1, 3, 258, maxEpoch} {
			stale(busyGate(), 1, epoch, 4)
			stale(busyGate(), 1, epoch, 7)
		}
		// Of a Seq that doesn't fly: it was answered, or it wasn't launched yet.
		for _, seq := range []int{1, 2, 3, 5, 6, 8, 9, 10, 20, 260, maxSeq} {
			stale(busyGate(), 1, 2, seq)
		}
		// Of another Device's Link, or to one that isn't Up.
		for _, epoch := range []int{1, 2} {
			stale(busyGate(), 2, epoch, 4)
			stale(busyGate(), 2, epoch, 7)
		}
		stale(busyGate(), 1, 1, 1)
		stale(busyGate(), 2, 2, 1)
		for _, seq := range []int{1, 2, 3, 4} {
			stale(busyGate(), 3, 5, seq)
			stale(down, 3, 5, seq)
		}
		stale(emptyGate(), 1, 0, 1)
		stale(impl.Connect(emptyGate(), 1), 1, 1, 1)
	}
}

// An answer counts once, whichever of both it is, and however often it comes.
func TestReceiveTwice(t *testing.T) {
	for _, id := range []int{6, 9, 12, 20} {
		for _, first := range []int{frAck, frNack} {
			for _, second := range []int{frAck, frNack} {
				g := busyGate()
				once, got, _ := sameReceive(t, g, answerOf(g, id, first))
				if got != id {
					t.Fatalf("the first answer to %d tells %d", id, got)
				}
				for range 3 {
					untaken(t, once, answerOf(g, id, second), rcStale)
				}
			}
		}
		for device := 1; device <= 2; device++ {
			g := busyGate()
			if g.Events[plainEventAt(g, id)].Device == device {
				untaken(t, impl.Connect(g, device), answerOf(g, id, frAck), rcStale)
				untaken(t, impl.Disconnect(g, device), answerOf(g, id, frNack), rcStale)
				untaken(t, impl.Connect(impl.Disconnect(g, device), device), answerOf(g, id, frAck), rcStale)
			}
		}
	}
}

// Connect and Disconnect

func TestConnect(t *testing.T) {
	want := busyGate()
	want.Links[0] = impl.Link{Up: true, Epoch: 3}
	want.Events[3].Status, want.Events[8].Status = evWaiting, evWaiting
	got := sameConnect(t, busyGate(), 1)
	if !sameGate(got, want) || !impl.GateOk(got) {
		t.Errorf("Connect(.., 1) = %+v, want %+v", got, want)
	}
	// A second time only the Epoch is another one.
	want.Links[0].Epoch = 4
	if got = sameConnect(t, got, 1); !sameGate(got, want) {
		t.Errorf("Connect(.., 1) again = %+v, want %+v", got, want)
	}
	down := busyGate()
	down.Links[2] = impl.Link{Up: true, Epoch: 6}
	if got = sameConnect(t, busyGate(), 3); !sameGate(got, down) || !impl.GateOk(got) {
		t.Errorf("Connect(.., 3) = %+v, want %+v", got, down)
	}
	first := emptyGate()
	first.Links[1] = impl.Link{Up: true, Epoch: 1}
	if got = sameConnect(t, emptyGate(), 2); !sameGate(got, first) {
		t.Errorf("Connect(.., 2) = %+v, want %+v", got, first)
	}
}

func TestDisconnect(t *testing.T) {
	want := busyGate()
	want.Links[1] = impl.Link{Epoch: 1, Seq: 2}
	want.Events[2].Status, want.Events[5].Status = evWaiting, evWaiting
	got := sameDisconnect(t, busyGate(), 2)
	if !sameGate(got, want) || !impl.GateOk(got) {
		t.Errorf("Disconnect(.., 2) = %+v, want %+v", got, want)
	}
	if got = sameDisconnect(t, got, 2); !sameGate(got, want) {
		t.Errorf("Disconnect(.., 2) again = %+v, want %+v", got, want)
	}
	if got = sameDisconnect(t, busyGate(), 3); !sameGate(got, busyGate()) {
		t.Errorf("Disconnect(.., 3) = %+v, though it wasn't Up", got)
	}
}

func TestConnectInTheLastEpoch(t *testing.T) {
	for _, up := range []bool{true, false} {
		for _, epoch := range []int{0, 1, maxEpoch - 2, maxEpoch - 1, maxEpoch} {
			for device := 1; device <= 3; device++ {
				g := busyGate()
				if !up {
					g = plainDisconnect(g, device)
				}
				g.Links[device-1].Epoch = epoch
				got := sameConnect(t, g, device)
				if joined := got.Links[device-1]; !impl.GateOk(got) || (epoch == maxEpoch) != sameGate(got, g) || epoch < maxEpoch && !sameLink(joined, impl.Link{Up: true, Epoch: epoch + 1}) {
					t.Errorf("Connect in epoch %d: %+v", epoch, got)
				}
				gone := sameDisconnect(t, g, device)
				if left := gone.Links[device-1]; !impl.GateOk(gone) || !sameLink(left, impl.Link{Epoch: epoch, Seq: g.Links[device-1].Seq}) {
					t.Errorf("Disconnect in epoch %d: %+v", epoch, gone)
				}
			}
		}
	}
}

func TestConnectOfNoDevice(t *testing.T) {
	for devices := 1; devices <= maxDevice; devices++ {
		c := mostConfig()
		c.Devices, c.Budget = devices, 1
		for _, device := range []int{math.MinInt, math.MinInt + 1, -1, 0, devices + 1, devices + 2, 7, 1<<32 + 1, math.MaxInt} {
			g := impl.NewGate(c)
			if got := sameConnect(t, g, device); !sameGate(got, g) {
				t.Errorf("Connect of %d of %d Devices: %+v", device, devices, got)
			}
			g = sameConnect(t, g, devices)
			if got := sameDisconnect(t, g, device); !sameGate(got, g) || !got.Links[devices-1].Up {
				t.Errorf("Disconnect of %d of %d Devices: %+v", device, devices, got)
			}
		}
	}
}

// As many as can fly are back, each as it was but for its Status.
func TestConnectTakesAllBack(t *testing.T) {
	for device := 1; device <= maxDevice; device++ {
		for _, cut := range []func(impl.Gate, int) impl.Gate{impl.Connect, impl.Disconnect} {
			g := fullGate()
			g.Links[device-1].Epoch--
			got := cut(g, device)
			if !impl.GateOk(got) || len(got.Links[device-1].Flying) > 0 {
				t.Errorf("cut off from %d: %+v", device, got.Links)
			}
			for i, e := range got.Events {
				want := g.Events[i]
				if want.Device == device {
					want.Status = evWaiting
				}
				if e != want {
					t.Errorf("cut off from %d: %+v, want %+v", device, e, want)
				}
			}
		}
	}
}

// Drain

func TestDrain(t *testing.T) {
	want := busyGate()
	want.Events = slices.Delete(slices.Delete(want.Events, 10, 11), 0, 1)
	want.Letters = nil
	want.Drained = 5
	got, ids := sameDrain(t, busyGate())
	if !sameGate(got, want) || !slices.Equal(ids, []int{25, 2}) || !impl.GateOk(got) {
		t.Errorf("Drain(..) = %+v, %v, want %+v", got, ids, want)
	}
	if again, ids := sameDrain(t, got); !sameGate(again, want) || len(ids) != 0 {
		t.Errorf("Drain(..) again = %+v, %v", again, ids)
	}
	if got, ids := sameDrain(t, emptyGate()); !sameGate(got, emptyGate()) || len(ids) != 0 {
		t.Errorf("Drain of none = %+v, %v", got, ids)
	}
}

// In order is as the Letters stand, whatever order that is.
func TestDrainOfSoManyLetters(t *testing.T) {
	r := rand.New(rand.NewPCG(8, 1))
	for letters := range maxLetters + 1 {
		for range 5 {
			g := impl.NewGate(mostConfig())
			g.Config.Letters = max(letters, 1)
			for id := 1; id <= maxEvents; id++ {
				addEvent(&g, impl.Event{Id: id, Device: 1 + id%maxDevice, Cost: 1, Ttl: 1, Status: evExpired})
			}
			g.Letters = r.Perm(maxEvents)[:letters]
			for i := range g.Letters {
				g.Letters[i]++
				setStatus(&g, g.Letters[i], evDead)
			}
			got, ids := sameDrain(t, g)
			if !slices.Equal(ids, g.Letters) || !impl.GateOk(got) || len(got.Events) != maxEvents-letters || got.Drained != letters || got.Taken != maxEvents || len(got.Letters) != 0 {
				t.Errorf("Drain of %v = %+v, %v", g.Letters, got, ids)
			}
		}
	}
}

// The promise, over all that may come to a gate

// anyBytesFor are bytes that may come: mostly an answer to what flies, or nearly one.
func anyBytesFor(r *rand.Rand, g impl.Gate) string {
	f := impl.Frame{Kind: 1 + r.IntN(4), Device: 1 + r.IntN(maxDevice), Epoch: r.IntN(5), Seq: 1 + r.IntN(8)}
	if n := len(g.Links); n > 0 && r.IntN(8) > 0 {
		i := r.IntN(n)
		f.Device, f.Epoch = 1+i%maxDevice, g.Links[i].Epoch
		if flying := g.Links[i].Flying; len(flying) > 0 && r.IntN(8) > 0 {
			f.Seq = flying[r.IntN(len(flying))].Seq
		}
	}
	switch f.Kind {
	case frSend:
		f.Id = 1 + r.IntN(9)
	case frHello:
		f.Seq = 0
	}
	s := plainPut(f)
	switch r.IntN(12) {
	case 0:
		return randomBytes(r, r.IntN(20))
	case 1:
		return s[:r.IntN(len(s)+1)]
	case 2:
		return withSum(randomBytes(r, 9+r.IntN(3)))
	}
	return s
}

func anyMessage(r *rand.Rand, g impl.Gate) message {
	m := message{device: 1 + r.IntN(max(min(g.Config.Devices, 100), 1)), cost: 1 + r.IntN(maxCost), body: randomBytes(r, r.IntN(maxBody+1)), ttl: 1 + r.IntN(50)}
	switch r.IntN(16) {
	case 0:
		m.device = oddNumbers[r.IntN(len(oddNumbers))]
	case 1:
		m.cost = oddNumbers[r.IntN(len(oddNumbers))]
	case 2:
		m.ttl = oddNumbers[r.IntN(len(oddNumbers))]
	case 3:
		m.body = randomBytes(r, maxBody+1+r.IntN(300))
	}
	return m
}

// comings count how often each code was told, and how many were cut off, or drained.
type comings struct {
	submit, receive [10]int
	cut, drained    int
}

// sameComings holds all that may come to a Gate against the plain ways.
func sameComings(t *testing.T, r *rand.Rand, g impl.Gate, told *comings) {
	t.Helper()
	before, right := copyGate(g), plainGateOk(g)
	gates := make([]impl.Gate, 0, 5)
	submitted, _, code := sameSubmit(t, g, anyMessage(r, g))
	told.submit[code]++
	received, _, code := sameReceive(t, g, anyBytesFor(r, g))
	told.receive[code]++
	device := r.IntN(maxDevice + 2)
	if r.IntN(8) == 0 {
		device = oddNumbers[r.IntN(len(oddNumbers))]
	}
	drained, ids := sameDrain(t, g)
	told.drained += len(ids)
	gates = append(gates, submitted, received, sameConnect(t, g, device), sameDisconnect(t, g, device), drained)
	for i, h := range gates {
		if impl.GateOk(h) != right {
			t.Fatalf("the function at %d makes %+v of %+v", i, h, g)
		}
		if !right && !sameGate(h, before) {
			t.Fatalf("%+v isn't right, but the function at %d makes %+v of it", g, i, h)
		}
	}
	if right && !sameGate(gates[3], g) {
		told.cut++
	}
	if !sameGate(g, before) {
		t.Fatalf("what was %+v is %+v", before, g)
	}
}

func TestWhatComesToAnyGate(t *testing.T) {
	r := rand.New(rand.NewPCG(8, 2))
	bases := []func() impl.Gate{busyGate, fullGate, deadGate, emptyGate, wideGate, func() impl.Gate { return anyGate(r) }, func() impl.Gate { return anyGate(r) }}
	var right, shaken comings
	for i := range 14000 {
		g := bases[i%len(bases)]()
		if i%5 == 0 {
			g.Now = maxTime - r.IntN(2)
		}
		sameComings(t, r, g, &right)
		shake(r, &g)
		sameComings(t, r, g, &shaken)
	}
	for code := range rcStale + 1 {
		if code <= suFull && code != suBad && right.submit[code] < 30 || code != rcBad && right.receive[code] < 100 {
			t.Errorf("but each code of Submit came so often: %v, of Receive: %v", right.submit, right.receive)
			break
		}
	}
	if right.cut < 1000 || right.drained < 5000 || shaken.submit[suBad] < 1000 || shaken.receive[rcBad] < 1000 || shaken.submit[suOk] < 500 {
		t.Errorf("but right %+v, shaken %+v", right, shaken)
	}
}

// story is a gate to which this and that comes, and what became of each Id, as far as it was told.
type story struct {
	t     *testing.T
	r     *rand.Rand
	gate  impl.Gate
	taken []int
	gone  map[int]string
	sent  []string
}

func (x *story) leave(id int, how string) {
	if was, gone := x.gone[id]; gone || !slices.Contains(x.taken, id) {
		x.t.Fatalf("%d is %s, though it was %q", id, how, was)
	}
	x.gone[id] = how
}

func (x *story) submit() {
	m := anyMessage(x.r, x.gate)
	g, id, code := impl.Submit(x.gate, m.device, m.cost, m.body, m.ttl)
	if (code == suOk) != (id != 0) || code != suOk && !sameGate(g, x.gate) {
		x.t.Fatalf("Submit(%+v, %+v) = %+v, %d, %d", x.gate, m, g, id, code)
	}
	if code == suOk {
		x.taken = append(x.taken, id)
	}
	x.gate = g
}

// receive is told what was sent now or long ago, or something else.
func (x *story) receive() {
	s := anyBytesFor(x.r, x.gate)
	if n := len(x.sent); n > 0 && x.r.IntN(2) == 0 {
		s = x.sent[x.r.IntN(n)]
	}
	g, id, code := impl.Receive(x.gate, s)
	if (id != 0) != (code == rcAck || code == rcNack) || id == 0 && code != rcHello && !sameGate(g, x.gate) {
		x.t.Fatalf("Receive(%+v, %q) = %+v, %d, %d", x.gate, s, g, id, code)
	}
	if code == rcAck {
		x.leave(id, "acked")
	}
	x.gate = g
}

func (x *story) drain() {
	g, ids := impl.Drain(x.gate)
	for _, id := range ids {
		x.leave(id, "drained")
	}
	x.gate = g
}

// knock launches one that waits, if its Link takes it, and keeps the answers to it.
func (x *story) knock() {
	for _, e := range x.gate.Events {
		l := x.gate.Links[e.Device-1]
		if e.Status == evWaiting && l.Up && len(l.Flying) < x.gate.Config.Window && l.Seq < maxSeq && x.r.IntN(2) == 0 {
			launch(x.t, &x.gate, e.Id, x.gate.Now+5)
			x.sent = append(x.sent, answerOf(x.gate, e.Id, frAck), answerOf(x.gate, e.Id, frNack))
			return
		}
	}
}

// bury lays aside one that waits, if there is room for its letter.
func (x *story) bury() {
	for i, e := range x.gate.Events {
		if e.Status == evWaiting && len(x.gate.Letters) < x.gate.Config.Letters && x.r.IntN(2) == 0 {
			x.gate.Events[i].Status = evDead
			x.gate.Letters = append(x.gate.Letters, e.Id)
			return
		}
	}
}

// isAsKnown looks whether just those are there that were taken and aren't gone.
func (x *story) isAsKnown() {
	var here []int
	totals := map[string]int{}
	for _, id := range x.taken {
		totals[x.gone[id]]++
		if x.gone[id] == "" {
			here = append(here, id)
		}
	}
	var ids []int
	for _, e := range x.gate.Events {
		ids = append(ids, e.Id)
	}
	g := x.gate
	if !slices.Equal(ids, here) || g.Acked != totals["acked"] || g.Drained != totals["drained"] || g.Taken != len(x.taken) || !impl.GateOk(g) {
		x.t.Fatalf("%+v, but here is %v, and gone %v", g, here, totals)
	}
}

func TestWhatIsAnsweredOrDrainedIsGoneOnce(t *testing.T) {
	acked, drained := 0, 0
	for seed := range uint64(40) {
		r := rand.New(rand.NewPCG(8, 100+seed))
		c := mostConfig()
		c.Devices, c.Queue, c.Window, c.Letters = 1+r.IntN(maxDevice), 1+r.IntN(maxQueue), 1+r.IntN(maxWindow), 1+r.IntN(5)
		c.Budget, c.Policy = 1, plainConfig().Policy
		x := &story{t: t, r: r, gate: impl.NewGate(c), gone: map[int]string{}}
		for range 1000 {
			device := 1 + r.IntN(c.Devices)
			switch r.IntN(16) {
			case 0:
				x.gate = impl.Connect(x.gate, device)
			case 1:
				if r.IntN(4) == 0 {
					x.gate = impl.Disconnect(x.gate, device)
				}
			case 2:
				x.drain()
			case 3:
				x.bury()
			case 4, 5, 6:
				x.submit()
			case 7, 8, 9, 10:
				x.knock()
			default:
				x.receive()
			}
			x.isAsKnown()
		}
		acked += x.gate.Acked
		drained += x.gate.Drained
	}
	if acked < 600 || drained < 600 {
		t.Errorf("but %d were acked, and %d drained", acked, drained)
	}
}

// Promise 15: every function answers at any arguments, and writes into none.

// All that was taken counts, also where more was taken than Ids were given: no code is so there.
func TestSubmitWhereTakenIsAtItsLimit(t *testing.T) {
	for _, taken := range []int{maxId - 1, maxId} {
		g := emptyGate()
		g.Taken, g.Acked = taken, taken
		got, id, code := sameSubmit(t, g, plainMessage())
		if id != 1 || code != suOk || got.Taken != taken+1 || impl.GateOk(got) != (taken < maxId) {
			t.Errorf("Submit where %d were taken: %+v, %d, %d", taken, got, id, code)
		}
	}
}

// wrongGates aren't right, each for another reason.
func wrongGates() []impl.Gate {
	var gates []impl.Gate
	change := func(base func() impl.Gate, how func(g *impl.Gate)) {
		g := base()
		how(&g)
		gates = append(gates, g)
	}
	for _, base := range []func() impl.Gate{busyGate, emptyGate} {
		change(base, func(g *impl.Gate) { g.Config.Budget = 4 })
		change(base, func(g *impl.Gate) { g.Config.Devices = math.MaxInt })
		change(base, func(g *impl.Gate) { g.Config.Policy = impl.Policy{} })
		change(base, func(g *impl.Gate) { g.Now = -1 })
		change(base, func(g *impl.Gate) { g.Now = maxTime + 1 })
		change(base, func(g *impl.Gate) { g.Last = maxId + 1 })
		change(base, func(g *impl.Gate) { g.Links = nil })
		change(base, func(g *impl.Gate) { g.Links = g.Links[:2] })
		change(base, func(g *impl.Gate) { g.Links[2].Epoch = -1 })
		change(base, func(g *impl.Gate) {
			g.Links[2] = impl.Link{Up: true, Seq: 3, Flying: []impl.Fly{{Seq: 3, Id: 16, Until: 5}}}
		})
		change(base, func(g *impl.Gate) { g.Left = nil })
		change(base, func(g *impl.Gate) { g.Left[1] = -1 })
		change(base, func(g *impl.Gate) { g.Turn = 3 })
		change(base, func(g *impl.Gate) { g.Turn = math.MinInt })
		change(base, func(g *impl.Gate) { g.Letters = append(g.Letters, 5) })
		change(base, func(g *impl.Gate) { g.Drained++ })
		change(base, func(g *impl.Gate) { g.Taken = math.MaxInt })
	}
	change(busyGate, func(g *impl.Gate) { g.Last = 29 })
	change(busyGate, func(g *impl.Gate) { slices.Reverse(g.Events) })
	change(busyGate, func(g *impl.Gate) { g.Letters = g.Letters[:1] })
	change(busyGate, func(g *impl.Gate) { g.Links[0].Up = false })
	change(busyGate, func(g *impl.Gate) { setStatus(g, 5, evFlying) })
	change(deadGate, func(g *impl.Gate) {
		addEvent(g, impl.Event{Id: maxEvents + 1, Device: 1, Cost: 1, Ttl: 1, Status: evExpired})
	})
	return append(gates, impl.Gate{},
		impl.Gate{Config: plainConfig()},
		impl.Gate{Links: []impl.Link{{Up: true, Seq: 1, Flying: []impl.Fly{{Seq: 1, Id: 1}}}}, Events: []impl.Event{{Id: 1, Device: 1, Status: evFlying}}},
		impl.Gate{Config: mostConfig(), Events: make([]impl.Event, 5000), Links: make([]impl.Link, 5000), Left: make([]int, 5000), Letters: make([]int, 5000)})
}

func TestWhatComesToAGateThatIsNotRight(t *testing.T) {
	ack := plainPut(impl.Frame{Kind: frAck, Device: 1, Epoch: 2, Seq: 4})
	hello := plainPut(impl.Frame{Kind: frHello, Device: 1})
	for _, g := range wrongGates() {
		if impl.GateOk(g) || plainGateOk(g) {
			t.Fatalf("%+v is right", g)
		}
		for _, n := range []int{math.MinInt, -1, 0, 1, 3, 4, 7, math.MaxInt} {
			if got, id, code := sameSubmit(t, g, message{n, n, "hi", n}); id != 0 || code != suBad || !sameGate(got, g) {
				t.Errorf("Submit(%+v, %d, ..) = %+v, %d, %d", g, n, got, id, code)
			}
			if up, down := sameConnect(t, g, n), sameDisconnect(t, g, n); !sameGate(up, g) || !sameGate(down, g) {
				t.Errorf("%+v connected is %+v, disconnected %+v", g, up, down)
			}
		}
		for _, s := range []string{"", ack, hello, "x" + ack, randomBytes(rand.New(rand.NewPCG(8, 3)), 100)} {
			untaken(t, g, s, rcBad)
		}
		if got, ids := sameDrain(t, g); len(ids) != 0 || !sameGate(got, g) {
			t.Errorf("Drain(%+v) = %+v, %v", g, got, ids)
		}
	}
}

func TestWhatComesInNumbersOfAnySize(t *testing.T) {
	for _, g := range []impl.Gate{emptyGate(), busyGate(), fullGate(), deadGate(), {}} {
		for _, n := range oddNumbers {
			sameConnect(t, g, n)
			sameDisconnect(t, g, n)
			for _, m := range []message{{n, 1, "", 1}, {1, n, "", 1}, {1, 1, "", n}, {n, n, "", n}, {2, n, "b", n}, {n, n, strings.Repeat("b", maxBody+1), n}} {
				sameSubmit(t, g, m)
			}
		}
		for n := range 70 {
			sameSubmit(t, g, message{2, 1, strings.Repeat("\x80", n), 1})
			sameReceive(t, g, strings.Repeat("\x00", n))
			sameReceive(t, g, anyBytes()[:n])
		}
		sameReceive(t, g, strings.Repeat(anyBytes(), 4000))
	}
}

// cells are places in memory. Lists that share none tell each of theirs once.
type cells map[any]bool

// addCells tells whether a list, with the room behind it, stands in none of the cells that were told ahead.
func addCells[T any](c cells, list []T) bool {
	alone := true
	whole := list[:cap(list)]
	for i := range whole {
		alone = alone && !c[&whole[i]]
		c[&whole[i]] = true
	}
	return alone
}

func (c cells) addGate(g impl.Gate) bool {
	alone := addCells(c, g.Events)
	alone = addCells(c, g.Links) && alone
	alone = addCells(c, g.Left) && alone
	alone = addCells(c, g.Letters) && alone
	for _, l := range g.Links {
		alone = addCells(c, l.Flying) && alone
	}
	return alone
}

// gateCall is a function that tells a Gate, and at times a list of numbers or of texts.
type gateCall struct {
	name string
	call func(g impl.Gate) (impl.Gate, []int, []string)
}

func comingCalls() []gateCall {
	var calls []gateCall
	add := func(name string, call func(g impl.Gate) (impl.Gate, []int)) {
		calls = append(calls, gateCall{name, func(g impl.Gate) (impl.Gate, []int, []string) {
			h, ids := call(g)
			return h, ids, nil
		}})
	}
	add("Drain", impl.Drain)
	for device := range 5 {
		add(fmt.Sprint("Submit to ", device), func(g impl.Gate) (impl.Gate, []int) {
			h, id, code := impl.Submit(g, device, 1, "hi", 1)
			return h, []int{id, code}
		})
		add(fmt.Sprint("Connect ", device), func(g impl.Gate) (impl.Gate, []int) { return impl.Connect(g, device), nil })
		add(fmt.Sprint("Disconnect ", device), func(g impl.Gate) (impl.Gate, []int) { return impl.Disconnect(g, device), nil })
	}
	for device := 1; device <= 2; device++ {
		for seq := range 8 {
			for kind, f := range framesOf(device, 3-device, seq) {
				s := plainPut(f)
				add(fmt.Sprint("Receive ", kind, " ", device, " ", seq), func(g impl.Gate) (impl.Gate, []int) {
					h, id, code := impl.Receive(g, s)
					return h, []int{id, code}
				})
			}
		}
	}
	return calls
}

// callsShareNothing looks whether what a call answers shares memory with its argument, with another answer, or in
// itself, and whether something is written into the argument.
func callsShareNothing(t *testing.T, calls []gateCall, gates ...impl.Gate) {
	t.Helper()
	for _, c := range calls {
		for _, g := range gates {
			g = roomyGate(g)
			before := allOf(g)
			told := cells{}
			told.addGate(g)
			one, ids, texts := c.call(g)
			two, idsToo, textsToo := c.call(g)
			if !told.addGate(one) || !addCells(told, ids) || !addCells(told, texts) {
				t.Fatalf("%s: the answer shares memory with %s, or in itself", c.name, before)
			}
			if !told.addGate(two) || !addCells(told, idsToo) || !addCells(told, textsToo) {
				t.Fatalf("%s: two answers share memory", c.name)
			}
			if !sameGate(one, two) || !slices.Equal(ids, idsToo) || !slices.Equal(texts, textsToo) {
				t.Fatalf("%s of %s: once %+v, %v, %q, then %+v, %v, %q", c.name, before, one, ids, texts, two, idsToo, textsToo)
			}
			scribbleGate(one)
			scribble(ids, -5)
			scribble(texts, "scribbled")
			if got := allOf(g); got != before {
				t.Fatalf("%s: what was %s is %s", c.name, before, got)
			}
		}
	}
}

func scribbleGate(g impl.Gate) {
	for _, l := range g.Links {
		scribble(l.Flying, impl.Fly{Seq: -5})
	}
	scribble(g.Links, impl.Link{Seq: -5})
	scribble(g.Events, impl.Event{Id: -5})
	scribble(g.Left, -5)
	scribble(g.Letters, -5)
}

// manyGates are right and wrong ones.
func manyGates(seed uint64) []impl.Gate {
	r := rand.New(rand.NewPCG(8, seed))
	gates := append(wrongGates()[:40], impl.Gate{}, busyGate(), fullGate(), deadGate(), emptyGate(), wideGate())
	for range 40 {
		shaken := anyGate(r)
		shake(r, &shaken)
		gates = append(gates, anyGate(r), shaken)
	}
	return gates
}

func TestTakeFunctionsShareNothing(t *testing.T) {
	callsShareNothing(t, comingCalls(), manyGates(4)...)
}

// Two lists of an argument may share memory. Those of the answer don't.
func TestTakeFunctionsOfListsThatAreOne(t *testing.T) {
	g := busyGate()
	flying := []impl.Fly{{Seq: 1, Id: 6, Until: 25}, {Seq: 2, Id: 12, Until: 30}}
	g.Links[0] = impl.Link{Up: true, Seq: 2, Flying: flying}
	g.Links[1] = impl.Link{Up: true, Seq: 2, Flying: flying}
	g.Letters = g.Left[:2]
	for _, c := range comingCalls() {
		h, ids, _ := c.call(g)
		told := cells{}
		if !told.addGate(h) || !addCells(told, ids) || !sameGate(h, g) {
			t.Errorf("%s: %+v", c.name, h)
		}
	}
	right := impl.NewGate(plainConfig())
	right.Left = []int{2, 1, 2, 1}[:3]
	right.Letters = right.Left[1:2]
	addEvent(&right, impl.Event{Id: 1, Device: 1, Cost: 1, Ttl: 1, Status: evDead})
	for _, c := range comingCalls() {
		h, ids, _ := c.call(right)
		told := cells{}
		told.addGate(right)
		if !told.addGate(h) || !addCells(told, ids) || !impl.GateOk(right) || !impl.GateOk(h) {
			t.Errorf("%s: %+v", c.name, h)
		}
	}
}
