package tests

import (
	"fmt"
	"math"
	"math/rand/v2"
	"slices"
	"testing"

	"loop.example/g00814/impl"
)

// Promise 9: a tick keeps a gate right; no device has more on its way than its window, nor more than its share; what
// is knocked for again is so no sooner than is set.

// The plain ways

func plainStepLate(g impl.Gate) impl.Gate {
	if !plainGateOk(g) {
		return g
	}
	h := copyGate(g)
	for i, l := range g.Links {
		late, ids := plainOut(l, true, func(f impl.Fly) bool { return f.Until <= g.Now })
		h.Links[i] = late
		for _, id := range ids {
			setStatus(&h, id, evWaiting)
		}
	}
	return h
}

func plainStepOld(g impl.Gate) impl.Gate {
	if !plainGateOk(g) {
		return g
	}
	h := copyGate(g)
	for _, e := range g.Events {
		if !plainOld(e, g.Now) {
			continue
		}
		setStatus(&h, e.Id, evExpired)
		for i, l := range h.Links {
			h.Links[i].Flying = slices.DeleteFunc(l.Flying, func(f impl.Fly) bool { return f.Id == e.Id })
		}
	}
	return h
}

func plainStepDead(g impl.Gate) impl.Gate {
	if !plainGateOk(g) {
		return g
	}
	h := copyGate(g)
	for len(h.Letters) < h.Config.Letters {
		at := slices.IndexFunc(h.Events, func(e impl.Event) bool { return e.Status == evExpired })
		if at < 0 {
			break
		}
		h.Events[at].Status = evDead
		h.Letters = append(h.Letters, h.Events[at].Id)
	}
	return h
}

func plainStepSend(g impl.Gate, draw int) (impl.Gate, []string) {
	if !plainGateOk(g) {
		return g, nil
	}
	if !between(draw, 0, maxTime) {
		draw = 0
	}
	h := copyGate(g)
	var frames []string
	for range g.Config.Budget {
		frames = append(frames, plainServe(&h, h.Turn, draw)...)
		h.Turn++
		if h.Turn == g.Config.Devices {
			h.Turn = 0
		}
	}
	return h, frames
}

// plainServe asks anew for the first one that is Ready each time.
func plainServe(g *impl.Gate, i, draw int) []string {
	c, l := g.Config, &g.Links[i]
	if !l.Up {
		g.Left[i] = 0
		return nil
	}
	var frames []string
	share := min(g.Left[i]+c.Quantum, maxLeft)
	for {
		ready := plainReadyOf(*g, i+1)
		if len(ready) == 0 {
			g.Left[i] = 0
			return frames
		}
		e := &g.Events[plainEventAt(*g, ready[0])]
		if e.Cost > share || len(l.Flying) == c.Window || l.Seq == maxSeq {
			g.Left[i] = share
			return frames
		}
		share -= e.Cost
		l.Seq++
		l.Flying = append(l.Flying, impl.Fly{Seq: l.Seq, Id: e.Id, Until: g.Now + c.Timeout})
		wait := plainDelay(c.Policy, e.Tries) + (draw+7*e.Id)%(c.Policy.Jitter+1)
		*e = plainKnocked(*e, g.Now, max(wait, c.Timeout))
		frames = append(frames, plainPut(impl.Frame{Kind: frSend, Device: i + 1, Epoch: l.Epoch, Seq: l.Seq, Id: e.Id, Body: e.Body}))
	}
}

func plainTick(g impl.Gate, draw int) (impl.Gate, []string) {
	if !plainGateOk(g) || g.Now == maxTime {
		return g, nil
	}
	h := copyGate(g)
	h.Now++
	return plainStepSend(plainStepDead(plainStepOld(plainStepLate(h))), draw)
}

// ticked are the frames and the changes that were told, to see that there were enough.
type ticked struct {
	frames, late, old, dead, kept int
}

// sameTicks holds all steps, and the tick, against the plain ways, each by itself; it tells the tick.
func sameTicks(t *testing.T, g impl.Gate, draw int, told *ticked) (impl.Gate, []string) {
	t.Helper()
	before, right := copyGate(g), plainGateOk(g)
	alike := func(name string, got, want impl.Gate, frames, wantFrames []string) {
		t.Helper()
		if !sameGate(got, want) || !slices.Equal(frames, wantFrames) {
			t.Fatalf("%s of %+v with %d = %+v, %q, want %+v, %q", name, g, draw, got, frames, want, wantFrames)
		}
		if impl.GateOk(got) != right || !right && (!sameGate(got, before) || len(frames) > 0) || !sameGate(g, before) {
			t.Fatalf("%s makes %+v, %q of %+v", name, got, frames, before)
		}
	}
	late, old, dead := plainStepLate(g), plainStepOld(g), plainStepDead(g)
	alike("StepLate", impl.StepLate(g), late, nil, nil)
	alike("StepOld", impl.StepOld(g), old, nil, nil)
	alike("StepDead", impl.StepDead(g), dead, nil, nil)
	got, frames := impl.StepSend(g, draw)
	sent, sentFrames := plainStepSend(g, draw)
	alike("StepSend", got, sent, frames, sentFrames)
	if right {
		told.frames += len(frames)
		told.dead += len(dead.Letters) - len(g.Letters)
		for i, e := range g.Events {
			told.late += e.Status - late.Events[i].Status
			if old.Events[i].Status != e.Status {
				told.old++
			}
		}
		for _, left := range sent.Left {
			told.kept += min(left, 1)
		}
	}
	got, frames = impl.Tick(g, draw)
	after, tickFrames := plainTick(g, draw)
	alike("Tick", got, after, frames, tickFrames)
	return got, frames
}

// The steps, each alone

// grounded is a Gate in which those Ids have another Status, and none of them flies.
func grounded(g impl.Gate, status int, ids []int) impl.Gate {
	h := copyGate(g)
	for _, id := range ids {
		setStatus(&h, id, status)
	}
	for i, l := range h.Links {
		h.Links[i].Flying = slices.DeleteFunc(l.Flying, func(f impl.Fly) bool { return slices.Contains(ids, f.Id) })
	}
	return h
}

func TestStepLate(t *testing.T) {
	for _, c := range []struct {
		now  int
		back []int
	}{
		{20, []int{6}},
		{21, []int{6, 9}},
		{24, []int{6, 9}},
		{25, []int{6, 9, 20}},
		{29, []int{6, 9, 20}},
		{30, []int{6, 9, 12, 20}},
		{maxTime, []int{6, 9, 12, 20}},
	} {
		g := busyGate()
		g.Now = c.now
		want := grounded(g, evWaiting, c.back)
		if got := impl.StepLate(g); !sameGate(got, want) || !impl.GateOk(got) {
			t.Errorf("StepLate at %d = %+v, want %+v", c.now, got, want)
		}
	}
	g := busyGate()
	g.Links[1].Flying[0].Until = 21
	if got := impl.StepLate(g); !sameGate(got, g) {
		t.Errorf("StepLate where none is late = %+v", got)
	}
}

func TestStepOld(t *testing.T) {
	for _, c := range []struct {
		now int
		old []int
	}{
		{20, []int{21}},
		{59, []int{21}},
		{60, []int{5, 21}},
		{61, []int{5, 6, 9, 21}},
		{62, []int{5, 6, 9, 12, 15, 21}},
		{63, []int{5, 6, 9, 12, 15, 21}},
		{64, []int{5, 6, 9, 12, 15, 20, 21}},
		{69, []int{5, 6, 9, 12, 15, 20, 21}},
		{70, []int{5, 6, 9, 12, 15, 16, 20, 21}},
		{maxTime, []int{5, 6, 9, 12, 15, 16, 20, 21}},
	} {
		g := busyGate()
		g.Now = c.now
		want := grounded(g, evExpired, c.old)
		if got := impl.StepOld(g); !sameGate(got, want) || !impl.GateOk(got) {
			t.Errorf("StepOld at %d = %+v, want %+v", c.now, got, want)
		}
	}
}

func TestStepDead(t *testing.T) {
	for _, c := range []struct {
		letters int
		want    []int
	}{
		{2, []int{25, 2}},
		{3, []int{25, 2, 11}},
		{4, []int{25, 2, 11, 30}},
		{5, []int{25, 2, 11, 30}},
		{maxLetters, []int{25, 2, 11, 30}},
	} {
		g := busyGate()
		g.Config.Letters = c.letters
		want := copyGate(g)
		want.Letters = c.want
		for _, id := range c.want {
			setStatus(&want, id, evDead)
		}
		if got := impl.StepDead(g); !sameGate(got, want) || !impl.GateOk(got) {
			t.Errorf("StepDead with room for %d = %+v, want %+v", c.letters, got, want)
		}
	}
	// What can't be laid aside waits till there is room.
	g, aside := deadGate(), 0
	for _, want := range []int{20, 20, 20, 0, 0} {
		h, ids := impl.Drain(impl.StepDead(g))
		if len(ids) != want || !impl.GateOk(h) {
			t.Errorf("drained are %v, want %d of them", ids, want)
		}
		if aside += len(ids); aside > 20 && !slices.IsSorted(ids) {
			t.Errorf("laid aside in this order: %v", ids)
		}
		g = h
	}
	if len(g.Events) != 0 || g.Drained != maxEvents {
		t.Errorf("left over: %+v", g)
	}
}

// sharing is a gate with one Device that is Up, and Events of these costs that are Ready, with the Ids from 1 on.
func sharing(left, quantum, window int, costs ...int) impl.Gate {
	c := mostConfig()
	c.Devices, c.Budget, c.Quantum, c.Window, c.Timeout = 1, 1, quantum, window, 5
	c.Policy = impl.Policy{Base: 2, Cap: 16, Jitter: 8, Ttl: 50}
	g := impl.NewGate(c)
	g.Now, g.Left[0] = 10, left
	g.Links[0] = impl.Link{Up: true, Epoch: 3, Seq: 6}
	for i, cost := range costs {
		addEvent(&g, impl.Event{Id: i + 1, Device: 1, Cost: cost, Body: fmt.Sprint("body ", i), At: 4, Ttl: 40, Next: 10})
	}
	return g
}

func TestServedByItsShare(t *testing.T) {
	for _, c := range []struct {
		left, quantum, window int
		costs                 []int
		sent, share           int
	}{
		// All are knocked for: the share is gone, however much is left of it.
		{0, 3, 8, []int{1, 1, 1}, 3, 0},
		{0, 3, 8, []int{1}, 1, 0},
		{500, 20, 8, []int{9, 9, 9}, 3, 0},
		{0, 1, 8, []int{1}, 1, 0},
		{8, 1, 8, []int{9}, 1, 0},
		// One is still Ready: the share is kept for it.
		{0, 3, 8, []int{2, 2}, 1, 1},
		{0, 3, 8, []int{3, 1}, 1, 0},
		{0, 3, 8, []int{5}, 0, 3},
		{3, 3, 8, []int{7}, 0, 6},
		{4, 3, 8, []int{7}, 1, 0},
		{2, 3, 8, []int{3, 3}, 1, 2},
		{0, 1, 8, []int{2}, 0, 1},
		{0, 20, 8, []int{9, 9, 9}, 2, 2},
		// Those behind one that costs too much wait behind it, however little they cost.
		{0, 3, 8, []int{9, 1, 1}, 0, 3},
		{0, 3, 8, []int{1, 9, 1}, 1, 2},
		{0, 9, 8, []int{1, 9, 1}, 1, 8},
		// The share grows to MaxLeft at most, ahead of what is taken from it.
		{979, 20, 8, []int{9, 9, 9, 9, 9, 9, 9, 9, 9}, 8, 927},
		{980, 20, 8, []int{9, 9, 9, 9, 9, 9, 9, 9, 9}, 8, 928},
		{981, 20, 8, []int{9, 9, 9, 9, 9, 9, 9, 9, 9}, 8, 928},
		{1000, 20, 8, []int{9, 9, 9, 9, 9, 9, 9, 9, 9}, 8, 928},
		{1000, 1, 1, []int{9, 1}, 1, 991},
		// As many as the Window says.
		{0, 20, 1, []int{1, 1, 1}, 1, 19},
		{0, 20, 2, []int{1, 1, 1}, 2, 18},
		{0, 20, 3, []int{1, 1, 1}, 3, 0},
		{0, 20, 4, []int{1, 1, 1}, 3, 0},
		{0, 20, 8, []int{1, 1, 1, 1, 1, 1, 1, 1, 1}, 8, 12},
		// None is Ready.
		{0, 3, 8, nil, 0, 0},
		{700, 3, 8, nil, 0, 0},
	} {
		g := sharing(c.left, c.quantum, c.window, c.costs...)
		got, frames := impl.StepSend(g, 0)
		want := copyGate(g)
		want.Left[0] = c.share
		want.Links[0].Seq += c.sent
		var wantFrames []string
		for i := range c.sent {
			e := &want.Events[i]
			e.Status, e.Tries, e.Next = evFlying, 1, 10+max(5, 2+7*e.Id%9)
			want.Links[0].Flying = append(want.Links[0].Flying, impl.Fly{Seq: 7 + i, Id: e.Id, Until: 15})
			wantFrames = append(wantFrames, plainPut(impl.Frame{Kind: frSend, Device: 1, Epoch: 3, Seq: 7 + i, Id: e.Id, Body: e.Body}))
		}
		if !sameGate(got, want) || !slices.Equal(frames, wantFrames) || !impl.GateOk(got) {
			t.Errorf("with %+v: %+v, %q, want %+v, %q", c, got, frames, want, wantFrames)
		}
	}
}

// unserved looks whether nothing is sent, and what is left of the share.
func unserved(t *testing.T, what string, g impl.Gate, share int) {
	t.Helper()
	want := copyGate(g)
	want.Left[0] = share
	if got, frames := impl.StepSend(g, 5); !sameGate(got, want) || len(frames) > 0 || !impl.GateOk(g) {
		t.Errorf("%s: %+v, %q", what, got, frames)
	}
}

func TestServedButNothingIsSent(t *testing.T) {
	down := sharing(7, 3, 8, 1, 1)
	down.Links[0] = impl.Link{Epoch: 3, Seq: 6}
	unserved(t, "its Link isn't Up", down, 0)
	early := sharing(7, 3, 8, 1, 1)
	early.Events[0].Next, early.Events[1].Next = 11, maxNext
	unserved(t, "it is too early", early, 0)
	late := sharing(7, 3, 8, 1, 1)
	late.Events[0].Ttl, late.Events[1].Ttl = 6, 1
	unserved(t, "it is too late", late, 0)
	over := sharing(7, 3, 8, 1, 1)
	over.Events[0].Status, over.Events[1].Status = evExpired, evDead
	over.Letters = []int{2}
	unserved(t, "all is over", over, 0)
	full := sharing(7, 3, 2, 1, 1, 1)
	full.Events[0].Status, full.Events[2].Status = evFlying, evFlying
	addFly(&full, 0, 3)
	addFly(&full, 0, 1)
	unserved(t, "its Window is full", full, 10)
	full.Events[1].Next = 11
	unserved(t, "its Window is full, and none is Ready", full, 0)
	last := sharing(7, 3, 8, 1, 1)
	last.Links[0].Seq = maxSeq
	unserved(t, "its Seq is at MaxSeq", last, 10)
	last.Left[0] = maxLeft - 1
	unserved(t, "its Seq is at MaxSeq", last, maxLeft)
}

// Where the Seqs come to an end between two, the share is kept for the second one.
func TestServedUpToTheLastSeq(t *testing.T) {
	for room := 1; room <= 4; room++ {
		g := sharing(7, 3, 8, 2, 2, 2)
		g.Links[0].Seq = maxSeq - room
		got, frames := impl.StepSend(g, 0)
		sent, share := min(room, 3), 10-2*room
		if room >= 3 {
			share = 0
		}
		if len(frames) != sent || len(got.Links[0].Flying) != sent || got.Links[0].Seq != maxSeq-room+sent || got.Left[0] != share || !impl.GateOk(got) {
			t.Errorf("with %d left: %+v, %q", room, got, frames)
		}
	}
}

// What isn't Ready stands in no one's way, and is left as it was.
func TestServedAreThoseThatAreReady(t *testing.T) {
	g := sharing(0, 20, 8, 9, 1, 9, 2, 9, 9, 3)
	g.Events[0].Next = 11
	g.Events[2].Status = evExpired
	g.Events[4].Ttl = 5
	setStatus(&g, 6, evFlying)
	addFly(&g, 0, 6)
	got, frames := impl.StepSend(g, 0)
	var ids []int
	for _, s := range frames {
		f, _ := impl.GetFrame(s)
		ids = append(ids, f.Id)
	}
	if !slices.Equal(ids, []int{2, 4, 7}) || !slices.Equal(idsOf(got.Links[0].Flying), []int{6, 2, 4, 7}) || got.Left[0] != 0 {
		t.Errorf("%+v, sent are %v", got, ids)
	}
	for _, at := range []int{0, 2, 4, 5} {
		if got.Events[at] != g.Events[at] {
			t.Errorf("%+v, was %+v", got.Events[at], g.Events[at])
		}
	}
}

func TestKnockedForWithADraw(t *testing.T) {
	for _, c := range []struct{ tries, timeout, draw, next int }{
		// The Delay is 2, 4, 8 or 16, and 7 and the draw are divided by 9.
		{0, 1, 0, 2 + 7}, {1, 1, 0, 4 + 7}, {2, 1, 0, 8 + 7}, {3, 1, 0, 16 + 7}, {4, 1, 0, 16 + 7},
		{maxTries - 1, 1, 0, 16 + 7}, {maxTries, 1, 0, 16 + 7},
		{0, 1, 1, 2 + 8}, {0, 1, 2, 2}, {0, 1, 3, 2 + 1}, {0, 1, 10, 2 + 8}, {3, 1, 11, 16},
		{0, 1, maxTime - 1, 2 + 7}, {0, 1, maxTime, 2 + 8},
		// What is none is as 0.
		{0, 1, maxTime + 1, 2 + 7}, {0, 1, maxTime + 2, 2 + 7}, {0, 1, -1, 2 + 7}, {0, 1, -2, 2 + 7}, {0, 1, math.MinInt, 2 + 7}, {0, 1, math.MaxInt, 2 + 7}, {3, 1, 1<<32 + 1, 16 + 7},
		// It is the greater one of both.
		{0, 8, 0, 9}, {0, 9, 0, 9}, {0, 10, 0, 10}, {0, 2, 2, 2}, {0, 3, 2, 3}, {3, 22, 0, 23}, {3, 23, 0, 23}, {3, 24, 0, 24}, {3, maxTimeout, 0, maxTimeout},
	} {
		g := sharing(0, 3, 8, 1)
		g.Config.Timeout, g.Events[0].Tries = c.timeout, c.tries
		got, frames := impl.StepSend(g, c.draw)
		e := g.Events[0]
		e.Status, e.Tries, e.Next = evFlying, min(c.tries+1, maxTries), 10+c.next
		if got.Events[0] != e || got.Links[0].Flying[0].Until != 10+c.timeout || len(frames) != 1 || !impl.GateOk(got) {
			t.Errorf("with %+v: %+v, want %+v", c, got, e)
		}
	}
	// Of another Id it is another rest.
	g := sharing(0, 20, 8, 1, 1, 1, 1, 1)
	g.Config.Timeout = 1
	got, _ := impl.StepSend(g, 4)
	for i, want := range []int{2 + 2, 2 + 0, 2 + 7, 2 + 5, 2 + 3} {
		if e := got.Events[i]; e.Next != 10+want {
			t.Errorf("%+v, want Next %d", e, 10+want)
		}
	}
}

// Who is served first is at place Turn, and behind the last one comes the first one.
func TestServedInTurn(t *testing.T) {
	for devices := 1; devices <= maxDevice; devices++ {
		for budget := 1; budget <= devices; budget++ {
			for turn := range devices {
				g := wideGate()
				g.Config.Devices, g.Config.Budget, g.Turn = devices, budget, turn
				g.Events, g.Taken = g.Events[:devices], devices
				g.Links, g.Left = make([]impl.Link, devices), slices.Repeat([]int{5}, devices)
				g.Now = 10
				for i := range devices {
					g.Links[i].Up = true
					g.Events[i].Cost = 1 + i
				}
				got, frames := impl.StepSend(g, 0)
				if got.Turn != (turn+budget)%devices || len(frames) != budget || !impl.GateOk(got) {
					t.Fatalf("%d of %d from %d on: %+v, %q", budget, devices, turn, got, frames)
				}
				for i, s := range frames {
					f, code := impl.GetFrame(s)
					if place := (turn + i) % devices; code != geOk || f.Device != place+1 || got.Left[place] != 0 {
						t.Errorf("%d of %d from %d on: %v at %d", budget, devices, turn, f, i)
					}
				}
				for i := budget; i < devices; i++ {
					if place := (turn + i) % devices; got.Left[place] != 5 || !sameLink(got.Links[place], g.Links[place]) || got.Events[place] != g.Events[place] {
						t.Errorf("%d of %d from %d on: %d isn't to be served, but %+v", budget, devices, turn, place, got)
					}
				}
			}
		}
	}
}

func TestStepSendToABusyGate(t *testing.T) {
	// At first the second Device, whose Window is full, then the third one, which isn't Up.
	want := busyGate()
	want.Turn, want.Left = 0, []int{0, maxLeft, 0}
	if got, frames := impl.StepSend(busyGate(), 0); !sameGate(got, want) || len(frames) > 0 {
		t.Errorf("%+v, %q, want %+v", got, frames, want)
	}
	// At last the third Device, then the first one, whose Window is full as well.
	g := busyGate()
	g.Turn = 2
	want.Turn, want.Left = 1, []int{3, maxLeft, 0}
	if got, frames := impl.StepSend(g, 0); !sameGate(got, want) || len(frames) > 0 {
		t.Errorf("%+v, %q, want %+v", got, frames, want)
	}
	// With a wider Window one of the second Device is knocked for: it costs 8, its Delay is 2, and 112 leaves no rest by 4.
	g = busyGate()
	g.Config.Window = 3
	want = copyGate(g)
	want.Turn, want.Left = 0, []int{0, 0, 0}
	want.Links[1].Seq = 3
	want.Links[1].Flying = append(want.Links[1].Flying, impl.Fly{Seq: 3, Id: 16, Until: 25})
	want.Events[7].Status, want.Events[7].Tries, want.Events[7].Next = evFlying, 1, 25
	frame := plainPut(impl.Frame{Kind: frSend, Device: 2, Epoch: 1, Seq: 3, Id: 16, Body: "16"})
	if got, frames := impl.StepSend(g, 0); !sameGate(got, want) || !slices.Equal(frames, []string{frame}) {
		t.Errorf("%+v, %q, want %+v", got, frames, want)
	}
}

// A tick

func TestTickIsItsStepsInOrder(t *testing.T) {
	r := rand.New(rand.NewPCG(9, 1))
	changed := 0
	for i := range 3000 {
		g := anyGate(r)
		if i%3 == 0 {
			g = []impl.Gate{busyGate(), fullGate(), deadGate(), wideGate()}[i%4]
			g.Now = min(g.Now, maxTime-1)
			for i := range g.Events {
				g.Events[i].At = min(g.Events[i].At, g.Now)
			}
		}
		later := copyGate(g)
		later.Now++
		want, wantFrames := impl.StepSend(impl.StepDead(impl.StepOld(impl.StepLate(later))), i)
		got, frames := impl.Tick(g, i)
		if !sameGate(got, want) || !slices.Equal(frames, wantFrames) || !impl.GateOk(got) || got.Now != g.Now+1 {
			t.Fatalf("Tick(%+v, %d) = %+v, %q, want %+v, %q", g, i, got, frames, want, wantFrames)
		}
		if later.Turn = got.Turn; !sameGate(got, later) {
			changed++
		}
	}
	if changed < 2000 {
		t.Errorf("but only %d were changed", changed)
	}
}

// What becomes late is knocked for in the same tick, what becomes too old is laid aside in it.
func TestTickOfSteps(t *testing.T) {
	g := sharing(0, 20, 1, 1, 1, 1)
	g.Events[0].Ttl = 7
	setStatus(&g, 2, evFlying)
	addFly(&g, 0, 2)
	g.Links[0].Flying[0].Until = 11
	got, frames := impl.Tick(g, 0)
	if got.Events[0].Status != evDead || !slices.Equal(got.Letters, []int{1}) || got.Events[1].Status != evFlying || got.Events[1].Tries != 1 || !slices.Equal(idsOf(got.Links[0].Flying), []int{2}) || len(frames) != 1 || got.Left[0] != 19 {
		t.Errorf("%+v, %q", got, frames)
	}
	// What flies as long as it lasts is late, too old and dead at once.
	g = sharing(0, 20, 8, 1)
	g.Events[0].Ttl = 7
	setStatus(&g, 1, evFlying)
	addFly(&g, 0, 1)
	if got, frames := impl.Tick(g, 0); got.Events[0].Status != evDead || len(got.Links[0].Flying) > 0 || len(frames) > 0 || got.Left[0] != 0 {
		t.Errorf("%+v, %q", got, frames)
	}
	// Now is one more ahead of all: what is Ready at 11 is knocked for.
	g = sharing(0, 20, 8, 1)
	g.Events[0].Next = 11
	if got, frames := impl.Tick(g, 0); got.Now != 11 || got.Events[0].Next != 11+9 || got.Links[0].Flying[0].Until != 16 || len(frames) != 1 {
		t.Errorf("%+v, %q", got, frames)
	}
}

// What is too old at this very tick isn't knocked for any more; one tick earlier it is, for the last time.
func TestTickWhereOneTurnsOld(t *testing.T) {
	for _, c := range []struct {
		ttl, status  int
		sent, become int
	}{
		{5, evWaiting, 0, evDead}, {6, evWaiting, 0, evDead}, {7, evWaiting, 0, evDead}, {8, evWaiting, 1, evFlying}, {9, evWaiting, 1, evFlying},
		{5, evFlying, 0, evDead}, {6, evFlying, 0, evDead}, {7, evFlying, 0, evDead}, {8, evFlying, 0, evFlying}, {9, evFlying, 0, evFlying},
	} {
		// At is 4, and the tick is the one from 10 to 11.
		g := sharing(0, 20, 8, 1)
		g.Events[0].Ttl = c.ttl
		if c.status == evFlying {
			setStatus(&g, 1, evFlying)
			addFly(&g, 0, 1)
			g.Links[0].Flying[0].Until = 12
		}
		got, frames := impl.Tick(g, 0)
		flying := 0
		if c.become == evFlying {
			flying = 1
		}
		if len(frames) != c.sent || got.Events[0].Status != c.become || len(got.Links[0].Flying) != flying || len(got.Letters) != 1-flying || !impl.GateOk(got) {
			t.Errorf("with %+v: %+v, %q", c, got, frames)
		}
	}
}

// What is late at this very tick is knocked for again in it, but no sooner than at Next.
func TestTickWhereOneIsLate(t *testing.T) {
	for _, c := range []struct {
		until, next  int
		sent, become int
	}{
		{0, 11, 1, evFlying}, {10, 11, 1, evFlying}, {11, 11, 1, evFlying}, {12, 11, 0, evFlying},
		{10, 12, 0, evWaiting}, {11, 12, 0, evWaiting}, {12, 12, 0, evFlying}, {11, maxNext, 0, evWaiting}, {11, 0, 1, evFlying},
	} {
		g := sharing(0, 20, 8, 1)
		g.Events[0].Tries, g.Events[0].Next = 1, c.next
		setStatus(&g, 1, evFlying)
		addFly(&g, 0, 1)
		g.Links[0].Flying[0].Until = c.until
		seq := g.Links[0].Seq
		got, frames := impl.Tick(g, 0)
		if len(frames) != c.sent || got.Events[0].Status != c.become || got.Events[0].Tries != 1+c.sent || got.Links[0].Seq != seq+c.sent || !impl.GateOk(got) {
			t.Errorf("with %+v: %+v, %q", c, got, frames)
		}
	}
}

func TestTickWhereLettersAreFull(t *testing.T) {
	for letters := 1; letters <= 3; letters++ {
		g := sharing(0, 20, 8, 1, 1, 1)
		g.Config.Letters = letters
		for i := range g.Events {
			g.Events[i].Ttl = 7
		}
		setStatus(&g, 3, evDead)
		g.Letters = []int{3}
		got, _ := impl.Tick(g, 0)
		want := [][]int{{3}, {3, 1}, {3, 1, 2}}[letters-1]
		counts := map[int]int{}
		for _, e := range got.Events {
			counts[e.Status]++
		}
		if !slices.Equal(got.Letters, want) || counts[evDead] != letters || counts[evExpired] != 3-letters || !impl.GateOk(got) {
			t.Errorf("with room for %d: %+v", letters, got)
		}
		// Drained, there is room for those that had to wait.
		drained, _ := impl.Drain(got)
		if next, _ := impl.Tick(drained, 0); len(next.Letters) != min(letters, 3-letters) {
			t.Errorf("with room for %d, one tick later: %+v", letters, next)
		}
	}
}

func TestTickAtTheEndOfTime(t *testing.T) {
	for _, base := range []func() impl.Gate{emptyGate, busyGate, fullGate, deadGate, wideGate} {
		g := base()
		g.Now = maxTime
		for _, draw := range oddNumbers {
			if got, frames := impl.Tick(g, draw); !sameGate(got, g) || len(frames) > 0 {
				t.Errorf("Tick at MaxTime: %+v, %q", got, frames)
			}
		}
		sameTicks(t, g, 5, &ticked{})
	}
	g := sharing(0, 20, 8, 1)
	g.Now, g.Events[0].At = maxTime-1, maxTime-1
	got, frames := impl.Tick(g, 0)
	if got.Now != maxTime || len(frames) != 1 || got.Links[0].Flying[0].Until != maxTime+5 || got.Events[0].Next != maxTime+9 || !impl.GateOk(got) {
		t.Errorf("Tick ahead of MaxTime: %+v, %q", got, frames)
	}
	// The steps by themselves are done at MaxTime, too.
	g.Now = maxTime
	if got, frames := impl.StepSend(g, 0); len(frames) != 1 || !impl.GateOk(got) {
		t.Errorf("StepSend at MaxTime: %+v, %q", got, frames)
	}
	most := fullGate()
	most.Config.Policy = impl.Policy{Base: maxCap, Cap: maxCap, Jitter: maxJitter, Ttl: maxTtl}
	for i := range most.Links {
		most.Links[i] = impl.Link{Up: true}
	}
	for i := range most.Events {
		e := &most.Events[i]
		e.Status, e.Next = evWaiting, maxTime
	}
	got, frames = impl.StepSend(most, maxTime)
	if len(frames) != maxDevice*maxWindow || !impl.GateOk(got) {
		t.Errorf("StepSend of all that may be: %+v, %q", got, frames)
	}
}

// A message is knocked for again and again, ever more slowly, till it is too old.
func TestTicksOfOneMessage(t *testing.T) {
	c := plainConfig()
	c.Devices, c.Budget, c.Timeout = 1, 1, 3
	c.Policy = impl.Policy{Base: 2, Cap: 8, Ttl: 50}
	g, _, _ := impl.Submit(impl.NewGate(c), 1, 1, "hi", 30)
	g = impl.Connect(g, 1)
	var knocks []int
	for g.Now < 40 {
		h, frames := impl.Tick(g, g.Now*7)
		for _, s := range frames {
			knocks = append(knocks, h.Now)
			if f, _ := impl.GetFrame(s); f != (impl.Frame{Kind: frSend, Device: 1, Epoch: 1, Seq: len(knocks), Id: 1, Body: "hi"}) {
				t.Errorf("at %d: %v", h.Now, f)
			}
		}
		g = h
	}
	// At first it waits for the Timeout, then 4, and then 8 each time.
	if !slices.Equal(knocks, []int{1, 4, 8, 16, 24}) || g.Events[0].Status != evDead || g.Events[0].Tries != 5 || !slices.Equal(g.Letters, []int{1}) {
		t.Errorf("knocked for at %v: %+v", knocks, g)
	}
}

// Promise 9, over long runs

// knocked is when a message was knocked for, and the soonest time at which it may be so again.
type knocked struct {
	at, soonest int
}

// run is a gate to which this and that comes in between its ticks.
type run struct {
	t      *testing.T
	r      *rand.Rand
	gate   impl.Gate
	draw   int
	knocks map[int]knocked
	again  int
	frames int
}

// newRun has a Config of any small numbers, in which nothing lasts longer than the longest.
func newRun(t *testing.T, r *rand.Rand, longest int) *run {
	devices := 1 + r.IntN(maxDevice)
	c := impl.Config{Devices: devices, Queue: 1 + r.IntN(maxQueue), Window: 1 + r.IntN(4), Timeout: 1 + r.IntN(9), Quantum: 1 + r.IntN(5), Budget: 1 + r.IntN(devices), Letters: 1 + r.IntN(4)}
	c.Policy = impl.Policy{Base: 1 + r.IntN(3), Cap: 3 + r.IntN(20), Jitter: r.IntN(9), Ttl: 1 + r.IntN(longest)}
	return &run{t: t, r: r, gate: impl.NewGate(c), knocks: map[int]knocked{}}
}

func (x *run) come() {
	device := 1 + x.r.IntN(x.gate.Config.Devices)
	switch x.r.IntN(10) {
	case 0, 1, 2, 3:
		x.gate, _, _ = impl.Submit(x.gate, device, 1+x.r.IntN(maxCost), randomBytes(x.r, x.r.IntN(9)), 1+x.r.IntN(x.gate.Config.Policy.Ttl))
	case 4, 5, 6, 7:
		x.gate, _, _ = impl.Receive(x.gate, anyBytesFor(x.r, x.gate))
	case 8:
		if !x.gate.Links[device-1].Up || x.r.IntN(10) == 0 {
			x.gate = impl.Connect(x.gate, device)
		}
	case 9:
		if x.r.IntN(10) == 0 {
			x.gate = impl.Disconnect(x.gate, device)
		}
		x.gate, _ = impl.Drain(x.gate)
	}
	if !impl.GateOk(x.gate) {
		x.t.Fatalf("it isn't right: %+v", x.gate)
	}
}

func (x *run) tick() {
	before := x.gate
	x.draw = x.r.IntN(5000)
	g, frames := impl.Tick(before, x.draw)
	x.gate = g
	costs := make([]int, len(g.Left))
	for _, s := range frames {
		e := x.frame(before, s)
		costs[e.Device-1] += e.Cost
	}
	for i, cost := range costs {
		served := (i-before.Turn+len(costs))%len(costs) < g.Config.Budget
		if cost > min(before.Left[i]+g.Config.Quantum, maxLeft) || cost > 0 && !served {
			x.t.Fatalf("of %+v, what costs %d is sent to the Device at %d", before, cost, i)
		}
	}
	x.isKept()
}

// frame looks whether a frame is that of an Event that flies from now on, and may be knocked for; it tells the Event.
func (x *run) frame(before impl.Gate, s string) impl.Event {
	f, code := impl.GetFrame(s)
	x.frames++
	at := plainEventAt(x.gate, f.Id)
	if code != geOk || f.Kind != frSend || at < 0 {
		x.t.Fatalf("a frame %v, %d of %+v", f, code, x.gate)
	}
	c, e, l := x.gate.Config, x.gate.Events[at], x.gate.Links[f.Device-1]
	fly := impl.Fly{Seq: f.Seq, Id: f.Id, Until: x.gate.Now + c.Timeout}
	if e.Device != f.Device || e.Body != f.Body || e.Status != evFlying || f.Epoch != l.Epoch || !slices.Contains(l.Flying, fly) || f.Seq <= before.Links[f.Device-1].Seq {
		x.t.Fatalf("a frame %v of %+v in %+v", f, e, x.gate)
	}
	if last, known := x.knocks[f.Id]; known {
		x.again++
		if x.gate.Now < last.soonest {
			x.t.Fatalf("%d, knocked for at %d, is knocked for again at %d, ahead of %d", f.Id, last.at, x.gate.Now, last.soonest)
		}
	}
	wait := plainDelay(c.Policy, e.Tries-1) + (x.draw+7*f.Id)%(c.Policy.Jitter+1)
	x.knocks[f.Id] = knocked{x.gate.Now, x.gate.Now + max(c.Timeout, wait)}
	return e
}

// isKept looks whether the gate is right behind a tick, and nothing is left that a tick should have done.
func (x *run) isKept() {
	g := x.gate
	if !impl.GateOk(g) {
		x.t.Fatalf("it isn't right: %+v", g)
	}
	for _, e := range g.Events {
		if impl.Old(e, g.Now) || e.Status == evExpired && len(g.Letters) < g.Config.Letters {
			x.t.Fatalf("%+v is left in %+v", e, g)
		}
	}
	for _, l := range g.Links {
		late := slices.ContainsFunc(l.Flying, func(f impl.Fly) bool { return f.Until <= g.Now })
		if len(l.Flying) > g.Config.Window || late {
			x.t.Fatalf("%+v flies in %+v", l, g)
		}
	}
}

func TestTicksKeepAGateRight(t *testing.T) {
	again, frames, dead := 0, 0, 0
	for seed := range uint64(40) {
		x := newRun(t, rand.New(rand.NewPCG(9, 100+seed)), 200)
		for range 600 {
			for range x.r.IntN(3) {
				x.come()
			}
			x.tick()
		}
		again += x.again
		frames += x.frames
		dead += x.gate.Drained
	}
	if again < 2000 || frames < 5000 || dead < 500 {
		t.Errorf("but %d were knocked for, %d of them again, and %d are dead", frames, again, dead)
	}
}

// No one is passed over: what each Device may send, of as many as wait, is as much as any other's but for what one costs.
func TestServedByEqualShares(t *testing.T) {
	c := mostConfig()
	c.Timeout, c.Quantum, c.Budget, c.Window = 1, 4, 1, 3
	c.Policy = impl.Policy{Base: 1, Cap: 1, Ttl: maxTtl}
	g := impl.NewGate(c)
	for device := 1; device <= maxDevice; device++ {
		g = impl.Connect(g, device)
		for i := range maxQueue {
			g, _, _ = impl.Submit(g, device, 1+(device*i)%maxCost, "", maxTtl)
		}
	}
	costs := make([]int, maxDevice)
	for range 60 * maxDevice {
		h, frames := impl.Tick(g, 0)
		for _, s := range frames {
			f, _ := impl.GetFrame(s)
			costs[f.Device-1] += h.Events[plainEventAt(h, f.Id)].Cost
		}
		g = h
	}
	for i, cost := range costs {
		if cost > 60*c.Quantum || cost < 60*c.Quantum-c.Quantum-maxCost {
			t.Errorf("to the Device at %d went %d of %v", i, cost, costs)
		}
	}
}

func TestTicksOfAnyGate(t *testing.T) {
	r := rand.New(rand.NewPCG(9, 2))
	bases := []func() impl.Gate{busyGate, fullGate, deadGate, emptyGate, wideGate, func() impl.Gate { return anyGate(r) }, func() impl.Gate { return anyGate(r) }, func() impl.Gate { return anyGate(r) }}
	var right, shaken ticked
	wrong := 0
	for i := range 12000 {
		g := bases[i%len(bases)]()
		// Many wait, and are Ready, though not all can be knocked for.
		for i, e := range g.Events {
			if e.Status == evWaiting && r.IntN(4) > 0 {
				g.Events[i].At, g.Events[i].Next = max(g.Now-r.IntN(3), 0), g.Now
			}
		}
		for i := range g.Left {
			if g.Left[i] = r.IntN(12); r.IntN(8) == 0 {
				g.Left[i] = maxLeft - r.IntN(22)
			}
			if r.IntN(6) == 0 {
				g.Links[i].Seq = maxSeq - r.IntN(2)
			}
		}
		draw := r.IntN(maxTime + 1)
		if r.IntN(4) == 0 {
			draw = oddNumbers[r.IntN(len(oddNumbers))]
		}
		sameTicks(t, g, draw, &right)
		shake(r, &g)
		if !plainGateOk(g) {
			wrong++
		}
		sameTicks(t, g, draw, &shaken)
	}
	for _, told := range []ticked{right, shaken} {
		if told.frames < 1500 || told.late < 2000 || told.old < 2000 || told.dead < 2000 || told.kept < 2000 {
			t.Errorf("but there were %+v", told)
		}
	}
	if wrong < 4000 {
		t.Errorf("but %d weren't right", wrong)
	}
}

// Promise 15: every function answers at any arguments, and writes into none.

func TestTicksOfAGateThatIsNotRight(t *testing.T) {
	for _, g := range wrongGates() {
		for _, draw := range []int{math.MinInt, -1, 0, 1, maxTime, maxTime + 1, math.MaxInt} {
			sent, frames := impl.StepSend(g, draw)
			after, tickFrames := impl.Tick(g, draw)
			for i, got := range []impl.Gate{impl.StepLate(g), impl.StepOld(g), impl.StepDead(g), sent, after} {
				if !sameGate(got, g) || len(frames) > 0 || len(tickFrames) > 0 {
					t.Fatalf("the function at %d makes %+v, %q, %q of %+v", i, got, frames, tickFrames, g)
				}
			}
		}
	}
}

func TestTicksWithDrawsOfAnySize(t *testing.T) {
	for _, g := range []impl.Gate{emptyGate(), busyGate(), fullGate(), deadGate(), wideGate(), sharing(3, 9, 4, 1, 2, 3), {}} {
		for _, draw := range append(slices.Clone(oddNumbers), maxTime-1, maxTime, maxTime+1, maxTime+2) {
			sameTicks(t, g, draw, &ticked{})
		}
	}
}

func tickCalls() []gateCall {
	step := func(name string, call func(impl.Gate) impl.Gate) gateCall {
		return gateCall{name, func(g impl.Gate) (impl.Gate, []int, []string) { return call(g), nil, nil }}
	}
	send := func(name string, draw int, call func(impl.Gate, int) (impl.Gate, []string)) gateCall {
		return gateCall{name, func(g impl.Gate) (impl.Gate, []int, []string) {
			h, frames := call(g, draw)
			return h, nil, frames
		}}
	}
	return []gateCall{
		step("StepLate", impl.StepLate), step("StepOld", impl.StepOld), step("StepDead", impl.StepDead),
		send("StepSend", 0, impl.StepSend), send("StepSend", 77, impl.StepSend), send("StepSend", -1, impl.StepSend),
		send("Tick", 0, impl.Tick), send("Tick", 77, impl.Tick), send("Tick", math.MaxInt, impl.Tick),
	}
}

func TestTickFunctionsShareNothing(t *testing.T) {
	last := busyGate()
	last.Now = maxTime
	callsShareNothing(t, tickCalls(), append(manyGates(5), last, sharing(3, 9, 4, 1, 2, 3))...)
}

// Two lists of an argument may share memory. Those of the answer don't.
func TestTickFunctionsOfListsThatAreOne(t *testing.T) {
	right := sharing(1, 1, 1)
	right.Letters = right.Left
	addEvent(&right, impl.Event{Id: 1, Device: 1, Cost: 1, Ttl: 1, Status: evDead})
	addEvent(&right, impl.Event{Id: 2, Device: 1, Cost: 1, Ttl: 20})
	addEvent(&right, impl.Event{Id: 3, Device: 1, Cost: 1, Ttl: 20})
	wrong := copyGate(right)
	wrong.Left = wrong.Letters
	wrong.Links = append(wrong.Links, wrong.Links...)
	for _, c := range tickCalls() {
		for _, g := range []impl.Gate{right, wrong} {
			h, _, frames := c.call(g)
			told := cells{}
			told.addGate(g)
			if !told.addGate(h) || !addCells(told, frames) || impl.GateOk(h) != impl.GateOk(g) {
				t.Errorf("%s: %+v, %q", c.name, h, frames)
			}
		}
	}
}
