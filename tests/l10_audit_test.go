package tests

import (
	"fmt"
	"math"
	"math/big"
	"math/rand/v2"
	"runtime"
	"slices"
	"sync"
	"testing"
	"time"

	"loop.example/g00814/impl"
)

// Promise 10: each message has one status; all that is open comes due.

// The plain ways

func plainStatusOf(g impl.Gate, id int) int {
	if at := plainEventAt(g, id); at >= 0 {
		return g.Events[at].Status
	}
	return -1
}

func plainCounts(g impl.Gate) [4]int {
	var counts [4]int
	for i, status := range statuses {
		counts[i] = len(sortedIds(g.Events, func(e impl.Event) bool { return e.Status == status }))
	}
	return counts
}

func plainSettled(g impl.Gate) bool {
	return !slices.ContainsFunc(g.Events, func(e impl.Event) bool { return between(e.Status, evWaiting, evExpired) })
}

// plainEnd adds up in numbers of any length, and tells whether an int is the sum.
func plainEnd(e impl.Event) (int, bool) {
	end := new(big.Int).Add(big.NewInt(int64(e.At)), big.NewInt(int64(e.Ttl)))
	return int(end.Int64()), end.IsInt64()
}

// plainNextBusy looks for the first one of all times in order.
func plainNextBusy(g impl.Gate) int {
	var times []int
	for _, e := range g.Events {
		if end, told := plainEnd(e); told && between(e.Status, evWaiting, evFlying) {
			times = append(times, end)
		}
		if e.Status == evWaiting {
			times = append(times, e.Next)
		}
	}
	for _, l := range g.Links {
		for _, f := range l.Flying {
			times = append(times, f.Until)
		}
	}
	slices.Sort(times)
	at := slices.IndexFunc(times, func(time int) bool { return time > g.Now })
	if at < 0 {
		return -1
	}
	return times[at]
}

// plainDue goes through the Ids of each time, one time behind the other.
func plainDue(g impl.Gate) impl.Wheel {
	if !between(g.Now, 0, maxTime) {
		return impl.Wheel{}
	}
	w := impl.Wheel{Now: g.Now}
	if !plainGateOk(g) {
		return w
	}
	ids := map[int][]int{}
	for _, e := range g.Events {
		if end := e.At + e.Ttl; between(e.Status, evWaiting, evFlying) && between(end, g.Now+1, maxTime) {
			ids[end] = append(ids[end], e.Id)
		}
	}
	var times []int
	for time := range ids {
		times = append(times, time)
	}
	slices.Sort(times)
	for _, time := range times {
		slices.Sort(ids[time])
		for _, id := range ids[time] {
			w.List = append(w.List, impl.Timer{At: time, Id: id})
		}
	}
	return w
}

func plainSpanOf(c impl.Config) int {
	if !plainConfigOk(c) {
		return 0
	}
	if longest := c.Policy.Cap + c.Policy.Jitter; longest > c.Timeout {
		return longest
	}
	return c.Timeout
}

// sameAudit holds all that can be asked of a Gate against the plain ways, whether it is right or not.
func sameAudit(t *testing.T, what string, g impl.Gate) {
	t.Helper()
	before := copyGate(g)
	for _, id := range gateNumbers(g) {
		if got, want := impl.StatusOf(g, id), plainStatusOf(g, id); got != want {
			t.Fatalf("%s: StatusOf(%+v, %d) = %d, want %d", what, g, id, got, want)
		}
	}
	if got, want := impl.Counts(g), plainCounts(g); got != want {
		t.Fatalf("%s: Counts(%+v) = %v, want %v", what, g, got, want)
	}
	if got, want := impl.Settled(g), plainSettled(g); got != want {
		t.Fatalf("%s: Settled(%+v) = %v", what, g, got)
	}
	if got, want := impl.NextBusy(g), plainNextBusy(g); got != want {
		t.Fatalf("%s: NextBusy(%+v) = %d, want %d", what, g, got, want)
	}
	if got, want := impl.Due(g), plainDue(g); !sameWheel(got, want) {
		t.Fatalf("%s: Due(%+v) = %v, want %v", what, g, got, want)
	}
	if got, want := impl.SpanOf(g.Config), plainSpanOf(g.Config); got != want {
		t.Fatalf("%s: SpanOf(%+v) = %d, want %d", what, g.Config, got, want)
	}
	if !sameGate(g, before) {
		t.Fatalf("%s: what was %+v is %+v once it was asked", what, before, g)
	}
}

// oneStatusEach looks whether of a right Gate each message has one status, and Due and Settled tell of just the open ones.
func oneStatusEach(t *testing.T, g impl.Gate) {
	t.Helper()
	counts, due := impl.Counts(g), impl.Due(g)
	if counts[0]+counts[1]+counts[2]+counts[3] != len(g.Events) {
		t.Fatalf("%v are counted of %+v", counts, g)
	}
	open := counts[evWaiting] + counts[evFlying]
	for _, e := range g.Events {
		if status := impl.StatusOf(g, e.Id); status != e.Status || !between(status, evWaiting, evDead) {
			t.Fatalf("StatusOf(%+v, %d) = %d", g, e.Id, status)
		}
		if impl.Old(e, g.Now) || between(e.Status, evWaiting, evFlying) && e.At+e.Ttl > maxTime {
			open--
		}
		at := slices.IndexFunc(due.List, func(d impl.Timer) bool { return d.Id == e.Id })
		if at >= 0 && (due.List[at].At != e.At+e.Ttl || !between(e.Status, evWaiting, evFlying)) {
			t.Fatalf("%+v is due at %d", e, due.List[at].At)
		}
	}
	if len(due.List) != open || due.Now != g.Now || !impl.WheelOk(due) {
		t.Fatalf("Due(%+v) = %v, of %d", g, due, open)
	}
	if impl.Settled(g) != (len(g.Events) == counts[evDead]) {
		t.Fatalf("Settled(%+v) = %v", g, impl.Settled(g))
	}
}

// A new gate

func TestAuditOfANewGate(t *testing.T) {
	for _, c := range rightConfigs() {
		g := impl.NewGate(c)
		if impl.Counts(g) != [4]int{} || !impl.Settled(g) || impl.NextBusy(g) != -1 || !sameWheel(impl.Due(g), impl.Wheel{}) {
			t.Errorf("new, but %v, %v, %d, %v", impl.Counts(g), impl.Settled(g), impl.NextBusy(g), impl.Due(g))
		}
		for id := -1; id < 9; id++ {
			if got := impl.StatusOf(g, id); got != -1 {
				t.Errorf("new, but the status of %d is %d", id, got)
			}
		}
		// With the Links Up there is nothing to be done either.
		for device := range c.Devices {
			g = impl.Connect(g, device+1)
		}
		if !impl.Settled(g) || impl.NextBusy(g) != -1 {
			t.Errorf("nothing was handed in, but %v, %d", impl.Settled(g), impl.NextBusy(g))
		}
		oneStatusEach(t, g)
	}
}

// StatusOf

func TestStatusOf(t *testing.T) {
	g := busyGate()
	for id, want := range map[int]int{
		2: evDead, 5: evWaiting, 6: evFlying, 9: evFlying, 11: evExpired, 12: evFlying, 15: evWaiting, 16: evWaiting, 20: evFlying, 21: evWaiting, 25: evDead, 30: evExpired,
		math.MinInt: -1, -2: -1, -1: -1, 0: -1, 1: -1, 3: -1, 29: -1, 31: -1, 2 + 1<<32: -1, maxId: -1, maxId + 1: -1, math.MaxInt: -1,
	} {
		if got := impl.StatusOf(g, id); got != want {
			t.Errorf("StatusOf(.., %d) = %d, want %d", id, got, want)
		}
	}
	oneStatusEach(t, g)
}

// Where an Id is there twice, the first one counts; also where it is one that no Event should have, or its Status is none.
func TestStatusOfTheFirst(t *testing.T) {
	g := impl.Gate{Config: impl.Config{Devices: -1}, Now: -3}
	for _, e := range [][2]int{{7, evDead}, {0, evFlying}, {7, evWaiting}, {-4, evExpired}, {0, evDead}, {3, -1}, {3, evWaiting}, {-4, 9}, {8, math.MaxInt}, {math.MinInt, math.MinInt}, {math.MaxInt, 4}} {
		g.Events = append(g.Events, impl.Event{Id: e[0], Status: e[1]})
	}
	for id, want := range map[int]int{7: evDead, 0: evFlying, -4: evExpired, 3: -1, 8: math.MaxInt, math.MinInt: math.MinInt, math.MaxInt: 4, 1: -1, -1: -1, 4: -1} {
		if got := impl.StatusOf(g, id); got != want {
			t.Errorf("StatusOf(.., %d) = %d, want %d", id, got, want)
		}
	}
	sameAudit(t, "twice there", g)
}

// Counts and Settled

// gateOf has Events of these Statuses, and nothing else.
func gateOf(status ...int) impl.Gate {
	var g impl.Gate
	for i, s := range status {
		addEvent(&g, impl.Event{Id: i + 1, Device: 1, Cost: 1, Ttl: 1, Status: s})
	}
	return g
}

func TestCounts(t *testing.T) {
	for _, c := range []struct {
		name string
		gate impl.Gate
		want [4]int
	}{
		{"busy", busyGate(), [4]int{4, 4, 2, 2}},
		{"full", fullGate(), [4]int{maxDevice * (maxQueue - maxWindow), maxDevice * maxWindow, 0, 0}},
		{"dead", deadGate(), [4]int{0, 0, 40, 20}},
		{"wide", wideGate(), [4]int{maxDevice, 0, 0, 0}},
		{"zero", impl.Gate{}, [4]int{}},
		{"one waits", gateOf(evWaiting), [4]int{1, 0, 0, 0}},
		{"one flies", gateOf(evFlying), [4]int{0, 1, 0, 0}},
		{"one is expired", gateOf(evExpired), [4]int{0, 0, 1, 0}},
		{"one is dead", gateOf(evDead), [4]int{0, 0, 0, 1}},
		{"more of each", gateOf(3, 2, 1, 3, 2, 3, 0, 3, 2, 1), [4]int{1, 2, 3, 4}},
		{"none of the four", gateOf(math.MinInt, -1, 4, 5, 256, 1<<32, math.MaxInt), [4]int{}},
		{"some are none of the four", gateOf(-1, 2, 4, 0, 0, math.MaxInt, 3, math.MinInt, 1, -4), [4]int{2, 1, 1, 1}},
		{"many", impl.Gate{Events: make([]impl.Event, 20000)}, [4]int{20000, 0, 0, 0}},
	} {
		if got := impl.Counts(c.gate); got != c.want {
			t.Errorf("%s: Counts = %v, want %v", c.name, got, c.want)
		}
		sameAudit(t, c.name, c.gate)
	}
}

func TestSettled(t *testing.T) {
	for _, c := range []struct {
		status []int
		want   bool
	}{
		{nil, true},
		{[]int{evWaiting}, false},
		{[]int{evFlying}, false},
		{[]int{evExpired}, false},
		{[]int{evDead}, true},
		{[]int{evDead, evDead, evDead}, true},
		{[]int{evDead, evDead, evExpired}, false},
		{[]int{evDead, evDead, evFlying}, false},
		{[]int{evWaiting, evDead, evDead}, false},
		{[]int{evWaiting, evFlying, evExpired}, false},
		{[]int{-1}, true},
		{[]int{4}, true},
		{[]int{math.MinInt, -1, 4, math.MaxInt}, true},
		{[]int{-1, evDead, 4}, true},
		{[]int{-1, evExpired, 4}, false},
		{[]int{4, 4, evWaiting}, false},
	} {
		g := gateOf(c.status...)
		if got := impl.Settled(g); got != c.want {
			t.Errorf("Settled with %v = %v", c.status, got)
		}
		sameAudit(t, fmt.Sprint(c.status), g)
	}
	// What flies over a Link without an Event, or stands in Letters, is no Event.
	g := emptyGate()
	addFly(&g, 0, 5)
	g.Letters = []int{5}
	if !impl.Settled(g) || impl.Counts(g) != [4]int{} {
		t.Errorf("Settled(%+v) = false", g)
	}
}

// It is settled only once all were laid aside; drained or not is the same to it.
func TestSettledOnceAllIsDead(t *testing.T) {
	g := deadGate()
	for range 2 {
		if impl.Settled(g) {
			t.Errorf("Settled, with %v", impl.Counts(g))
		}
		h, _ := impl.Drain(impl.StepDead(g))
		g = h
	}
	g = impl.StepDead(g)
	if !impl.Settled(g) || impl.Counts(g) != [4]int{0, 0, 0, 20} {
		t.Errorf("not Settled, with %v", impl.Counts(g))
	}
	if g, _ = impl.Drain(g); !impl.Settled(g) || impl.Counts(g) != [4]int{} {
		t.Errorf("not Settled, with %v", impl.Counts(g))
	}
}

// NextBusy

// flying has one Event that was taken at 4 and flies at 10, till then.
func flying(ttl, next, until int) impl.Gate {
	g := sharing(0, 3, 8, 1)
	g.Events[0].Ttl, g.Events[0].Next = ttl, next
	setStatus(&g, 1, evFlying)
	addFly(&g, 0, 1)
	g.Links[0].Flying[0].Until = until
	return g
}

func TestNextBusyOfOneThatWaits(t *testing.T) {
	for _, c := range []struct{ ttl, next, want int }{
		// It was taken at 4, and now is 10: all is now or was, or but one is one tick ahead.
		{1, 0, -1}, {5, 9, -1}, {6, 9, -1}, {5, 10, -1}, {6, 10, -1},
		{7, 10, 11}, {7, 9, 11}, {6, 11, 11}, {5, 11, 11}, {1, maxNext, maxNext},
		{7, 11, 11}, {7, 12, 11}, {8, 11, 11}, {8, 12, 12}, {8, 13, 12}, {9, 12, 12},
		{40, 10, 44}, {40, 43, 43}, {40, 44, 44}, {40, 45, 44}, {40, maxNext, 44}, {maxTtl, 0, maxTtl + 4}, {maxTtl, maxNext, maxTtl + 4}, {maxTtl, maxTtl + 3, maxTtl + 3},
	} {
		g := sharing(0, 3, 8, 1)
		g.Events[0].Ttl, g.Events[0].Next = c.ttl, c.next
		if got := impl.NextBusy(g); got != c.want || !impl.GateOk(g) {
			t.Errorf("NextBusy with %+v = %d", c, got)
		}
		sameAudit(t, "one waits", g)
		// What is over waits for nothing, however late its times are.
		for _, status := range []int{evExpired, evDead, -1, 4, math.MaxInt} {
			setStatus(&g, 1, status)
			if got := impl.NextBusy(g); got != -1 {
				t.Errorf("NextBusy with %+v and the Status %d = %d", c, status, got)
			}
		}
	}
}

func TestNextBusyOfOneThatFlies(t *testing.T) {
	for _, c := range []struct{ ttl, next, until, want int }{
		// Next of what flies tells nothing.
		{6, 9, 10, -1}, {6, 10, 10, -1}, {6, 11, 10, -1}, {1, maxNext, 0, -1}, {5, 12, 9, -1},
		{6, 10, 11, 11}, {1, 0, 12, 12}, {6, 11, 12, 12}, {6, 0, maxUntil, maxUntil},
		{7, 10, 10, 11}, {7, 10, 9, 11}, {8, 11, 10, 12}, {40, 11, 10, 44}, {40, 11, 43, 43}, {40, 11, 44, 44}, {40, 11, 45, 44}, {40, maxNext, 0, 44},
		{8, 11, 12, 12}, {7, 12, 12, 11}, {8, 12, 11, 11}, {9, 11, 12, 12}, {maxTtl, 11, maxUntil, maxTtl + 4},
	} {
		g := flying(c.ttl, c.next, c.until)
		if got := impl.NextBusy(g); got != c.want || !impl.GateOk(g) {
			t.Errorf("NextBusy with %+v = %d", c, got)
		}
		sameAudit(t, "one flies", g)
	}
}

func TestNextBusyOfABusyGate(t *testing.T) {
	for _, c := range []struct{ now, want int }{
		{20, 21}, {21, 25}, {24, 25}, {25, 30}, {29, 30}, {30, 60}, {59, 60}, {60, 61}, {61, 62}, {62, 64}, {63, 64}, {64, 70}, {69, 70}, {70, -1}, {71, -1}, {maxTime - 1, -1}, {maxTime, -1},
		// Ahead of 20 the Gate isn't right, as there are Events that were taken later.
		{19, 20}, {15, 20}, {14, 15}, {1, 15}, {0, 1}, {-1, 1}, {-1000, 1}, {math.MinInt, 1}, {maxTime + 1, -1}, {math.MaxInt, -1},
	} {
		g := busyGate()
		g.Now = c.now
		if got := impl.NextBusy(g); got != c.want {
			t.Errorf("NextBusy at %d = %d, want %d", c.now, got, c.want)
		}
		sameAudit(t, "busy", g)
	}
}

// Whichever time is the least one, at whatever place it stands, it is told.
func TestNextBusyTellsTheLeastOfAll(t *testing.T) {
	base := func() impl.Gate {
		g := fullGate()
		g.Now = 100
		for i := range g.Events {
			g.Events[i].At, g.Events[i].Ttl, g.Events[i].Next = 50, 1000+i, 2000-i
		}
		for _, l := range g.Links {
			for i := range l.Flying {
				l.Flying[i].Until = 1500 - i
			}
		}
		return g
	}
	told := func(what string, g impl.Gate, want int) {
		t.Helper()
		if got := impl.NextBusy(g); got != want || !impl.GateOk(g) {
			t.Errorf("%s: NextBusy = %d, want %d", what, got, want)
		}
	}
	told("as it is", base(), 1050)
	for _, least := range []int{101, 102, 1049} {
		for i := range maxEvents {
			g := base()
			g.Events[i].Ttl = least - 50
			told(fmt.Sprint("the Ttl at ", i), g, least)
			g = base()
			g.Events[i].Next = least
			if g.Events[i].Status == evWaiting {
				told(fmt.Sprint("Next at ", i), g, least)
			} else {
				told(fmt.Sprint("Next at ", i), g, 1050)
			}
		}
		for i := range maxDevice {
			for at := range maxWindow {
				g := base()
				g.Links[i].Flying[at].Until = least
				told(fmt.Sprint("Until at ", i, at), g, least)
				// What isn't above Now stands in no one's way.
				g.Links[(i+1)%maxDevice].Flying[at].Until = 100
				g.Events[i].Ttl, g.Events[maxEvents-1-i].Ttl = 50, 1
				g.Events[i].Next, g.Events[maxEvents-1-i].Next = 99, 0
				told(fmt.Sprint("Until at ", i, at, " where others were"), g, least)
			}
		}
	}
}

// A time that is -1, or below it, is one like others where Now is below it.
func TestNextBusyAheadOfAllTime(t *testing.T) {
	for _, c := range []struct {
		now   int
		times []int
		want  int
	}{
		{-10, []int{-5}, -5}, {-10, []int{-1}, -1}, {-10, []int{5, -1, 3}, -1}, {-2, []int{-1, 0}, -1}, {-2, []int{0, 7}, 0}, {-1, []int{-1, 0}, 0}, {-1, []int{-1, -2}, -1},
		{-10, []int{-10, -11, 9}, 9}, {math.MinInt, []int{math.MinInt}, -1}, {math.MinInt, []int{math.MinInt + 1, 0}, math.MinInt + 1},
		{math.MaxInt, []int{math.MaxInt, 0}, -1}, {math.MaxInt - 1, []int{math.MaxInt, 0}, math.MaxInt}, {maxTime, []int{maxNext, maxUntil + 1}, maxNext},
	} {
		untils, ends, nexts := impl.Gate{Now: c.now, Links: make([]impl.Link, 2)}, impl.Gate{Now: c.now}, impl.Gate{Now: c.now}
		for i, time := range c.times {
			untils.Links[i%2].Flying = append(untils.Links[i%2].Flying, impl.Fly{Until: time})
			ends.Events = append(ends.Events, impl.Event{At: time - i, Ttl: i, Status: evFlying, Next: c.now + i})
			nexts.Events = append(nexts.Events, impl.Event{At: math.MinInt, Next: time})
		}
		for name, g := range map[string]impl.Gate{"Until": untils, "At and Ttl": ends, "Next": nexts} {
			if got := impl.NextBusy(g); got != c.want {
				t.Errorf("NextBusy where %s is as in %+v = %d", name, c, got)
			}
			sameAudit(t, name, g)
		}
	}
}

// What ends beyond all numbers never ends, or has ended: no time tells when, and none is told in its place.
func TestNextBusyBeyondAllNumbers(t *testing.T) {
	for _, c := range []struct{ now, at, ttl, want int }{
		{0, math.MaxInt, 0, math.MaxInt}, {0, math.MaxInt, 1, -1}, {0, 1, math.MaxInt, -1}, {0, math.MaxInt, math.MaxInt, -1}, {0, math.MaxInt - 5, 5, math.MaxInt}, {0, math.MaxInt - 5, 6, -1},
		{math.MinInt, math.MaxInt, 1, -1}, {math.MinInt, math.MaxInt, 2, -1}, {-1000, math.MaxInt, math.MaxInt, -1}, {math.MinInt, math.MinInt, math.MaxInt, -1}, {-2, math.MinInt, math.MaxInt, -1}, {-1, math.MinInt, math.MaxInt, -1},
		{0, math.MinInt, -1, -1}, {0, -1, math.MinInt, -1}, {0, math.MinInt, math.MinInt, -1}, {math.MinInt, math.MinInt, 1, math.MinInt + 1}, {math.MinInt, math.MinInt, math.MinInt, -1}, {0, math.MaxInt, math.MinInt, -1},
		{math.MinInt, math.MinInt, 0, -1}, {math.MinInt, math.MinInt, -1, -1}, {0, 7, -3, 4}, {4, 7, -3, -1},
	} {
		for _, status := range []int{evWaiting, evFlying} {
			e := impl.Event{Id: 1, At: c.at, Ttl: c.ttl, Next: math.MinInt, Status: status}
			g := impl.Gate{Now: c.now, Events: []impl.Event{e}}
			if got := impl.NextBusy(g); got != c.want {
				t.Errorf("NextBusy with %+v = %d", c, got)
			}
			// Another one has its time all the same.
			e.At, e.Ttl = 40, 2
			g.Events = append(g.Events, e)
			sameAudit(t, "beyond all numbers", g)
		}
	}
}

// allReady are the Ids of what is ready, of each Device.
func allReady(g impl.Gate) []int {
	var ids []int
	for device := range g.Config.Devices {
		ids = append(ids, impl.ReadyOf(g, device+1)...)
	}
	return ids
}

// stirred tells whether something is late or too old at that time, or ready that isn't so now.
func stirred(g impl.Gate, at int) bool {
	h := copyGate(g)
	h.Now = at
	return !slices.Equal(allReady(h), allReady(g)) || !sameGate(impl.StepOld(impl.StepLate(h)), h)
}

// busyNext looks whether nothing happens ahead of NextBusy, and something does then. What was late or too old is done with.
func busyNext(t *testing.T, g impl.Gate) {
	t.Helper()
	next := impl.NextBusy(g)
	if next < 0 {
		next = g.Now + 100
	} else if !stirred(g, next) {
		t.Fatalf("NextBusy(%+v) = %d, but nothing happens then", g, next)
	}
	for _, at := range []int{g.Now + 1, g.Now + 2, (g.Now + next) / 2, next - 2, next - 1} {
		if g.Now < at && at < next && stirred(g, at) {
			t.Fatalf("NextBusy(%+v) = %d, but something happens at %d", g, impl.NextBusy(g), at)
		}
	}
}

func TestNextBusyIsWhenSomethingHappens(t *testing.T) {
	r := rand.New(rand.NewPCG(10, 1))
	for i := range 1500 {
		g := []impl.Gate{busyGate(), wideGate(), anyGate(r), anyGate(r)}[i%4]
		g.Now += r.IntN(60)
		g = impl.StepOld(impl.StepLate(g))
		busyNext(t, g)
	}
}

// While nothing is ready, nothing is sent nor changed ahead of NextBusy, tick by tick.
func TestNothingIsDoneUntilNextBusy(t *testing.T) {
	r := rand.New(rand.NewPCG(10, 2))
	quiet := 0
	for range 300 {
		g := anyGate(r)
		g.Config.Letters = 1
		g.Events = slices.DeleteFunc(g.Events, func(e impl.Event) bool { return e.Status == evDead || e.Status == evExpired })
		g.Letters, g.Taken = nil, len(g.Events)+g.Acked+g.Drained
		g = impl.StepOld(impl.StepLate(g))
		for range 20 {
			next := impl.NextBusy(g)
			g = impl.StepDead(g)
			for next > 0 && g.Now < next-1 && len(allReady(g)) == 0 {
				h, frames := impl.Tick(g, 3)
				if h.Now != g.Now+1 || len(frames) > 0 || !slices.Equal(h.Events, g.Events) || !slices.EqualFunc(h.Links, g.Links, sameLink) || impl.NextBusy(h) != next {
					t.Fatalf("ahead of %d %+v becomes %+v, %q", next, g, h, frames)
				}
				quiet++
				g = h
			}
			g, _ = impl.Tick(g, 5)
		}
	}
	if quiet < 1000 {
		t.Errorf("but only %d ticks were quiet", quiet)
	}
}

// Due

func TestDueOfABusyGate(t *testing.T) {
	all := []impl.Timer{{At: 60, Id: 5}, {At: 61, Id: 6}, {At: 61, Id: 9}, {At: 62, Id: 12}, {At: 62, Id: 15}, {At: 64, Id: 20}, {At: 70, Id: 16}}
	for now, due := range map[int]int{20: 0, 21: 0, 59: 0, 60: 1, 61: 3, 62: 5, 63: 5, 64: 6, 69: 6, 70: 7, 71: 7, maxTime: 7} {
		g := busyGate()
		g.Now = now
		if got, want := impl.Due(g), (impl.Wheel{Now: now, List: all[due:]}); !sameWheel(got, want) || !impl.GateOk(g) {
			t.Errorf("Due at %d = %v, want %v", now, got, want)
		}
	}
}

// One that is due now, or was so, has no Timer, nor has one that isn't open.
func TestDueAroundNow(t *testing.T) {
	for ttl, want := range map[int][]impl.Timer{1: nil, 5: nil, 6: nil, 7: {{At: 11, Id: 1}}, 8: {{At: 12, Id: 1}}, maxTtl: {{At: maxTtl + 4, Id: 1}}} {
		for _, status := range statuses {
			g := sharing(0, 3, 8, 1)
			g.Events[0].Ttl = ttl
			setStatus(&g, 1, status)
			switch status {
			case evFlying:
				addFly(&g, 0, 1)
			case evDead:
				g.Letters = []int{1}
			}
			if status == evExpired || status == evDead {
				want = nil
			}
			if got := impl.Due(g); !sameWheel(got, impl.Wheel{Now: 10, List: want}) || !impl.GateOk(g) {
				t.Errorf("Due with the Ttl %d and the Status %d = %v, want %v", ttl, status, got, want)
			}
		}
	}
}

func TestDueAtTheEndOfTime(t *testing.T) {
	for _, c := range []struct{ now, at, ttl, want int }{
		{maxTime - 10, maxTime - 10, 9, maxTime - 1}, {maxTime - 10, maxTime - 10, 10, maxTime}, {maxTime - 10, maxTime - 10, 11, 0}, {maxTime - 10, maxTime - 10, maxTtl, 0},
		{maxTime - 10, maxTime - 12, 12, maxTime}, {maxTime - 10, maxTime - 12, 13, 0}, {maxTime - 10, maxTime - 12, 2, 0}, {maxTime - 10, maxTime - 12, 3, maxTime - 9},
		{maxTime - 1, maxTime - 1, 1, maxTime}, {maxTime - 1, maxTime - 1, 2, 0}, {maxTime - 1, 5, 1, 0},
		{maxTime, maxTime - 1, 1, 0}, {maxTime, maxTime, 1, 0}, {maxTime, maxTime, maxTtl, 0}, {maxTime, maxTime - 1, 2, 0}, {maxTime, 0, 1, 0},
	} {
		g := sharing(0, 3, 8, 1)
		g.Now, g.Events[0].At, g.Events[0].Ttl = c.now, c.at, c.ttl
		want := impl.Wheel{Now: c.now}
		if c.want > 0 {
			want.List = []impl.Timer{{At: c.want, Id: 1}}
		}
		if got := impl.Due(g); !sameWheel(got, want) || !impl.GateOk(g) {
			t.Errorf("Due with %+v = %v", c, got)
		}
		sameAudit(t, "at the end of time", g)
	}
}

// As many as there may be, of which those of one time stand by their Ids, however they were taken.
func TestDueOfAsManyAsMayBe(t *testing.T) {
	for name, end := range map[string]func(i int) int{
		"of one time":          func(i int) int { return 200 },
		"of two times":         func(i int) int { return 200 - i%2 },
		"rising":               func(i int) int { return 101 + i },
		"falling":              func(i int) int { return 300 - i },
		"at all levels":        func(i int) int { return 101 + 1<<(i%20) },
		"in slots next to one": func(i int) int { return 4096 - 30 + (i*7)%maxEvents },
	} {
		g := fullGate()
		g.Now = 100
		want := impl.Wheel{Now: 100}
		for i := range g.Events {
			g.Events[i].At = 100 - i
			g.Events[i].Ttl = end(i) - 100 + i
			want.List = append(want.List, impl.Timer{At: end(i), Id: g.Events[i].Id})
		}
		slices.SortStableFunc(want.List, func(a, b impl.Timer) int { return a.At - b.At })
		got := impl.Due(g)
		if !impl.GateOk(g) || !sameWheel(got, want) || len(got.List) != maxTimers || !impl.WheelOk(got) {
			t.Errorf("%s: Due = %v, want %v", name, got, want)
		}
		oneStatusEach(t, g)
	}
}

func TestDueOfAGateThatIsNotRight(t *testing.T) {
	for _, g := range wrongGates() {
		want := impl.Wheel{Now: g.Now}
		if !between(g.Now, 0, maxTime) {
			want = impl.Wheel{}
		}
		if got := impl.Due(g); !sameWheel(got, want) {
			t.Errorf("Due(%+v) = %v", g, got)
		}
	}
	for now, want := range map[int]int{math.MinInt: 0, -1: 0, 0: 0, 1: 1, 5: 5, maxTime: maxTime, maxTime + 1: 0, 1<<32 + 5: 0, math.MaxInt: 0} {
		if got := impl.Due(impl.Gate{Now: now}); !sameWheel(got, impl.Wheel{Now: want}) {
			t.Errorf("Due of nothing at %d = %v", now, got)
		}
		// Now alone makes this one wrong: it is right at all times that there are.
		g := impl.NewGate(mostConfig())
		addEvent(&g, impl.Event{Id: 1, Device: 1, Cost: 1, Ttl: 7})
		if g.Now = now; between(now, 0, maxTime) != impl.GateOk(g) {
			t.Errorf("%+v", g)
		}
		if got := impl.Due(g); got.Now != want || len(got.List) > 0 != (between(now, 0, 6)) {
			t.Errorf("Due of one at %d = %v", now, got)
		}
	}
}

// What comes due by the Wheel at a time is just what is too old then, and wasn't so one tick ahead.
func TestDueIsWhatTurnsOld(t *testing.T) {
	r := rand.New(rand.NewPCG(10, 3))
	told := 0
	for range 150 {
		g := anyGate(r)
		w := impl.Due(g)
		for g.Now < 170 {
			before := copyGate(g)
			g.Now++
			turned, ids := impl.TurnWheel(w, g.Now)
			var want []int
			for _, e := range g.Events {
				if impl.Old(e, g.Now) && !impl.Old(e, before.Now) {
					want = append(want, e.Id)
				}
			}
			told += len(ids)
			if !slices.Equal(ids, want) || !sameWheel(turned, impl.Due(g)) {
				t.Fatalf("at %d due are %v, want %v, of %+v", g.Now, ids, want, g)
			}
			w = turned
		}
		if len(w.List) > 0 {
			t.Fatalf("%v is left of %+v", w, g)
		}
	}
	if told < 500 {
		t.Errorf("but only %d came due", told)
	}
}

// SpanOf

func TestSpanOf(t *testing.T) {
	for _, c := range rightConfigs() {
		if got, want := impl.SpanOf(c), plainSpanOf(c); got != want || got < c.Timeout || got < impl.Longest(c.Policy) {
			t.Errorf("SpanOf(%+v) = %d, want %d", c, got, want)
		}
	}
	for _, c := range wrongConfigs() {
		if got := impl.SpanOf(c); got != 0 {
			t.Errorf("SpanOf(%+v) = %d", c, got)
		}
	}
	for _, n := range []struct{ base, cap, jitter, timeout, want int }{
		{1, 1, 0, 1, 1}, {1, 1, 0, 2, 2}, {1, 2, 0, 1, 2}, {1, 1, 1, 1, 2}, {1, 1, 1, 2, 2}, {1, 1, 1, 3, 3},
		{2, 16, 3, 18, 19}, {2, 16, 3, 19, 19}, {2, 16, 3, 20, 20}, {16, 16, 3, 18, 19}, {16, 16, 3, 20, 20}, {2, 16, 0, 15, 16}, {2, 16, 0, 16, 16}, {2, 16, 0, 17, 17},
		{1, 500, 500, 999, 1000}, {1, 500, 499, 999, 999}, {1, 500, 499, 1000, 1000}, {1, 500, 500, 1000, 1000}, {1, 501, 500, 1000, 1001},
		{1, maxCap, maxJitter, 1, maxCap + maxJitter}, {maxCap, maxCap, maxJitter, maxTimeout, maxCap + maxJitter}, {1, 1, 0, maxTimeout, maxTimeout},
	} {
		c := plainConfig()
		c.Timeout, c.Policy = n.timeout, impl.Policy{Base: n.base, Cap: n.cap, Jitter: n.jitter, Ttl: 50}
		if got := impl.SpanOf(c); got != n.want {
			t.Errorf("SpanOf with %+v = %d", n, got)
		}
	}
}

// One that no one answers, and whose Device is always served at once, is knocked for again within that span, and one time just at its end.
func TestSpanOfIsTheLongestOfAll(t *testing.T) {
	for _, n := range []struct{ base, cap, jitter, timeout int }{{2, 8, 0, 3}, {2, 8, 4, 3}, {1, 5, 2, 6}, {1, 5, 2, 7}, {1, 5, 2, 8}, {3, 3, 0, 1}, {1, 1, 0, 9}, {1, 1, 6, 2}} {
		c := leastConfig()
		c.Timeout, c.Policy = n.timeout, impl.Policy{Base: n.base, Cap: n.cap, Jitter: n.jitter, Ttl: maxTtl}
		g, _, _ := impl.Submit(impl.Connect(impl.NewGate(c), 1), 1, 1, "", maxTtl)
		r, last, longest := rand.New(rand.NewPCG(10, 6)), 0, 0
		for range 1000 {
			h, frames := impl.Tick(g, r.IntN(1000))
			if len(frames) > 0 && last > 0 {
				longest = max(longest, h.Now-last)
			}
			if len(frames) > 0 {
				last = h.Now
			}
			g = h
		}
		if longest != impl.SpanOf(c) {
			t.Errorf("with %+v the longest is %d, and SpanOf %d", n, longest, impl.SpanOf(c))
		}
	}
}

// Promise 10, over long runs

func TestAuditBehindEachCall(t *testing.T) {
	counted, due := [4]int{}, 0
	for seed := range uint64(16) {
		x := newRun(t, rand.New(rand.NewPCG(10, 100+seed)), 60)
		for range 250 {
			for range x.r.IntN(4) {
				x.come()
				sameAudit(t, "behind what comes", x.gate)
				oneStatusEach(t, x.gate)
				busyNext(t, x.gate)
			}
			x.tick()
			sameAudit(t, "behind a tick", x.gate)
			oneStatusEach(t, x.gate)
			busyNext(t, x.gate)
			for i, n := range impl.Counts(x.gate) {
				counted[i] += n
			}
			due += len(impl.Due(x.gate).List)
		}
	}
	if slices.Min(counted[:]) < 1000 || due < 5000 {
		t.Errorf("but counted were %v, and due %d", counted, due)
	}
}

// All that is open comes due at the time that was told as it was taken, unless it is answered, and is open till then.
func TestAllThatIsOpenComesDue(t *testing.T) {
	for seed := range uint64(10) {
		r := rand.New(rand.NewPCG(10, 200+seed))
		c := mostConfig()
		c.Devices, c.Budget, c.Timeout, c.Window = 3, 1+r.IntN(3), 4, 2
		c.Policy = impl.Policy{Base: 2, Cap: 9, Jitter: 2, Ttl: 80}
		g, ends := impl.NewGate(c), map[int]int{}
		for range 200 {
			if device := 1 + r.IntN(3); g.Now < 90 {
				h, id, code := impl.Submit(g, device, 1, "", 1+r.IntN(80))
				if code == suOk {
					due := impl.Due(h).List
					ends[id] = due[slices.IndexFunc(due, func(d impl.Timer) bool { return d.Id == id })].At
				}
				if g = h; r.IntN(4) == 0 {
					g = impl.Connect(g, device)
				}
			}
			// Half of what is answered is taken back, and is open still.
			for _, l := range g.Links {
				if len(l.Flying) > 0 && r.IntN(3) == 0 {
					g, _, _ = impl.Receive(g, answerOf(g, l.Flying[0].Id, []int{frAck, frNack}[r.IntN(2)]))
				}
			}
			g, _ = impl.Tick(g, r.IntN(100))
			g, _ = impl.Drain(g)
			for _, e := range g.Events {
				if ends[e.Id] <= g.Now || !between(impl.StatusOf(g, e.Id), evWaiting, evFlying) {
					t.Fatalf("at %d, due at %d: %+v", g.Now, ends[e.Id], e)
				}
			}
		}
		if !impl.Settled(g) || g.Drained < 10 || g.Acked < 10 || len(ends) != g.Drained+g.Acked || impl.NextBusy(g) != -1 || len(impl.Due(g).List) > 0 {
			t.Errorf("at last %+v", g)
		}
	}
}

func TestAuditOfAnyGate(t *testing.T) {
	for name, g := range map[string]impl.Gate{"busy": busyGate(), "full": fullGate(), "dead": deadGate(), "wide": wideGate(), "sharing": sharing(3, 9, 4, 1, 2, 3)} {
		sameAudit(t, name, g)
		oneStatusEach(t, g)
	}
	r := rand.New(rand.NewPCG(10, 4))
	due, busy := 0, 0
	for range 1500 {
		g := anyGate(r)
		if r.IntN(3) == 0 {
			g.Now += r.IntN(50)
		}
		sameAudit(t, "any", g)
		oneStatusEach(t, g)
		due += len(impl.Due(g).List)
		if impl.NextBusy(g) > 0 {
			busy++
		}
	}
	if due < 5000 || busy < 1000 {
		t.Errorf("but %d are due, and %d gates busy", due, busy)
	}
}

// Promise 15: every function answers at any arguments, and writes into none.

func TestAuditOfGatesThatAreNotRight(t *testing.T) {
	for _, g := range wrongGates() {
		sameAudit(t, "not right", g)
	}
	for _, e := range wrongEvents() {
		sameAudit(t, "an Event that isn't right", impl.Gate{Now: 12, Events: []impl.Event{e, plainEvent(), e}})
	}
	for _, l := range wrongLinks() {
		sameAudit(t, "a Link that isn't right", impl.Gate{Now: 12, Links: []impl.Link{l, {}, l}})
	}
}

func TestAuditOfGatesThatAreShaken(t *testing.T) {
	r := rand.New(rand.NewPCG(10, 5))
	bases := []func() impl.Gate{busyGate, fullGate, deadGate, wideGate, func() impl.Gate { return anyGate(r) }}
	right, wrong := 0, 0
	for i := range 5000 {
		g := bases[i%len(bases)]()
		for range 1 + r.IntN(3) {
			shake(r, &g)
		}
		if len(g.Events) > 0 && r.IntN(3) == 0 {
			e := &g.Events[r.IntN(len(g.Events))]
			*[]*int{&e.At, &e.Ttl, &e.Next, &e.Status}[r.IntN(4)] = oddNumbers[r.IntN(len(oddNumbers))]
		}
		sameAudit(t, "shaken", g)
		if impl.GateOk(g) {
			right++
		} else {
			wrong++
		}
	}
	if right < 500 || wrong < 2000 {
		t.Errorf("but %d are right, and %d aren't", right, wrong)
	}
}

func TestAuditOfAnyLists(t *testing.T) {
	const least, most = math.MinInt, math.MaxInt
	long := impl.Gate{Config: mostConfig(), Now: maxTime, Last: maxId, Events: make([]impl.Event, 20000), Links: make([]impl.Link, 20000), Left: make([]int, 20000), Letters: make([]int, 20000), Taken: maxId}
	sameAudit(t, "long", long)
	long.Now = -1
	sameAudit(t, "long", long)
	long.Links = []impl.Link{{Up: true, Seq: maxSeq, Flying: make([]impl.Fly, 20000)}}
	sameAudit(t, "long", long)
	for _, n := range []int{least, least + 1, -1, 0, 1, most - 1, most} {
		sameAudit(t, "of one number", ofOneNumber(n))
		for _, m := range []int{least, -1, 0, 1, most} {
			for _, status := range anyStatuses {
				g := ofOneNumber(n)
				g.Now, g.Events[0].Ttl, g.Events[0].Status = m, m, status
				g.Events = append(g.Events, impl.Event{Id: m, At: m, Ttl: n, Next: m, Status: status})
				sameAudit(t, "of two numbers", g)
			}
		}
	}
}

// audit asks all that can be asked, and tells the answers; what Due tells is told as it is, too.
func audit(g impl.Gate) (string, impl.Wheel) {
	due := impl.Due(g)
	said := fmt.Sprint(impl.Counts(g), impl.Settled(g), impl.NextBusy(g), impl.SpanOf(g.Config), due)
	for id := -1; id < 40; id++ {
		said += fmt.Sprint(" ", impl.StatusOf(g, id))
	}
	return said, due
}

func TestAuditWritesIntoNoArgument(t *testing.T) {
	told := 0
	for _, g := range manyGates(6) {
		g = roomyGate(g)
		before := allOf(g)
		shared := cells{}
		shared.addGate(g)
		said, due := audit(g)
		again, dueAgain := audit(g)
		if !addCells(shared, due.List) || !addCells(shared, dueAgain.List) {
			t.Fatalf("what is due shares memory with %s, or with another answer", before)
		}
		told += len(due.List)
		scribble(due.List, impl.Timer{At: -5, Id: -5})
		if later, _ := audit(g); allOf(g) != before || again != said || later != said {
			t.Fatalf("of %s once is told %s, then %s, then %s; it is %s then", before, said, again, later, allOf(g))
		}
	}
	if told < 200 {
		t.Errorf("but %d were told to be due", told)
	}
}

// What was told of a Gate stays so when the Gate is written into later.
func TestDueStandsInNoGate(t *testing.T) {
	g := busyGate()
	due := impl.Due(g)
	want := plainDue(g)
	for i := range g.Events {
		g.Events[i] = impl.Event{}
	}
	scribbleGate(g)
	if !sameWheel(due, want) {
		t.Errorf("%v, want %v", due, want)
	}
}

// The answers hang neither on how many may run at once, nor on who else asks.
func TestAuditByHoweverMany(t *testing.T) {
	gates := []impl.Gate{busyGate(), fullGate(), deadGate(), wideGate(), impl.Gate{}, gateOf(3, -1, 2, 1, 4, 0, 0)}
	var want []string
	for _, g := range gates {
		said, _ := audit(g)
		want = append(want, said)
	}
	for _, most := range []int{1, 2, 16} {
		before := runtime.GOMAXPROCS(most)
		var askers sync.WaitGroup
		for i := range 60 {
			askers.Add(1)
			go func() {
				defer askers.Done()
				at := i % len(gates)
				if said, _ := audit(gates[at]); said != want[at] {
					t.Errorf("with %d at once is told %s, want %s", most, said, want[at])
				}
			}()
		}
		askers.Wait()
		runtime.GOMAXPROCS(before)
	}
}

// Behind a call none that it started goes on.
func TestAuditLeavesNoneBehind(t *testing.T) {
	g, before := busyGate(), runtime.NumGoroutine()
	for range 200 {
		audit(g)
	}
	// One that has answered may need a moment to end.
	for range 200 {
		if runtime.NumGoroutine() <= before {
			return
		}
		time.Sleep(10 * time.Millisecond)
	}
	t.Errorf("%d are left, there were %d", runtime.NumGoroutine(), before)
}
