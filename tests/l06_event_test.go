package tests

import (
	"fmt"
	"math"
	"math/big"
	"math/rand/v2"
	"slices"
	"strings"
	"testing"

	"loop.example/g00814/impl"
)

// Promise 6: what is too old isn't ready; what is knocked for isn't either.

const (
	evWaiting = 0
	evFlying  = 1
	evExpired = 2
	evDead    = 3
	maxCost   = 9
	maxTries  = 100000
	maxNext   = 2000000000
)

var statuses = []int{evWaiting, evFlying, evExpired, evDead}

// anyStatuses are the four, and numbers that are none of them.
var anyStatuses = append(slices.Clone(statuses), math.MinInt, -1, evDead+1, math.MaxInt)

func TestEventConstants(t *testing.T) {
	got := []int{impl.EvWaiting, impl.EvFlying, impl.EvExpired, impl.EvDead, impl.MaxCost, impl.MaxTries}
	if want := []int{evWaiting, evFlying, evExpired, evDead, maxCost, maxTries}; !slices.Equal(got, want) {
		t.Errorf("%v, want %v", got, want)
	}
}

// plainEvent is a right one that waits till 12, and is too old from 15 on.
func plainEvent() impl.Event {
	return impl.Event{Id: 3, Device: 2, Cost: 4, Body: "hi", At: 10, Ttl: 5, Tries: 1, Next: 12}
}

func withStatus(e impl.Event, status int) impl.Event {
	e.Status = status
	return e
}

// changed are events of each of the Statuses, in which one number is each of those.
func changed(put func(e *impl.Event, n int), numbers ...int) []impl.Event {
	var events []impl.Event
	for _, status := range statuses {
		for _, n := range numbers {
			e := withStatus(plainEvent(), status)
			put(&e, n)
			events = append(events, e)
		}
	}
	return events
}

func putId(e *impl.Event, n int)     { e.Id = n }
func putDevice(e *impl.Event, n int) { e.Device = n }
func putCost(e *impl.Event, n int)   { e.Cost = n }
func putLength(e *impl.Event, n int) { e.Body = strings.Repeat("\xff\n", n)[:n] }
func putAt(e *impl.Event, n int)     { e.At = n }
func putTtl(e *impl.Event, n int)    { e.Ttl = n }
func putTries(e *impl.Event, n int)  { e.Tries = n }
func putNext(e *impl.Event, n int)   { e.Next = n }
func putStatus(e *impl.Event, n int) { e.Status = n }

func rightEvents() []impl.Event {
	least := impl.Event{Id: 1, Device: 1, Cost: 1, Ttl: 1}
	most := impl.Event{Id: maxId, Device: maxDevice, Cost: maxCost, Body: strings.Repeat("\x00", maxBody), At: maxTime, Ttl: maxTtl, Tries: maxTries, Next: maxNext}
	var events []impl.Event
	for _, status := range statuses {
		events = append(events, withStatus(least, status), withStatus(most, status))
	}
	return slices.Concat(events,
		changed(putId, 1, 2, maxId-1, maxId),
		changed(putDevice, 1, 2, maxDevice-1, maxDevice),
		changed(putCost, 1, 2, maxCost-1, maxCost),
		changed(putLength, 0, 1, 2, maxBody-1, maxBody),
		changed(putAt, 0, 1, maxTime-1, maxTime),
		changed(putTtl, 1, 2, maxTtl-1, maxTtl),
		changed(putTries, 0, 1, maxTries-1, maxTries),
		changed(putNext, 0, 1, maxTime+1, maxNext-1, maxNext))
}

// Each of these is but one thing away from a right Event, or from two.
func wrongEvents() []impl.Event {
	const least, most = math.MinInt, math.MaxInt
	return slices.Concat([]impl.Event{{}, {Status: evDead}},
		changed(putId, least, -1, 0, maxId+1, most),
		changed(putDevice, least, -1, 0, maxDevice+1, most),
		changed(putCost, least, -1, 0, maxCost+1, most),
		changed(putLength, maxBody+1, 256, 1<<16),
		changed(putAt, least, -1, maxTime+1, most),
		changed(putTtl, least, -1, 0, maxTtl+1, most),
		changed(putTries, least, -1, maxTries+1, most),
		changed(putNext, least, -1, maxNext+1, most),
		changed(putStatus, least, -1, evDead+1, 256, most))
}

func TestEventOk(t *testing.T) {
	for _, e := range rightEvents() {
		if !impl.EventOk(e) {
			t.Errorf("EventOk(%#v) = false", e)
		}
	}
	for _, e := range wrongEvents() {
		if impl.EventOk(e) {
			t.Errorf("EventOk(%#v) = true", e)
		}
	}
}

func plainEventOk(e impl.Event) bool {
	return between(e.Id, 1, maxId) && between(e.Device, 1, maxDevice) && between(e.Cost, 1, maxCost) && between(len(e.Body), 0, maxBody) &&
		between(e.At, 0, maxTime) && between(e.Ttl, 1, maxTtl) && between(e.Tries, 0, maxTries) && between(e.Next, 0, maxNext) &&
		slices.Contains(statuses, e.Status)
}

// plainOld adds up in numbers of any length.
func plainOld(e impl.Event, now int) bool {
	end := new(big.Int).Add(big.NewInt(int64(e.At)), big.NewInt(int64(e.Ttl)))
	return (e.Status == evWaiting || e.Status == evFlying) && big.NewInt(int64(now)).Cmp(end) >= 0
}

func plainReady(e impl.Event, now int) bool {
	return e.Status == evWaiting && e.Next <= now && !plainOld(e, now)
}

// plainSum64 adds up two ints as ints are added up, around the end where there is one.
func plainSum64(a, b int) int {
	return int(int64(uint64(a) + uint64(b)))
}

func plainKnocked(e impl.Event, now, wait int) impl.Event {
	tries := maxTries
	if e.Tries < maxTries {
		tries = e.Tries + 1
	}
	return impl.Event{Id: e.Id, Device: e.Device, Cost: e.Cost, Body: e.Body, At: e.At, Ttl: e.Ttl, Tries: tries, Next: plainSum64(now, wait), Status: evFlying}
}

func plainBack(e impl.Event) impl.Event {
	status := e.Status
	if status == evFlying {
		status = evWaiting
	}
	return impl.Event{Id: e.Id, Device: e.Device, Cost: e.Cost, Body: e.Body, At: e.At, Ttl: e.Ttl, Tries: e.Tries, Next: e.Next, Status: status}
}

func plainEventText(e impl.Event) string {
	if !plainEventOk(e) {
		return ""
	}
	word := []string{"waiting", "flying", "expired", "dead"}[e.Status]
	return fmt.Sprintf("%d %d %d %d %d %d %d %s", e.Id, e.Device, e.Cost, e.At, e.Ttl, e.Tries, e.Next, word)
}

// The functions below hold an answer against the plain way.

func sameTimes(t *testing.T, e impl.Event, now int) {
	t.Helper()
	if got, want := impl.Old(e, now), plainOld(e, now); got != want {
		t.Fatalf("Old(%#v, %d) = %v", e, now, got)
	}
	if got, want := impl.Ready(e, now), plainReady(e, now); got != want {
		t.Fatalf("Ready(%#v, %d) = %v", e, now, got)
	}
}

func sameKnocked(t *testing.T, e impl.Event, now, wait int) {
	t.Helper()
	if got, want := impl.Knocked(e, now, wait), plainKnocked(e, now, wait); got != want {
		t.Fatalf("Knocked(%#v, %d, %d) = %#v, want %#v", e, now, wait, got, want)
	}
}

// eventNumbers are the edges of all numbers, those of an Event, and those next to them.
func eventNumbers(e impl.Event) []int {
	numbers := []int{math.MinInt, math.MinInt + 1, -1, 0, 1, maxTtl, maxTime, maxTime + 1, maxNext, maxNext + 1, math.MaxInt - 1, math.MaxInt}
	for _, n := range []int{e.At, e.Next, plainSum64(e.At, e.Ttl)} {
		numbers = append(numbers, plainSum64(n, -1), n, plainSum64(n, 1))
	}
	slices.Sort(numbers)
	return slices.Compact(numbers)
}

// sameEvent holds all that is told of an Event against the plain ways, whether it is right or not.
func sameEvent(t *testing.T, e impl.Event) {
	t.Helper()
	if got := impl.EventOk(e); got != plainEventOk(e) {
		t.Fatalf("EventOk(%#v) = %v", e, got)
	}
	if got, want := impl.EventText(e), plainEventText(e); got != want {
		t.Fatalf("EventText(%#v) = %q, want %q", e, got, want)
	}
	if got, want := impl.Back(e), plainBack(e); got != want {
		t.Fatalf("Back(%#v) = %#v, want %#v", e, got, want)
	}
	for _, now := range eventNumbers(e) {
		sameTimes(t, e, now)
		for _, wait := range []int{math.MinInt, -1, 0, 1, 7, maxTime, math.MaxInt} {
			sameKnocked(t, e, now, wait)
		}
	}
}

func TestEachEventIsAsThePlainWayTells(t *testing.T) {
	for _, e := range slices.Concat(rightEvents(), wrongEvents()) {
		for _, status := range append(slices.Clone(anyStatuses), e.Status) {
			sameEvent(t, withStatus(e, status))
		}
	}
}

func TestOld(t *testing.T) {
	for _, c := range []struct {
		at, ttl, now int
		old          bool
	}{
		{10, 5, math.MinInt, false},
		{10, 5, -15, false},
		{10, 5, 0, false},
		{10, 5, 5, false},
		{10, 5, 10, false},
		{10, 5, 13, false},
		{10, 5, 14, false},
		{10, 5, 15, true},
		{10, 5, 16, true},
		{10, 5, math.MaxInt, true},
		{0, 1, 0, false},
		{0, 1, 1, true},
		{maxTime, maxTtl, maxTime, false},
		{maxTime, maxTtl, maxTime + maxTtl - 1, false},
		{maxTime, maxTtl, maxTime + maxTtl, true},
		{maxTime, 1, maxTime, false},
		{maxTime, 1, maxTime + 1, true},
	} {
		e := plainEvent()
		e.At, e.Ttl = c.at, c.ttl
		for _, next := range []int{0, c.now, c.at, c.at + c.ttl, maxNext} {
			e.Next = next
			for _, status := range []int{evWaiting, evFlying} {
				e.Status = status
				if got := impl.Old(e, c.now); got != c.old {
					t.Errorf("Old(%v, %d) = %v", e, c.now, got)
				}
			}
			for _, status := range []int{math.MinInt, -1, evExpired, evDead, evDead + 1, math.MaxInt} {
				e.Status = status
				if impl.Old(e, c.now) {
					t.Errorf("Old(%v, %d) = true", e, c.now)
				}
			}
		}
	}
}

// What ends behind the greatest int never is too old; what ended ahead of the least one always is.
func TestOldBeyondAllNumbers(t *testing.T) {
	for _, c := range []struct {
		at, ttl int
		old     []int
		young   []int
	}{
		{math.MaxInt, 1, nil, []int{math.MinInt, -1, 0, math.MaxInt}},
		{math.MaxInt, math.MaxInt, nil, []int{math.MinInt, -2, -1, 0, math.MaxInt}},
		{math.MaxInt - 5, 5, []int{math.MaxInt}, []int{math.MinInt, 0, math.MaxInt - 1}},
		{math.MaxInt - 5, 6, nil, []int{math.MinInt, 0, math.MaxInt - 1, math.MaxInt}},
		{1, math.MaxInt, nil, []int{math.MinInt, 0, math.MaxInt}},
		{0, math.MaxInt, []int{math.MaxInt}, []int{math.MinInt, 0, math.MaxInt - 1}},
		{math.MinInt, -1, []int{math.MinInt, -1, 0, math.MaxInt}, nil},
		{math.MinInt, math.MinInt, []int{math.MinInt, -1, 0, math.MaxInt}, nil},
		{-1, math.MinInt, []int{math.MinInt, -1, 0, math.MaxInt}, nil},
		{0, math.MinInt, []int{math.MinInt, -1, 0, math.MaxInt}, nil},
		{1, math.MinInt, []int{math.MinInt + 1, -1, 0, math.MaxInt}, []int{math.MinInt}},
		{math.MinInt, math.MaxInt, []int{-1, 0, math.MaxInt}, []int{math.MinInt, -2}},
		{math.MaxInt, math.MinInt, []int{-1, 0, math.MaxInt}, []int{math.MinInt, -2}},
		{math.MinInt, 0, []int{math.MinInt, 0}, nil},
		{math.MaxInt, 0, []int{math.MaxInt}, []int{math.MinInt, math.MaxInt - 1}},
		{7, 0, []int{7, 8}, []int{6}},
		{7, -3, []int{4, 5}, []int{3}},
	} {
		for _, status := range []int{evWaiting, evFlying} {
			e := impl.Event{At: c.at, Ttl: c.ttl, Next: math.MinInt, Status: status}
			for _, now := range c.old {
				if !impl.Old(e, now) || impl.Ready(e, now) {
					t.Errorf("at %d, %v: Old %v, Ready %v", now, e, impl.Old(e, now), impl.Ready(e, now))
				}
			}
			for _, now := range c.young {
				if impl.Old(e, now) || impl.Ready(e, now) != (status == evWaiting) {
					t.Errorf("at %d, %v: Old %v, Ready %v", now, e, impl.Old(e, now), impl.Ready(e, now))
				}
			}
		}
	}
}

func TestReady(t *testing.T) {
	for _, c := range []struct {
		next, now int
		ready     bool
	}{
		{12, math.MinInt, false},
		{12, 0, false},
		{12, 10, false},
		{12, 11, false},
		{12, 12, true},
		{12, 13, true},
		{12, 14, true},
		{12, 15, false},
		{12, 16, false},
		{12, math.MaxInt, false},
		{0, -1, false},
		{0, 0, true},
		{0, 14, true},
		{0, 15, false},
		{14, 13, false},
		{14, 14, true},
		{14, 15, false},
		{15, 14, false},
		{15, 15, false},
		{15, 16, false},
		{16, 15, false},
		{16, 16, false},
		{maxNext, maxNext, false},
		{-3, -4, false},
		{-3, -3, true},
	} {
		e := plainEvent()
		e.Next = c.next
		if got := impl.Ready(e, c.now); got != c.ready {
			t.Errorf("Ready(%v, %d) = %v", e, c.now, got)
		}
		for _, status := range anyStatuses[1:] {
			e.Status = status
			if impl.Ready(e, c.now) {
				t.Errorf("Ready(%v, %d) = true", e, c.now)
			}
		}
	}
}

// One that waits is Ready from its Next on till it is too old, and at no other tick.
func TestReadyAtEachTick(t *testing.T) {
	for at := range 6 {
		for ttl := 1; ttl < 6; ttl++ {
			for next := range 14 {
				e := impl.Event{Id: 1, Device: 1, Cost: 1, At: at, Ttl: ttl, Next: next}
				for now := range 16 {
					if impl.Old(e, now) != (now >= at+ttl) || impl.Ready(e, now) != (now >= next && now < at+ttl) {
						t.Errorf("at %d, %v: Old %v, Ready %v", now, e, impl.Old(e, now), impl.Ready(e, now))
					}
				}
			}
		}
	}
}

func TestKnocked(t *testing.T) {
	for _, c := range []struct {
		tries, now, wait  int
		wantTries, wantAt int
	}{
		{0, 0, 0, 1, 0},
		{0, 13, 7, 1, 20},
		{1, 13, 7, 2, 20},
		{1, 13, 0, 2, 13},
		{41, 0, 7, 42, 7},
		{maxTries - 2, 1, 1, maxTries - 1, 2},
		{maxTries - 1, 1, 1, maxTries, 2},
		{maxTries, 1, 1, maxTries, 2},
		{maxTries + 1, 1, 1, maxTries, 2},
		{math.MaxInt - 1, 1, 1, maxTries, 2},
		{math.MaxInt, 1, 1, maxTries, 2},
		{-1, 1, 1, 0, 2},
		{-2, 1, 1, -1, 2},
		{math.MinInt, 1, 1, math.MinInt + 1, 2},
		{5, maxTime, maxTime, 6, maxNext},
		{5, maxTime, maxTime + 1, 6, maxNext + 1},
		{5, 10, -3, 6, 7},
		{5, -10, 3, 6, -7},
		{5, math.MinInt, math.MaxInt, 6, -1},
		{5, math.MaxInt, math.MinInt, 6, -1},
		{5, math.MinInt, 0, 6, math.MinInt},
		{5, 0, math.MinInt, 6, math.MinInt},
		{5, math.MaxInt, 0, 6, math.MaxInt},
		{5, 0, math.MaxInt, 6, math.MaxInt},
	} {
		for _, status := range anyStatuses {
			e := withStatus(plainEvent(), status)
			e.Tries = c.tries
			want := impl.Event{Id: 3, Device: 2, Cost: 4, Body: "hi", At: 10, Ttl: 5, Tries: c.wantTries, Next: c.wantAt, Status: evFlying}
			if got := impl.Knocked(e, c.now, c.wait); got != want {
				t.Errorf("Knocked(%v, %d, %d) = %v, want %v", e, c.now, c.wait, got, want)
			}
		}
	}
}

func TestBack(t *testing.T) {
	for _, e := range slices.Concat(rightEvents(), wrongEvents()) {
		for _, status := range anyStatuses {
			e.Status = status
			got, want := impl.Back(e), e
			if status == evFlying {
				want.Status = evWaiting
			}
			if got != want || impl.Back(got) != got {
				t.Errorf("Back(%v) = %v, and then %v", e, got, impl.Back(got))
			}
		}
	}
}

// What is knocked for isn't ready at any time till it is back, and then is from its Next on, if it isn't too old by then.
func TestNotReadyTillItIsBack(t *testing.T) {
	for wait := range 9 {
		for from := 9; from < 17; from++ {
			flies := impl.Knocked(plainEvent(), from, wait)
			back := impl.Back(flies)
			if !impl.EventOk(flies) || !impl.EventOk(back) || back.Next != from+wait || back.Tries != 2 {
				t.Errorf("%v, and back %v", flies, back)
			}
			for now := range 30 {
				if impl.Ready(flies, now) || impl.Ready(back, now) != (now >= from+wait && now < 15) {
					t.Errorf("at %d: flying %v, back %v", now, impl.Ready(flies, now), impl.Ready(back, now))
				}
				if old := now >= 15; impl.Old(flies, now) != old || impl.Old(back, now) != old {
					t.Errorf("at %d: Old flying %v, Old back %v", now, impl.Old(flies, now), impl.Old(back, now))
				}
			}
		}
	}
}

// One is knocked for again and again, each time behind a longer wait, as long as it isn't too old.
func TestKnockedTillItIsOld(t *testing.T) {
	e := impl.Event{Id: 7, Device: 1, Cost: 1, Body: "again", At: 5, Ttl: 40, Next: 5}
	var knocks []int
	for now := range 100 {
		if impl.Ready(e, now) {
			knocks = append(knocks, now)
			e = impl.Back(impl.Knocked(e, now, 1<<e.Tries))
		}
	}
	if want := []int{5, 6, 8, 12, 20, 36}; !slices.Equal(knocks, want) || e.Tries != len(want) {
		t.Errorf("knocked at %v, want %v: %v", knocks, want, e)
	}
}

func TestEventText(t *testing.T) {
	for _, c := range []struct {
		e    impl.Event
		want string
	}{
		{impl.Event{Id: 3, Device: 2, Cost: 4, Body: "hi", At: 10, Ttl: 5, Tries: 1, Next: 12, Status: evWaiting}, "3 2 4 10 5 1 12 waiting"},
		{impl.Event{Id: 3, Device: 2, Cost: 4, Body: "hi", At: 10, Ttl: 5, Tries: 1, Next: 12, Status: evFlying}, "3 2 4 10 5 1 12 flying"},
		{impl.Event{Id: 3, Device: 2, Cost: 4, Body: "hi", At: 10, Ttl: 5, Tries: 1, Next: 12, Status: evExpired}, "3 2 4 10 5 1 12 expired"},
		{impl.Event{Id: 3, Device: 2, Cost: 4, Body: "hi", At: 10, Ttl: 5, Tries: 1, Next: 12, Status: evDead}, "3 2 4 10 5 1 12 dead"},
		{impl.Event{Id: 1, Device: 1, Cost: 1, Ttl: 1}, "1 1 1 0 1 0 0 waiting"},
		{impl.Event{Id: 1, Device: 1, Cost: 1, Body: " 9\n", Ttl: 1}, "1 1 1 0 1 0 0 waiting"},
		{impl.Event{Id: maxId, Device: 6, Cost: 9, Body: strings.Repeat("b", 40), At: maxTime, Ttl: 1000000, Tries: 100000, Next: 2 * maxTime, Status: evDead}, "9999 6 9 1000000000 1000000 100000 2000000000 dead"},
	} {
		if got := impl.EventText(c.e); got != c.want {
			t.Errorf("EventText(%#v) = %q, want %q", c.e, got, c.want)
		}
	}
	for _, e := range wrongEvents() {
		if got := impl.EventText(e); got != "" {
			t.Errorf("EventText(%#v) = %q", e, got)
		}
	}
}

// Promise 15: every function answers at any arguments.

func TestEventsOfAnyNumbers(t *testing.T) {
	r := rand.New(rand.NewPCG(6, 1))
	odd := func(usual ...int) int {
		if r.IntN(30) == 0 {
			return oddNumbers[r.IntN(len(oddNumbers))]
		}
		return usual[r.IntN(len(usual))]
	}
	right, ready, old := 0, 0, 0
	for range 20000 {
		e := impl.Event{
			Id: odd(1, 77, maxId), Device: odd(1, 3, maxDevice), Cost: odd(1, 5, maxCost), Body: randomBytes(r, odd(0, 7, maxBody)&63),
			At: odd(0, 20, 30, maxTime), Ttl: odd(1, 9, 10, maxTtl), Tries: odd(0, 1, 16, maxTries), Next: odd(0, 25, 35, maxNext), Status: odd(0, 0, 1, 2, 3),
		}
		sameEvent(t, e)
		for range 5 {
			now := odd(20, 25, 29, 30, 35, 39, 40)
			sameTimes(t, e, now)
			sameKnocked(t, e, now, odd(0, 1, 10))
			if impl.Old(e, now) {
				old++
			}
			if impl.Ready(e, now) {
				ready++
			}
		}
		if plainEventOk(e) {
			right++
		}
	}
	if right < 5000 || ready < 5000 || old < 5000 {
		t.Errorf("but %d are right, %d times one is Ready, and %d times one is Old", right, ready, old)
	}
}
