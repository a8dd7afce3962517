package tests

import (
	"fmt"
	"math"
	"math/rand/v2"
	"slices"
	"testing"

	"loop.example/g00814/impl"
)

// Promise 2: each timer comes due once, at its time; a slot is one of 64.

const (
	maxTime   = 1000000000
	maxTimers = 60
	maxId     = 9999
)

func sameWheel(v, w impl.Wheel) bool {
	return v.Now == w.Now && slices.Equal(v.List, w.List)
}

// manyTimers are so many, of the Ids from 1 on, each one tick behind the one ahead.
func manyTimers(n, first int) []impl.Timer {
	var list []impl.Timer
	for i := range n {
		list = append(list, impl.Timer{At: first + i, Id: i + 1})
	}
	return list
}

func TestWheelLimits(t *testing.T) {
	if impl.MaxTime != maxTime || impl.MaxTimers != maxTimers || impl.MaxId != maxId {
		t.Error(impl.MaxTime, impl.MaxTimers, impl.MaxId)
	}
}

func rightWheels() []impl.Wheel {
	return []impl.Wheel{
		{},
		{Now: 1},
		{Now: maxTime},
		{Now: maxTime - 1, List: []impl.Timer{{At: maxTime, Id: 1}, {At: maxTime, Id: maxId}}},
		{List: []impl.Timer{{At: 1, Id: 1}}},
		{List: []impl.Timer{{At: maxTime, Id: maxId}}},
		{Now: 10, List: []impl.Timer{{At: 11, Id: 2}}},
		{Now: 10, List: []impl.Timer{{At: 11, Id: 1}, {At: 11, Id: 2}, {At: 11, Id: 9999}}},
		{Now: 10, List: []impl.Timer{{At: 11, Id: 9}, {At: 12, Id: 1}, {At: 12, Id: 3}, {At: 5000, Id: 2}}},
		{Now: 4095, List: []impl.Timer{{At: 4096, Id: 4}, {At: 4097, Id: 3}, {At: 1 << 24, Id: 2}, {At: 1 << 29, Id: 1}}},
		{List: manyTimers(maxTimers-1, 1)},
		{List: manyTimers(maxTimers, 1)},
		{Now: 63, List: manyTimers(maxTimers, 64)},
	}
}

func wrongWheels() []impl.Wheel {
	return []impl.Wheel{
		{Now: -1},
		{Now: maxTime + 1},
		{Now: math.MinInt},
		{Now: math.MaxInt},
		{Now: -1, List: []impl.Timer{{At: 5, Id: 1}}},
		{Now: maxTime + 1, List: []impl.Timer{{At: maxTime + 2, Id: 1}}},
		{Now: maxTime, List: []impl.Timer{{At: maxTime, Id: 1}}},
		{Now: maxTime, List: []impl.Timer{{At: maxTime + 1, Id: 1}}},
		{Now: 10, List: []impl.Timer{{At: 10, Id: 1}}},
		{Now: 10, List: []impl.Timer{{At: 9, Id: 1}}},
		{Now: 10, List: []impl.Timer{{At: 10, Id: 1}, {At: 11, Id: 2}}},
		{List: []impl.Timer{{At: 0, Id: 1}}},
		{List: []impl.Timer{{At: -1, Id: 1}}},
		{List: []impl.Timer{{At: math.MinInt, Id: 1}}},
		{List: []impl.Timer{{At: maxTime + 1, Id: 1}}},
		{List: []impl.Timer{{At: 1 << 30, Id: 1}}},
		{List: []impl.Timer{{At: math.MaxInt, Id: 1}}},
		{List: []impl.Timer{{At: 5, Id: 1}, {At: maxTime + 1, Id: 2}}},
		{List: []impl.Timer{{At: 5, Id: 0}}},
		{List: []impl.Timer{{At: 5, Id: -1}}},
		{List: []impl.Timer{{At: 5, Id: maxId + 1}}},
		{List: []impl.Timer{{At: 5, Id: math.MinInt}}},
		{List: []impl.Timer{{At: 5, Id: math.MaxInt}}},
		{List: []impl.Timer{{At: 5, Id: 1}, {At: 6, Id: 0}}},
		{List: []impl.Timer{{At: 5, Id: 1}, {At: 5, Id: 1}}},
		{List: []impl.Timer{{At: 5, Id: 1}, {At: 6, Id: 1}}},
		{List: []impl.Timer{{At: 5, Id: 1}, {At: 6, Id: 2}, {At: 7, Id: 1}}},
		{List: []impl.Timer{{At: 5, Id: 2}, {At: 5, Id: 1}}},
		{List: []impl.Timer{{At: 6, Id: 1}, {At: 5, Id: 2}}},
		{List: []impl.Timer{{At: 5, Id: 1}, {At: 7, Id: 2}, {At: 6, Id: 3}}},
		{List: manyTimers(maxTimers+1, 1)},
		{List: make([]impl.Timer, maxTimers+1)},
		{List: manyTimers(1000, 1)},
	}
}

func TestWheelOk(t *testing.T) {
	for _, w := range rightWheels() {
		if !impl.WheelOk(w) {
			t.Errorf("WheelOk(%v) = false", w)
		}
	}
	for _, w := range wrongWheels() {
		if impl.WheelOk(w) {
			t.Errorf("WheelOk(%v) = true", w)
		}
	}
}

func TestSetTimer(t *testing.T) {
	w := impl.Wheel{Now: 10, List: []impl.Timer{{At: 20, Id: 4}, {At: 30, Id: 2}}}
	for _, c := range []struct {
		t    impl.Timer
		want []impl.Timer
	}{
		{impl.Timer{At: 11, Id: 9}, []impl.Timer{{At: 11, Id: 9}, {At: 20, Id: 4}, {At: 30, Id: 2}}},
		{impl.Timer{At: 20, Id: 3}, []impl.Timer{{At: 20, Id: 3}, {At: 20, Id: 4}, {At: 30, Id: 2}}},
		{impl.Timer{At: 20, Id: 5}, []impl.Timer{{At: 20, Id: 4}, {At: 20, Id: 5}, {At: 30, Id: 2}}},
		{impl.Timer{At: 25, Id: 1}, []impl.Timer{{At: 20, Id: 4}, {At: 25, Id: 1}, {At: 30, Id: 2}}},
		{impl.Timer{At: maxTime, Id: 1}, []impl.Timer{{At: 20, Id: 4}, {At: 30, Id: 2}, {At: maxTime, Id: 1}}},
		{impl.Timer{At: maxTime, Id: maxId}, []impl.Timer{{At: 20, Id: 4}, {At: 30, Id: 2}, {At: maxTime, Id: maxId}}},
		{impl.Timer{At: 20, Id: 4}, []impl.Timer{{At: 20, Id: 4}, {At: 30, Id: 2}}},
		{impl.Timer{At: 11, Id: 4}, []impl.Timer{{At: 11, Id: 4}, {At: 30, Id: 2}}},
		{impl.Timer{At: 31, Id: 4}, []impl.Timer{{At: 30, Id: 2}, {At: 31, Id: 4}}},
		{impl.Timer{At: 30, Id: 4}, []impl.Timer{{At: 30, Id: 2}, {At: 30, Id: 4}}},
		{impl.Timer{At: 20, Id: 2}, []impl.Timer{{At: 20, Id: 2}, {At: 20, Id: 4}}},
		{impl.Timer{At: maxTime, Id: 4}, []impl.Timer{{At: 30, Id: 2}, {At: maxTime, Id: 4}}},
	} {
		got, ok := impl.SetTimer(w, c.t)
		if !ok || !sameWheel(got, impl.Wheel{Now: 10, List: c.want}) {
			t.Errorf("SetTimer(%v, %v) = %v, %v, want %v", w, c.t, got, ok, c.want)
		}
	}
	for _, now := range []int{0, 1, 63, 64, maxTime - 1} {
		got, ok := impl.SetTimer(impl.Wheel{Now: now}, impl.Timer{At: now + 1, Id: 1})
		if !ok || !sameWheel(got, impl.Wheel{Now: now, List: []impl.Timer{{At: now + 1, Id: 1}}}) {
			t.Errorf("just above Now: %v, %v", got, ok)
		}
	}
}

func strangeTimers(now int) []impl.Timer {
	return []impl.Timer{
		{},
		{At: now, Id: 5}, {At: now, Id: 4}, {At: now - 1, Id: 4}, {At: -1, Id: 4}, {At: math.MinInt, Id: 4},
		{At: maxTime + 1, Id: 4}, {At: 1 << 30, Id: 4}, {At: 1 << 36, Id: 5}, {At: math.MaxInt, Id: 4},
		{At: now + 1, Id: 0}, {At: now + 1, Id: -1}, {At: now + 1, Id: maxId + 1}, {At: now + 1, Id: math.MinInt}, {At: now + 1, Id: math.MaxInt},
	}
}

func TestSetTimerRefuses(t *testing.T) {
	for _, w := range []impl.Wheel{
		{},
		{Now: 10},
		{Now: 10, List: []impl.Timer{{At: 20, Id: 4}}},
		{Now: 10, List: []impl.Timer{{At: 20, Id: 4}, {At: 30, Id: 2}}},
		{Now: maxTime},
		{List: manyTimers(maxTimers, 1)},
	} {
		for _, x := range strangeTimers(w.Now) {
			if got, ok := impl.SetTimer(w, x); ok || !sameWheel(got, w) {
				t.Errorf("SetTimer(%v, %v) = %v, %v", w, x, got, ok)
			}
		}
	}
	for _, w := range wrongWheels() {
		for _, x := range append(strangeTimers(w.Now), impl.Timer{At: 50, Id: 100}, impl.Timer{At: 50, Id: 1}, impl.Timer{At: maxTime, Id: 2}) {
			if got, ok := impl.SetTimer(w, x); ok || !sameWheel(got, w) {
				t.Errorf("SetTimer(%v, %v) = %v, %v", w, x, got, ok)
			}
		}
	}
}

func TestSetTimerWhenFull(t *testing.T) {
	w := impl.Wheel{List: manyTimers(maxTimers-1, 1)}
	full, ok := impl.SetTimer(w, impl.Timer{At: maxTimers, Id: maxTimers})
	if !ok || !sameWheel(full, impl.Wheel{List: manyTimers(maxTimers, 1)}) {
		t.Fatalf("SetTimer of the last one = %v, %v", full, ok)
	}
	for _, at := range []int{1, 30, 100, maxTime} {
		if got, ok := impl.SetTimer(full, impl.Timer{At: at, Id: maxTimers + 1}); ok || !sameWheel(got, full) {
			t.Errorf("SetTimer of one more = %v, %v", got, ok)
		}
	}
	for id := 1; id <= maxTimers; id++ {
		x := impl.Timer{At: 5000, Id: id}
		got, ok := impl.SetTimer(full, x)
		want := impl.Wheel{List: append(slices.Delete(manyTimers(maxTimers, 1), id-1, id), x)}
		if !ok || !sameWheel(got, want) {
			t.Errorf("SetTimer(.., %v) = %v, %v", x, got, ok)
		}
	}
}

func TestDropTimer(t *testing.T) {
	a, b, c, d := impl.Timer{At: 20, Id: 3}, impl.Timer{At: 20, Id: 7}, impl.Timer{At: 21, Id: 1}, impl.Timer{At: 90000, Id: maxId}
	w := impl.Wheel{Now: 10, List: []impl.Timer{a, b, c, d}}
	for id, want := range map[int][]impl.Timer{
		3:     {b, c, d},
		7:     {a, c, d},
		1:     {a, b, d},
		maxId: {a, b, c},
		2:     w.List, 20: w.List, 0: w.List, -1: w.List, maxId + 1: w.List, math.MinInt: w.List, math.MaxInt: w.List,
	} {
		if got := impl.DropTimer(w, id); !sameWheel(got, impl.Wheel{Now: 10, List: want}) {
			t.Errorf("DropTimer(%v, %d) = %v", w, id, got)
		}
	}
	if got := impl.DropTimer(impl.Wheel{Now: 10, List: []impl.Timer{a}}, 3); !sameWheel(got, impl.Wheel{Now: 10}) {
		t.Errorf("DropTimer of the only one = %v", got)
	}
	for _, w := range wrongWheels() {
		for _, id := range []int{-1, 0, 1, 2, 3, maxId, maxId + 1, math.MinInt, math.MaxInt} {
			if got := impl.DropTimer(w, id); !sameWheel(got, w) {
				t.Errorf("DropTimer(%v, %d) = %v", w, id, got)
			}
		}
	}
}

func TestNextTimer(t *testing.T) {
	for _, c := range []struct {
		w    impl.Wheel
		want int
	}{
		{impl.Wheel{}, -1},
		{impl.Wheel{Now: 10}, -1},
		{impl.Wheel{Now: maxTime}, -1},
		{impl.Wheel{Now: 10, List: []impl.Timer{{At: 11, Id: 3}}}, 11},
		{impl.Wheel{Now: 10, List: []impl.Timer{{At: 40, Id: 3}, {At: 50, Id: 1}}}, 40},
		{impl.Wheel{Now: 10, List: []impl.Timer{{At: 40, Id: 3}, {At: 40, Id: 4}}}, 40},
		{impl.Wheel{List: []impl.Timer{{At: maxTime, Id: maxId}}}, maxTime},
		{impl.Wheel{Now: -1}, -1},
	} {
		if got := impl.NextTimer(c.w); got != c.want {
			t.Errorf("NextTimer(%v) = %d, want %d", c.w, got, c.want)
		}
	}
}

func TestTurnWheel(t *testing.T) {
	a, b, c, d := impl.Timer{At: 20, Id: 3}, impl.Timer{At: 20, Id: 7}, impl.Timer{At: 21, Id: 1}, impl.Timer{At: 90000, Id: 2}
	w := impl.Wheel{Now: 10, List: []impl.Timer{a, b, c, d}}
	for _, x := range []struct {
		to   int
		list []impl.Timer
		ids  []int
	}{
		{10, w.List, nil},
		{11, w.List, nil},
		{19, w.List, nil},
		{20, []impl.Timer{c, d}, []int{3, 7}},
		{21, []impl.Timer{d}, []int{3, 7, 1}},
		{22, []impl.Timer{d}, []int{3, 7, 1}},
		{64, []impl.Timer{d}, []int{3, 7, 1}},
		{89999, []impl.Timer{d}, []int{3, 7, 1}},
		{90000, nil, []int{3, 7, 1, 2}},
		{90001, nil, []int{3, 7, 1, 2}},
		{maxTime, nil, []int{3, 7, 1, 2}},
	} {
		got, ids := impl.TurnWheel(w, x.to)
		if !sameWheel(got, impl.Wheel{Now: x.to, List: x.list}) || !slices.Equal(ids, x.ids) {
			t.Errorf("TurnWheel(%v, %d) = %v, %v, want %v, %v", w, x.to, got, ids, x.list, x.ids)
		}
	}
	for _, to := range []int{9, 0, -1, math.MinInt, maxTime + 1, 1 << 30, math.MaxInt} {
		if got, ids := impl.TurnWheel(w, to); len(ids) != 0 || !sameWheel(got, w) {
			t.Errorf("TurnWheel(%v, %d) = %v, %v", w, to, got, ids)
		}
	}
	last := impl.Wheel{Now: maxTime - 1, List: []impl.Timer{{At: maxTime, Id: 1}, {At: maxTime, Id: maxId}}}
	if got, ids := impl.TurnWheel(last, maxTime); !sameWheel(got, impl.Wheel{Now: maxTime}) || !slices.Equal(ids, []int{1, maxId}) {
		t.Errorf("TurnWheel(%v, %d) = %v, %v", last, maxTime, got, ids)
	}
	for _, w := range wrongWheels() {
		for _, to := range []int{w.Now, 0, 5, 6, 7, 1000, maxTime, maxTime + 1} {
			if got, ids := impl.TurnWheel(w, to); len(ids) != 0 || !sameWheel(got, w) {
				t.Errorf("TurnWheel(%v, %d) = %v, %v", w, to, got, ids)
			}
		}
	}
}

// digits are the places at which one digit of a time, to the base 64, gives way to the next.
var digits = []int{1, 64, 4096, 262144, 16777216}

// A timer that is due just where a higher level falls comes due then, not a tick later, and not a tick sooner.
func TestTurnWheelAtEachLevel(t *testing.T) {
	for _, digit := range digits {
		for _, times := range []int{1, 2, 5, 59} {
			for _, off := range []int{-65, -64, -63, -2, -1, 0, 1, 2, 63, 64, 65} {
				at := digit*times + off
				for _, now := range []int{0, at / 2, at - 4097, at - 4096, at - 65, at - 64, at - 63, at - 2, at - 1} {
					if now < 0 || at <= now || at > maxTime {
						continue
					}
					w := impl.Wheel{Now: now, List: []impl.Timer{{At: at, Id: 2}, {At: at, Id: 8}}}
					if got, ids := impl.TurnWheel(w, at-1); len(ids) != 0 || !sameWheel(got, impl.Wheel{Now: at - 1, List: w.List}) {
						t.Fatalf("TurnWheel(%v, %d) = %v, %v", w, at-1, got, ids)
					}
					for _, to := range []int{at, at + 1, maxTime} {
						if got, ids := impl.TurnWheel(w, min(to, maxTime)); !slices.Equal(ids, []int{2, 8}) || !sameWheel(got, impl.Wheel{Now: min(to, maxTime)}) {
							t.Fatalf("TurnWheel(%v, %d) = %v, %v", w, to, got, ids)
						}
					}
				}
			}
		}
	}
}

// turnPlainly does what TurnWheel promises of a right Wheel, one Timer behind the other.
func turnPlainly(w impl.Wheel, to int) (impl.Wheel, []int) {
	left := impl.Wheel{Now: to}
	var ids []int
	for _, t := range w.List {
		if t.At <= to {
			ids = append(ids, t.Id)
		} else {
			left.List = append(left.List, t)
		}
	}
	return left, ids
}

func dropPlainly(w impl.Wheel, id int) impl.Wheel {
	w.List = slices.DeleteFunc(slices.Clone(w.List), func(t impl.Timer) bool { return t.Id == id })
	return w
}

func setPlainly(w impl.Wheel, t impl.Timer) (impl.Wheel, bool) {
	set := dropPlainly(w, t.Id)
	if t.At <= w.Now || t.At > maxTime || t.Id < 1 || t.Id > maxId || len(set.List) >= maxTimers {
		return w, false
	}
	at := 0
	for at < len(set.List) && (set.List[at].At < t.At || set.List[at].At == t.At && set.List[at].Id < t.Id) {
		at++
	}
	set.List = slices.Insert(set.List, at, t)
	return set, true
}

// spanFrom draws how far ahead something is, near or far alike, often at a place where digits give way.
func spanFrom(r *rand.Rand, now int) int {
	digit := digits[r.IntN(len(digits))]
	switch r.IntN(4) {
	case 0:
		return now + r.IntN(4)
	case 1:
		return now - now%digit + digit*r.IntN(64) + r.IntN(3) - 1
	case 2:
		return now + digit*r.IntN(64)
	default:
		return now + r.IntN(digit*64)
	}
}

func TestWheelInManyOrders(t *testing.T) {
	for seed := range uint64(300) {
		r := rand.New(rand.NewPCG(seed, 2))
		ids := []int{4, 9, 80, maxId}[r.IntN(4)]
		w := impl.Wheel{Now: []int{0, 63, 4095, r.IntN(maxTime)}[r.IntN(4)]}
		for range 300 {
			ahead, what := w, ""
			var want impl.Wheel
			var same bool
			switch r.IntN(8) {
			case 0:
				id := r.IntN(ids + 1)
				what = fmt.Sprint("DropTimer ", id)
				w, want, same = impl.DropTimer(w, id), dropPlainly(w, id), true
			case 1, 2:
				to := spanFrom(r, w.Now)
				if r.IntN(3) > 0 && len(w.List) > 0 {
					to = w.List[r.IntN(min(3, len(w.List)))].At - r.IntN(2)
				}
				if to < w.Now || to > maxTime {
					continue
				}
				what = fmt.Sprint("TurnWheel ", to)
				var got, due []int
				want, due = turnPlainly(w, to)
				w, got = impl.TurnWheel(w, to)
				same = slices.Equal(got, due)
			default:
				x := impl.Timer{At: spanFrom(r, w.Now), Id: r.IntN(ids + 2)}
				what = fmt.Sprint("SetTimer ", x)
				var got, ok bool
				want, ok = setPlainly(w, x)
				w, got = impl.SetTimer(w, x)
				same = got == ok
			}
			if !same || !sameWheel(w, want) || !impl.WheelOk(w) {
				t.Fatalf("seed %d: %s of %v = %v, want %v", seed, what, ahead, w, want)
			}
		}
	}
}

// Each Timer comes due once, whether the wheel is turned at once, or in many turns.
func TestTurnWheelInSeveralTurns(t *testing.T) {
	for seed := range uint64(200) {
		r := rand.New(rand.NewPCG(seed, 3))
		first := impl.Wheel{Now: r.IntN(10000)}
		for range r.IntN(2 * maxTimers) {
			first, _ = impl.SetTimer(first, impl.Timer{At: spanFrom(r, first.Now), Id: 1 + r.IntN(200)})
		}
		var all []int
		for _, x := range first.List {
			all = append(all, x.Id)
		}
		if w, ids := impl.TurnWheel(first, maxTime); !slices.Equal(ids, all) || !sameWheel(w, impl.Wheel{Now: maxTime}) {
			t.Fatalf("seed %d: TurnWheel(%v, %d) = %v, %v", seed, first, maxTime, w, ids)
		}
		var told []int
		w := first
		for w.Now < maxTime {
			to := spanFrom(r, w.Now)
			if next := impl.NextTimer(w); next > 0 && r.IntN(2) == 0 {
				to = next
			}
			to = min(max(to, w.Now+1), maxTime)
			now := w.Now
			var ids []int
			w, ids = impl.TurnWheel(w, to)
			for _, id := range ids {
				at := first.List[slices.IndexFunc(first.List, func(x impl.Timer) bool { return x.Id == id })].At
				if at <= now || at > to {
					t.Fatalf("seed %d: %d, At %d, told between %d and %d", seed, id, at, now, to)
				}
			}
			told = append(told, ids...)
		}
		if !slices.Equal(told, all) || len(w.List) != 0 {
			t.Fatalf("seed %d: told %v, want %v", seed, told, all)
		}
	}
}

// Tick by tick, so that all levels but the two highest fall.
func TestTurnWheelTickByTick(t *testing.T) {
	var list []impl.Timer
	for i := range maxTimers {
		list = append(list, impl.Timer{At: 1 + i*i*5, Id: maxId - i})
	}
	w := impl.Wheel{List: list}
	for now := 1; now <= 1+59*59*5; now++ {
		var ids []int
		w, ids = impl.TurnWheel(w, now)
		if list[0].At > now && len(ids) > 0 || list[0].At == now && !slices.Equal(ids, []int{list[0].Id}) {
			t.Fatalf("at %d: %v", now, ids)
		}
		list = list[len(ids):]
		if len(list) == 0 {
			break
		}
	}
	if len(list) > 0 || len(w.List) > 0 {
		t.Errorf("left: %v, %v", list, w)
	}
}

func TestLevel(t *testing.T) {
	power := 1
	for level := range 5 {
		above := power * 64
		for _, c := range [][2]int{
			{0, above - 1}, {0, power}, {power, 0}, {above - power, above - power - 1}, {5*above + power, 5 * above},
			{7 * above, 8*above - 1}, {7*above + power - 1, 7*above + power}, {math.MaxInt, math.MaxInt - power},
		} {
			if got := impl.Level(c[0], c[1]); got != level {
				t.Errorf("Level(%d, %d) = %d, want %d", c[0], c[1], got, level)
			}
		}
		for _, n := range []int{0, 1, power - 1, power, above - 1, above, 3*above + power, math.MaxInt} {
			if got := impl.Level(n, n); got != 0 {
				t.Errorf("Level(%d, %d) = %d", n, n, got)
			}
		}
		for _, c := range [][2]int{{0, above}, {above, 0}, {above - 1, above}, {above, above - 1}, {8*above - 1, 8 * above}} {
			if got := impl.Level(c[0], c[1]); got != level+1 {
				t.Errorf("Level(%d, %d) = %d, want %d", c[0], c[1], got, level+1)
			}
		}
		power = above
	}
	for _, c := range [][2]int{
		{0, 1 << 30}, {1<<30 - 1, 1 << 30}, {0, 1 << 36}, {1 << 60, 1 << 61}, {0, math.MaxInt}, {math.MaxInt, 0}, {math.MaxInt, math.MaxInt - 1<<30},
	} {
		if got := impl.Level(c[0], c[1]); got != 5 {
			t.Errorf("Level(%d, %d) = %d, want 5", c[0], c[1], got)
		}
	}
	for _, c := range [][2]int{
		{-1, 0}, {0, -1}, {-1, -1}, {-1, 5}, {5, -1}, {-64, -64}, {math.MinInt, 0}, {0, math.MinInt}, {math.MinInt, math.MinInt}, {math.MaxInt, -1}, {-1, math.MaxInt}, {math.MinInt, math.MaxInt},
	} {
		if got := impl.Level(c[0], c[1]); got != -1 {
			t.Errorf("Level(%d, %d) = %d, want -1", c[0], c[1], got)
		}
	}
}

// Level and Slot as the document words them, of many pairs.
func TestLevelAndSlotOfMany(t *testing.T) {
	r := rand.New(rand.NewPCG(1, 4))
	for range 20000 {
		now := r.IntN(1 << (1 + r.IntN(40)))
		at := spanFrom(r, now)
		want := 5
		for level, power := 4, 1<<30; level >= 0 && at >= 0; level, power = level-1, power/64 {
			if now/power == at/power {
				want = level
			}
			if got := impl.Slot(at, level); got != at/(power/64)%64 {
				t.Fatalf("Slot(%d, %d) = %d", at, level, got)
			}
		}
		if at < 0 {
			want = -1
		}
		if got := impl.Level(now, at); got != want {
			t.Fatalf("Level(%d, %d) = %d, want %d", now, at, got, want)
		}
	}
}

func TestSlot(t *testing.T) {
	n := 7 + 64*(63+64*(1+64*(0+64*(42+64*5))))
	for level, want := range []int{7, 63, 1, 0, 42} {
		if got := impl.Slot(n, level); got != want {
			t.Errorf("Slot(%d, %d) = %d, want %d", n, level, got, want)
		}
		if got := impl.Slot(0, level); got != 0 {
			t.Errorf("Slot(0, %d) = %d", level, got)
		}
		if got := impl.Slot(math.MaxInt, level); got != 63 {
			t.Errorf("Slot(%d, %d) = %d", math.MaxInt, level, got)
		}
		if got := impl.Slot(1<<62, level); got != 0 {
			t.Errorf("Slot(%d, %d) = %d", 1<<62, level, got)
		}
		power := digits[level]
		for _, c := range [][2]int{{power - 1, 0}, {power, 1}, {2*power - 1, 1}, {63 * power, 63}, {64*power - 1, 63}, {64 * power, 0}, {65 * power, 1}, {1<<40 + 9*power, 9}} {
			if got := impl.Slot(c[0], level); got != c[1] {
				t.Errorf("Slot(%d, %d) = %d, want %d", c[0], level, got, c[1])
			}
		}
		for _, at := range []int{-1, -63, -64, -65, -power, math.MinInt + 1, math.MinInt} {
			if got := impl.Slot(at, level); got != -1 {
				t.Errorf("Slot(%d, %d) = %d", at, level, got)
			}
		}
	}
	for _, at := range []int{math.MinInt, -1, 0, 5, n, math.MaxInt} {
		for _, level := range []int{math.MinInt, -10, -1, 5, 6, 10, 64, math.MaxInt} {
			if got := impl.Slot(at, level); got != -1 {
				t.Errorf("Slot(%d, %d) = %d", at, level, got)
			}
		}
	}
}

// Promise 15: every function answers at any arguments, and writes into none.

func TestWheelAnswersAnything(t *testing.T) {
	numbers := []int{math.MinInt, math.MinInt + 1, -1 << 32, -65, -64, -1, 0, 1, 2, 5, 6, 59, 60, 61, 63, 64, maxId, maxId + 1, maxTime - 1, maxTime, maxTime + 1, 1 << 30, 1 << 32, math.MaxInt - 1, math.MaxInt}
	for _, w := range slices.Concat(rightWheels(), wrongWheels()) {
		right := impl.WheelOk(w)
		if next := impl.NextTimer(w); len(w.List) > 0 && next != w.List[0].At || len(w.List) == 0 && next != -1 {
			t.Errorf("NextTimer(%v) = %d", w, next)
		}
		for _, a := range numbers {
			if got := impl.DropTimer(w, a); impl.WheelOk(got) != right {
				t.Errorf("DropTimer(%v, %d) = %v", w, a, got)
			}
			if got, _ := impl.TurnWheel(w, a); impl.WheelOk(got) != right {
				t.Errorf("TurnWheel(%v, %d) = %v", w, a, got)
			}
			for _, b := range numbers {
				if got, ok := impl.SetTimer(w, impl.Timer{At: a, Id: b}); impl.WheelOk(got) != right || ok && !right {
					t.Errorf("SetTimer(%v, {%d %d}) = %v, %v", w, a, b, got, ok)
				}
			}
		}
	}
	for _, a := range numbers {
		for _, b := range numbers {
			if level := impl.Level(a, b); level < -1 || level > 5 || (level == -1) != (a < 0 || b < 0) {
				t.Errorf("Level(%d, %d) = %d", a, b, level)
			}
			if slot := impl.Slot(a, b); slot < -1 || slot > 63 || (slot == -1) != (a < 0 || b < 0 || b > 4) {
				t.Errorf("Slot(%d, %d) = %d", a, b, slot)
			}
		}
	}
}

// Neither a list nor the room behind it is written into, nor does an answer stand in either.
func TestWheelWritesIntoNoArgument(t *testing.T) {
	other := impl.Timer{At: 77, Id: 7777}
	calls := map[string]func(impl.Wheel) (impl.Wheel, []int){
		"set ahead": func(w impl.Wheel) (impl.Wheel, []int) {
			v, _ := impl.SetTimer(w, impl.Timer{At: w.Now + 1, Id: 5000})
			return v, nil
		},
		"set behind": func(w impl.Wheel) (impl.Wheel, []int) {
			v, _ := impl.SetTimer(w, impl.Timer{At: maxTime, Id: 5000})
			return v, nil
		},
		"set anew": func(w impl.Wheel) (impl.Wheel, []int) {
			v, _ := impl.SetTimer(w, impl.Timer{At: 6000, Id: 1})
			return v, nil
		},
		"not set": func(w impl.Wheel) (impl.Wheel, []int) {
			v, _ := impl.SetTimer(w, impl.Timer{At: w.Now, Id: 5000})
			return v, nil
		},
		"drop":      func(w impl.Wheel) (impl.Wheel, []int) { return impl.DropTimer(w, 1), nil },
		"not drop":  func(w impl.Wheel) (impl.Wheel, []int) { return impl.DropTimer(w, 8888), nil },
		"turn":      func(w impl.Wheel) (impl.Wheel, []int) { return impl.TurnWheel(w, w.Now+2) },
		"turn all":  func(w impl.Wheel) (impl.Wheel, []int) { return impl.TurnWheel(w, maxTime) },
		"turn none": func(w impl.Wheel) (impl.Wheel, []int) { return impl.TurnWheel(w, w.Now) },
		"not turn":  func(w impl.Wheel) (impl.Wheel, []int) { return impl.TurnWheel(w, w.Now-1) },
	}
	for name, call := range calls {
		for _, w := range slices.Concat(rightWheels(), wrongWheels()) {
			w.List = withRoom(w.List, other, other, other)
			before := wholeOf(w.List)
			v, ids := call(w)
			if !impl.WheelOk(v) && impl.WheelOk(w) {
				t.Errorf("%s: %v", name, v)
			}
			impl.WheelOk(w)
			impl.NextTimer(w)
			if !slices.Equal(wholeOf(w.List), before) {
				t.Errorf("%s wrote into %v", name, before)
			}
			again, _ := call(w)
			scribble(v.List, impl.Timer{At: -5, Id: -5})
			scribble(ids, -5)
			if !slices.Equal(wholeOf(w.List), before) {
				t.Errorf("%s: what it answers stands in its argument %v", name, before)
			}
			if last, _ := call(w); !sameWheel(again, last) {
				t.Errorf("%s: %v, and %v later", name, again, last)
			}
		}
	}
}
