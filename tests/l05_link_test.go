package tests

import (
	"math"
	"math/rand/v2"
	"slices"
	"testing"

	"loop.example/g00814/impl"
)

// Promise 5: no more is on its way than was launched; an answer counts once; behind a join nothing of what was counts.

const (
	maxWindow = 8
	maxUntil  = 2000000000
)

func TestLinkLimit(t *testing.T) {
	if impl.MaxWindow != maxWindow {
		t.Error(impl.MaxWindow)
	}
}

func sameLink(k, l impl.Link) bool {
	return k.Up == l.Up && k.Epoch == l.Epoch && k.Seq == l.Seq && slices.Equal(k.Flying, l.Flying)
}

// manyFlies are so many, with every second Seq from 2 on, and the Ids 71, 62 and so on.
func manyFlies(n int) []impl.Fly {
	var flying []impl.Fly
	for i := range n {
		flying = append(flying, impl.Fly{Seq: 2 + 2*i, Id: 71 - 9*i + 900*(i%2), Until: 500 + 7*(i*5%maxWindow)})
	}
	return flying
}

// upLink is one that is Up, in its 4th epoch, with so many Flying.
func upLink(n int) impl.Link {
	return impl.Link{Up: true, Epoch: 4, Seq: 20, Flying: manyFlies(n)}
}

func idsOf(flying []impl.Fly) []int {
	var ids []int
	for _, f := range flying {
		ids = append(ids, f.Id)
	}
	return ids
}

// linkWith is one that is Up with just these Flying.
func linkWith(seq int, flying ...impl.Fly) impl.Link {
	return impl.Link{Up: true, Epoch: 4, Seq: seq, Flying: flying}
}

func rightLinks() []impl.Link {
	links := []impl.Link{
		{},
		{Flying: []impl.Fly{}},
		{Up: true},
		{Up: true, Flying: []impl.Fly{}},
		{Epoch: 1}, {Epoch: maxEpoch - 1}, {Epoch: maxEpoch},
		{Seq: 1}, {Seq: maxSeq - 1}, {Seq: maxSeq},
		{Epoch: maxEpoch, Seq: maxSeq},
		{Up: true, Epoch: maxEpoch, Seq: maxSeq},
		{Up: true, Epoch: maxEpoch, Seq: 20, Flying: manyFlies(3)},
		{Up: true, Epoch: maxEpoch - 1, Seq: 20, Flying: manyFlies(3)},
		{Up: true, Epoch: 0, Seq: 20, Flying: manyFlies(3)},
		linkWith(1, impl.Fly{Seq: 1, Id: 1}),
		linkWith(2, impl.Fly{Seq: 1, Id: 1}),
		linkWith(2, impl.Fly{Seq: 2, Id: 1}),
		linkWith(5, impl.Fly{Seq: 5, Id: 2}),
		linkWith(5, impl.Fly{Seq: 5, Id: maxId}),
		linkWith(5, impl.Fly{Seq: 5, Id: maxId - 1, Until: maxUntil}),
		linkWith(5, impl.Fly{Seq: 5, Id: 7, Until: maxUntil - 1}),
		linkWith(maxSeq, impl.Fly{Seq: maxSeq, Id: maxId, Until: maxUntil}),
		linkWith(maxSeq, impl.Fly{Seq: 1, Id: maxId, Until: maxUntil}, impl.Fly{Seq: maxSeq, Id: 1}),
		linkWith(maxSeq-1, impl.Fly{Seq: maxSeq - 2, Id: 1}, impl.Fly{Seq: maxSeq - 1, Id: 2}),
		linkWith(2, impl.Fly{Seq: 1, Id: 9, Until: 30}, impl.Fly{Seq: 2, Id: 8, Until: 30}),
	}
	for n := range maxWindow + 1 {
		links = append(links, upLink(n))
	}
	return links
}

// Each of these is but one thing away from a right Link, or from two.
func wrongLinks() []impl.Link {
	fly := impl.Fly{Seq: 3, Id: 5, Until: 40}
	seven := manyFlies(maxWindow)[1:]
	links := []impl.Link{
		{Flying: []impl.Fly{fly}},
		{Seq: 3, Flying: []impl.Fly{fly}},
		{Epoch: 4, Seq: 20, Flying: manyFlies(maxWindow)},
		upLink(maxWindow + 1),
		upLink(1000),
		{Up: true, Seq: maxSeq, Flying: make([]impl.Fly, maxWindow+1)},
		linkWith(2, fly),
		linkWith(0, fly),
		linkWith(maxSeq+1, fly),
		linkWith(math.MaxInt, fly),
		linkWith(20, impl.Fly{Seq: 1, Id: 5}, impl.Fly{Seq: 21, Id: 6}),
		linkWith(20, impl.Fly{Seq: 5, Id: 5}, impl.Fly{Seq: 4, Id: 6}),
		linkWith(20, impl.Fly{Seq: 4, Id: 5}, impl.Fly{Seq: 4, Id: 6}),
		linkWith(20, impl.Fly{Seq: 4, Id: 5}, impl.Fly{Seq: 4, Id: 5}),
		linkWith(20, impl.Fly{Seq: 4, Id: 5}, impl.Fly{Seq: 5, Id: 5}),
		linkWith(20, impl.Fly{Seq: 4, Id: 5}, impl.Fly{Seq: 5, Id: 6}, impl.Fly{Seq: 6, Id: 5}),
		linkWith(20, impl.Fly{Seq: 4, Id: 5}, impl.Fly{Seq: 7, Id: 6}, impl.Fly{Seq: 6, Id: 7}),
		linkWith(20, impl.Fly{Seq: 4, Id: 5}, impl.Fly{Seq: 7, Id: 6}, impl.Fly{Seq: 4, Id: 7}),
		linkWith(20, append(slices.Clone(seven), impl.Fly{Seq: seven[6].Seq, Id: 9000})...),
		linkWith(20, append(slices.Clone(seven), impl.Fly{Seq: 20, Id: seven[0].Id})...),
		linkWith(20, append(slices.Clone(seven), impl.Fly{Seq: 20, Id: seven[6].Id})...),
	}
	for _, beyond := range []int{math.MinInt, -1, 60001, 65536, math.MaxInt} {
		links = append(links,
			impl.Link{Epoch: beyond}, impl.Link{Up: true, Epoch: beyond}, impl.Link{Up: true, Epoch: beyond, Seq: 20, Flying: manyFlies(2)},
			impl.Link{Seq: beyond}, impl.Link{Up: true, Seq: beyond}, linkWith(beyond, manyFlies(2)...))
	}
	wrong := func(f impl.Fly) {
		links = append(links, linkWith(20, f), linkWith(20, impl.Fly{Seq: 1, Id: 1}, f), linkWith(maxSeq, append(manyFlies(4), f)...))
	}
	for _, seq := range []int{math.MinInt, -1, 0, maxSeq + 1, math.MaxInt} {
		wrong(impl.Fly{Seq: seq, Id: 5, Until: 40})
	}
	for _, id := range []int{math.MinInt, -1, 0, maxId + 1, math.MaxInt} {
		wrong(impl.Fly{Seq: 19, Id: id, Until: 40})
	}
	for _, until := range []int{math.MinInt, -1, maxUntil + 1, math.MaxInt} {
		wrong(impl.Fly{Seq: 19, Id: 5, Until: until})
	}
	return links
}

func TestLinkOk(t *testing.T) {
	for _, l := range rightLinks() {
		if !impl.LinkOk(l) {
			t.Errorf("LinkOk(%v) = false", l)
		}
	}
	for _, l := range wrongLinks() {
		if impl.LinkOk(l) {
			t.Errorf("LinkOk(%v) = true", l)
		}
	}
}

// plainLinkOk holds each Fly against all that stand ahead of it.
func plainLinkOk(l impl.Link) bool {
	ok := between(l.Epoch, 0, maxEpoch) && between(l.Seq, 0, maxSeq) && between(len(l.Flying), 0, maxWindow) && (l.Up || len(l.Flying) == 0)
	for i, f := range l.Flying {
		ok = ok && between(f.Seq, 1, l.Seq) && between(f.Id, 1, maxId) && between(f.Until, 0, maxUntil)
		for _, g := range l.Flying[:i] {
			ok = ok && g.Seq < f.Seq && g.Id != f.Id
		}
	}
	return ok
}

// plainOut takes out of a Link what is to leave, if this may be.
func plainOut(l impl.Link, may bool, leaves func(impl.Fly) bool) (impl.Link, []int) {
	if !may || !plainLinkOk(l) {
		return l, nil
	}
	stay := slices.DeleteFunc(slices.Clone(l.Flying), leaves)
	gone := slices.DeleteFunc(slices.Clone(l.Flying), func(f impl.Fly) bool { return slices.Contains(stay, f) })
	l.Flying = stay
	return l, idsOf(gone)
}

func plainLaunch(l impl.Link, id, until int) (impl.Link, int) {
	launched := l
	launched.Seq++
	launched.Flying = append(slices.Clone(l.Flying), impl.Fly{Seq: launched.Seq, Id: id, Until: until})
	if !l.Up || !plainLinkOk(l) || !plainLinkOk(launched) {
		return l, 0
	}
	return launched, launched.Seq
}

// The functions below hold an answer against the plain way.

func sameLinkOk(t *testing.T, l impl.Link) {
	t.Helper()
	if got := impl.LinkOk(l); got != plainLinkOk(l) {
		t.Fatalf("LinkOk(%v) = %v", l, got)
	}
}

func sameLaunch(t *testing.T, l impl.Link, id, until int) {
	t.Helper()
	got, seq := impl.Launch(l, id, until)
	if want, wantSeq := plainLaunch(l, id, until); !sameLink(got, want) || seq != wantSeq {
		t.Fatalf("Launch(%v, %d, %d) = %v, %d, want %v, %d", l, id, until, got, seq, want, wantSeq)
	}
}

func sameAnswer(t *testing.T, l impl.Link, epoch, seq int) {
	t.Helper()
	got, id := impl.Answer(l, epoch, seq)
	want, ids := plainOut(l, l.Up && epoch == l.Epoch, func(f impl.Fly) bool { return f.Seq == seq })
	if wantId := append(ids, 0)[0]; !sameLink(got, want) || id != wantId {
		t.Fatalf("Answer(%v, %d, %d) = %v, %d, want %v, %d", l, epoch, seq, got, id, want, wantId)
	}
}

func sameForget(t *testing.T, l impl.Link, id int) {
	t.Helper()
	got := impl.Forget(l, id)
	if want, _ := plainOut(l, true, func(f impl.Fly) bool { return f.Id == id }); !sameLink(got, want) {
		t.Fatalf("Forget(%v, %d) = %v, want %v", l, id, got, want)
	}
}

func sameLate(t *testing.T, l impl.Link, now int) {
	t.Helper()
	got, ids := impl.Late(l, now)
	want, wantIds := plainOut(l, true, func(f impl.Fly) bool { return f.Until <= now })
	if !sameLink(got, want) || !slices.Equal(ids, wantIds) {
		t.Fatalf("Late(%v, %d) = %v, %v, want %v, %v", l, now, got, ids, want, wantIds)
	}
}

func sameJoin(t *testing.T, l impl.Link) {
	t.Helper()
	got, ids := impl.Join(l)
	want, wantIds := l, []int(nil)
	if plainLinkOk(l) && l.Epoch < maxEpoch {
		want, wantIds = impl.Link{Up: true, Epoch: l.Epoch + 1}, idsOf(l.Flying)
	}
	if !sameLink(got, want) || !slices.Equal(ids, wantIds) {
		t.Fatalf("Join(%v) = %v, %v, want %v, %v", l, got, ids, want, wantIds)
	}
}

func sameLeave(t *testing.T, l impl.Link) {
	t.Helper()
	got, ids := impl.Leave(l)
	want, wantIds := l, []int(nil)
	if plainLinkOk(l) {
		want, wantIds = impl.Link{Epoch: l.Epoch, Seq: l.Seq}, idsOf(l.Flying)
	}
	if !sameLink(got, want) || !slices.Equal(ids, wantIds) {
		t.Fatalf("Leave(%v) = %v, %v, want %v, %v", l, got, ids, want, wantIds)
	}
}

// linkNumbers are the edges of all numbers, those of a Link, and those next to them.
func linkNumbers(l impl.Link) []int {
	numbers := []int{math.MinInt, -1, 0, 1, maxId - 1, maxId, maxId + 1, maxSeq, maxSeq + 1, maxUntil - 1, maxUntil, maxUntil + 1, math.MaxInt}
	own := []int{l.Epoch, l.Seq}
	for _, f := range l.Flying[:min(len(l.Flying), maxWindow+1)] {
		own = append(own, f.Seq, f.Id, f.Until)
	}
	for _, n := range own {
		numbers = append(numbers, n-1, n, n+1)
	}
	slices.Sort(numbers)
	return slices.Compact(numbers)
}

// sameLinks holds all that is told of a Link against the plain ways.
func sameLinks(t *testing.T, l impl.Link) {
	t.Helper()
	sameLinkOk(t, l)
	sameJoin(t, l)
	sameLeave(t, l)
	numbers := linkNumbers(l)
	for _, n := range numbers {
		sameForget(t, l, n)
		sameLate(t, l, n)
		for _, epoch := range []int{l.Epoch - 1, l.Epoch, l.Epoch + 1} {
			sameAnswer(t, l, epoch, n)
		}
		for _, until := range []int{math.MinInt, -1, 0, 1, 500, maxUntil, maxUntil + 1, math.MaxInt} {
			sameLaunch(t, l, n, until)
		}
	}
}

func TestEachLinkIsAsThePlainWayTells(t *testing.T) {
	for _, l := range slices.Concat(rightLinks(), wrongLinks()) {
		sameLinks(t, l)
	}
}

func TestLinkAtEachEdge(t *testing.T) {
	lists := [][]impl.Fly{nil, {{Seq: 1, Id: 1}, {Seq: 2, Id: 2}}}
	for _, seq := range []int{-1, 0, 1, 2, 3, maxSeq, maxSeq + 1} {
		for _, id := range []int{-1, 0, 1, 2, maxId, maxId + 1} {
			for _, until := range []int{-1, 0, 1, maxUntil, maxUntil + 1} {
				f := impl.Fly{Seq: seq, Id: id, Until: until}
				lists = append(lists, []impl.Fly{f}, []impl.Fly{{Seq: 1, Id: 1, Until: 1}, f}, []impl.Fly{f, {Seq: 3, Id: 2, Until: 1}})
			}
		}
	}
	for _, up := range []bool{false, true} {
		for _, epoch := range []int{-1, 0, 1, maxEpoch - 1, maxEpoch, maxEpoch + 1} {
			for _, seq := range []int{-1, 0, 1, 2, 3, maxSeq - 1, maxSeq, maxSeq + 1} {
				for _, list := range lists {
					l := impl.Link{Up: up, Epoch: epoch, Seq: seq, Flying: list}
					sameLinkOk(t, l)
					sameJoin(t, l)
					sameLeave(t, l)
					sameLaunch(t, l, 3, 7)
					sameAnswer(t, l, epoch, 1)
					sameForget(t, l, 1)
					sameLate(t, l, 1)
				}
			}
		}
	}
}

func TestLaunch(t *testing.T) {
	for n := range maxWindow {
		for _, c := range []struct{ id, until int }{{1, 0}, {2, 1}, {500, 40}, {maxId, maxUntil}, {500, maxUntil - 1}} {
			l := upLink(n)
			got, seq := impl.Launch(l, c.id, c.until)
			want := impl.Link{Up: true, Epoch: 4, Seq: 21, Flying: append(manyFlies(n), impl.Fly{Seq: 21, Id: c.id, Until: c.until})}
			if seq != 21 || !sameLink(got, want) || !impl.LinkOk(got) {
				t.Errorf("Launch(%v, %d, %d) = %v, %d", l, c.id, c.until, got, seq)
			}
		}
	}
	first, seq := impl.Launch(impl.Link{Up: true}, 9, 50)
	if want := (impl.Link{Up: true, Seq: 1, Flying: []impl.Fly{{Seq: 1, Id: 9, Until: 50}}}); seq != 1 || !sameLink(first, want) {
		t.Errorf("the first Launch: %v, %d", first, seq)
	}
	second, seq := impl.Launch(first, 3, 50)
	if want := (impl.Link{Up: true, Seq: 2, Flying: []impl.Fly{{Seq: 1, Id: 9, Until: 50}, {Seq: 2, Id: 3, Until: 50}}}); seq != 2 || !sameLink(second, want) {
		t.Errorf("the second Launch: %v, %d", second, seq)
	}
	last, seq := impl.Launch(linkWith(maxSeq-1, impl.Fly{Seq: maxSeq - 1, Id: 9}), 3, 50)
	if want := linkWith(maxSeq, impl.Fly{Seq: maxSeq - 1, Id: 9}, impl.Fly{Seq: maxSeq, Id: 3, Until: 50}); seq != maxSeq || !sameLink(last, want) {
		t.Errorf("the last Launch: %v, %d", last, seq)
	}
}

func refusedLaunch(t *testing.T, l impl.Link, id, until int) {
	t.Helper()
	if got, seq := impl.Launch(l, id, until); seq != 0 || !sameLink(got, l) {
		t.Errorf("Launch(%v, %d, %d) = %v, %d", l, id, until, got, seq)
	}
}

func TestLaunchRefuses(t *testing.T) {
	refusedLaunch(t, impl.Link{}, 3, 50)
	refusedLaunch(t, impl.Link{Epoch: 4, Seq: 20}, 3, 50)
	refusedLaunch(t, impl.Link{Up: true, Epoch: 4, Seq: maxSeq}, 3, 50)
	refusedLaunch(t, linkWith(maxSeq, impl.Fly{Seq: 1, Id: 1}), 3, 50)
	refusedLaunch(t, upLink(maxWindow), 3, 50)
	for n := range maxWindow + 1 {
		l := upLink(n)
		for _, id := range append(idsOf(l.Flying), math.MinInt, -1, 0, maxId+1, math.MaxInt) {
			refusedLaunch(t, l, id, 50)
		}
		for _, until := range []int{math.MinInt, -1, maxUntil + 1, math.MaxInt} {
			refusedLaunch(t, l, 3, until)
		}
	}
	for _, l := range wrongLinks() {
		for _, id := range []int{-1, 0, 3, 5, maxId} {
			refusedLaunch(t, l, id, 50)
		}
	}
}

// What was launched and was answered, or forgotten, or was late, may be launched again.
func TestLaunchAgain(t *testing.T) {
	l := upLink(3)
	id := l.Flying[1].Id
	answered, _ := impl.Answer(l, 4, l.Flying[1].Seq)
	late, _ := impl.Late(l, maxUntil)
	joined, _ := impl.Join(l)
	for _, k := range []impl.Link{answered, impl.Forget(l, id), late, joined} {
		got, seq := impl.Launch(k, id, 60)
		if seq != k.Seq+1 || !sameLink(got, impl.Link{Up: true, Epoch: k.Epoch, Seq: seq, Flying: append(slices.Clone(k.Flying), impl.Fly{Seq: seq, Id: id, Until: 60})}) {
			t.Errorf("Launch(%v, %d, 60) = %v, %d", k, id, got, seq)
		}
	}
}

func TestAnswer(t *testing.T) {
	a, b, c := impl.Fly{Seq: 3, Id: 5, Until: 40}, impl.Fly{Seq: 4, Id: 2, Until: 90}, impl.Fly{Seq: 9, Id: 77, Until: 40}
	l := linkWith(11, a, b, c)
	for _, x := range []struct {
		seq, id int
		flying  []impl.Fly
	}{
		{3, 5, []impl.Fly{b, c}},
		{4, 2, []impl.Fly{a, c}},
		{9, 77, []impl.Fly{a, b}},
	} {
		got, id := impl.Answer(l, 4, x.seq)
		if id != x.id || !sameLink(got, linkWith(11, x.flying...)) {
			t.Errorf("Answer(%v, 4, %d) = %v, %d", l, x.seq, got, id)
		}
		again, id := impl.Answer(got, 4, x.seq)
		if id != 0 || !sameLink(again, got) {
			t.Errorf("Answer(%v, 4, %d) the second time = %v, %d", got, x.seq, again, id)
		}
	}
	if got, id := impl.Answer(linkWith(11, b), 4, 4); id != 2 || !sameLink(got, linkWith(11)) {
		t.Errorf("Answer of the only one = %v, %d", got, id)
	}
	for _, epoch := range []int{0, maxEpoch} {
		k := impl.Link{Up: true, Epoch: epoch, Seq: 20, Flying: manyFlies(2)}
		if got, id := impl.Answer(k, epoch, 2); id != 71 || len(got.Flying) != 1 || got.Epoch != epoch {
			t.Errorf("Answer(%v, %d, 2) = %v, %d", k, epoch, got, id)
		}
	}
}

func uncounted(t *testing.T, l impl.Link, epoch, seq int) {
	t.Helper()
	if got, id := impl.Answer(l, epoch, seq); id != 0 || !sameLink(got, l) {
		t.Errorf("Answer(%v, %d, %d) = %v, %d", l, epoch, seq, got, id)
	}
}

func TestAnswerThatDoesNotCount(t *testing.T) {
	for n := range maxWindow + 1 {
		l := upLink(n)
		for _, seq := range []int{math.MinInt, -2, -1, 0, 1, 3, 5, 19, 20, 21, maxSeq, maxSeq + 1, math.MaxInt} {
			uncounted(t, l, 4, seq)
		}
		for _, f := range l.Flying {
			for _, epoch := range []int{math.MinInt, -4, -1, 0, 3, 5, maxEpoch, 65536 + 4, math.MaxInt} {
				uncounted(t, l, epoch, f.Seq)
			}
			// An Id is not what is asked for.
			uncounted(t, l, 4, f.Id)
			left, _ := impl.Leave(l)
			uncounted(t, left, 4, f.Seq)
		}
	}
	for _, l := range wrongLinks() {
		uncounted(t, l, l.Epoch, 0)
		for _, f := range l.Flying {
			uncounted(t, l, l.Epoch, f.Seq)
		}
	}
}

// ordersOf are all orders of the numbers below n.
func ordersOf(n int) [][]int {
	orders := [][]int{nil}
	for i := range n {
		var longer [][]int
		for _, order := range orders {
			for at := range i + 1 {
				longer = append(longer, slices.Insert(slices.Clone(order), at, i))
			}
		}
		orders = longer
	}
	return orders
}

// Whatever the order of the answers is, and though each one comes twice, each counts once.
func TestAnswersInAnyOrder(t *testing.T) {
	for n := 1; n <= 6; n++ {
		first := upLink(n)
		for _, order := range ordersOf(n) {
			l := first
			left := slices.Clone(first.Flying)
			for i, at := range order {
				f := first.Flying[at]
				var id int
				l, id = impl.Answer(l, 4, f.Seq)
				left = slices.DeleteFunc(left, func(g impl.Fly) bool { return g == f })
				if id != f.Id || !sameLink(l, linkWith(20, left...)) {
					t.Fatalf("order %v: answer %d tells %d, %v", order, i, id, l)
				}
				for _, ahead := range order[:i+1] {
					uncounted(t, l, 4, first.Flying[ahead].Seq)
				}
			}
		}
	}
}

func TestForget(t *testing.T) {
	a, b, c := impl.Fly{Seq: 3, Id: 5, Until: 40}, impl.Fly{Seq: 4, Id: 2, Until: 90}, impl.Fly{Seq: 9, Id: 77, Until: 40}
	l := linkWith(11, a, b, c)
	for id, flying := range map[int][]impl.Fly{
		5: {b, c}, 2: {a, c}, 77: {a, b},
		3: l.Flying, 4: l.Flying, 9: l.Flying, 1: l.Flying, 0: l.Flying, -1: l.Flying, maxId: l.Flying, maxId + 1: l.Flying, math.MinInt: l.Flying, math.MaxInt: l.Flying,
	} {
		got := impl.Forget(l, id)
		if !sameLink(got, linkWith(11, flying...)) {
			t.Errorf("Forget(%v, %d) = %v", l, id, got)
		}
		if again := impl.Forget(got, id); !sameLink(again, got) {
			t.Errorf("Forget(%v, %d) = %v", got, id, again)
		}
	}
	for n := range maxWindow + 1 {
		l := upLink(n)
		for at, f := range l.Flying {
			got := impl.Forget(l, f.Id)
			if !sameLink(got, linkWith(20, slices.Delete(manyFlies(n), at, at+1)...)) {
				t.Errorf("Forget(%v, %d) = %v", l, f.Id, got)
			}
			// The answer to what was forgotten doesn't count.
			uncounted(t, got, 4, f.Seq)
		}
	}
	for _, l := range wrongLinks() {
		for _, f := range slices.Concat(l.Flying, []impl.Fly{{Id: 0}, {Id: 1}, {Id: -1}}) {
			if got := impl.Forget(l, f.Id); !sameLink(got, l) {
				t.Errorf("Forget(%v, %d) = %v", l, f.Id, got)
			}
		}
	}
}

func TestLate(t *testing.T) {
	a, b, c, d := impl.Fly{Seq: 3, Id: 5, Until: 40}, impl.Fly{Seq: 4, Id: 2, Until: 90}, impl.Fly{Seq: 9, Id: 77, Until: 40}, impl.Fly{Seq: 10, Id: 1, Until: maxUntil}
	l := linkWith(11, a, b, c, d)
	for _, x := range []struct {
		now    int
		flying []impl.Fly
		ids    []int
	}{
		{math.MinInt, l.Flying, nil},
		{-1, l.Flying, nil},
		{0, l.Flying, nil},
		{39, l.Flying, nil},
		{40, []impl.Fly{b, d}, []int{5, 77}},
		{41, []impl.Fly{b, d}, []int{5, 77}},
		{89, []impl.Fly{b, d}, []int{5, 77}},
		{90, []impl.Fly{d}, []int{5, 2, 77}},
		{91, []impl.Fly{d}, []int{5, 2, 77}},
		{maxUntil - 1, []impl.Fly{d}, []int{5, 2, 77}},
		{maxUntil, nil, []int{5, 2, 77, 1}},
		{maxUntil + 1, nil, []int{5, 2, 77, 1}},
		{math.MaxInt, nil, []int{5, 2, 77, 1}},
	} {
		got, ids := impl.Late(l, x.now)
		if !sameLink(got, linkWith(11, x.flying...)) || !slices.Equal(ids, x.ids) {
			t.Errorf("Late(%v, %d) = %v, %v, want %v, %v", l, x.now, got, ids, x.flying, x.ids)
		}
		if again, ids := impl.Late(got, x.now); !sameLink(again, got) || len(ids) != 0 {
			t.Errorf("Late(%v, %d) = %v, %v", got, x.now, again, ids)
		}
	}
	soon := linkWith(5, impl.Fly{Seq: 5, Id: 6})
	if got, ids := impl.Late(soon, 0); !sameLink(got, linkWith(5)) || !slices.Equal(ids, []int{6}) {
		t.Errorf("Late(%v, 0) = %v, %v", soon, got, ids)
	}
	if got, ids := impl.Late(soon, -1); !sameLink(got, soon) || len(ids) != 0 {
		t.Errorf("Late(%v, -1) = %v, %v", soon, got, ids)
	}
	for _, l := range wrongLinks() {
		for _, now := range []int{-1, 0, 40, maxUntil, math.MaxInt} {
			if got, ids := impl.Late(l, now); !sameLink(got, l) || len(ids) != 0 {
				t.Errorf("Late(%v, %d) = %v, %v", l, now, got, ids)
			}
		}
	}
}

func TestLateAtEachUntil(t *testing.T) {
	for n := range maxWindow + 1 {
		l := upLink(n)
		for _, f := range l.Flying {
			for _, now := range []int{f.Until - 1, f.Until, f.Until + 1} {
				got, ids := impl.Late(l, now)
				if slices.Contains(ids, f.Id) != (now >= f.Until) || slices.Contains(got.Flying, f) != (now < f.Until) {
					t.Errorf("Late(%v, %d) = %v, %v", l, now, got, ids)
				}
				sameLate(t, l, now)
			}
		}
	}
}

func TestJoin(t *testing.T) {
	for n := range maxWindow + 1 {
		for _, epoch := range []int{0, 1, 4, maxEpoch - 2, maxEpoch - 1} {
			l := impl.Link{Up: true, Epoch: epoch, Seq: 20, Flying: manyFlies(n)}
			got, ids := impl.Join(l)
			if !sameLink(got, impl.Link{Up: true, Epoch: epoch + 1}) || !slices.Equal(ids, idsOf(manyFlies(n))) || !impl.LinkOk(got) {
				t.Errorf("Join(%v) = %v, %v", l, got, ids)
			}
		}
		last := impl.Link{Up: true, Epoch: maxEpoch, Seq: 20, Flying: manyFlies(n)}
		if got, ids := impl.Join(last); !sameLink(got, last) || len(ids) != 0 {
			t.Errorf("Join(%v) = %v, %v", last, got, ids)
		}
	}
	for _, seq := range []int{0, 1, maxSeq} {
		down := impl.Link{Epoch: maxEpoch - 1, Seq: seq}
		if got, ids := impl.Join(down); !sameLink(got, impl.Link{Up: true, Epoch: maxEpoch}) || len(ids) != 0 {
			t.Errorf("Join(%v) = %v, %v", down, got, ids)
		}
		down.Epoch = maxEpoch
		if got, ids := impl.Join(down); !sameLink(got, down) || len(ids) != 0 {
			t.Errorf("Join(%v) = %v, %v", down, got, ids)
		}
	}
	for _, l := range wrongLinks() {
		if got, ids := impl.Join(l); !sameLink(got, l) || len(ids) != 0 {
			t.Errorf("Join(%v) = %v, %v", l, got, ids)
		}
	}
}

func TestLeave(t *testing.T) {
	for n := range maxWindow + 1 {
		for _, epoch := range []int{0, 4, maxEpoch} {
			l := impl.Link{Up: true, Epoch: epoch, Seq: 20, Flying: manyFlies(n)}
			got, ids := impl.Leave(l)
			if !sameLink(got, impl.Link{Epoch: epoch, Seq: 20}) || !slices.Equal(ids, idsOf(manyFlies(n))) || !impl.LinkOk(got) {
				t.Errorf("Leave(%v) = %v, %v", l, got, ids)
			}
			if again, ids := impl.Leave(got); !sameLink(again, got) || len(ids) != 0 {
				t.Errorf("Leave(%v) = %v, %v", got, again, ids)
			}
		}
	}
	for _, l := range wrongLinks() {
		if got, ids := impl.Leave(l); !sameLink(got, l) || len(ids) != 0 {
			t.Errorf("Leave(%v) = %v, %v", l, got, ids)
		}
	}
}

// Behind a join, as behind a leave, no answer to what was on its way counts, also where its Seq flies anew.
func TestNothingCountsBehindAJoin(t *testing.T) {
	l := impl.Link{Up: true, Epoch: 4}
	for i := range maxWindow {
		l, _ = impl.Launch(l, 100+i, 50)
	}
	left, _ := impl.Leave(l)
	joined, _ := impl.Join(l)
	later, _ := impl.Join(left)
	for seq := range maxWindow + 2 {
		uncounted(t, left, 4, seq)
		uncounted(t, joined, 4, seq)
		uncounted(t, joined, 5, seq)
		uncounted(t, later, 4, seq)
		uncounted(t, later, 5, seq)
	}
	if !sameLink(joined, later) {
		t.Errorf("%v, and %v behind a Leave", joined, later)
	}
	anew := joined
	for i := range maxWindow {
		var seq int
		if anew, seq = impl.Launch(anew, 100+i, 50); seq != i+1 {
			t.Errorf("Launch %d behind a Join tells %d", i, seq)
		}
	}
	for seq := 1; seq <= maxWindow; seq++ {
		uncounted(t, anew, 4, seq)
		if got, id := impl.Answer(anew, 5, seq); id != 99+seq || len(got.Flying) != maxWindow-1 {
			t.Errorf("Answer(%v, 5, %d) = %v, %d", anew, seq, got, id)
		}
	}
}

// One epoch has MaxSeq launches and no more, and there are MaxEpoch joins and no more.
func TestLinkToItsEnd(t *testing.T) {
	l := impl.Link{Up: true}
	for n := 1; n <= maxSeq; n++ {
		var seq, id int
		if l, seq = impl.Launch(l, 1+n%maxId, n); seq != n {
			t.Fatalf("launch %d tells %d", n, seq)
		}
		if n > maxSeq-3 {
			continue
		}
		if l, id = impl.Answer(l, 0, n); id != 1+n%maxId || len(l.Flying) != 0 {
			t.Fatalf("answer %d tells %d", n, id)
		}
	}
	refusedLaunch(t, l, 9000, 5)
	for n := 1; n <= maxEpoch; n++ {
		l, _ = impl.Join(l)
		if !sameLink(l, impl.Link{Up: true, Epoch: n}) {
			t.Fatalf("join %d: %v", n, l)
		}
	}
	l, _ = impl.Launch(l, 9000, 5)
	if got, ids := impl.Join(l); !sameLink(got, l) || len(ids) != 0 || len(l.Flying) != 1 {
		t.Errorf("Join(%v) = %v, %v", l, got, ids)
	}
}

// sent is what was launched once, and may be answered at any later time, and more than once.
type sent struct {
	epoch, seq, id int
}

// lossyLine is a Link on which all comes late, twice, or not at all, beside what is known to be on its way over it.
type lossyLine struct {
	*testing.T
	r     *rand.Rand
	l     impl.Link
	all   []sent
	onWay map[sent]int
	times map[string]int
}

// landed takes away what is told to be on its way no longer.
func (x *lossyLine) landed(ids []int) {
	for s := range x.onWay {
		if slices.Contains(ids, s.id) {
			delete(x.onWay, s)
		}
	}
}

func (x *lossyLine) cut(how func(impl.Link) (impl.Link, []int)) {
	var ids []int
	was := idsOf(x.l.Flying)
	x.l, ids = how(x.l)
	if !slices.Equal(ids, was) || len(x.l.Flying) > 0 {
		x.Fatalf("cut off were %v, want %v; %v", ids, was, x.l)
	}
	x.times["cut off"] += len(ids)
	x.landed(ids)
}

func (x *lossyLine) forget() {
	id := 1 + x.r.IntN(12)
	x.l = impl.Forget(x.l, id)
	x.landed([]int{id})
}

func (x *lossyLine) late(now int) {
	var want, ids []int
	for s, until := range x.onWay {
		if until <= now {
			want = append(want, s.id)
		}
	}
	x.l, ids = impl.Late(x.l, now)
	slices.Sort(ids)
	slices.Sort(want)
	if !slices.Equal(ids, want) {
		x.Fatalf("at %d late are %v, want %v", now, ids, want)
	}
	x.times["late"] += len(ids)
	x.landed(ids)
}

func (x *lossyLine) launch(now int) {
	id, until := 1+x.r.IntN(12), now+x.r.IntN(60)
	ahead, flies := x.l, slices.Contains(idsOf(x.l.Flying), id)
	var seq int
	x.l, seq = impl.Launch(ahead, id, until)
	if (seq > 0) != (ahead.Up && len(x.onWay) < maxWindow && !flies) {
		x.Fatalf("Launch(%v, %d, %d) tells %d", ahead, id, until, seq)
	}
	if seq == 0 {
		x.times["refused"]++
		return
	}
	s := sent{x.l.Epoch, seq, id}
	x.all = append(x.all, s)
	x.onWay[s] = until
}

// answer is one to any of the last ones that were sent, whether it was answered or not.
func (x *lossyLine) answer() {
	if len(x.all) == 0 {
		return
	}
	s := x.all[max(0, len(x.all)-1-x.r.IntN(20))]
	ahead, want := x.l, 0
	if _, flies := x.onWay[s]; flies {
		want = s.id
		x.times["counted"]++
	} else {
		x.times["stale"]++
	}
	var id int
	x.l, id = impl.Answer(ahead, s.epoch, s.seq)
	if id != want || id == 0 && !sameLink(x.l, ahead) {
		x.Fatalf("Answer(%v, %d, %d) = %v, %d, want %d", ahead, s.epoch, s.seq, x.l, id, want)
	}
	delete(x.onWay, s)
}

func (x *lossyLine) step(now int) {
	switch what := x.r.IntN(40); {
	case what == 0:
		x.cut(impl.Join)
	case what == 1:
		x.cut(impl.Leave)
	case what < 5:
		x.forget()
	case what < 8:
		x.late(now)
	case what < 25:
		x.launch(now)
	default:
		x.answer()
	}
}

// isAsKnown looks whether just that flies which is known to.
func (x *lossyLine) isAsKnown() {
	same := len(x.l.Flying) == len(x.onWay) && impl.LinkOk(x.l)
	for _, f := range x.l.Flying {
		until, flies := x.onWay[sent{x.l.Epoch, f.Seq, f.Id}]
		same = same && flies && until == f.Until
	}
	if !same {
		x.Fatalf("%v, but on their way are %v", x.l, x.onWay)
	}
}

func TestLinkInManyOrders(t *testing.T) {
	times := map[string]int{}
	for seed := range uint64(300) {
		r := rand.New(rand.NewPCG(seed, 5))
		x := &lossyLine{T: t, r: r, l: impl.Link{Epoch: r.IntN(3)}, onWay: map[sent]int{}, times: times}
		for now := range 300 {
			x.step(now)
			x.isAsKnown()
		}
	}
	for _, what := range []string{"counted", "stale", "refused", "late", "cut off"} {
		if times[what] < 1000 {
			t.Errorf("%s: but %d times", what, times[what])
		}
	}
}

// Promise 15: every function answers at any arguments, and writes into none.

func TestLinksOfAnyNumbers(t *testing.T) {
	r := rand.New(rand.NewPCG(5, 1))
	odd := func(usual ...int) int {
		if r.IntN(50) == 0 {
			return oddNumbers[r.IntN(len(oddNumbers))]
		}
		return usual[r.IntN(len(usual))]
	}
	right, flying := 0, 0
	for range 3000 {
		l := impl.Link{Up: r.IntN(8) > 0, Epoch: odd(0, 1, 59999, 60000), Seq: odd(12, 20, 60000)}
		seq := 0
		for range r.IntN(maxWindow + 2) {
			seq += odd(1, 1, 1, 1, 2, 2)
			l.Flying = append(l.Flying, impl.Fly{Seq: seq, Id: odd(1+r.IntN(maxId), 1+r.IntN(50)), Until: odd(0, 30, 40, maxUntil)})
		}
		sameLinks(t, l)
		if plainLinkOk(l) {
			right++
			flying += len(l.Flying)
		}
	}
	if right < 1000 || flying < 2000 {
		t.Errorf("but %d of them are right, with %d Flying", right, flying)
	}
}

type linkCall struct {
	name string
	call func(impl.Link) (impl.Link, []int)
}

// calledLinks are calls that change a Link, and calls that leave it as it was.
func calledLinks() []linkCall {
	number := func(l impl.Link, n int) (impl.Link, []int) { return l, []int{n} }
	// at is the Fly at a place counted from the first one, or, below 0, from behind the last one.
	at := func(l impl.Link, place int) impl.Fly {
		if len(l.Flying) == 0 {
			return impl.Fly{}
		}
		return l.Flying[(place+len(l.Flying))%len(l.Flying)]
	}
	calls := []linkCall{
		{"launch", func(l impl.Link) (impl.Link, []int) { return number(impl.Launch(l, 5000, 60)) }},
		{"launch no id", func(l impl.Link) (impl.Link, []int) { return number(impl.Launch(l, 0, 60)) }},
		{"launch what flies", func(l impl.Link) (impl.Link, []int) { return number(impl.Launch(l, at(l, 0).Id, 60)) }},
		{"launch until never", func(l impl.Link) (impl.Link, []int) { return number(impl.Launch(l, 5000, maxUntil+1)) }},
		{"answer to none", func(l impl.Link) (impl.Link, []int) { return number(impl.Answer(l, l.Epoch, 0)) }},
		{"answer of another epoch", func(l impl.Link) (impl.Link, []int) { return number(impl.Answer(l, l.Epoch+1, at(l, 0).Seq)) }},
		{"forget none", func(l impl.Link) (impl.Link, []int) { return impl.Forget(l, 0), nil }},
		{"none late", func(l impl.Link) (impl.Link, []int) { return impl.Late(l, -1) }},
		{"some late", func(l impl.Link) (impl.Link, []int) { return impl.Late(l, at(l, 1).Until) }},
		{"all late", func(l impl.Link) (impl.Link, []int) { return impl.Late(l, maxUntil) }},
		{"join", impl.Join},
		{"leave", impl.Leave},
	}
	for _, place := range []int{0, 1, -2, -1} {
		calls = append(calls,
			linkCall{"answer", func(l impl.Link) (impl.Link, []int) { return number(impl.Answer(l, l.Epoch, at(l, place).Seq)) }},
			linkCall{"forget", func(l impl.Link) (impl.Link, []int) { return impl.Forget(l, at(l, place).Id), nil }})
	}
	return calls
}

// Neither a list nor the room behind it is written into, nor does an answer stand in either, nor in another answer.
func TestLinkWritesIntoNoArgument(t *testing.T) {
	other := impl.Fly{Seq: 7777, Id: 7777, Until: 7777}
	for _, c := range calledLinks() {
		for _, l := range slices.Concat(rightLinks(), wrongLinks()) {
			for _, room := range []int{0, 1, 9} {
				l.Flying = withRoom(l.Flying, slices.Repeat([]impl.Fly{other}, room)...)
				before := wholeOf(l.Flying)
				impl.LinkOk(l)
				got, ids := c.call(l)
				want, wantIds := impl.Link{Up: got.Up, Epoch: got.Epoch, Seq: got.Seq, Flying: slices.Clone(got.Flying)}, slices.Clone(ids)
				if !slices.Equal(wholeOf(l.Flying), before) {
					t.Fatalf("%s wrote into %v", c.name, before)
				}
				again, againIds := c.call(l)
				scribble(got.Flying, impl.Fly{Seq: -5, Id: -5, Until: -5})
				scribble(ids, -5)
				if !slices.Equal(wholeOf(l.Flying), before) {
					t.Fatalf("%s: what it answers stands in its argument %v", c.name, before)
				}
				if !sameLink(again, want) || !slices.Equal(againIds, wantIds) {
					t.Fatalf("%s: %v, %v, and then %v, %v", c.name, want, wantIds, again, againIds)
				}
				scribble(l.Flying, impl.Fly{Seq: -6, Id: -6, Until: -6})
				if !sameLink(again, want) {
					t.Fatalf("%s: what is written into its argument later shows in %v", c.name, again)
				}
				l.Flying = before[:len(l.Flying)]
			}
		}
	}
}

// Two that are launched over one Link don't get into each other's way.
func TestLaunchTwiceOverOneLink(t *testing.T) {
	for n := range maxWindow {
		start := upLink(n)
		start.Flying = withRoom(start.Flying, impl.Fly{Seq: 7777}, impl.Fly{Seq: 8888})
		l, _ := impl.Launch(start, 5000, 60)
		a, _ := impl.Launch(l, 5001, 61)
		b, _ := impl.Launch(l, 5002, 62)
		gone, _ := impl.Answer(l, 4, 21)
		c, _ := impl.Launch(gone, 5003, 63)
		base := append(manyFlies(n), impl.Fly{Seq: 21, Id: 5000, Until: 60})
		if !sameLink(l, linkWith(21, base...)) || !sameLink(gone, linkWith(21, manyFlies(n)...)) {
			t.Errorf("%v, and without the last one %v", l, gone)
		}
		if n < maxWindow-1 && (a.Flying[n+1].Id != 5001 || b.Flying[n+1].Id != 5002) {
			t.Errorf("%v and %v", a, b)
		}
		if c.Flying[n].Id != 5003 {
			t.Errorf("%v", c)
		}
	}
}
