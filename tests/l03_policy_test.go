package tests

import (
	"math"
	"math/big"
	"math/rand/v2"
	"slices"
	"testing"

	"loop.example/g00814/impl"
)

// Promise 3: one never waits less than at first, and never more than is set; so many tries fit in a span as are told.

const (
	maxCap    = 100000
	maxJitter = 1000
	maxTtl    = 1000000
	maxSpan   = 1000000
)

// oddNumbers are ints at which a number that is doubled, halved or made a float may go wrong.
var oddNumbers = []int{
	math.MinInt, math.MinInt + 1, -1 << 53, -1 << 32, -1<<31 - 1, -1 << 31, -1100, -1075, -1074, -1024, -65, -64, -63, -2, -1,
	0, 1, 2, 3, 15, 16, 17, 18, 31, 32, 33, 45, 46, 47, 48, 52, 53, 54, 61, 62, 63, 64, 65, 127, 128, 129,
	1006, 1007, 1022, 1023, 1024, 1025, 1100, 65536, 1 << 31, 1<<31 - 1, 1 << 32, 1<<32 + 1, 1 << 53, 1<<53 + 1, 1 << 62, math.MaxInt - 17, math.MaxInt - 1, math.MaxInt,
}

func rightPolicies() []impl.Policy {
	policies := []impl.Policy{
		{Base: 1, Cap: 1, Jitter: 0, Ttl: 1},
		{Base: 1, Cap: 1, Jitter: maxJitter, Ttl: maxTtl},
		{Base: 1, Cap: maxCap, Jitter: 1, Ttl: 5},
		{Base: maxCap, Cap: maxCap, Jitter: maxJitter, Ttl: maxTtl},
		{Base: maxCap - 1, Cap: maxCap, Jitter: 0, Ttl: maxTtl - 1},
		{Base: maxCap / 2, Cap: maxCap, Jitter: 7, Ttl: 50},
		{Base: maxCap/2 - 1, Cap: maxCap, Jitter: 8, Ttl: 50},
		{Base: 3, Cap: 20, Jitter: 2, Ttl: 100},
		{Base: 3, Cap: 24, Jitter: 9, Ttl: 100},
		{Base: 5, Cap: 9, Jitter: 3, Ttl: 10},
		{Base: 5, Cap: 10, Jitter: 3, Ttl: 10},
		{Base: 5, Cap: 11, Jitter: 3, Ttl: 10},
		{Base: 1, Cap: 65535, Jitter: 15, Ttl: 300},
		{Base: 1, Cap: 65536, Jitter: 16, Ttl: 300},
		{Base: 1, Cap: 65537, Jitter: 17, Ttl: 300},
	}
	r := rand.New(rand.NewPCG(3, 1))
	for range 60 {
		most := 1 + r.IntN([]int{4, 50, 1000, maxCap}[r.IntN(4)])
		policies = append(policies, impl.Policy{Base: 1 + r.IntN(most), Cap: most, Jitter: r.IntN(maxJitter + 1), Ttl: 1 + r.IntN(maxTtl)})
	}
	return policies
}

// Each of these is but one number away from a right Policy, or from two.
func wrongPolicies() []impl.Policy {
	return []impl.Policy{
		{},
		{Base: 0, Cap: 20, Jitter: 2, Ttl: 100},
		{Base: -1, Cap: 20, Jitter: 2, Ttl: 100},
		{Base: math.MinInt, Cap: 20, Jitter: 2, Ttl: 100},
		{Base: 21, Cap: 20, Jitter: 2, Ttl: 100},
		{Base: 2, Cap: 1, Jitter: 2, Ttl: 100},
		{Base: math.MaxInt, Cap: 20, Jitter: 2, Ttl: 100},
		{Base: 0, Cap: 0, Jitter: 2, Ttl: 100},
		{Base: 1, Cap: 0, Jitter: 2, Ttl: 100},
		{Base: -5, Cap: -5, Jitter: 2, Ttl: 100},
		{Base: -5, Cap: -4, Jitter: 2, Ttl: 100},
		{Base: 3, Cap: maxCap + 1, Jitter: 2, Ttl: 100},
		{Base: maxCap + 1, Cap: maxCap + 1, Jitter: 2, Ttl: 100},
		{Base: 3, Cap: math.MaxInt, Jitter: 2, Ttl: 100},
		{Base: 3, Cap: math.MinInt, Jitter: 2, Ttl: 100},
		{Base: 3, Cap: 20, Jitter: -1, Ttl: 100},
		{Base: 3, Cap: 20, Jitter: -2, Ttl: 100},
		{Base: 3, Cap: 20, Jitter: math.MinInt, Ttl: 100},
		{Base: 3, Cap: 20, Jitter: maxJitter + 1, Ttl: 100},
		{Base: 3, Cap: 20, Jitter: math.MaxInt, Ttl: 100},
		{Base: 3, Cap: 20, Jitter: 2, Ttl: 0},
		{Base: 3, Cap: 20, Jitter: 2, Ttl: -1},
		{Base: 3, Cap: 20, Jitter: 2, Ttl: math.MinInt},
		{Base: 3, Cap: 20, Jitter: 2, Ttl: maxTtl + 1},
		{Base: 3, Cap: 20, Jitter: 2, Ttl: math.MaxInt},
		{Base: math.MinInt, Cap: math.MinInt, Jitter: math.MinInt, Ttl: math.MinInt},
		{Base: math.MaxInt, Cap: math.MaxInt, Jitter: math.MaxInt, Ttl: math.MaxInt},
	}
}

func TestPolicyOk(t *testing.T) {
	for _, p := range rightPolicies() {
		if !impl.PolicyOk(p) {
			t.Errorf("PolicyOk(%v) = false", p)
		}
	}
	for _, p := range wrongPolicies() {
		if impl.PolicyOk(p) {
			t.Errorf("PolicyOk(%v) = true", p)
		}
	}
}

func TestPolicyOkAtEachEdge(t *testing.T) {
	between := func(n, least, most int) bool { return n >= least && n <= most }
	for _, most := range []int{-1, 0, 1, 2, 20, maxCap - 1, maxCap, maxCap + 1} {
		for _, base := range []int{-1, 0, 1, 2, most / 2, most - 1, most, most + 1} {
			for _, jitter := range []int{-1, 0, 1, maxJitter - 1, maxJitter, maxJitter + 1} {
				for _, ttl := range []int{-1, 0, 1, 2, maxTtl - 1, maxTtl, maxTtl + 1} {
					p := impl.Policy{Base: base, Cap: most, Jitter: jitter, Ttl: ttl}
					want := between(base, 1, most) && between(most, 1, maxCap) && between(jitter, 0, maxJitter) && between(ttl, 1, maxTtl)
					if got := impl.PolicyOk(p); got != want {
						t.Errorf("PolicyOk(%v) = %v, want %v", p, got, want)
					}
				}
			}
		}
	}
}

func TestDelay(t *testing.T) {
	for _, c := range []struct {
		base, most, k, want int
	}{
		{3, 20, 0, 3},
		{3, 20, 1, 6},
		{3, 20, 2, 12},
		{3, 20, 3, 20},
		{3, 20, 4, 20},
		{3, 24, 2, 12},
		{3, 24, 3, 24},
		{3, 24, 4, 24},
		{3, 20, -1, 3},
		{4, 20, -1, 4},
		{4, 20, -2, 4},
		{4, 20, -1100, 4},
		{4, 20, math.MinInt, 4},
		{7, 7, 0, 7},
		{7, 7, 1, 7},
		{7, 8, 0, 7},
		{7, 8, 1, 8},
		{1, 1, 0, 1},
		{1, 1, math.MaxInt, 1},
		{1, maxCap, 16, 65536},
		{1, maxCap, 17, maxCap},
		{1, 65536, 15, 32768},
		{1, 65536, 16, 65536},
		{1, 65536, 17, 65536},
		{maxCap / 2, maxCap, 1, maxCap},
		{maxCap/2 - 1, maxCap, 1, maxCap - 2},
		{maxCap, maxCap, 0, maxCap},
		{3, 20, 61, 20},
		{3, 20, 62, 20},
		{3, 20, 63, 20},
		{3, 20, 64, 20},
		{3, 20, 1024, 20},
		{3, 20, 1 << 32, 20},
		{3, 20, math.MaxInt, 20},
	} {
		p := impl.Policy{Base: c.base, Cap: c.most, Jitter: 4, Ttl: 9}
		if got := impl.Delay(p, c.k); got != c.want {
			t.Errorf("Delay(%v, %d) = %d, want %d", p, c.k, got, c.want)
		}
	}
}

// plainDelay shifts a number of any length, as far as k below 2000 tells anything new.
func plainDelay(p impl.Policy, k int) int {
	doubled := new(big.Int).Lsh(big.NewInt(int64(p.Base)), uint(min(max(k, 0), 2000)))
	if doubled.Cmp(big.NewInt(int64(p.Cap))) > 0 {
		return p.Cap
	}
	return int(doubled.Int64())
}

func TestDelayOfMany(t *testing.T) {
	for _, p := range rightPolicies() {
		for k := -70; k < 1200; k++ {
			if got, want := impl.Delay(p, k), plainDelay(p, k); got != want {
				t.Fatalf("Delay(%v, %d) = %d, want %d", p, k, got, want)
			}
		}
		for _, k := range oddNumbers {
			if got, want := impl.Delay(p, k), plainDelay(p, k); got != want {
				t.Fatalf("Delay(%v, %d) = %d, want %d", p, k, got, want)
			}
		}
	}
}

// At each number of doublings the Cap is one less than they make, just that, and one more.
func TestDelayWhereTheCapIsReached(t *testing.T) {
	for _, base := range []int{1, 2, 3, 5, 7, 63, 64, 65, 999, 12345, 49999, 50000} {
		for doubled, k := 2*base, 1; doubled <= maxCap; doubled, k = 2*doubled, k+1 {
			for _, most := range []int{doubled - 1, doubled, doubled + 1} {
				if most < base || most > maxCap {
					continue
				}
				p := impl.Policy{Base: base, Cap: most, Ttl: 1}
				for _, c := range [][2]int{{k - 1, min(doubled/2, most)}, {k, min(doubled, most)}, {k + 1, min(2*doubled, most)}, {k + 64, most}} {
					if got := impl.Delay(p, c[0]); got != c[1] {
						t.Errorf("Delay(%v, %d) = %d, want %d", p, c[0], got, c[1])
					}
				}
			}
		}
	}
}

func TestDelayGrowsFromBaseToCap(t *testing.T) {
	for _, p := range rightPolicies() {
		last := p.Base
		for k := -3; k < 100; k++ {
			delay := impl.Delay(p, k)
			if delay < p.Base || delay > p.Cap || delay < last || delay > 2*last {
				t.Errorf("Delay(%v, %d) = %d behind %d", p, k, delay, last)
			}
			last = delay
		}
		if last != p.Cap {
			t.Errorf("Delay(%v, 99) = %d", p, last)
		}
	}
}

func TestWait(t *testing.T) {
	p := impl.Policy{Base: 3, Cap: 20, Jitter: 4, Ttl: 100}
	for _, c := range []struct {
		k, draw, want int
	}{
		{0, 0, 3},
		{0, 1, 4},
		{0, 3, 6},
		{0, 4, 7},
		{0, 5, 3},
		{0, 6, 4},
		{0, 9, 7},
		{0, 10, 3},
		{1, 5, 6},
		{1, 9, 10},
		{3, 2, 22},
		{9, 4, 24},
		{math.MaxInt, 4, 24},
		{-1, 2, 5},
		{math.MinInt, 4, 7},
		{0, -1, 3},
		{0, -3, 3},
		{0, -5, 3},
		{0, -7, 3},
		{2, math.MinInt, 12},
		{2, math.MinInt + 1, 12},
		{2, math.MaxInt, 14},
		{2, math.MaxInt - 1, 13},
	} {
		if got := impl.Wait(p, c.k, c.draw); got != c.want {
			t.Errorf("Wait(%v, %d, %d) = %d, want %d", p, c.k, c.draw, got, c.want)
		}
	}
	still := impl.Policy{Base: 3, Cap: 20, Ttl: 100}
	for _, draw := range oddNumbers {
		if got := impl.Wait(still, 1, draw); got != 6 {
			t.Errorf("Wait(%v, 1, %d) = %d, want 6", still, draw, got)
		}
	}
}

// drawsOf are the draws at which the rest that Jitter makes of one turns over.
func drawsOf(p impl.Policy) []int {
	return slices.Concat(oddNumbers, []int{p.Jitter - 1, p.Jitter, p.Jitter + 1, p.Jitter + 2, 2*p.Jitter + 1, 2*p.Jitter + 2, -p.Jitter, -p.Jitter - 1, -p.Jitter - 2})
}

func TestWaitOfMany(t *testing.T) {
	for _, p := range rightPolicies() {
		for _, k := range oddNumbers {
			for _, draw := range drawsOf(p) {
				want := plainDelay(p, k)
				if draw > 0 {
					want += draw % (p.Jitter + 1)
				}
				if got := impl.Wait(p, k, draw); got != want {
					t.Fatalf("Wait(%v, %d, %d) = %d, want %d", p, k, draw, got, want)
				}
			}
		}
	}
}

// No Wait is less than Base or more than Longest, and one is just that.
func TestLongest(t *testing.T) {
	for _, p := range rightPolicies() {
		longest, greatest := impl.Longest(p), 0
		for _, k := range []int{math.MinInt, -1, 0, 1, 8, 16, 17, 63, 64, math.MaxInt} {
			for draw := range p.Jitter + 2 {
				wait := impl.Wait(p, k, draw)
				if wait < p.Base || wait > longest {
					t.Fatalf("Wait(%v, %d, %d) = %d, Longest %d", p, k, draw, wait, longest)
				}
				greatest = max(greatest, wait)
			}
		}
		if longest != greatest || longest != p.Cap+p.Jitter {
			t.Errorf("Longest(%v) = %d, the greatest Wait is %d", p, longest, greatest)
		}
	}
}

func TestTries(t *testing.T) {
	for _, c := range []struct {
		base, most, span, want int
	}{
		{3, 20, 0, 1},
		{3, 20, 1, 1},
		{3, 20, 2, 1},
		{3, 20, 3, 2},
		{3, 20, 4, 2},
		{3, 20, 8, 2},
		{3, 20, 9, 3},
		{3, 20, 10, 3},
		{3, 20, 20, 3},
		{3, 20, 21, 4},
		{3, 20, 40, 4},
		{3, 20, 41, 5},
		{3, 20, 60, 5},
		{3, 20, 61, 6},
		{3, 20, maxSpan, 50002},
		{1, 1, 0, 1},
		{1, 1, 1, 2},
		{1, 1, 1000, 1001},
		{1, 1, maxSpan - 1, maxSpan},
		{1, 1, maxSpan, maxSpan + 1},
		{1, 1, maxSpan + 1, 0},
		{1, maxCap, maxSpan, 26},
		{maxCap, maxCap, maxCap - 1, 1},
		{maxCap, maxCap, maxCap, 2},
		{maxCap, maxCap, maxSpan - 1, 10},
		{maxCap, maxCap, maxSpan, 11},
		{3, 20, -1, 0},
		{3, 20, -3, 0},
		{3, 20, math.MinInt, 0},
		{3, 20, maxSpan + 1, 0},
		{3, 20, math.MaxInt, 0},
	} {
		p := impl.Policy{Base: c.base, Cap: c.most, Jitter: 4, Ttl: 9}
		if got := impl.Tries(p, c.span); got != c.want {
			t.Errorf("Tries(%v, %d) = %d, want %d", p, c.span, got, c.want)
		}
	}
}

// Just below, at and above the tick of each try, so many fit as were knocked for by then.
func TestTriesAtEachTry(t *testing.T) {
	for _, p := range rightPolicies() {
		if p.Cap < 100 {
			// Of these there are too many; the test below has their first ones.
			continue
		}
		for tries, at := 1, 0; at <= maxSpan; tries++ {
			for _, c := range [][2]int{{at - 1, tries - 1}, {at, tries}, {at + 1, tries}} {
				want := c[1]
				if c[0] > maxSpan {
					want = 0
				}
				if c[0] == at+1 && plainDelay(p, tries-1) == 1 && want > 0 {
					want++
				}
				if got := impl.Tries(p, c[0]); got != want {
					t.Fatalf("Tries(%v, %d) = %d, want %d", p, c[0], got, want)
				}
			}
			at += plainDelay(p, tries-1)
		}
	}
}

func TestTriesOfEachSpan(t *testing.T) {
	for _, p := range rightPolicies() {
		tries, next := 0, 0
		for span := range 5000 {
			if span == next {
				next += plainDelay(p, tries)
				tries++
			}
			if got := impl.Tries(p, span); got != tries {
				t.Fatalf("Tries(%v, %d) = %d, want %d", p, span, got, tries)
			}
		}
	}
}

// Neither Jitter nor Ttl tells how often one may knock, or how the Delay grows.
func TestDelayAndTriesHangOnBaseAndCap(t *testing.T) {
	for _, p := range rightPolicies() {
		for _, q := range []impl.Policy{{Jitter: 0, Ttl: 1}, {Jitter: maxJitter, Ttl: maxTtl}, {Jitter: 13, Ttl: 2}} {
			q.Base, q.Cap = p.Base, p.Cap
			for n := range 300 {
				if impl.Delay(p, n) != impl.Delay(q, n) || impl.Tries(p, n*n) != impl.Tries(q, n*n) {
					t.Fatalf("%v and %v differ at %d", p, q, n)
				}
			}
		}
	}
}

// Promise 15: every function answers at any arguments.

func TestPolicyAnswersAnything(t *testing.T) {
	for _, p := range wrongPolicies() {
		if got := impl.Longest(p); got != 0 {
			t.Errorf("Longest(%v) = %d", p, got)
		}
		for _, n := range slices.Concat(oddNumbers, []int{maxSpan - 1, maxSpan, maxSpan + 1}) {
			if got := impl.Delay(p, n); got != 0 {
				t.Errorf("Delay(%v, %d) = %d", p, n, got)
			}
			if got := impl.Tries(p, n); got != 0 {
				t.Errorf("Tries(%v, %d) = %d", p, n, got)
			}
			for _, draw := range drawsOf(p) {
				if got := impl.Wait(p, n, draw); got != 0 {
					t.Errorf("Wait(%v, %d, %d) = %d", p, n, draw, got)
				}
			}
		}
	}
	for _, p := range rightPolicies() {
		for _, span := range oddNumbers {
			got := impl.Tries(p, span)
			if fits := span >= 0 && span <= maxSpan; fits != (got > 0) || got > span+1 && got > 0 {
				t.Errorf("Tries(%v, %d) = %d", p, span, got)
			}
		}
	}
}

// Policies of odd numbers in every place, right or not.
func TestPolicyOfAnyNumbers(t *testing.T) {
	r := rand.New(rand.NewPCG(3, 2))
	odd := func() int { return oddNumbers[r.IntN(len(oddNumbers))] }
	for range 200000 {
		p := impl.Policy{Base: odd(), Cap: odd(), Jitter: odd(), Ttl: odd()}
		k, draw, span := odd(), odd(), odd()
		delay, wait, longest, tries := impl.Delay(p, k), impl.Wait(p, k, draw), impl.Longest(p), impl.Tries(p, span)
		if !impl.PolicyOk(p) {
			if delay != 0 || wait != 0 || longest != 0 || tries != 0 {
				t.Fatalf("%v: %d, %d, %d, %d", p, delay, wait, longest, tries)
			}
			continue
		}
		if delay != plainDelay(p, k) || wait < delay || wait > longest || wait > delay+p.Jitter || tries < 0 {
			t.Fatalf("%v of %d, %d, %d: %d, %d, %d, %d", p, k, draw, span, delay, wait, longest, tries)
		}
	}
}
