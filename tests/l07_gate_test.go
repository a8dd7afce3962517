package tests

import (
	"fmt"
	"math"
	"math/rand/v2"
	"slices"
	"testing"

	"loop.example/g00814/impl"
)

// Promise 7: a right gate stays right; a new one has nothing.

const (
	maxEvents  = 60
	maxLeft    = 1000
	maxQueue   = 10
	maxTimeout = 1000
	maxQuantum = 20
	maxLetters = 20
)

func TestGateLimits(t *testing.T) {
	if impl.MaxEvents != maxEvents || impl.MaxLeft != maxLeft {
		t.Error(impl.MaxEvents, impl.MaxLeft)
	}
}

func sameGate(g, h impl.Gate) bool {
	return g.Config == h.Config && g.Now == h.Now && g.Last == h.Last && g.Turn == h.Turn &&
		g.Taken == h.Taken && g.Acked == h.Acked && g.Drained == h.Drained &&
		slices.Equal(g.Events, h.Events) && slices.EqualFunc(g.Links, h.Links, sameLink) &&
		slices.Equal(g.Left, h.Left) && slices.Equal(g.Letters, h.Letters)
}

// copyGate is a Gate that shares no memory with the one that it is alike.
func copyGate(g impl.Gate) impl.Gate {
	g.Events = slices.Clone(g.Events)
	g.Links = slices.Clone(g.Links)
	for i := range g.Links {
		g.Links[i].Flying = slices.Clone(g.Links[i].Flying)
	}
	g.Left = slices.Clone(g.Left)
	g.Letters = slices.Clone(g.Letters)
	return g
}

// Configs

func plainConfig() impl.Config {
	return impl.Config{Devices: 3, Queue: 4, Window: 2, Timeout: 5, Quantum: 3, Budget: 2, Letters: 2, Policy: impl.Policy{Base: 2, Cap: 16, Jitter: 3, Ttl: 50}}
}

// leastConfig has 1 of all, mostConfig as much as there may be.
func leastConfig() impl.Config {
	return impl.Config{Devices: 1, Queue: 1, Window: 1, Timeout: 1, Quantum: 1, Budget: 1, Letters: 1, Policy: impl.Policy{Base: 1, Cap: 1, Ttl: 1}}
}

func mostConfig() impl.Config {
	return impl.Config{Devices: maxDevice, Queue: maxQueue, Window: maxWindow, Timeout: maxTimeout, Quantum: maxQuantum, Budget: maxDevice, Letters: maxLetters, Policy: impl.Policy{Base: maxCap, Cap: maxCap, Jitter: maxJitter, Ttl: maxTtl}}
}

// configNumber is one of the numbers of a Config, and the most that it may be.
type configNumber struct {
	name string
	most int
	of   func(c *impl.Config) *int
}

func configNumbers() []configNumber {
	return []configNumber{
		{"Devices", maxDevice, func(c *impl.Config) *int { return &c.Devices }},
		{"Queue", maxQueue, func(c *impl.Config) *int { return &c.Queue }},
		{"Window", maxWindow, func(c *impl.Config) *int { return &c.Window }},
		{"Timeout", maxTimeout, func(c *impl.Config) *int { return &c.Timeout }},
		{"Quantum", maxQuantum, func(c *impl.Config) *int { return &c.Quantum }},
		{"Letters", maxLetters, func(c *impl.Config) *int { return &c.Letters }},
	}
}

func rightConfigs() []impl.Config {
	configs := []impl.Config{leastConfig(), plainConfig(), mostConfig()}
	for _, n := range configNumbers() {
		for _, c := range []impl.Config{leastConfig(), plainConfig(), mostConfig()} {
			c.Budget = 1
			for _, number := range []int{1, 2, n.most - 1, n.most} {
				*n.of(&c) = number
				configs = append(configs, c)
			}
		}
	}
	for devices := 1; devices <= maxDevice; devices++ {
		for budget := 1; budget <= devices; budget++ {
			c := plainConfig()
			c.Devices, c.Budget = devices, budget
			configs = append(configs, c)
		}
	}
	for _, p := range rightPolicies() {
		c := plainConfig()
		c.Policy = p
		configs = append(configs, c)
	}
	return configs
}

// Each of these is but one number away from a right Config, or from two.
func wrongConfigs() []impl.Config {
	configs := []impl.Config{{}, {Policy: plainConfig().Policy}}
	for _, n := range configNumbers() {
		for _, c := range []impl.Config{leastConfig(), plainConfig(), mostConfig()} {
			c.Budget = 1
			for _, number := range []int{math.MinInt, -1, 0, n.most + 1, n.most + 256, 1<<32 + 1, math.MaxInt} {
				*n.of(&c) = number
				configs = append(configs, c)
			}
		}
	}
	for devices := 1; devices <= maxDevice; devices++ {
		for _, budget := range []int{math.MinInt, -1, 0, devices + 1, maxDevice + 1, math.MaxInt} {
			c := plainConfig()
			c.Devices, c.Budget = devices, budget
			configs = append(configs, c)
		}
	}
	for _, p := range wrongPolicies() {
		c := plainConfig()
		c.Policy = p
		configs = append(configs, c)
	}
	return configs
}

func plainConfigOk(c impl.Config) bool {
	return between(c.Devices, 1, maxDevice) && between(c.Queue, 1, maxQueue) && between(c.Window, 1, maxWindow) && between(c.Timeout, 1, maxTimeout) &&
		between(c.Quantum, 1, maxQuantum) && between(c.Budget, 1, c.Devices) && between(c.Letters, 1, maxLetters) && plainPolicyOk(c.Policy)
}

func plainPolicyOk(p impl.Policy) bool {
	return between(p.Base, 1, p.Cap) && between(p.Cap, 1, maxCap) && between(p.Jitter, 0, maxJitter) && between(p.Ttl, 1, maxTtl)
}

func TestConfigOk(t *testing.T) {
	for _, c := range rightConfigs() {
		if !impl.ConfigOk(c) || !plainConfigOk(c) {
			t.Errorf("ConfigOk(%+v) = false", c)
		}
	}
	for _, c := range wrongConfigs() {
		if impl.ConfigOk(c) || plainConfigOk(c) {
			t.Errorf("ConfigOk(%+v) = true", c)
		}
	}
}

// New gates

func TestNewGate(t *testing.T) {
	for _, c := range rightConfigs() {
		g := impl.NewGate(c)
		want := impl.Gate{Config: c, Links: make([]impl.Link, c.Devices), Left: make([]int, c.Devices)}
		if !sameGate(g, want) || !impl.GateOk(g) || !plainGateOk(g) {
			t.Errorf("NewGate(%+v) = %+v", c, g)
		}
	}
}

func TestNewGateOfNoConfig(t *testing.T) {
	for _, c := range wrongConfigs() {
		if g := impl.NewGate(c); !sameGate(g, impl.Gate{}) || impl.GateOk(g) {
			t.Errorf("NewGate(%+v) = %+v", c, g)
		}
	}
}

func TestNewGateHasNothing(t *testing.T) {
	for _, c := range []impl.Config{leastConfig(), plainConfig(), mostConfig(), {}} {
		g := impl.NewGate(c)
		for n := -1; n <= maxId+1; n++ {
			if at, open, ready := impl.EventAt(g, n), impl.OpenOf(g, n), impl.ReadyOf(g, n); at != -1 || open != 0 || len(ready) > 0 {
				t.Fatalf("new, but at %d: %d, %d, %v", n, at, open, ready)
			}
		}
		for i, l := range g.Links {
			if got, seq := impl.Launch(l, 1, 1); seq != 0 || got.Up {
				t.Errorf("new, but over the Link at %d one is launched: %v", i, got)
			}
		}
	}
}

// Gates

// busyGate has Events of each Status. Its first Device has as many that are open and
// that fly, and it has as many Letters, as there may be.
func busyGate() impl.Gate {
	event := func(id, device, at, ttl, next, status int) impl.Event {
		return impl.Event{Id: id, Device: device, Cost: 1 + id%maxCost, Body: fmt.Sprint(id), At: at, Ttl: ttl, Tries: id % 4, Next: next, Status: status}
	}
	return impl.Gate{
		Config: plainConfig(), Now: 20, Last: 30,
		Events: []impl.Event{
			event(2, 1, 3, 9, 5, evDead),
			event(5, 1, 10, 50, 15, evWaiting),
			event(6, 2, 11, 50, 20, evFlying),
			event(9, 1, 11, 50, 30, evFlying),
			event(11, 3, 0, 8, 0, evExpired),
			event(12, 2, 12, 50, 30, evFlying),
			event(15, 1, 12, 50, 21, evWaiting),
			event(16, 2, 20, 50, 20, evWaiting),
			event(20, 1, 14, 50, 20, evFlying),
			event(21, 3, 5, 15, 20, evWaiting),
			event(25, 3, 6, 1, 2000, evDead),
			event(30, 1, 7, 1, 7, evExpired),
		},
		Links: []impl.Link{
			{Up: true, Epoch: 2, Seq: 9, Flying: []impl.Fly{{Seq: 4, Id: 20, Until: 25}, {Seq: 7, Id: 9, Until: 21}}},
			{Up: true, Epoch: 1, Seq: 2, Flying: []impl.Fly{{Seq: 1, Id: 6, Until: 1}, {Seq: 2, Id: 12, Until: 30}}},
			{Epoch: 5, Seq: 3},
		},
		Turn: 1, Left: []int{0, maxLeft, 7}, Letters: []int{25, 2},
		Taken: 19, Acked: 4, Drained: 3,
	}
}

// fullGate has all that a Gate may have: each Device so many open Events, and each Event is the most that it may be.
// As many of each Device as may be fly, in the order of their Ids turned round.
func fullGate() impl.Gate {
	g := impl.Gate{Config: mostConfig(), Now: maxTime, Last: maxId, Turn: maxDevice - 1, Taken: maxId, Acked: maxId - maxEvents}
	for i := range maxDevice {
		l := impl.Link{Up: true, Epoch: maxEpoch, Seq: maxSeq}
		for n := range maxQueue {
			e := impl.Event{Id: maxId - maxEvents + 1 + i*maxQueue + n, Device: i + 1, Cost: maxCost, Body: anyBytes()[:maxBody], At: maxTime, Ttl: maxTtl, Tries: maxTries, Next: maxNext}
			if n < maxWindow {
				e.Status = evFlying
				l.Flying = append(l.Flying, impl.Fly{Seq: maxSeq - maxWindow + 1 + n, Id: e.Id + maxWindow - 1 - 2*n, Until: maxUntil})
			}
			g.Events = append(g.Events, e)
		}
		g.Links = append(g.Links, l)
		g.Left = append(g.Left, maxLeft)
	}
	return g
}

// deadGate has as many Letters as there may be, in the order of their Ids turned round.
func deadGate() impl.Gate {
	g := impl.NewGate(mostConfig())
	for id := 1; id <= maxEvents; id++ {
		e := impl.Event{Id: id, Device: 1 + id%maxDevice, Cost: 1, Ttl: 1, Status: evExpired}
		if id%3 == 0 {
			e.Status = evDead
			g.Letters = append([]int{id}, g.Letters...)
		}
		addEvent(&g, e)
	}
	return g
}

// anyGate is a right one, of any size.
func anyGate(r *rand.Rand) impl.Gate {
	devices := 1 + r.IntN(maxDevice)
	c := impl.Config{Devices: devices, Queue: 1 + r.IntN(maxQueue), Window: 1 + r.IntN(maxWindow), Timeout: 1 + r.IntN(maxTimeout), Quantum: 1 + r.IntN(maxQuantum), Budget: 1 + r.IntN(devices), Letters: 1 + r.IntN(maxLetters), Policy: plainConfig().Policy}
	g := impl.Gate{Config: c, Now: r.IntN(100), Turn: r.IntN(devices), Acked: r.IntN(300), Drained: r.IntN(300)}
	g.Taken = g.Acked + g.Drained
	for range devices {
		g.Links = append(g.Links, impl.Link{Up: r.IntN(4) > 0, Epoch: r.IntN(5), Seq: r.IntN(5)})
		g.Left = append(g.Left, r.IntN(maxLeft+1))
	}
	flying := make([][]int, devices)
	for range r.IntN(maxEvents + 1) {
		e := impl.Event{Id: g.Last + 1 + r.IntN(9), Device: 1 + r.IntN(devices), Cost: 1 + r.IntN(maxCost), At: r.IntN(g.Now + 1), Ttl: 1 + r.IntN(60), Tries: r.IntN(5), Next: r.IntN(120), Status: r.IntN(4)}
		i := e.Device - 1
		switch {
		case e.Status == evDead && len(g.Letters) < c.Letters:
			g.Letters = slices.Insert(g.Letters, r.IntN(len(g.Letters)+1), e.Id)
		case e.Status == evFlying && plainOpenOf(g, e.Device) < c.Queue && len(flying[i]) < c.Window && g.Links[i].Up:
			flying[i] = slices.Insert(flying[i], r.IntN(len(flying[i])+1), e.Id)
		case e.Status == evWaiting && plainOpenOf(g, e.Device) < c.Queue:
		default:
			e.Status = evExpired
		}
		addEvent(&g, e)
	}
	for i, ids := range flying {
		for _, id := range ids {
			addFly(&g, i, id)
		}
	}
	return g
}

// addEvent puts one behind that was taken behind all others.
func addEvent(g *impl.Gate, e impl.Event) {
	g.Events = append(g.Events, e)
	g.Last = max(g.Last, e.Id)
	g.Taken++
}

// addFly puts one behind that was launched behind all others.
func addFly(g *impl.Gate, i, id int) {
	l := &g.Links[i]
	l.Up = true
	l.Seq++
	l.Flying = append(l.Flying, impl.Fly{Seq: l.Seq, Id: id, Until: 40})
}

func setStatus(g *impl.Gate, id, status int) {
	g.Events[plainEventAt(*g, id)].Status = status
}

// The plain ways

func plainGateOk(g impl.Gate) bool {
	c := g.Config
	if !plainConfigOk(c) || !between(g.Now, 0, maxTime) || !between(g.Last, 0, maxId) || !between(g.Turn, 0, c.Devices-1) {
		return false
	}
	if len(g.Events) > maxEvents || len(g.Links) != c.Devices || len(g.Left) != c.Devices || len(g.Letters) > c.Letters {
		return false
	}
	ok := between(g.Taken, 0, maxId) && between(g.Acked, 0, maxId) && between(g.Drained, 0, maxId) && g.Taken-g.Acked-g.Drained == len(g.Events)
	for i, e := range g.Events {
		ok = ok && plainEventOk(e) && e.Id <= g.Last && e.Device <= c.Devices && e.At <= g.Now
		for _, f := range g.Events[:i] {
			ok = ok && f.Id < e.Id
		}
	}
	for i, l := range g.Links {
		fly := sortedIds(g.Events, func(e impl.Event) bool { return e.Device == i+1 && e.Status == evFlying })
		ok = ok && plainLinkOk(l) && len(l.Flying) <= c.Window && slices.Equal(slices.Sorted(slices.Values(idsOf(l.Flying))), fly)
		ok = ok && between(g.Left[i], 0, maxLeft) && plainOpenOf(g, i+1) <= c.Queue
	}
	dead := sortedIds(g.Events, func(e impl.Event) bool { return e.Status == evDead })
	return ok && slices.Equal(slices.Sorted(slices.Values(g.Letters)), dead)
}

func sortedIds(events []impl.Event, which func(impl.Event) bool) []int {
	var ids []int
	for _, e := range events {
		if which(e) {
			ids = append(ids, e.Id)
		}
	}
	slices.Sort(ids)
	return ids
}

func plainEventAt(g impl.Gate, id int) int {
	return slices.IndexFunc(g.Events, func(e impl.Event) bool { return e.Id == id })
}

func plainOpenOf(g impl.Gate, device int) int {
	return len(slices.DeleteFunc(slices.Clone(g.Events), func(e impl.Event) bool {
		return e.Device != device || e.Status != evWaiting && e.Status != evFlying
	}))
}

func plainReadyOf(g impl.Gate, device int) []int {
	var ids []int
	for _, e := range g.Events {
		if e.Device == device && plainReady(e, g.Now) {
			ids = append(ids, e.Id)
		}
	}
	return ids
}

// gateNumbers are the edges of all numbers, and those that stand in a Gate, or next to these.
func gateNumbers(g impl.Gate) []int {
	numbers := []int{math.MinInt, math.MinInt + 1, -1, 0, 1, 2, 3, maxDevice, maxDevice + 1, maxId, maxId + 1, 1<<32 + 1, math.MaxInt - 1, math.MaxInt}
	for _, e := range g.Events[:min(len(g.Events), maxEvents+1)] {
		numbers = append(numbers, plainSum64(e.Id, -1), e.Id, plainSum64(e.Id, 1), e.Device)
	}
	slices.Sort(numbers)
	return slices.Compact(numbers)
}

// sameAsked holds all that is told of a Gate against the plain ways, whether it is right or not.
func sameAsked(t *testing.T, what string, g impl.Gate) {
	t.Helper()
	before, right := copyGate(g), plainGateOk(g)
	if got := impl.GateOk(g); got != right {
		t.Fatalf("%s: GateOk(%+v) = %v", what, g, got)
	}
	for _, n := range gateNumbers(g) {
		if got, want := impl.EventAt(g, n), plainEventAt(g, n); got != want {
			t.Fatalf("%s: EventAt(%+v, %d) = %d, want %d", what, g, n, got, want)
		}
		if got, want := impl.OpenOf(g, n), plainOpenOf(g, n); got != want {
			t.Fatalf("%s: OpenOf(%+v, %d) = %d, want %d", what, g, n, got, want)
		}
		if got, want := impl.ReadyOf(g, n), plainReadyOf(g, n); !slices.Equal(got, want) {
			t.Fatalf("%s: ReadyOf(%+v, %d) = %v, want %v", what, g, n, got, want)
		}
	}
	if !sameGate(g, before) || impl.GateOk(g) != right {
		t.Fatalf("%s: what was %+v is %+v once it was asked", what, before, g)
	}
}

func TestRightGatesStayRight(t *testing.T) {
	for name, g := range map[string]impl.Gate{"busy": busyGate(), "full": fullGate(), "dead": deadGate(), "new": impl.NewGate(mostConfig())} {
		if !impl.GateOk(g) {
			t.Errorf("the %s one isn't right", name)
		}
		sameAsked(t, name, g)
	}
	r := rand.New(rand.NewPCG(7, 1))
	events, flying, letters := 0, 0, 0
	for range 1000 {
		g := anyGate(r)
		if !impl.GateOk(g) {
			t.Fatalf("GateOk(%+v) = false", g)
		}
		sameAsked(t, "any", g)
		events += len(g.Events)
		letters += len(g.Letters)
		for _, l := range g.Links {
			flying += len(l.Flying)
		}
	}
	if events < 20000 || flying < 2000 || letters < 2000 {
		t.Errorf("but %d Events, %d Flying and %d Letters", events, flying, letters)
	}
}

// gateChange is what is done with a Gate that was right.
type gateChange struct {
	name   string
	change func(g *impl.Gate)
}

// holdChanges looks whether each change of a right Gate leaves it right, or doesn't.
func holdChanges(t *testing.T, base func() impl.Gate, right bool, changes ...gateChange) {
	t.Helper()
	for _, c := range changes {
		g := base()
		c.change(&g)
		if got := impl.GateOk(g); got != right {
			t.Errorf("%s: GateOk(%+v) = %v", c.name, g, got)
		}
		sameAsked(t, c.name, g)
	}
}

// numberChanges put each of these in the place of a number of a Gate.
func numberChanges(name string, put func(g *impl.Gate, n int), numbers ...int) []gateChange {
	var changes []gateChange
	for _, n := range numbers {
		changes = append(changes, gateChange{fmt.Sprintf("%s %d", name, n), func(g *impl.Gate) { put(g, n) }})
	}
	return changes
}

func emptyGate() impl.Gate { return impl.NewGate(plainConfig()) }

func TestGateOfConfig(t *testing.T) {
	holdChanges(t, emptyGate, true, gateChange{"as it is", func(g *impl.Gate) {}})
	for _, c := range wrongConfigs() {
		put := func(g *impl.Gate) {
			g.Config = c
			// As far as there can be so many, there are as many as Devices.
			g.Links = make([]impl.Link, min(max(c.Devices, 0), 300))
			g.Left = make([]int, min(max(c.Devices, 0), 300))
		}
		holdChanges(t, emptyGate, false, gateChange{"another Config", put})
		holdChanges(t, busyGate, false, gateChange{"another Config", func(g *impl.Gate) { g.Config = c }})
	}
	zero := func() impl.Gate { return impl.Gate{} }
	holdChanges(t, zero, false, gateChange{"zero", func(g *impl.Gate) {}})
}

func TestGateOfNowAndLast(t *testing.T) {
	now := func(g *impl.Gate, n int) { g.Now = n }
	last := func(g *impl.Gate, n int) { g.Last = n }
	holdChanges(t, emptyGate, true, slices.Concat(
		numberChanges("Now", now, 0, 1, maxTime-1, maxTime),
		numberChanges("Last", last, 0, 1, maxId-1, maxId))...)
	holdChanges(t, emptyGate, false, slices.Concat(
		numberChanges("Now", now, math.MinInt, -1, maxTime+1, math.MaxInt),
		numberChanges("Last", last, math.MinInt, -1, maxId+1, math.MaxInt))...)
	holdChanges(t, busyGate, true, slices.Concat(
		numberChanges("Now", now, 20, 21, maxTime),
		numberChanges("Last", last, 30, 31, maxId))...)
	holdChanges(t, busyGate, false, slices.Concat(
		numberChanges("Now", now, math.MinInt, -1, 0, 19, maxTime+1, math.MaxInt),
		numberChanges("Last", last, math.MinInt, -1, 0, 29, maxId+1, math.MaxInt))...)
}

func TestGateOfSoManyEvents(t *testing.T) {
	more := impl.Event{Id: maxEvents + 1, Device: 1, Cost: 1, Ttl: 1, Status: evExpired}
	holdChanges(t, deadGate, true,
		gateChange{"as many as may be", func(g *impl.Gate) {}},
		gateChange{"another one in the place of one", func(g *impl.Gate) {
			g.Events = g.Events[1:]
			g.Taken--
			addEvent(g, more)
		}})
	holdChanges(t, deadGate, false,
		gateChange{"one more", func(g *impl.Gate) { addEvent(g, more) }},
		gateChange{"many more", func(g *impl.Gate) {
			for id := maxEvents + 1; id < 1000; id++ {
				more.Id = id
				addEvent(g, more)
			}
		}})
}

func TestGateOfEventsThatAreNotRight(t *testing.T) {
	for _, e := range wrongEvents() {
		// All else is as if it were right.
		g := impl.NewGate(mostConfig())
		g.Now, g.Last = maxTime, maxId
		g.Events = []impl.Event{e}
		g.Taken = 1
		if e.Status == evDead {
			g.Letters = []int{e.Id}
		}
		if e.Status == evFlying && between(e.Device, 1, maxDevice) {
			addFly(&g, e.Device-1, e.Id)
		}
		holdChanges(t, func() impl.Gate { return copyGate(g) }, false, gateChange{"an Event that isn't right", func(g *impl.Gate) {}})
	}
}

func TestGateOfIdsAndTimes(t *testing.T) {
	id := func(at int) func(g *impl.Gate, n int) {
		return func(g *impl.Gate, n int) { g.Events[at].Id = n }
	}
	taken := func(at int) func(g *impl.Gate, n int) {
		return func(g *impl.Gate, n int) { g.Events[at].At = n }
	}
	// These neither fly nor are dead: at place 1 is 5, at 4 is 11, at 11 is 30.
	holdChanges(t, busyGate, true, slices.Concat(
		numberChanges("the second Id", id(1), 3, 4, 5),
		numberChanges("the fifth Id", id(4), 10, 11),
		numberChanges("the last Id", id(11), 26, 29, 30),
		numberChanges("At of the second", taken(1), 0, 1, 19, 20),
		numberChanges("At of one that is gone", taken(4), 0, 19, 20),
		numberChanges("At of a dead one", taken(0), 0, 20))...)
	holdChanges(t, busyGate, false, slices.Concat(
		numberChanges("the second Id", id(1), -1, 0, 1, 2, 6, 7, 31),
		numberChanges("the fifth Id", id(4), 9, 12, 13, 0),
		numberChanges("the last Id", id(11), 1, 24, 25, 31, maxId, maxId+1, math.MaxInt),
		numberChanges("At of the second", taken(1), -1, 21, 22, maxTime),
		numberChanges("At of one that is gone", taken(4), -1, 21),
		numberChanges("At of a dead one", taken(0), -1, 21))...)
	holdChanges(t, busyGate, false,
		gateChange{"two change places", func(g *impl.Gate) { g.Events[6], g.Events[7] = g.Events[7], g.Events[6] }},
		gateChange{"one stands twice", func(g *impl.Gate) {
			g.Events = slices.Insert(g.Events, 4, g.Events[4])
			g.Taken++
		}},
		gateChange{"the first one stands again behind all", func(g *impl.Gate) {
			g.Events = append(g.Events, g.Events[0])
			g.Taken++
		}},
		gateChange{"turned round", func(g *impl.Gate) { slices.Reverse(g.Events) }})
}

func TestGateOfDevicesThatThereAre(t *testing.T) {
	device := func(g *impl.Gate, n int) { g.Events[4].Device = n }
	holdChanges(t, busyGate, true, numberChanges("a Device", device, 1, 2, 3)...)
	holdChanges(t, busyGate, false, numberChanges("a Device", device, math.MinInt, -1, 0, 4, 6, 7, math.MaxInt)...)
	for _, status := range statuses[:3] {
		holdChanges(t, emptyGate, false, gateChange{"an Event of a Device that there isn't", func(g *impl.Gate) {
			addEvent(g, impl.Event{Id: 1, Device: 4, Cost: 1, Ttl: 1, Status: status})
		}})
	}
}

func TestGateOfQueues(t *testing.T) {
	next := func(g *impl.Gate, device, status int) {
		addEvent(g, impl.Event{Id: g.Last + 1, Device: device, Cost: 1, Ttl: 1, Status: status})
		if status == evFlying {
			addFly(g, device-1, g.Last)
		}
	}
	holdChanges(t, busyGate, true,
		gateChange{"one more that is gone", func(g *impl.Gate) { next(g, 1, evExpired) }},
		gateChange{"one more of the second", func(g *impl.Gate) { next(g, 2, evWaiting) }},
		gateChange{"three more of the third", func(g *impl.Gate) { next(g, 3, evWaiting); next(g, 3, evFlying); next(g, 3, evFlying) }})
	holdChanges(t, busyGate, false,
		gateChange{"one more of the first", func(g *impl.Gate) { next(g, 1, evWaiting) }},
		gateChange{"two more of the second", func(g *impl.Gate) { next(g, 2, evWaiting); next(g, 2, evWaiting) }},
		gateChange{"four more of the third", func(g *impl.Gate) {
			next(g, 3, evWaiting)
			next(g, 3, evFlying)
			next(g, 3, evFlying)
			next(g, 3, evWaiting)
		}},
		gateChange{"a shorter Queue", func(g *impl.Gate) { g.Config.Queue = 3 }})
	// Of each Device as many as Queue says, and one more, whatever Queue is.
	for queue := 1; queue <= maxQueue; queue++ {
		for device := 1; device <= 3; device++ {
			fill := func(g *impl.Gate) {
				g.Config.Queue = queue
				for range queue {
					next(g, device, evWaiting)
				}
				next(g, device, evExpired)
			}
			holdChanges(t, emptyGate, true, gateChange{"as many as Queue says", fill})
			for _, status := range []int{evWaiting, evFlying} {
				holdChanges(t, emptyGate, false, gateChange{"one more than Queue says", func(g *impl.Gate) { fill(g); next(g, device, status) }})
			}
		}
	}
}

func TestGateOfLinks(t *testing.T) {
	holdChanges(t, busyGate, true,
		gateChange{"another one that isn't Up", func(g *impl.Gate) { g.Links[2] = impl.Link{Epoch: maxEpoch, Seq: maxSeq} }},
		gateChange{"one that is Up", func(g *impl.Gate) { g.Links[2] = impl.Link{Up: true, Flying: []impl.Fly{}} }},
		gateChange{"Flying as late as may be", func(g *impl.Gate) { g.Links[0].Flying[0].Until = maxUntil }})
	holdChanges(t, busyGate, false,
		gateChange{"none", func(g *impl.Gate) { g.Links = nil }},
		gateChange{"one fewer", func(g *impl.Gate) { g.Links = g.Links[:2] }},
		gateChange{"one more", func(g *impl.Gate) { g.Links = append(g.Links, impl.Link{}) }},
		gateChange{"many more", func(g *impl.Gate) { g.Links = append(g.Links, make([]impl.Link, 1000)...) }},
		gateChange{"all but one are new", func(g *impl.Gate) { g.Links[0] = impl.Link{} }},
		gateChange{"one isn't Up, but flies", func(g *impl.Gate) { g.Links[0].Up = false }},
		gateChange{"Flying falls by Seq", func(g *impl.Gate) { slices.Reverse(g.Links[0].Flying) }},
		gateChange{"two change places", func(g *impl.Gate) { g.Links[0], g.Links[1] = g.Links[1], g.Links[0] }})
	holdChanges(t, emptyGate, true, gateChange{"as it is", func(g *impl.Gate) {}})
	holdChanges(t, emptyGate, false,
		gateChange{"none", func(g *impl.Gate) { g.Links = nil }},
		gateChange{"one fewer", func(g *impl.Gate) { g.Links = g.Links[:2] }},
		gateChange{"one more", func(g *impl.Gate) { g.Links = append(g.Links, impl.Link{}) }})
	for i := range 3 {
		for _, l := range wrongLinks() {
			holdChanges(t, emptyGate, false, gateChange{"a Link that isn't right", func(g *impl.Gate) {
				g.Config.Window, g.Config.Queue = maxWindow, maxQueue
				g.Links[i] = l
				// As far as may be, it isn't for the Events that it isn't right.
				g.Last = maxId
				for _, f := range slices.SortedFunc(slices.Values(l.Flying), func(a, b impl.Fly) int { return a.Id - b.Id }) {
					if len(g.Events) < maxQueue && between(f.Id, 1, maxId) && plainEventAt(*g, f.Id) < 0 {
						addEvent(g, impl.Event{Id: f.Id, Device: i + 1, Cost: 1, Ttl: 1, Status: evFlying})
					}
				}
			}})
		}
	}
}

func TestGateOfWindows(t *testing.T) {
	flyMore := func(g *impl.Gate) {
		setStatus(g, 5, evFlying)
		addFly(g, 0, 5)
	}
	holdChanges(t, busyGate, true,
		gateChange{"a wider Window", func(g *impl.Gate) { g.Config.Window = 3; flyMore(g) }},
		gateChange{"one that waits flies with the third", func(g *impl.Gate) { setStatus(g, 21, evFlying); addFly(g, 2, 21) }})
	holdChanges(t, busyGate, false,
		gateChange{"one more than Window says", flyMore},
		gateChange{"a Window that is too small", func(g *impl.Gate) { g.Config.Window = 1 }})
	for window := 1; window <= maxWindow; window++ {
		for device := 1; device <= 3; device++ {
			fill := func(g *impl.Gate) {
				g.Config.Window, g.Config.Queue = window, maxQueue
				for range window {
					addEvent(g, impl.Event{Id: g.Last + 1, Device: device, Cost: 1, Ttl: 1, Status: evFlying})
					addFly(g, device-1, g.Last)
				}
			}
			holdChanges(t, emptyGate, true, gateChange{"as many as Window says", fill})
			holdChanges(t, emptyGate, false, gateChange{"one more than Window says", func(g *impl.Gate) {
				fill(g)
				addEvent(g, impl.Event{Id: g.Last + 1, Device: device, Cost: 1, Ttl: 1, Status: evFlying})
				addFly(g, device-1, g.Last)
			}})
		}
	}
}

// No Id is in two places, and none is in a place where it doesn't belong.
func TestGateOfWhatFlies(t *testing.T) {
	wide := func() impl.Gate {
		g := busyGate()
		g.Config.Window = 4
		return g
	}
	addFlies := func(i int, ids ...int) []gateChange {
		return numberChanges(fmt.Sprintf("over the Link at %d there flies also", i), func(g *impl.Gate, id int) { addFly(g, i, id) }, ids...)
	}
	swapFly := func(i, at int, ids ...int) []gateChange {
		return numberChanges(fmt.Sprintf("over the Link at %d there flies instead", i), func(g *impl.Gate, id int) { g.Links[i].Flying[at].Id = id }, ids...)
	}
	var all []int
	for id := range 32 {
		all = append(all, id)
	}
	without := func(ids ...int) []int {
		return slices.DeleteFunc(slices.Clone(all), func(id int) bool { return slices.Contains(ids, id) })
	}
	holdChanges(t, wide, true, gateChange{"as it is", func(g *impl.Gate) {}})
	holdChanges(t, wide, false, slices.Concat(
		addFlies(0, all...), addFlies(1, all...), addFlies(2, all...),
		swapFly(0, 0, without(20)...), swapFly(0, 1, without(9)...), swapFly(1, 0, without(6)...), swapFly(1, 1, without(12)...))...)
	holdChanges(t, wide, true,
		gateChange{"two over one Link change places", func(g *impl.Gate) { g.Links[0].Flying[0].Id, g.Links[0].Flying[1].Id = 9, 20 }})
	holdChanges(t, wide, false,
		gateChange{"two over two Links change places", func(g *impl.Gate) { g.Links[0].Flying[0].Id, g.Links[1].Flying[0].Id = 6, 20 }},
		gateChange{"one flies over two Links, and not over its own", func(g *impl.Gate) {
			g.Links[1].Flying = g.Links[1].Flying[1:]
			addFly(g, 0, 6)
			addFly(g, 2, 6)
		}},
		gateChange{"one flies over another one's Link", func(g *impl.Gate) {
			g.Links[1].Flying = g.Links[1].Flying[1:]
			addFly(g, 2, 6)
		}},
		gateChange{"the first one doesn't fly", func(g *impl.Gate) { g.Links[0].Flying = g.Links[0].Flying[1:] }},
		gateChange{"the last one doesn't fly", func(g *impl.Gate) { g.Links[1].Flying = g.Links[1].Flying[:1] }},
		gateChange{"none flies", func(g *impl.Gate) { g.Links[0].Flying = nil }},
		gateChange{"one more of a Link that isn't Up", func(g *impl.Gate) { setStatus(g, 21, evFlying) }},
		gateChange{"one more of a Link that is Up", func(g *impl.Gate) { setStatus(g, 15, evFlying) }})
	for _, id := range []int{6, 9, 12, 20} {
		holdChanges(t, wide, false, numberChanges(fmt.Sprintf("%d flies, but its Status is", id), func(g *impl.Gate, n int) { setStatus(g, id, n) }, -1, evWaiting, evExpired, evDead, evDead+1)...)
		holdChanges(t, wide, false, numberChanges(fmt.Sprintf("%d flies, but its Device is", id), func(g *impl.Gate, n int) {
			if at := plainEventAt(*g, id); g.Events[at].Device != n {
				g.Events[at].Device = n
			} else {
				g.Events[at].Device = 3
			}
		}, 1, 2, 3)...)
	}
}

func TestGateOfTurnAndLeft(t *testing.T) {
	turn := func(g *impl.Gate, n int) { g.Turn = n }
	left := func(at int) func(g *impl.Gate, n int) {
		return func(g *impl.Gate, n int) { g.Left[at] = n }
	}
	for _, base := range []func() impl.Gate{emptyGate, busyGate} {
		holdChanges(t, base, true, numberChanges("Turn", turn, 0, 1, 2)...)
		holdChanges(t, base, false, numberChanges("Turn", turn, math.MinInt, -1, 3, 4, math.MaxInt)...)
		for at := range 3 {
			holdChanges(t, base, true, numberChanges("Left", left(at), 0, 1, maxLeft-1, maxLeft)...)
			holdChanges(t, base, false, numberChanges("Left", left(at), math.MinInt, -1, maxLeft+1, math.MaxInt)...)
		}
		holdChanges(t, base, false,
			gateChange{"none Left", func(g *impl.Gate) { g.Left = nil }},
			gateChange{"one fewer Left", func(g *impl.Gate) { g.Left = g.Left[:2] }},
			gateChange{"one more Left", func(g *impl.Gate) { g.Left = append(g.Left, 0) }},
			gateChange{"many more Left", func(g *impl.Gate) { g.Left = append(g.Left, make([]int, 1000)...) }})
	}
	single := func() impl.Gate { return impl.NewGate(leastConfig()) }
	holdChanges(t, single, true, numberChanges("Turn of one", turn, 0)...)
	holdChanges(t, single, false, numberChanges("Turn of one", turn, -1, 1)...)
}

func TestGateOfLetters(t *testing.T) {
	letters := func(ids ...int) gateChange {
		return gateChange{fmt.Sprint("the Letters ", ids), func(g *impl.Gate) { g.Letters = ids }}
	}
	roomy := func() impl.Gate {
		g := busyGate()
		g.Config.Letters = 5
		return g
	}
	for _, base := range []func() impl.Gate{busyGate, roomy} {
		holdChanges(t, base, true, letters(2, 25), letters(25, 2),
			gateChange{"none, and none dead", func(g *impl.Gate) {
				g.Letters = []int{}
				setStatus(g, 2, evExpired)
				setStatus(g, 25, evExpired)
			}})
		holdChanges(t, base, false, letters(), letters(2), letters(25),
			letters(2, 2), letters(25, 25), letters(25, 2, 25), letters(25, 2, 2), letters(2, 25, 25, 2), letters(2, 2, 2, 25),
			letters(25, 5), letters(25, 6), letters(25, 11), letters(25, 30), letters(5, 2), letters(6, 2),
			letters(25, 1), letters(25, 3), letters(25, 31), letters(25, 0), letters(25, -2), letters(25, 2, 0), letters(25, 2, 5), letters(25, 2, 11), letters(25, 2, 20),
			letters(25, maxId+1), letters(25, math.MinInt), letters(math.MaxInt, 2), letters(25, 2+1<<32))
	}
	die := func(g *impl.Gate, id int) {
		setStatus(g, id, evDead)
		g.Letters = append(g.Letters, id)
	}
	holdChanges(t, roomy, true,
		numberChanges("also dead", die, 5, 11, 15, 16, 21, 30)...)
	holdChanges(t, busyGate, false,
		numberChanges("one more Letter than Config says", die, 5, 11, 15, 16, 21, 30)...)
	holdChanges(t, busyGate, false,
		gateChange{"a Config of fewer Letters", func(g *impl.Gate) { g.Config.Letters = 1 }},
		gateChange{"also dead, without a Letter", func(g *impl.Gate) { setStatus(g, 11, evDead) }})
	holdChanges(t, roomy, false,
		gateChange{"also dead, without a Letter", func(g *impl.Gate) { setStatus(g, 11, evDead) }},
		gateChange{"a Letter of one that flies", func(g *impl.Gate) { g.Letters = append(g.Letters, 9) }},
		gateChange{"dead, and flies", func(g *impl.Gate) { die(g, 9) }})
	for most := 1; most <= maxLetters; most++ {
		fill := func(g *impl.Gate) {
			g.Config.Letters = most
			for range most {
				addEvent(g, impl.Event{Id: g.Last + 1, Device: 1 + g.Last%3, Cost: 1, Ttl: 1})
				die(g, g.Last)
			}
		}
		holdChanges(t, emptyGate, true, gateChange{"as many Letters as Config says", fill})
		holdChanges(t, emptyGate, false, gateChange{"one more than Config says", func(g *impl.Gate) {
			fill(g)
			addEvent(g, impl.Event{Id: g.Last + 1, Device: 1, Cost: 1, Ttl: 1})
			die(g, g.Last)
		}})
	}
}

func TestGateOfTotals(t *testing.T) {
	totals := func(taken, acked, drained int) gateChange {
		return gateChange{fmt.Sprint("the totals ", taken, acked, drained), func(g *impl.Gate) { g.Taken, g.Acked, g.Drained = taken, acked, drained }}
	}
	holdChanges(t, emptyGate, true,
		totals(0, 0, 0), totals(1, 1, 0), totals(1, 0, 1), totals(7, 3, 4),
		totals(maxId, maxId, 0), totals(maxId, 0, maxId), totals(maxId, maxId-1, 1), totals(maxId, 5000, 4999))
	holdChanges(t, emptyGate, false,
		totals(1, 0, 0), totals(-1, 0, 0), totals(0, 1, 0), totals(0, 0, 1), totals(7, 3, 3), totals(7, 4, 4), totals(7, 3, 5),
		totals(-1, -1, 0), totals(-1, 0, -1), totals(0, -1, 1), totals(0, 1, -1), totals(5, -1, 6), totals(5, 6, -1), totals(-2, -1, -1),
		totals(maxId+1, maxId+1, 0), totals(maxId+1, 0, maxId+1), totals(maxId+1, maxId, 1), totals(maxId+1, 5000, 5000), totals(2*maxId, maxId, maxId),
		totals(0, maxId+1, -maxId-1), totals(1, maxId+1, -maxId), totals(1, -maxId, maxId+1),
		totals(math.MaxInt, math.MaxInt, 0), totals(math.MinInt, math.MinInt, 0), totals(-1, math.MaxInt, math.MinInt), totals(-2, math.MaxInt, math.MaxInt), totals(0, math.MinInt, math.MinInt), totals(math.MinInt, math.MaxInt, 1))
	holdChanges(t, busyGate, true,
		totals(12, 0, 0), totals(13, 1, 0), totals(13, 0, 1), totals(19, 4, 3), totals(19, 7, 0), totals(19, 0, 7),
		totals(maxId, maxId-12, 0), totals(maxId, 0, maxId-12))
	holdChanges(t, busyGate, false,
		totals(0, 0, 0), totals(7, 4, 3), totals(18, 4, 3), totals(20, 4, 3), totals(19, 3, 3), totals(19, 5, 3), totals(19, 4, 2), totals(19, 4, 4), totals(31, 4, 3),
		totals(-1, 4, 3), totals(0, -6, -6), totals(18, -1, 7), totals(18, 7, -1), totals(11, -1, 0), totals(-1, -13, 0),
		totals(maxId, maxId, 0), totals(maxId+1, maxId-11, 0), totals(maxId+12, maxId, 0), totals(maxId+13, maxId+1, 0), totals(maxId+13, 0, maxId+1),
		totals(math.MinInt+11, math.MaxInt, 0), totals(12, math.MinInt, math.MinInt), totals(10, math.MaxInt, math.MaxInt))
	// As many as were taken need not be as many as Ids were given.
	holdChanges(t, busyGate, true, gateChange{"fewer Ids than were taken", func(g *impl.Gate) { g.Taken, g.Acked = 119, 104 }})
}

// What is asked

func TestEventAt(t *testing.T) {
	g := busyGate()
	for at, e := range g.Events {
		if got := impl.EventAt(g, e.Id); got != at {
			t.Errorf("EventAt(.., %d) = %d, want %d", e.Id, got, at)
		}
	}
	for _, id := range []int{math.MinInt, -2, -1, 0, 1, 3, 4, 7, 10, 29, 31, 2 + 1<<32, maxId, maxId + 1, math.MaxInt} {
		if got := impl.EventAt(g, id); got != -1 {
			t.Errorf("EventAt(.., %d) = %d", id, got)
		}
	}
	full := fullGate()
	for at := range maxEvents {
		if got := impl.EventAt(full, maxId-maxEvents+1+at); got != at {
			t.Errorf("EventAt of %d in the full one = %d", at, got)
		}
	}
}

func TestEventAtTellsTheFirst(t *testing.T) {
	ids := []int{7, 0, 7, math.MinInt, 3, 0, -1, math.MaxInt, 3, math.MinInt, 7}
	var g impl.Gate
	for i, id := range ids {
		g.Events = append(g.Events, impl.Event{Id: id, Device: i, Status: i % 4})
	}
	for id, want := range map[int]int{7: 0, 0: 1, math.MinInt: 3, 3: 4, -1: 6, math.MaxInt: 7, 1: -1, 8: -1} {
		if got := impl.EventAt(g, id); got != want {
			t.Errorf("EventAt(.., %d) = %d, want %d", id, got, want)
		}
	}
}

func TestOpenOf(t *testing.T) {
	g := busyGate()
	for device, want := range map[int]int{1: 4, 2: 3, 3: 1, 4: 0, 0: 0, -1: 0, 6: 0, 7: 0, math.MinInt: 0, math.MaxInt: 0, 1 + 1<<32: 0} {
		if got := impl.OpenOf(g, device); got != want {
			t.Errorf("OpenOf(.., %d) = %d, want %d", device, got, want)
		}
	}
	for device := 1; device <= maxDevice; device++ {
		if full, dead := impl.OpenOf(fullGate(), device), impl.OpenOf(deadGate(), device); full != maxQueue || dead != 0 {
			t.Errorf("OpenOf(.., %d) = %d of the full one, and %d of the dead one", device, full, dead)
		}
	}
	// What is open is open however old it is.
	g.Now = maxTime
	if got := impl.OpenOf(g, 1); got != 4 {
		t.Errorf("OpenOf(.., 1) = %d at last", got)
	}
	var odd impl.Gate
	for _, status := range anyStatuses {
		odd.Events = append(odd.Events, impl.Event{Device: -5, Status: status}, impl.Event{Device: math.MaxInt, Status: status}, impl.Event{Device: math.MaxInt, Status: status})
	}
	for device, want := range map[int]int{-5: 2, math.MaxInt: 4, 0: 0, 5: 0} {
		if got := impl.OpenOf(odd, device); got != want {
			t.Errorf("OpenOf(.., %d) = %d, want %d, where nothing is right", device, got, want)
		}
	}
}

func TestReadyOf(t *testing.T) {
	for _, c := range []struct {
		now, device int
		want        []int
	}{
		{20, 1, []int{5}},
		{20, 2, []int{16}},
		{20, 3, nil},
		{20, 0, nil}, {20, 4, nil}, {20, -1, nil}, {20, math.MinInt, nil}, {20, math.MaxInt, nil}, {20, 1 + 1<<32, nil},
		{21, 1, []int{5, 15}},
		{59, 1, []int{5, 15}},
		{60, 1, []int{15}},
		{61, 1, []int{15}},
		{62, 1, nil},
		{69, 2, []int{16}},
		{70, 2, nil},
		{maxTime, 1, nil},
		// From here on the Gate isn't right, as there are Events that were taken later.
		{19, 2, nil},
		{19, 3, nil},
		{15, 1, []int{5}},
		{14, 1, nil},
		{-1, 1, nil},
		{math.MinInt, 1, nil},
		{math.MaxInt, 1, nil},
	} {
		g := busyGate()
		g.Now = c.now
		if got := impl.ReadyOf(g, c.device); !slices.Equal(got, c.want) {
			t.Errorf("ReadyOf(.., %d) at %d = %v, want %v", c.device, c.now, got, c.want)
		}
	}
	g := impl.NewGate(mostConfig())
	var want []int
	for id := range maxQueue {
		addEvent(&g, impl.Event{Id: 1 + 7*id, Device: 5, Cost: 1, Ttl: 1, Tries: 10 - id})
		want = append(want, 1+7*id)
	}
	if got := impl.ReadyOf(g, 5); !impl.GateOk(g) || !slices.Equal(got, want) {
		t.Errorf("ReadyOf = %v, want %v", got, want)
	}
}

// In order is as the Events stand, and each of them is told, also where the Gate isn't right.
func TestReadyOfWhereNothingIsRight(t *testing.T) {
	g := impl.Gate{Now: -4, Config: impl.Config{Devices: -1}}
	for _, id := range []int{9, 3, 9, math.MinInt, 0, math.MaxInt, 3} {
		g.Events = append(g.Events,
			impl.Event{Id: id, Device: -2, At: -9, Ttl: 6, Next: -4},
			impl.Event{Id: 77, Device: -2, At: -9, Ttl: 5, Next: -4},
			impl.Event{Id: 78, Device: -2, At: -9, Ttl: 6, Next: -3},
			impl.Event{Id: 79, Device: 2, At: -9, Ttl: 6, Next: -4},
			impl.Event{Id: 80, Device: math.MaxInt, At: math.MaxInt, Ttl: math.MaxInt, Next: math.MinInt},
			impl.Event{Id: 81, Device: math.MaxInt, At: math.MinInt, Ttl: math.MinInt, Next: math.MinInt})
	}
	for device, want := range map[int][]int{-2: {9, 3, 9, math.MinInt, 0, math.MaxInt, 3}, 2: slices.Repeat([]int{79}, 7), math.MaxInt: slices.Repeat([]int{80}, 7), -1: nil} {
		if got := impl.ReadyOf(g, device); !slices.Equal(got, want) {
			t.Errorf("ReadyOf(.., %d) = %v, want %v", device, got, want)
		}
	}
	sameAsked(t, "nothing is right", g)
}

// What is Ready is open, and of that Device; it is all that waits and isn't too early or too old.
func TestReadyOfAtEachTick(t *testing.T) {
	r := rand.New(rand.NewPCG(7, 2))
	for range 200 {
		g := anyGate(r)
		for now := range 130 {
			g.Now = now
			for device := range maxDevice + 2 {
				ready := impl.ReadyOf(g, device)
				if len(ready) > impl.OpenOf(g, device) || !slices.Equal(ready, plainReadyOf(g, device)) {
					t.Fatalf("ReadyOf(%+v, %d) = %v", g, device, ready)
				}
				for _, id := range ready {
					if e := g.Events[impl.EventAt(g, id)]; e.Device != device || !impl.Ready(e, now) || impl.Old(e, now) {
						t.Fatalf("at %d ready is %v", now, e)
					}
				}
			}
		}
	}
}

// Promise 15: every function answers at any arguments, and writes into none.

// shake changes one thing of a Gate.
func shake(r *rand.Rand, g *impl.Gate) {
	number := func(n *int) {
		if r.IntN(4) == 0 {
			*n = oddNumbers[r.IntN(len(oddNumbers))]
		} else {
			*n += []int{-1, 1, 2}[r.IntN(3)]
		}
	}
	if r.IntN(3) == 0 && len(g.Links) > 0 {
		shakeLink(r, &g.Links[r.IntN(len(g.Links))], number)
		return
	}
	switch what := r.IntN(12); what {
	case 0:
		number([]*int{&g.Config.Devices, &g.Config.Queue, &g.Config.Window, &g.Config.Timeout, &g.Config.Quantum, &g.Config.Budget, &g.Config.Letters}[r.IntN(7)])
	case 1:
		number([]*int{&g.Now, &g.Last, &g.Turn}[r.IntN(3)])
	case 2:
		number([]*int{&g.Taken, &g.Acked, &g.Drained}[r.IntN(3)])
	case 3:
		shakeList(r, &g.Left, number)
	case 4, 5:
		shakeList(r, &g.Letters, number)
	case 6:
		shakeList(r, &g.Links, func(l *impl.Link) { shakeLink(r, l, number) })
	case 7:
		shakeList(r, &g.Events, func(e *impl.Event) {})
	default:
		if len(g.Events) > 0 {
			e := &g.Events[r.IntN(len(g.Events))]
			number([]*int{&e.Id, &e.Device, &e.Status, &e.Status, &e.At, &e.Next, &e.Tries}[r.IntN(7)])
		}
	}
}

func shakeLink(r *rand.Rand, l *impl.Link, number func(*int)) {
	switch r.IntN(4) {
	case 0:
		l.Up = !l.Up
	case 1:
		number([]*int{&l.Epoch, &l.Seq}[r.IntN(2)])
	default:
		shakeList(r, &l.Flying, func(f *impl.Fly) { number([]*int{&f.Seq, &f.Id, &f.Until}[r.IntN(3)]) })
	}
}

// shakeList takes one out, puts one in twice, changes two for each other, or changes one.
func shakeList[T any](r *rand.Rand, list *[]T, change func(*T)) {
	if len(*list) == 0 {
		*list = make([]T, 1)
		return
	}
	at, to := r.IntN(len(*list)), r.IntN(len(*list))
	switch r.IntN(4) {
	case 0:
		*list = slices.Delete(*list, at, at+1)
	case 1:
		*list = slices.Insert(*list, to, (*list)[at])
	case 2:
		(*list)[at], (*list)[to] = (*list)[to], (*list)[at]
	default:
		change(&(*list)[at])
	}
}

func TestGatesThatAreShaken(t *testing.T) {
	r := rand.New(rand.NewPCG(7, 3))
	bases := []func() impl.Gate{busyGate, fullGate, deadGate, emptyGate, func() impl.Gate { return anyGate(r) }}
	right, wrong := 0, 0
	for i := range 40000 {
		g := bases[i%len(bases)]()
		for range 1 + r.IntN(3) {
			shake(r, &g)
		}
		want := plainGateOk(g)
		if got := impl.GateOk(g); got != want {
			t.Fatalf("GateOk(%+v) = %v", g, got)
		}
		if want {
			right++
		} else {
			wrong++
		}
		if i%16 == 0 {
			sameAsked(t, "shaken", g)
		}
	}
	if right < 5000 || wrong < 15000 {
		t.Errorf("but %d are right, and %d aren't", right, wrong)
	}
}

// ofOneNumber is a Gate in which each number is the same one.
func ofOneNumber(n int) impl.Gate {
	return impl.Gate{
		Config: impl.Config{Devices: n, Queue: n, Window: n, Timeout: n, Quantum: n, Budget: n, Letters: n, Policy: impl.Policy{Base: n, Cap: n, Jitter: n, Ttl: n}},
		Now:    n, Last: n, Turn: n, Left: []int{n}, Letters: []int{n}, Taken: n, Acked: n, Drained: n,
		Events: []impl.Event{{Id: n, Device: n, Cost: n, At: n, Ttl: n, Tries: n, Next: n, Status: n}},
		Links:  []impl.Link{{Up: true, Epoch: n, Seq: n, Flying: []impl.Fly{{Seq: n, Id: n, Until: n}}}},
	}
}

func TestGatesOfAnyLists(t *testing.T) {
	const least, most = math.MinInt, math.MaxInt
	long := impl.Gate{Config: mostConfig(), Now: maxTime, Last: maxId, Events: make([]impl.Event, 20000), Links: make([]impl.Link, 20000), Left: make([]int, 20000), Letters: make([]int, 20000), Taken: maxId}
	sameAsked(t, "long", long)
	long.Events = []impl.Event{}
	sameAsked(t, "long", long)
	long.Links = []impl.Link{{Up: true, Seq: maxSeq, Flying: make([]impl.Fly, 20000)}}
	sameAsked(t, "long", long)
	for _, n := range []int{least, -1, 0, 1, most} {
		sameAsked(t, "of one number", ofOneNumber(n))
	}
}

// roomyGate is alike a Gate, but behind each of its lists there is room that holds others.
func roomyGate(g impl.Gate) impl.Gate {
	g = copyGate(g)
	g.Events = withRoom(g.Events, impl.Event{Id: 7777, Device: 1}, impl.Event{Id: 8888, Device: 2})
	g.Left = withRoom(g.Left, 7777, 8888)
	g.Letters = withRoom(g.Letters, 7777, 8888)
	g.Links = withRoom(g.Links, impl.Link{Seq: 7777}, impl.Link{Seq: 8888})
	for i := range g.Links {
		g.Links[i].Flying = withRoom(g.Links[i].Flying, impl.Fly{Seq: 7777}, impl.Fly{Seq: 8888})
	}
	return g
}

// allOf tells all that stands in a Gate, and in the room behind its lists.
func allOf(g impl.Gate) string {
	var flying [][]impl.Fly
	for _, l := range g.Links {
		flying = append(flying, wholeOf(l.Flying))
	}
	g.Events, g.Links, g.Left, g.Letters = wholeOf(g.Events), wholeOf(g.Links), wholeOf(g.Left), wholeOf(g.Letters)
	return fmt.Sprintf("%+v %+v", g, flying)
}

func TestGateFunctionsWriteIntoNoArgument(t *testing.T) {
	r := rand.New(rand.NewPCG(7, 4))
	gates := []impl.Gate{{}, busyGate(), fullGate(), deadGate(), emptyGate()}
	for range 100 {
		shaken := anyGate(r)
		shake(r, &shaken)
		gates = append(gates, anyGate(r), shaken)
	}
	told := 0
	for _, g := range gates {
		g = roomyGate(g)
		before := allOf(g)
		ok := impl.GateOk(g)
		for n := -1; n < 100; n++ {
			at, open, ready := impl.EventAt(g, n), impl.OpenOf(g, n), impl.ReadyOf(g, n)
			kept := slices.Clone(ready)
			again := impl.ReadyOf(g, n)
			told += len(ready)
			scribble(ready, -5)
			if got := allOf(g); got != before {
				t.Fatalf("asked at %d, what was %s is %s", n, before, got)
			}
			if !slices.Equal(again, kept) || impl.EventAt(g, n) != at || impl.OpenOf(g, n) != open || impl.GateOk(g) != ok {
				t.Fatalf("asked at %d a second time, it answers otherwise: %s", n, before)
			}
		}
	}
	if told < 100 {
		t.Errorf("but %d were told to be ready", told)
	}
}

// What is told of a Gate stays so when the Gate is written into later.
func TestReadyOfStandsInNoGate(t *testing.T) {
	g := busyGate()
	g.Now = 21
	ready := impl.ReadyOf(g, 1)
	for i := range g.Events {
		g.Events[i].Id = 4000 + i
	}
	if !slices.Equal(ready, []int{5, 15}) {
		t.Errorf("%v", ready)
	}
}

func TestNewGatesShareNothing(t *testing.T) {
	for _, c := range []impl.Config{leastConfig(), plainConfig(), mostConfig()} {
		g, h := impl.NewGate(c), impl.NewGate(c)
		scribble(g.Links, impl.Link{Up: true, Seq: 5, Flying: manyFlies(2)})
		scribble(g.Left, 5)
		g.Events = append(g.Events, impl.Event{Id: 1})
		g.Letters = append(g.Letters, 1)
		want := impl.Gate{Config: c, Links: make([]impl.Link, c.Devices), Left: make([]int, c.Devices)}
		if !sameGate(h, want) || !sameGate(impl.NewGate(c), want) {
			t.Errorf("what is written into one new gate shows in another: %+v", h)
		}
	}
}
