package tests

import (
	"fmt"
	"math/rand"
	"reflect"
	"slices"
	"sort"
	"testing"

	"loop.example/g03014/impl"
)

// backNetwork has a ring of legs, on which a way may lead back over its first place; no leg leaves END, and none reaches TOP.
func backNetwork() impl.Network {
	return impl.Network{Legs: []impl.Leg{
		{From: "AMS", To: "BRU", Start: 60, Takes: 60, Days: 127},
		{From: "BRU", To: "AMS", Start: 150, Takes: 60, Days: 127},
		{From: "AMS", To: "CDG", Start: 239, Takes: 60, Days: 127},
		{From: "AMS", To: "CDG", Start: 240, Takes: 60, Days: 127},
		{From: "CDG", To: "END", Start: 330, Takes: 60, Days: 127},
		{From: "CDG", To: "END", Start: 329, Takes: 30, Days: 127},
		{From: "TOP", To: "BRU", Start: 0, Takes: 120, Days: 127},
	}, Change: 30}
}

// evenNetwork has ways that arrive at one time: at DDD by one leg, by two and by three, at EEE by two in several ways.
func evenNetwork() impl.Network {
	return impl.Network{Legs: []impl.Leg{
		{From: "CCC", To: "DDD", Start: 400, Takes: 200, Days: 127},
		{From: "BBB", To: "DDD", Start: 300, Takes: 300, Days: 127},
		{From: "AAA", To: "CCC", Start: 100, Takes: 250, Days: 127},
		{From: "BBB", To: "CCC", Start: 200, Takes: 100, Days: 127},
		{From: "AAA", To: "BBB", Start: 100, Takes: 100, Days: 127},
		{From: "AAA", To: "BBB", Start: 50, Takes: 150, Days: 127},
		{From: "AAA", To: "DDD", Start: 0, Takes: 600, Days: 126},
		{From: "CCC", To: "EEE", Start: 500, Takes: 200, Days: 127},
		{From: "BBB", To: "EEE", Start: 500, Takes: 200, Days: 127},
		{From: "BBB", To: "EEE", Start: 400, Takes: 300, Days: 127},
	}}
}

// wayNetworkAtRandom has round times, so that many ways arrive together and many changes are just long enough.
func wayNetworkAtRandom(r *rand.Rand) impl.Network {
	places := []string{"AAA", "AMS", "CDG", "DUB", "OSL", "ZZZ"}
	n := impl.Network{Change: []int{0, 60, 120, 240}[r.Intn(4)]}
	for range 2 + r.Intn(impl.MaxLegs-1) {
		from := r.Intn(6)
		n.Legs = append(n.Legs, impl.Leg{
			From:  places[from],
			To:    places[(from+1+r.Intn(5))%6],
			Start: 60 * r.Intn(24),
			Takes: []int{60, 120, 240, 360, 600, 1440, 2880}[r.Intn(7)],
			Days:  []int{127, 1 << r.Intn(7), 1 + r.Intn(127)}[r.Intn(3)],
		})
	}
	n.Off = r.Perm(impl.MaxDay + 1)[:r.Intn(impl.MaxOff+1)]
	sort.Ints(n.Off)
	return n
}

// ride is a trip with what is to be known of it, by the calendar of these tests.
type ride struct {
	trip       impl.Trip
	from, to   string
	start, end int
}

func ridesOf(n impl.Network) []ride {
	var l []ride
	for leg, g := range n.Legs {
		for _, day := range daysOf(n, leg) {
			start := day*1440 + g.Start
			l = append(l, ride{impl.Trip{Leg: leg, Day: day}, g.From, g.To, start, start + g.Takes})
		}
	}
	sort.SliceStable(l, func(i, j int) bool { return l[i].start < l[j].start })
	return l
}

// never stands for the arrival at a place that is not reached.
const never = 1 << 40

// arrivalsByRides looks at all trips, not only at the next ones: for each ride the fewest legs of a way that ends with it.
// Of each number of legs up to most, it tells the earliest arrival at each place.
func arrivalsByRides(n impl.Network, from string, at, most int) []map[string]int {
	rides := ridesOf(n)
	legs := make([]int, len(rides))
	for i, r := range rides {
		if r.start < at {
			continue
		}
		if r.from == from {
			legs[i] = 1
			continue
		}
		for j, before := range rides[:i] {
			if legs[j] > 0 && before.to == r.from && before.end+n.Change <= r.start && (legs[i] == 0 || legs[j]+1 < legs[i]) {
				legs[i] = legs[j] + 1
			}
		}
	}
	var l []map[string]int
	for k := range most + 1 {
		arrivals := map[string]int{}
		for _, place := range impl.PlacesOf(n) {
			arrivals[place] = never
		}
		for i, r := range rides {
			if legs[i] > 0 && legs[i] <= k && r.end < arrivals[r.to] {
				arrivals[r.to] = r.end
			}
		}
		arrivals[from] = at
		if at < 0 {
			arrivals[from] = 0
		}
		l = append(l, arrivals)
	}
	return l
}

func startsByRides(n impl.Network, to string, by int) map[string]int {
	rides := ridesOf(n)
	leads := make([]bool, len(rides))
	starts := map[string]int{}
	for i := len(rides) - 1; i >= 0; i-- {
		r := rides[i]
		leads[i] = r.to == to && r.end <= by
		for j := i + 1; j < len(rides) && !leads[i]; j++ {
			leads[i] = leads[j] && rides[j].from == r.to && r.end+n.Change <= rides[j].start
		}
		if latest, ok := starts[r.from]; leads[i] && (!ok || r.start > latest) {
			starts[r.from] = r.start
		}
	}
	starts[to] = by
	return starts
}

// wayByRides follows the document's words from the end of the way, with the arrivals by rides.
func wayByRides(n impl.Network, byLegs []map[string]int, from, to string) ([]impl.Trip, bool) {
	must := byLegs[len(byLegs)-1][to]
	if must == never {
		return nil, false
	}
	legs := 0
	for byLegs[legs][to] != must {
		legs++
	}
	var way []impl.Trip
	for place := to; legs > 0; legs-- {
		for leg, g := range n.Legs {
			ready := byLegs[legs-1][g.From]
			if g.From != from {
				ready += n.Change
			}
			day := slices.IndexFunc(daysOf(n, leg), func(day int) bool { return day*1440+g.Start >= ready })
			if g.To != place || day < 0 || daysOf(n, leg)[day]*1440+g.Start+g.Takes != must {
				continue
			}
			way = append([]impl.Trip{{Leg: leg, Day: daysOf(n, leg)[day]}}, way...)
			place, must = g.From, byLegs[legs-1][g.From]
			break
		}
	}
	return way, true
}

func isWayByRides(n impl.Network, all []ride, way []impl.Trip, from, to string, at int) bool {
	var rides []ride
	for _, trip := range way {
		i := slices.IndexFunc(all, func(r ride) bool { return r.trip == trip })
		if i < 0 {
			return false
		}
		rides = append(rides, all[i])
	}
	if len(rides) == 0 {
		return from == to
	}
	for i := 1; i < len(rides); i++ {
		if rides[i].from != rides[i-1].to || rides[i].start-rides[i-1].end < n.Change {
			return false
		}
	}
	return rides[0].from == from && rides[len(rides)-1].to == to && rides[0].start >= at
}

func inOrderOf(n impl.Network, times map[string]int) []int {
	var l []int
	for _, place := range impl.PlacesOf(n) {
		time, ok := times[place]
		if !ok || time == never {
			time = -1
		}
		l = append(l, time)
	}
	return l
}

func TestPromiseMinute(t *testing.T) {
	if impl.PromiseMinute != 1080 {
		t.Error(impl.PromiseMinute)
	}
}

func TestMax(t *testing.T) {
	for _, c := range [][3]int{
		{0, 0, 0}, {1, 2, 2}, {2, 1, 2}, {-1, -2, -1}, {-2, -1, -1}, {0, -1, 0}, {-1, 0, 0}, {7, 7, 7},
		{greatestInt, leastInt, greatestInt}, {leastInt, greatestInt, greatestInt}, {leastInt, leastInt, leastInt}, {leastInt, leastInt + 1, leastInt + 1}, {greatestInt - 1, greatestInt, greatestInt},
	} {
		if got := impl.Max(c[0], c[1]); got != c[2] {
			t.Error(c, got)
		}
	}
}

func TestBestArrivals(t *testing.T) {
	for _, c := range []struct {
		n        impl.Network
		from     string
		at, legs int
		want     []int
	}{
		// The places are AMS, BRU, CDG, END and TOP.
		{backNetwork(), "AMS", 0, 0, []int{0, -1, -1, -1, -1}}, {backNetwork(), "AMS", 0, 1, []int{0, 120, 299, -1, -1}},
		{backNetwork(), "AMS", 0, 2, []int{0, 120, 299, 359, -1}}, {backNetwork(), "AMS", 0, 4, []int{0, 120, 299, 359, -1}}, {backNetwork(), "AMS", 0, 5, []int{0, 120, 299, 359, -1}},
		{backNetwork(), "AMS", 0, 6, []int{0, 120, 299, 359, -1}}, {backNetwork(), "AMS", 0, greatestInt, []int{0, 120, 299, 359, -1}},
		{backNetwork(), "AMS", 60, 1, []int{60, 120, 299, -1, -1}}, {backNetwork(), "AMS", 61, 1, []int{61, 1560, 299, -1, -1}},
		{backNetwork(), "AMS", 239, 2, []int{239, 1560, 299, 359, -1}}, {backNetwork(), "AMS", 240, 2, []int{240, 1560, 300, 390, -1}}, {backNetwork(), "AMS", 241, 2, []int{241, 1560, 1739, 1799, -1}},
		{backNetwork(), "BRU", 120, 1, []int{210, 120, -1, -1, -1}}, {backNetwork(), "BRU", 150, 2, []int{210, 150, 300, -1, -1}}, {backNetwork(), "BRU", 150, 3, []int{210, 150, 300, 390, -1}},
		{backNetwork(), "TOP", 0, 1, []int{-1, 120, -1, -1, 0}}, {backNetwork(), "TOP", 0, 2, []int{210, 120, -1, -1, 0}}, {backNetwork(), "TOP", 0, 3, []int{210, 120, 300, -1, 0}},
		{backNetwork(), "TOP", 0, 4, []int{210, 120, 300, 390, 0}}, {backNetwork(), "TOP", 0, 3000, []int{210, 120, 300, 390, 0}},
		{backNetwork(), "END", 5, 5, []int{-1, -1, -1, 5, -1}}, {backNetwork(), "END", 5, 0, []int{-1, -1, -1, 5, -1}},
		{backNetwork(), "AMS", -1, 1, []int{0, 120, 299, -1, -1}}, {backNetwork(), "AMS", leastInt, 1, []int{0, 120, 299, -1, -1}}, {backNetwork(), "AMS", leastInt, 0, []int{0, -1, -1, -1, -1}},
		{backNetwork(), "AMS", 86460, 5, []int{86460, 86520, 86699, 86759, -1}}, {backNetwork(), "AMS", 86641, 5, []int{86641, -1, -1, -1, -1}}, {backNetwork(), "AMS", impl.MaxTime, 5, []int{impl.MaxTime, -1, -1, -1, -1}},
		{backNetwork(), "AMS", impl.MaxTime + 1, 5, nil}, {backNetwork(), "AMS", greatestInt, 5, nil}, {backNetwork(), "AMS", 0, -1, nil}, {backNetwork(), "AMS", 0, leastInt, nil},
		{backNetwork(), "XYZ", 0, 5, nil}, {backNetwork(), "", 0, 5, nil}, {backNetwork(), "ams", 0, 5, nil}, {backNetwork(), "AMSBRU", 0, 5, nil},
		{impl.Network{}, "AMS", 0, 5, nil}, {impl.Network{}, "", 0, 5, nil},
		// More legs are better: AMS-DUB in the evening of day 1, or over CDG.
		{someNetwork(), "AMS", 1201, 1, []int{1201, 2010, 2940, 10560}}, {someNetwork(), "AMS", 1201, 2, []int{1201, 2010, 2160, 10560}},
	} {
		if got := impl.BestArrivals(c.n, c.from, c.at, c.legs); !slices.Equal(got, c.want) {
			t.Error(c.from, c.at, c.legs, got, c.want)
		}
	}
}

func TestEarliestAt(t *testing.T) {
	n := backNetwork()
	for _, c := range []struct {
		from, to string
		at, want int
	}{
		{"AMS", "END", 0, 359}, {"AMS", "END", 239, 359}, {"AMS", "END", 240, 390}, {"AMS", "END", 241, 1799}, {"BRU", "END", 150, 390}, {"BRU", "END", 151, 1830},
		{"TOP", "END", 0, 390}, {"TOP", "END", -9, 390}, {"TOP", "END", leastInt, 390}, {"TOP", "END", 1, 1830}, {"TOP", "END", 86400, 86790}, {"TOP", "END", 86401, -1},
		{"AMS", "AMS", 0, 0}, {"AMS", "AMS", -1, 0}, {"AMS", "AMS", leastInt, 0}, {"AMS", "AMS", 777, 777}, {"END", "END", 777, 777}, {"AMS", "AMS", impl.MaxTime, impl.MaxTime}, {"AMS", "AMS", impl.MaxTime + 1, -1}, {"AMS", "AMS", greatestInt, -1},
		{"AMS", "TOP", 0, -1}, {"END", "AMS", 0, -1}, {"AMS", "END", impl.MaxTime, -1}, {"AMS", "END", impl.MaxTime + 1, -1}, {"AMS", "END", greatestInt, -1},
		{"AMS", "XYZ", 0, -1}, {"XYZ", "AMS", 0, -1}, {"XYZ", "XYZ", 0, -1}, {"", "AMS", 0, -1}, {"AMS", "", 0, -1}, {"", "", 0, -1}, {"AMS", "end", 0, -1},
	} {
		if got := impl.EarliestAt(n, c.from, c.to, c.at); got != c.want {
			t.Error(c, got)
		}
	}
	if got := impl.EarliestAt(impl.Network{}, "AMS", "AMS", 0); got != -1 {
		t.Error(got)
	}
}

func TestFindWay(t *testing.T) {
	for _, c := range []struct {
		n        impl.Network
		from, to string
		at       int
		want     []impl.Trip
	}{
		{backNetwork(), "AMS", "BRU", 0, trips(0, 0)}, {backNetwork(), "AMS", "END", 0, trips(2, 0, 5, 0)}, {backNetwork(), "AMS", "END", 240, trips(3, 0, 4, 0)}, {backNetwork(), "AMS", "END", 241, trips(2, 1, 5, 1)},
		{backNetwork(), "TOP", "END", 0, trips(6, 0, 1, 0, 3, 0, 4, 0)}, {backNetwork(), "TOP", "END", leastInt, trips(6, 0, 1, 0, 3, 0, 4, 0)}, {backNetwork(), "TOP", "END", 86400, trips(6, 60, 1, 60, 3, 60, 4, 60)},
		// At DDD: one leg where it runs, two legs on day 0; among those, the first leg to DDD that is in time.
		{evenNetwork(), "AAA", "DDD", 1440, trips(6, 1)}, {evenNetwork(), "AAA", "DDD", 0, trips(2, 0, 0, 0)}, {evenNetwork(), "BBB", "DDD", 0, trips(1, 0)},
		{evenNetwork(), "BBB", "DDD", 200, trips(1, 0)}, {evenNetwork(), "AAA", "DDD", 51, trips(2, 0, 0, 0)}, {evenNetwork(), "AAA", "DDD", 101, trips(6, 1)},
		// At EEE: the leg from CCC is the first one, and CCC is reached in time by one leg and by two.
		{evenNetwork(), "AAA", "EEE", 0, trips(2, 0, 7, 0)}, {evenNetwork(), "BBB", "EEE", 0, trips(8, 0)},
		// At BBB: the first leg of those that end together.
		{evenNetwork(), "AAA", "BBB", 0, trips(4, 0)}, {evenNetwork(), "AAA", "CCC", 0, trips(4, 0, 3, 0)},
	} {
		got, ok := impl.FindWay(c.n, c.from, c.to, c.at)
		if !ok || !slices.Equal(got, c.want) {
			t.Error(c.from, c.to, c.at, got, ok, c.want)
		}
	}
}

// The leg from BBB stands behind that from CCC: both ways have two legs and end together.
func TestWaysOfEqualLength(t *testing.T) {
	n := impl.Network{Legs: []impl.Leg{
		{From: "AAA", To: "BBB", Start: 0, Takes: 10, Days: 127},
		{From: "AAA", To: "CCC", Start: 0, Takes: 500, Days: 127},
		{From: "CCC", To: "DDD", Start: 600, Takes: 400, Days: 127},
		{From: "BBB", To: "DDD", Start: 700, Takes: 300, Days: 127},
	}, Change: 100}
	for _, c := range []struct {
		order []int
		want  []impl.Trip
	}{
		{[]int{0, 1, 2, 3}, trips(1, 0, 2, 0)}, {[]int{0, 1, 3, 2}, trips(0, 0, 2, 0)}, {[]int{3, 2, 1, 0}, trips(3, 0, 0, 0)}, {[]int{2, 3, 0, 1}, trips(3, 0, 0, 0)},
	} {
		m := n
		m.Legs = nil
		for _, leg := range c.order {
			m.Legs = append(m.Legs, n.Legs[leg])
		}
		if got, ok := impl.FindWay(m, "AAA", "DDD", 0); !ok || !slices.Equal(got, c.want) {
			t.Error(c, got, ok)
		}
	}
	// One minute more of Change, and the first of the legs is missed.
	n.Change = 101
	if got, ok := impl.FindWay(n, "AAA", "DDD", 0); !ok || !slices.Equal(got, trips(0, 0, 3, 0)) {
		t.Error(got, ok)
	}
}

func TestNoWayIsFound(t *testing.T) {
	for _, c := range []struct {
		n        impl.Network
		from, to string
		at       int
	}{
		{backNetwork(), "END", "AMS", 0}, {backNetwork(), "AMS", "TOP", 0}, {backNetwork(), "TOP", "END", 86401}, {backNetwork(), "AMS", "END", impl.MaxTime}, {backNetwork(), "AMS", "END", impl.MaxTime + 1}, {backNetwork(), "AMS", "END", greatestInt},
		{backNetwork(), "AMS", "AMS", impl.MaxTime + 1}, {backNetwork(), "AMS", "AMS", greatestInt}, {backNetwork(), "AMS", "XYZ", 0}, {backNetwork(), "XYZ", "AMS", 0}, {backNetwork(), "XYZ", "XYZ", 0}, {backNetwork(), "", "", 0},
		{impl.Network{}, "AMS", "AMS", 0}, {impl.Network{}, "", "", 0},
	} {
		if got, ok := impl.FindWay(c.n, c.from, c.to, c.at); ok || len(got) != 0 {
			t.Error(c.from, c.to, c.at, got, ok)
		}
	}
	for _, at := range []int{leastInt, -1, 0, 777, impl.MaxTime} {
		if got, ok := impl.FindWay(backNetwork(), "AMS", "AMS", at); !ok || len(got) != 0 {
			t.Error(at, got, ok)
		}
	}
}

func TestIsWay(t *testing.T) {
	n := backNetwork()
	for _, c := range []struct {
		way      []impl.Trip
		from, to string
		at       int
		want     bool
	}{
		{nil, "AMS", "AMS", 0, true}, {nil, "AMS", "AMS", leastInt, true}, {nil, "AMS", "AMS", impl.MaxTime + 1, true}, {nil, "AMS", "AMS", greatestInt, true}, {nil, "END", "END", -5, true},
		{nil, "AMS", "BRU", 0, false}, {nil, "XYZ", "XYZ", 0, false}, {nil, "", "", 0, false}, {nil, "AMS", "XYZ", 0, false},
		{trips(0, 0), "AMS", "BRU", 0, true}, {trips(0, 0), "AMS", "BRU", 60, true}, {trips(0, 0), "AMS", "BRU", 61, false}, {trips(0, 0), "AMS", "BRU", leastInt, true}, {trips(0, 0), "AMS", "BRU", greatestInt, false},
		{trips(0, 0), "AMS", "AMS", 0, false}, {trips(0, 0), "BRU", "BRU", 0, false}, {trips(0, 0), "BRU", "AMS", 0, false}, {trips(0, 0), "AMS", "CDG", 0, false}, {trips(0, 0), "TOP", "BRU", 0, false}, {trips(0, 0), "AMS", "XYZ", 0, false}, {trips(0, 0), "XYZ", "BRU", 0, false},
		// Over BRU with 30 minutes between, and with none less.
		{trips(0, 0, 1, 0), "AMS", "AMS", 0, true}, {trips(0, 0, 1, 0), "AMS", "AMS", 61, false}, {trips(0, 0, 1, 0), "AMS", "BRU", 0, false}, {trips(1, 0, 0, 0), "BRU", "BRU", 0, false}, {trips(1, 0, 0, 1), "BRU", "BRU", 0, true},
		{trips(6, 0, 1, 0), "TOP", "AMS", 0, true}, {trips(2, 0, 4, 0), "AMS", "END", 0, true}, {trips(2, 0, 5, 0), "AMS", "END", 0, true}, {trips(3, 0, 4, 0), "AMS", "END", 0, true}, {trips(3, 0, 5, 0), "AMS", "END", 0, false}, {trips(3, 0, 5, 1), "AMS", "END", 0, true},
		// A way that leads back over its first place needs time there as everywhere.
		{trips(0, 0, 1, 0, 2, 0), "AMS", "CDG", 0, false}, {trips(0, 0, 1, 0, 3, 0), "AMS", "CDG", 0, true}, {trips(0, 0, 1, 0, 2, 1), "AMS", "CDG", 0, true}, {trips(0, 0, 1, 0, 3, 0, 4, 0), "AMS", "END", 60, true}, {trips(0, 0, 1, 0, 3, 0, 4, 0), "AMS", "END", 61, false},
		// Trips that do not meet, or not in this order, or twice.
		{trips(0, 0, 3, 0), "AMS", "CDG", 0, false}, {trips(0, 0, 4, 0), "AMS", "END", 0, false}, {trips(4, 0, 3, 0), "AMS", "END", 0, false}, {trips(2, 1, 4, 0), "AMS", "END", 0, false}, {trips(0, 0, 0, 0), "AMS", "BRU", 0, false}, {trips(0, 0, 0, 1), "AMS", "BRU", 0, false}, {trips(0, 0, 1, 0, 1, 0), "AMS", "AMS", 0, false},
		// Trips that do not run.
		{trips(0, -1), "AMS", "BRU", leastInt, false}, {trips(0, 61), "AMS", "BRU", 0, false}, {trips(-1, 0), "AMS", "BRU", 0, false}, {trips(7, 0), "AMS", "BRU", 0, false}, {trips(greatestInt, 0), "AMS", "BRU", 0, false}, {trips(0, leastInt), "AMS", "BRU", 0, false}, {trips(0, 60, 1, 61), "AMS", "AMS", 0, false}, {trips(0, 60, 1, 60), "AMS", "AMS", 0, true},
	} {
		if got := impl.IsWay(n, c.way, c.from, c.to, c.at); got != c.want {
			t.Error(c, got)
		}
	}
	n.Off = []int{3}
	if impl.IsWay(n, trips(0, 3), "AMS", "BRU", 0) || impl.IsWay(n, trips(0, 2, 1, 3), "AMS", "AMS", 0) || !impl.IsWay(n, trips(0, 2, 1, 4), "AMS", "AMS", 0) {
		t.Error("a day off")
	}
	if impl.IsWay(impl.Network{}, nil, "AMS", "AMS", 0) || impl.IsWay(impl.Network{}, nil, "", "", 0) {
		t.Error("a network without legs")
	}
}

func TestWayEndsAndSlack(t *testing.T) {
	n := backNetwork()
	n.Off = []int{7}
	for _, c := range []struct {
		way         []impl.Trip
		at          int
		ends, slack int
	}{
		{nil, 0, 0, impl.MaxTime}, {nil, 777, 777, impl.MaxTime}, {nil, -1, -1, impl.MaxTime}, {nil, -777, -777, impl.MaxTime}, {nil, impl.MaxTime + 1, impl.MaxTime + 1, impl.MaxTime}, {nil, greatestInt, greatestInt, impl.MaxTime}, {nil, leastInt, leastInt, impl.MaxTime},
		{trips(0, 0), 0, 120, impl.MaxTime}, {trips(0, 0), 777, 120, impl.MaxTime}, {trips(5, 60), greatestInt, 86759, impl.MaxTime},
		{trips(0, 0, 1, 0), 0, 210, 0}, {trips(0, 0, 1, 1), 0, 1650, 1440}, {trips(2, 0, 4, 0), 0, 390, 1}, {trips(3, 0, 4, 0), 0, 390, 0}, {trips(3, 0, 5, 0), 0, 359, -1},
		{trips(0, 0, 1, 0, 2, 0), 0, 299, -1}, {trips(0, 0, 1, 0, 3, 0), 0, 300, 0}, {trips(0, 0, 1, 1, 3, 1, 4, 1), 0, 1830, 0}, {trips(0, 0, 1, 1, 2, 2), 0, 3179, 1439}, {trips(0, 0, 1, 2, 2, 3), 0, 4619, 1439}, {trips(0, 0, 1, 1, 2, 3), 0, 4619, 1440},
		// No ways: they do not meet, they run one before the other, or all at once.
		{trips(0, 0, 4, 0), 0, 390, 180}, {trips(4, 0, 0, 0), 0, 120, -360}, {trips(0, 0, 0, 0), 0, 120, -90}, {trips(0, 60, 0, 0), 0, 120, -86490}, {trips(6, 0, 5, 60), 0, 86759, 86579},
		{trips(0, -1), 5, -1, -1}, {trips(0, 61), 5, -1, -1}, {trips(0, 7), 5, -1, -1}, {trips(7, 0), 5, -1, -1}, {trips(-1, 0), 5, -1, -1}, {trips(greatestInt, greatestInt), 5, -1, -1}, {trips(leastInt, leastInt), 5, -1, -1},
		{trips(0, 0, 1, 7), 5, -1, -1}, {trips(0, 7, 1, 8), 5, -1, -1}, {trips(0, 6, 1, 7, 3, 8), 5, -1, -1}, {trips(0, 0, 1, 0, 7, 0), 5, -1, -1},
	} {
		if ends, slack := impl.WayEnds(n, c.way, c.at), impl.SlackOf(n, c.way); ends != c.ends || slack != c.slack {
			t.Error(c, ends, slack)
		}
	}
	if n = (impl.Network{}); impl.WayEnds(n, nil, 5) != 5 || impl.SlackOf(n, nil) != impl.MaxTime || impl.WayEnds(n, trips(0, 0), 5) != -1 || impl.SlackOf(n, trips(0, 0)) != -1 {
		t.Error("a network without legs")
	}
}

// The greatest slack that trips can have is below MaxTime: nothing is cut off.
func TestGreatestAndLeastSlack(t *testing.T) {
	n := impl.Network{Legs: []impl.Leg{
		{From: "AMS", To: "BRU", Start: 0, Takes: 1, Days: 127}, {From: "BRU", To: "CDG", Start: impl.DayMinutes - 1, Takes: impl.MaxTakes, Days: 127},
	}}
	if got := impl.SlackOf(n, trips(0, 0, 1, 60)); got != 87838 {
		t.Error(got)
	}
	n.Change = impl.MaxChange
	if got := impl.SlackOf(n, trips(0, 0, 1, 60)); got != 87598 {
		t.Error(got)
	}
	if got := impl.SlackOf(n, trips(1, 60, 0, 0)); got != -92399 {
		t.Error(got)
	}
}

func TestLatestStarts(t *testing.T) {
	for _, c := range []struct {
		n    impl.Network
		to   string
		by   int
		want []int
	}{
		// The places are AMS, BRU, CDG, END and TOP.
		{backNetwork(), "END", 358, []int{-1, -1, -1, 358, -1}}, {backNetwork(), "END", 359, []int{239, -1, 329, 359, -1}}, {backNetwork(), "END", 389, []int{239, -1, 329, 389, -1}}, {backNetwork(), "END", 390, []int{240, 150, 330, 390, 0}},
		{backNetwork(), "END", 1798, []int{240, 150, 330, 1798, 0}}, {backNetwork(), "END", 1799, []int{1679, 150, 1769, 1799, 0}}, {backNetwork(), "END", 1830, []int{1680, 1590, 1770, 1830, 1440}},
		{backNetwork(), "END", 0, []int{-1, -1, -1, 0, -1}}, {backNetwork(), "END", impl.MaxTime, []int{86640, 86550, 86730, impl.MaxTime, 86400}}, {backNetwork(), "END", impl.MaxTime + 1, []int{86640, 86550, 86730, impl.MaxTime + 1, 86400}},
		{backNetwork(), "END", greatestInt, []int{86640, 86550, 86730, greatestInt, 86400}}, {backNetwork(), "END", greatestInt - 1, []int{86640, 86550, 86730, greatestInt - 1, 86400}},
		// From AMS over BRU back to AMS leads a way as well, and AMS is left by it: but nothing later than by.
		{backNetwork(), "AMS", 210, []int{210, 150, -1, -1, 0}}, {backNetwork(), "AMS", 209, []int{209, -1, -1, -1, -1}}, {backNetwork(), "AMS", 2000, []int{2000, 1590, -1, -1, 1440}}, {backNetwork(), "AMS", greatestInt, []int{greatestInt, 86550, -1, -1, 86400}},
		{backNetwork(), "BRU", 120, []int{60, 120, -1, -1, 0}}, {backNetwork(), "BRU", 119, []int{-1, 119, -1, -1, -1}}, {backNetwork(), "BRU", 0, []int{-1, 0, -1, -1, -1}},
		{backNetwork(), "TOP", 5000, []int{-1, -1, -1, -1, 5000}}, {backNetwork(), "TOP", 0, []int{-1, -1, -1, -1, 0}},
		{backNetwork(), "END", -1, nil}, {backNetwork(), "END", leastInt, nil}, {backNetwork(), "XYZ", 5000, nil}, {backNetwork(), "", 5000, nil}, {backNetwork(), "end", 5000, nil}, {backNetwork(), "XYZ", -1, nil},
		{impl.Network{}, "AMS", 5000, nil}, {impl.Network{}, "", 5000, nil},
	} {
		if got := impl.LatestStarts(c.n, c.to, c.by); !slices.Equal(got, c.want) {
			t.Error(c.to, c.by, got, c.want)
		}
	}
}

// From CCC, the way over BBB leads on to AAA and back; what arrives at BBB by 300 only ends there.
func TestNoWayLeadsOverItsEnd(t *testing.T) {
	n := impl.Network{Legs: []impl.Leg{
		{From: "CCC", To: "BBB", Start: 100, Takes: 200, Days: 1},
		{From: "BBB", To: "AAA", Start: 400, Takes: 100, Days: 127},
		{From: "AAA", To: "BBB", Start: 600, Takes: 100, Days: 127},
	}, Change: 60}
	for _, c := range []struct {
		by   int
		want []int
	}{
		{299, []int{-1, 299, -1}}, {300, []int{-1, 300, 100}}, {699, []int{-1, 699, 100}}, {700, []int{600, 700, 100}}, {2139, []int{600, 2139, 100}}, {2140, []int{2040, 2140, 100}}, {20000, []int{19320, 20000, 10180}},
	} {
		if got := impl.LatestStarts(n, "BBB", c.by); !slices.Equal(got, c.want) {
			t.Error(c, got)
		}
	}
}

func TestLatestStart(t *testing.T) {
	n := backNetwork()
	for _, c := range []struct {
		from, to string
		by, want int
	}{
		{"AMS", "END", 358, -1}, {"AMS", "END", 359, 239}, {"AMS", "END", 390, 240}, {"TOP", "END", 389, -1}, {"TOP", "END", 390, 0}, {"CDG", "END", 389, 329}, {"CDG", "END", 390, 330}, {"TOP", "END", greatestInt, 86400},
		{"END", "END", 0, 0}, {"END", "END", 777, 777}, {"END", "END", greatestInt, greatestInt}, {"END", "END", -1, -1}, {"END", "END", leastInt, -1}, {"AMS", "AMS", 5000, 5000},
		{"END", "AMS", 5000, -1}, {"AMS", "TOP", 5000, -1}, {"AMS", "XYZ", 5000, -1}, {"XYZ", "AMS", 5000, -1}, {"XYZ", "XYZ", 5000, -1}, {"", "", 5000, -1}, {"", "END", 5000, -1}, {"AMS", "END", -1, -1}, {"AMS", "END", leastInt, -1},
	} {
		if got := impl.LatestStart(n, c.from, c.to, c.by); got != c.want {
			t.Error(c, got)
		}
	}
	if got := impl.LatestStart(impl.Network{}, "AMS", "AMS", 0); got != -1 {
		t.Error(got)
	}
}

func TestReachedBy(t *testing.T) {
	n := backNetwork()
	for _, c := range []struct {
		from   string
		at, by int
		want   []string
	}{
		{"AMS", 0, 0, []string{"AMS"}}, {"AMS", 0, 119, []string{"AMS"}}, {"AMS", 0, 120, []string{"AMS", "BRU"}}, {"AMS", 0, 298, []string{"AMS", "BRU"}}, {"AMS", 0, 299, []string{"AMS", "BRU", "CDG"}}, {"AMS", 0, 359, []string{"AMS", "BRU", "CDG", "END"}},
		{"AMS", 0, greatestInt, []string{"AMS", "BRU", "CDG", "END"}}, {"AMS", 0, -1, nil}, {"AMS", 0, leastInt, nil}, {"AMS", -10, -1, nil}, {"AMS", leastInt, -5, nil}, {"AMS", leastInt, 0, []string{"AMS"}}, {"AMS", -10, 120, []string{"AMS", "BRU"}},
		{"AMS", 61, 60, nil}, {"AMS", 61, 61, []string{"AMS"}}, {"AMS", 61, 299, []string{"AMS", "CDG"}}, {"AMS", 61, 1559, []string{"AMS", "CDG", "END"}}, {"TOP", 0, 389, []string{"AMS", "BRU", "CDG", "TOP"}}, {"TOP", 0, 390, []string{"AMS", "BRU", "CDG", "END", "TOP"}},
		{"END", 5, greatestInt, []string{"END"}}, {"END", 5, 4, nil}, {"AMS", impl.MaxTime, impl.MaxTime, []string{"AMS"}}, {"AMS", impl.MaxTime, impl.MaxTime - 1, nil}, {"AMS", impl.MaxTime + 1, greatestInt, nil}, {"AMS", greatestInt, greatestInt, nil},
		{"XYZ", 0, greatestInt, nil}, {"", 0, greatestInt, nil},
	} {
		if got := impl.ReachedBy(n, c.from, c.at, c.by); !slices.Equal(got, c.want) {
			t.Error(c, got)
		}
	}
	if got := impl.ReachedBy(impl.Network{}, "AMS", 0, impl.MaxTime); len(got) != 0 {
		t.Error(got)
	}
}

func TestChoicesOf(t *testing.T) {
	// The choices at DDD: one leg on day 1, two legs and three legs earlier.
	n := impl.Network{Legs: []impl.Leg{
		{From: "AAA", To: "DDD", Start: 1000, Takes: 300, Days: 2},
		{From: "AAA", To: "BBB", Start: 100, Takes: 100, Days: 127}, {From: "BBB", To: "DDD", Start: 200, Takes: 1400, Days: 127},
		{From: "BBB", To: "CCC", Start: 200, Takes: 100, Days: 127}, {From: "CCC", To: "DDD", Start: 300, Takes: 100, Days: 127},
		{From: "CCC", To: "EEE", Start: 300, Takes: 100, Days: 127}, {From: "EEE", To: "DDD", Start: 300, Takes: 100, Days: 127}, {From: "AAA", To: "FFF", Start: 1, Takes: 1, Days: 127},
		{From: "FFF", To: "GGG", Start: 2, Takes: 1, Days: 127}, {From: "GGG", To: "DDD", Start: 3, Takes: 397, Days: 127},
	}}
	for _, c := range []struct {
		from, to string
		at       int
		want     []impl.Choice
	}{
		{"AAA", "DDD", 0, []impl.Choice{{Legs: 1, Ends: 2740}, {Legs: 2, Ends: 1600}, {Legs: 3, Ends: 400}}}, {"AAA", "DDD", 1441, []impl.Choice{{Legs: 1, Ends: 2740}, {Legs: 3, Ends: 1840}}},
		{"AAA", "EEE", 0, []impl.Choice{{Legs: 3, Ends: 400}}}, {"BBB", "DDD", 0, []impl.Choice{{Legs: 1, Ends: 1600}, {Legs: 2, Ends: 400}}}, {"EEE", "DDD", 0, []impl.Choice{{Legs: 1, Ends: 400}}}, {"CCC", "DDD", 0, []impl.Choice{{Legs: 1, Ends: 400}}},
		{"AAA", "AAA", 0, []impl.Choice{{Legs: 0, Ends: 0}}}, {"AAA", "AAA", -5, []impl.Choice{{Legs: 0, Ends: 0}}}, {"AAA", "AAA", 777, []impl.Choice{{Legs: 0, Ends: 777}}}, {"DDD", "DDD", impl.MaxTime, []impl.Choice{{Legs: 0, Ends: impl.MaxTime}}},
		{"DDD", "AAA", 0, nil}, {"AAA", "DDD", impl.MaxTime, nil}, {"AAA", "DDD", impl.MaxTime + 1, nil}, {"AAA", "AAA", impl.MaxTime + 1, nil}, {"AAA", "AAA", greatestInt, nil}, {"AAA", "DDD", leastInt, []impl.Choice{{Legs: 1, Ends: 2740}, {Legs: 2, Ends: 1600}, {Legs: 3, Ends: 400}}},
		{"AAA", "XYZ", 0, nil}, {"XYZ", "AAA", 0, nil}, {"XYZ", "XYZ", 0, nil}, {"", "", 0, nil},
	} {
		if got := impl.ChoicesOf(n, c.from, c.to, c.at); !slices.Equal(got, c.want) {
			t.Error(c, got)
		}
	}
	if got := impl.ChoicesOf(impl.Network{}, "AAA", "AAA", 0); len(got) != 0 {
		t.Error(got)
	}
}

// A way over all 21 places that a network can have in one line needs all its legs.
func TestALineOfLegs(t *testing.T) {
	n := impl.Network{}
	for i := range impl.MaxLegs {
		n.Legs = append(n.Legs, impl.Leg{From: "AA" + string(rune('A'+i)), To: "AA" + string(rune('B'+i)), Start: 60 * i, Takes: 60, Days: 127})
	}
	slices.Reverse(n.Legs)
	way, ok := impl.FindWay(n, "AAA", "AAU", 0)
	if !ok || len(way) != impl.MaxLegs || way[0] != (impl.Trip{Leg: 19}) || way[19] != (impl.Trip{}) || impl.EarliestAt(n, "AAA", "AAU", 0) != 1200 || impl.SlackOf(n, way) != 0 {
		t.Error(way, ok)
	}
	if got := impl.ChoicesOf(n, "AAA", "AAU", 0); !slices.Equal(got, []impl.Choice{{Legs: 20, Ends: 1200}}) {
		t.Error(got)
	}
	for legs := range 25 {
		for i, ends := range impl.BestArrivals(n, "AAA", 0, legs) {
			if want := 60 * i; i <= legs && ends != want || i > legs && ends != -1 {
				t.Error(legs, i, ends)
			}
		}
	}
	for i, start := range impl.LatestStarts(n, "AAU", 1200) {
		if want := 60 * i; start != want {
			t.Error(i, start)
		}
	}
	// With a Change of one minute each leg is a day later.
	n.Change = 1
	if got := impl.EarliestAt(n, "AAA", "AAU", 0); got != 19*1440+1200 {
		t.Error(got)
	}
	if got := impl.LatestStart(n, "AAA", "AAU", 19*1440+1200); got != 0 {
		t.Error(got)
	}
	if got := impl.LatestStart(n, "AAA", "AAU", 19*1440+1199); got != -1 {
		t.Error(got)
	}
}

func TestPromiseOf(t *testing.T) {
	for _, c := range []struct{ ends, promise int }{
		{1, 1080}, {1079, 1080}, {1080, 1080}, {1081, 2520}, {1439, 2520}, {1440, 2520}, {2519, 2520}, {2520, 2520}, {2521, 3960},
	} {
		l := someLeg()
		l.Start, l.Takes = 0, c.ends
		n := withLeg(l)
		for service, days := range map[int]int{impl.ServiceFast: 0, impl.ServiceWeek: 1, impl.ServiceSlow: 4} {
			if got := impl.PromiseOf(n, service, "AMS", "CDG", 0); got != c.promise+1440*days {
				t.Error(c, service, got)
			}
		}
		for _, service := range []int{0, 4, -1, greatestInt, leastInt} {
			if got := impl.PromiseOf(n, service, "AMS", "CDG", 0); got != -1 {
				t.Error(c, service, got)
			}
		}
	}
	n := backNetwork()
	for _, c := range []struct {
		service  int
		from, to string
		at, want int
	}{
		{1, "AMS", "AMS", 0, 1080}, {1, "AMS", "AMS", -1, 1080}, {1, "AMS", "AMS", leastInt, 1080}, {1, "AMS", "AMS", 1080, 1080}, {1, "AMS", "AMS", 1081, 2520}, {3, "AMS", "AMS", 1081, 8280}, {2, "AMS", "AMS", 1079, 2520},
		{1, "AMS", "AMS", impl.MaxTime, 100440}, {2, "AMS", "AMS", impl.MaxTime, 101880}, {3, "AMS", "AMS", impl.MaxTime, 106200}, {1, "AMS", "AMS", impl.MaxTime + 1, -1}, {1, "AMS", "AMS", greatestInt, -1},
		{1, "AMS", "END", 0, 1080}, {2, "AMS", "END", 241, 3960}, {1, "END", "AMS", 0, -1}, {2, "AMS", "TOP", 0, -1}, {3, "AMS", "END", impl.MaxTime, -1}, {3, "AMS", "XYZ", 0, -1}, {3, "XYZ", "AMS", 0, -1}, {3, "XYZ", "XYZ", 0, -1}, {0, "END", "AMS", 0, -1},
	} {
		if got := impl.PromiseOf(n, c.service, c.from, c.to, c.at); got != c.want {
			t.Error(c, got)
		}
	}
	if got := impl.PromiseOf(impl.Network{}, 1, "AMS", "AMS", 0); got != -1 {
		t.Error(got)
	}
}

func TestNoWaysInABadNetwork(t *testing.T) {
	for _, n := range badNetworks() {
		for _, to := range []string{"AMS", "CDG"} {
			way, ok := impl.FindWay(n, "AMS", to, 0)
			if ok || len(way) != 0 || impl.EarliestAt(n, "AMS", to, 0) != -1 || impl.LatestStart(n, "AMS", to, 5000) != -1 || impl.PromiseOf(n, 1, "AMS", to, 0) != -1 || len(impl.ChoicesOf(n, "AMS", to, 0)) != 0 {
				t.Error(n, to, way)
			}
		}
		if len(impl.BestArrivals(n, "AMS", 0, 2)) != 0 || len(impl.LatestStarts(n, "CDG", 5000)) != 0 || len(impl.ReachedBy(n, "AMS", 0, 5000)) != 0 {
			t.Error(n)
		}
		if impl.IsWay(n, nil, "AMS", "AMS", 0) || impl.IsWay(n, trips(0, 0), "AMS", "CDG", 0) {
			t.Error(n)
		}
		if impl.WayEnds(n, nil, 5) != -1 || impl.WayEnds(n, trips(0, 0), 5) != -1 || impl.SlackOf(n, nil) != -1 || impl.SlackOf(n, trips(0, 0)) != -1 || impl.SlackOf(n, trips(0, 0, 0, 1)) != -1 {
			t.Error(n)
		}
	}
}

// someTimes are within the days of a network, around its starts and ends, or far off.
func someTimes(r *rand.Rand, n impl.Network) []int {
	rides := ridesOf(n)
	l := []int{0, r.Intn(90000), r.Intn(10000)}
	if len(rides) > 0 {
		some := rides[r.Intn(len(rides))]
		l = append(l, some.start-1, some.start, some.start+1, some.end-1, some.end, some.end+1)
	}
	return append(l, []int{leastInt, -1, 87839, 92159, impl.MaxTime}[r.Intn(5)])
}

// Promise 4: no way whatever arrives earlier, and none that arrives then has fewer legs.
func TestWaysArriveFirst(t *testing.T) {
	r := rand.New(rand.NewSource(41))
	longest, missed := 0, 0
	for round := range 60 {
		n := wayNetworkAtRandom(r)
		if round%3 == 0 {
			n = networkAtRandom(r)
		}
		places := impl.PlacesOf(n)
		if len(places) == 0 {
			continue
		}
		for _, at := range someTimes(r, n) {
			from := places[r.Intn(len(places))]
			byLegs := arrivalsByRides(n, from, at, len(places)+1)
			for legs, arrivals := range byLegs {
				if got, want := impl.BestArrivals(n, from, at, legs), inOrderOf(n, arrivals); !slices.Equal(got, want) {
					t.Error(n, from, at, legs, got, want)
				}
			}
			for _, to := range places {
				checkWay(t, n, byLegs, from, to, at)
				way, ok := impl.FindWay(n, from, to, at)
				longest = max(longest, len(way))
				if !ok {
					missed++
				}
			}
		}
	}
	if longest < 4 || missed == 0 {
		t.Error(longest, missed)
	}
}

func checkWay(t *testing.T, n impl.Network, byLegs []map[string]int, from, to string, at int) {
	t.Helper()
	last := byLegs[len(byLegs)-1]
	want, found := wayByRides(n, byLegs, from, to)
	way, ok := impl.FindWay(n, from, to, at)
	if ok != found || !slices.Equal(way, want) {
		t.Error(n, from, to, at, way, ok, want, found)
	}
	ends := -1
	if found {
		ends = last[to]
	}
	if got := impl.EarliestAt(n, from, to, at); got != ends {
		t.Error(n, from, to, at, got, ends)
	}
	if ok && (!impl.IsWay(n, way, from, to, at) || !isWayByRides(n, ridesOf(n), way, from, to, at) || impl.WayEnds(n, way, max(at, 0)) != ends || impl.SlackOf(n, way) < 0) {
		t.Error(n, from, to, at, way, ends)
	}
	var choices []impl.Choice
	before := never
	for legs, arrivals := range byLegs {
		if arrivals[to] < before {
			before = arrivals[to]
			choices = append(choices, impl.Choice{Legs: legs, Ends: before})
		}
	}
	if got := impl.ChoicesOf(n, from, to, at); !slices.Equal(got, choices) {
		t.Error(n, from, to, at, got, choices)
	}
	for _, by := range []int{ends - 1, ends, ends + 1} {
		reached := slices.Contains(impl.ReachedBy(n, from, at, by), to)
		if reached != (found && ends <= by) {
			t.Error(n, from, to, at, by, reached)
		}
	}
	for service, days := range []int{0, 0, 1, 4} {
		promise := impl.PromiseOf(n, service, from, to, at)
		if service == 0 || !found {
			if promise != -1 {
				t.Error(n, service, from, to, at, promise)
			}
			continue
		}
		if first := promise - 1440*days; first%1440 != 1080 || first < ends || first-1440 >= ends && first > 1080 {
			t.Error(n, service, from, to, at, promise, ends)
		}
	}
}

// Promise 4: no way whatever that starts later is in time, and one that starts then is.
func TestLatestStartsAreInTime(t *testing.T) {
	r := rand.New(rand.NewSource(42))
	found := 0
	for round := range 80 {
		n := wayNetworkAtRandom(r)
		if round%3 == 0 {
			n = networkAtRandom(r)
		}
		places := impl.PlacesOf(n)
		for _, by := range append(someTimes(r, n), greatestInt) {
			if len(places) == 0 || by < 0 {
				continue
			}
			to := places[r.Intn(len(places))]
			starts := startsByRides(n, to, by)
			if got, want := impl.LatestStarts(n, to, by), inOrderOf(n, starts); !slices.Equal(got, want) {
				t.Error(n, to, by, got, want)
			}
			for _, from := range places {
				start := impl.LatestStart(n, from, to, by)
				if want, leads := starts[from]; leads && start != want || !leads && start != -1 {
					t.Error(n, from, to, by, start, want)
				}
				if start == -1 || from == to {
					continue
				}
				found++
				soon, later := impl.EarliestAt(n, from, to, start), impl.EarliestAt(n, from, to, start+1)
				if soon == -1 || soon > by || later != -1 && later <= by {
					t.Error(n, from, to, by, start, soon, later)
				}
			}
		}
	}
	if found == 0 {
		t.Error("no start was found")
	}
}

// listsOf calls do with every list of at most so many of the trips.
func listsOf(trips []impl.Trip, most int, list []impl.Trip, do func(way []impl.Trip)) {
	do(list)
	if len(list) == most {
		return
	}
	for _, trip := range trips {
		listsOf(trips, most, append(slices.Clone(list), trip), do)
	}
}

// Promise 4, by all lists of up to three trips of two days, of which most are no ways.
func TestNoListOfTripsIsBetter(t *testing.T) {
	r := rand.New(rand.NewSource(43))
	ways, more := 0, 0
	for range 12 {
		n := wayNetworkAtRandom(r)
		n.Legs = n.Legs[:min(len(n.Legs), 6)]
		for i := range n.Legs {
			places := []string{"AMS", "CDG", "DUB"}
			n.Legs[i].From, n.Legs[i].To = places[i%3], places[(i+1+i/3%2)%3]
			n.Legs[i].Days |= 1 << r.Intn(3)
		}
		places := impl.PlacesOf(n)
		day := r.Intn(50)
		var some []impl.Trip
		for leg := range n.Legs {
			some = append(some, impl.Trip{Leg: leg, Day: day}, impl.Trip{Leg: leg, Day: day + 1})
		}
		from, to := places[r.Intn(len(places))], places[r.Intn(len(places))]
		at, by := day*1440+60*r.Intn(8), day*1440+2880-60*r.Intn(12)
		first, start := impl.EarliestAt(n, from, to, at), impl.LatestStart(n, from, to, by)
		best, _ := impl.FindWay(n, from, to, at)
		rides := ridesOf(n)
		listsOf(some, 3, nil, func(way []impl.Trip) {
			isWay := impl.IsWay(n, way, from, to, at)
			if isWay != isWayByRides(n, rides, way, from, to, at) {
				t.Error(n, way, from, to, at, isWay)
			}
			if !isWay {
				return
			}
			ways++
			if len(way) > 1 {
				more++
			}
			ends := impl.WayEnds(n, way, at)
			if first == -1 || ends < first || ends == first && len(way) < len(best) || impl.SlackOf(n, way) < 0 {
				t.Error(n, way, from, to, at, first, best)
			}
			if len(way) > 0 && ends <= by && impl.StartsAt(n, way[0]) > start {
				t.Error(n, way, from, to, by, start)
			}
		})
	}
	if ways == 0 || more == 0 {
		t.Error(ways, more)
	}
}

func TestWayResultsAreNewMemory(t *testing.T) {
	n := backNetwork()
	all := func() string {
		way, _ := impl.FindWay(n, "AMS", "END", 0)
		return fmt.Sprint(impl.BestArrivals(n, "AMS", 0, 5), way, impl.LatestStarts(n, "END", 390), impl.ReachedBy(n, "AMS", 0, 390), impl.ChoicesOf(n, "AMS", "END", 0))
	}
	before := all()
	way, _ := impl.FindWay(n, "AMS", "END", 0)
	way[0].Leg = 77
	impl.BestArrivals(n, "AMS", 0, 5)[0] = 77
	impl.LatestStarts(n, "END", 390)[0] = 77
	impl.ReachedBy(n, "AMS", 0, 390)[0] = "changed"
	impl.ChoicesOf(n, "AMS", "END", 0)[0].Ends = 77
	if after := all(); after != before {
		t.Error(before, after)
	}
}

func TestWayArgumentsStay(t *testing.T) {
	n := backNetwork()
	n.Off = []int{5, 6}
	way := withSpare(trips(0, 0, 1, 0))
	n.Legs, n.Off = withSpare(n.Legs), withSpare(n.Off)
	whole := func() []any {
		return []any{slices.Clone(n.Legs[:cap(n.Legs)]), slices.Clone(n.Off[:cap(n.Off)]), slices.Clone(way[:cap(way)])}
	}
	before := whole()
	impl.BestArrivals(n, "AMS", 0, 5)
	impl.EarliestAt(n, "AMS", "END", 0)
	impl.FindWay(n, "AMS", "END", 0)
	impl.IsWay(n, way, "AMS", "AMS", 0)
	impl.WayEnds(n, way, 0)
	impl.SlackOf(n, way)
	impl.LatestStarts(n, "END", 5000)
	impl.LatestStart(n, "AMS", "END", 5000)
	impl.ReachedBy(n, "AMS", 0, 5000)
	impl.ChoicesOf(n, "AMS", "END", 0)
	impl.PromiseOf(n, 1, "AMS", "END", 0)
	if after := whole(); !reflect.DeepEqual(after, before) {
		t.Error(after, before)
	}
}
