package tests

import (
	"fmt"
	"math/rand"
	"reflect"
	"slices"
	"sort"
	"strings"
	"testing"

	"loop.example/g03014/impl"
)

// lineNetwork leads from AMS to OSL in three legs, with changes that are just long enough; one leg passes CDG, and one leads
// back to AMS, a minute too early for what came from there. No leg leaves OSL.
func lineNetwork() impl.Network {
	return impl.Network{Legs: []impl.Leg{
		{From: "AMS", To: "CDG", Start: 480, Takes: 90, Days: 127},
		{From: "CDG", To: "DUB", Start: 600, Takes: 120, Days: 127},
		{From: "DUB", To: "OSL", Start: 750, Takes: 60, Days: 127},
		{From: "AMS", To: "DUB", Start: 490, Takes: 400, Days: 127},
		{From: "CDG", To: "AMS", Start: 599, Takes: 31, Days: 127},
	}, Off: []int{1, 3, 4, 5, 6}, Change: 30}
}

func lineWithChange(change int) impl.Network {
	n := lineNetwork()
	n.Change = change
	return n
}

func rideOf(rides []ride, trip impl.Trip) ride {
	return rides[slices.IndexFunc(rides, func(x ride) bool { return x.trip == trip })]
}

// wantedNear finds, of the scans that stay, the last one up to a time and the next one.
func wantedNear(stay []impl.Scan, at int) (last, next *impl.Scan) {
	for i := range stay {
		if stay[i].At <= at {
			last = &stay[i]
		} else if next == nil {
			next = &stay[i]
		}
	}
	return last, next
}

// onlyRide is the ride of which the rules before the last one tell where the thing is.
func onlyRide(rides []ride, last, next *impl.Scan, at int) (ride, bool) {
	if next != nil && next.Kind == impl.ScanDrop {
		if x := rideOf(rides, next.Trip); x.start <= at {
			return x, true
		}
	}
	if last.Kind == impl.ScanLoad {
		if x := rideOf(rides, last.Trip); x.end > at {
			return x, true
		}
	}
	return ride{}, false
}

// isBetween asks whether what is free behind a scan gets to a spot, and from another one to the next scan.
func isBetween(n impl.Network, rides []ride, last, next *impl.Scan, to, from impl.Spot) bool {
	behind, _ := wantedSpots(n, *last)
	if !isReachedBy(n, rides, behind, to) {
		return false
	}
	if next == nil {
		return true
	}
	_, before := wantedSpots(n, *next)
	return isReachedBy(n, rides, from, before)
}

func mayWantedBeAt(n impl.Network, rides []ride, stay []impl.Scan, at int, place string) bool {
	last, next := wantedNear(stay, at)
	if last == nil || last.Kind == impl.ScanDone {
		return false
	}
	if x, only := onlyRide(rides, last, next, at); only {
		return at < x.start && place == x.from || at >= x.end && place == x.to
	}
	here := impl.Spot{Place: place, At: at}
	return isBetween(n, rides, last, next, here, here)
}

func mayWantedRide(n impl.Network, rides []ride, stay []impl.Scan, at int, x ride) bool {
	last, next := wantedNear(stay, at)
	if last == nil || last.Kind == impl.ScanDone || at < x.start || at >= x.end {
		return false
	}
	if only, ok := onlyRide(rides, last, next, at); ok {
		return only == x
	}
	return isBetween(n, rides, last, next, impl.Spot{Place: x.from, At: x.start}, impl.Spot{Place: x.to, At: x.end})
}

// placesIn does not sort before it has all: each place is put where it belongs.
func placesIn(n impl.Network) []string {
	places := []string{}
	for _, l := range n.Legs {
		for _, place := range []string{l.From, l.To} {
			if at := sort.SearchStrings(places, place); at == len(places) || places[at] != place {
				places = slices.Insert(places, at, place)
			}
		}
	}
	return places
}

// wantedBelief asks for each place and each trip on its own, by the words of the document.
func wantedBelief(n impl.Network, rides []ride, stay []impl.Scan, at int) impl.Belief {
	b := impl.Belief{}
	for _, place := range placesIn(n) {
		if mayWantedBeAt(n, rides, stay, at, place) {
			b.Places = append(b.Places, place)
		}
	}
	for _, x := range rides {
		if mayWantedRide(n, rides, stay, at, x) {
			b.Rides = append(b.Rides, x.trip)
		}
	}
	sort.Slice(b.Rides, func(i, j int) bool { return b.Rides[i].Day*20+b.Rides[i].Leg < b.Rides[j].Day*20+b.Rides[j].Leg })
	return b
}

// wantedSoonest tries the end of each ride to the place.
func wantedSoonest(n impl.Network, rides []ride, stay []impl.Scan, place string) int {
	if len(stay) == 0 || stay[len(stay)-1].Kind == impl.ScanDone {
		return -1
	}
	behind, _ := wantedSpots(n, stay[len(stay)-1])
	if behind.Place == place {
		return behind.At
	}
	soonest := -1
	for _, x := range rides {
		if x.to == place && (soonest < 0 || x.end < soonest) && isReachedBy(n, rides, behind, impl.Spot{Place: place, At: x.end}) {
			soonest = x.end
		}
	}
	return soonest
}

func wantedMet(a, b impl.Belief) []string {
	met := []string{}
	for _, place := range a.Places {
		if slices.Contains(b.Places, place) {
			met = append(met, place)
		}
	}
	return met
}

func beliefText(b impl.Belief) string {
	text := ""
	for _, place := range b.Places {
		text += " " + place
	}
	for _, trip := range b.Rides {
		text += fmt.Sprintf(" %d/%d", trip.Leg, trip.Day)
	}
	if text == "" {
		return "unknown"
	}
	return text[1:]
}

func sameBeliefs(a, b impl.Belief) bool {
	return slices.Equal(a.Places, b.Places) && slices.Equal(a.Rides, b.Rides)
}

// askedBelief asks for everything that there may be, and for something of what there can not be.
func askedBelief(n impl.Network, l []impl.Scan, thing, at int) impl.Belief {
	b := impl.Belief{}
	for _, place := range append([]string{"", "AM", "AAAA"}, append(placesIn(n), "ZZZZ", "ams")...) {
		if impl.MayBeAt(n, l, thing, at, place) {
			b.Places = append(b.Places, place)
		}
	}
	today := max(min(at, impl.MaxTime), 0) / 1440
	days := []int{leastInt, -1, 0, 1, 60, 61, greatestInt, today - 4, today - 3, today - 2, today - 1, today, today + 1}
	slices.Sort(days)
	for _, day := range slices.Compact(days) {
		for leg := -1; leg <= len(n.Legs); leg++ {
			if trip := (impl.Trip{Leg: leg, Day: day}); impl.MayRide(n, l, thing, at, trip) {
				b.Rides = append(b.Rides, trip)
			}
		}
	}
	return b
}

type beliefCase struct {
	at   int
	want string
}

// checkBeliefs holds what is told of thing 5 against a text, which must also be what the document's words give; the scans come
// in two orders, doubled, and among what is not to be looked at.
func checkBeliefs(t *testing.T, n impl.Network, l []impl.Scan, cases []beliefCase) {
	t.Helper()
	rides := ridesOf(n)
	_, stay := wantedStay(n, rides, wantedOf(n, l, 5))
	back := slices.Clone(l)
	slices.Reverse(back)
	mixed := append([]impl.Scan{hereAt(4, 0, "DUB"), {}, dropAt(5, 0, 0, 0)}, append(back, append(l, doneAt(6, 0, "OSL"), hereAt(5, 1, "XYZ"))...)...)
	for _, c := range cases {
		want := wantedBelief(n, rides, stay, c.at)
		if s := beliefText(want); s != c.want {
			t.Error(l, c, "not by the document:", s)
		}
		for _, given := range [][]impl.Scan{l, mixed} {
			got := impl.BeliefOf(n, given, 5, c.at)
			doubt := len(want.Places) + len(want.Rides)
			if s := impl.FormatBelief(got); s != c.want || !sameBeliefs(got, want) || impl.Doubt(got) != doubt || impl.IsSure(n, given, 5, c.at) != (doubt == 1) {
				t.Error(given, c, got, s, impl.Doubt(got))
			}
			if asked := askedBelief(n, given, 5, c.at); !sameBeliefs(asked, want) {
				t.Error(given, c, asked)
			}
			if met := impl.MetAt(n, given, 5, 5, c.at); !slices.Equal(met, want.Places) {
				t.Error(given, c, met)
			}
		}
	}
}

func TestBeliefConstants(t *testing.T) {
	if impl.MaxRides != 60 {
		t.Error(impl.MaxRides)
	}
}

// checkUnknown asks for everything of a thing of which nothing is known at a time.
func checkUnknown(t *testing.T, n impl.Network, l []impl.Scan, thing, at int) {
	t.Helper()
	if b := impl.BeliefOf(n, l, thing, at); len(b.Places) != 0 || len(b.Rides) != 0 || impl.IsSure(n, l, thing, at) {
		t.Error(n, l, thing, at, b)
	}
	for _, place := range []string{"AMS", "CDG", "DUB", "OSL", "XYZ", ""} {
		if impl.MayBeAt(n, l, thing, at, place) {
			t.Error(n, l, thing, at, place)
		}
	}
	for _, trip := range append(trips(0, 0, 1, 0, 3, 0, 0, 1, 1, 1), noTrips()...) {
		if impl.MayRide(n, l, thing, at, trip) {
			t.Error(n, l, thing, at, trip)
		}
	}
	known := []impl.Scan{hereAt(7, 0, "AMS")}
	for _, other := range []int{thing, 7} {
		if a, b := impl.MetAt(n, append(known, l...), thing, other, at), impl.MetAt(n, append(known, l...), other, thing, at); len(a) != 0 || len(b) != 0 {
			t.Error(n, l, thing, other, at, a, b)
		}
	}
}

func extremeTimes() []int {
	return []int{leastInt, leastInt + 1, -1440, -1, 0, 1, 480, 570, 700, impl.MaxTime - 1, impl.MaxTime, impl.MaxTime + 1, greatestInt - 1, greatestInt}
}

func TestNothingIsBelievedInABadNetwork(t *testing.T) {
	l := []impl.Scan{hereAt(5, 0, "AMS"), loadAt(5, 480, 0, 0), dropAt(5, 600, 0, 0), hereAt(5, 700, ""), {}}
	for _, n := range append(badNetworks(), impl.Network{}, impl.Network{Change: -1}) {
		for _, at := range extremeTimes() {
			checkUnknown(t, n, l, 5, at)
		}
		for _, place := range []string{"AMS", "CDG", "", "XYZ"} {
			if got := impl.SoonestAt(n, l, 5, place); got != -1 {
				t.Error(n, place, got)
			}
		}
	}
}

func TestNothingIsBelievedOfWhatWasNotSeen(t *testing.T) {
	n := lineNetwork()
	l := []impl.Scan{hereAt(5, 0, "AMS"), hereAt(1, 0, "AMS"), hereAt(impl.MaxId, 0, "AMS"), hereAt(0, 0, "AMS"), hereAt(-5, 0, "AMS"), hereAt(impl.MaxId+1, 0, "AMS"), hereAt(leastInt, 0, "AMS"), hereAt(greatestInt, 0, "AMS")}
	var bad []impl.Scan
	for _, s := range l {
		s.Kind += 5
		bad = append(bad, s)
	}
	for _, at := range extremeTimes() {
		for _, thing := range []int{6, 2, 0, -5, impl.MaxId + 1, leastInt, greatestInt} {
			checkUnknown(t, n, l, thing, at)
		}
		for _, thing := range []int{5, 1, impl.MaxId, 0, leastInt} {
			checkUnknown(t, n, nil, thing, at)
			checkUnknown(t, n, []impl.Scan{}, thing, at)
			checkUnknown(t, n, bad, thing, at)
		}
	}
	for _, thing := range []int{6, 2, 0, -5, impl.MaxId + 1, leastInt, greatestInt} {
		if a, b := impl.SoonestAt(n, l, thing, "AMS"), impl.SoonestAt(n, nil, thing, "AMS"); a != -1 || b != -1 {
			t.Error(thing, a, b)
		}
	}
	if a, b := impl.SoonestAt(n, bad, 5, "AMS"), impl.SoonestAt(n, nil, 5, "AMS"); a != -1 || b != -1 {
		t.Error(a, b)
	}
	for _, thing := range []int{5, 1, impl.MaxId} {
		if got := impl.FormatBelief(impl.BeliefOf(n, l, thing, 0)); got != "AMS" {
			t.Error(thing, got)
		}
	}
}

// Rule 1, whatever the other rules would say.
func TestNothingIsBelievedBeforeAndBehind(t *testing.T) {
	n := lineNetwork()
	for _, s := range []impl.Scan{hereAt(5, 700, "CDG"), doneAt(5, 700, "CDG"), loadAt(5, 480, 0, 0), loadAt(5, 0, 0, 60), dropAt(5, 570, 0, 0), dropAt(5, 800, 1, 0), dropAt(5, impl.MaxTime, 0, 0), hereAt(5, impl.MaxTime, "AMS"), doneAt(5, 0, "AMS")} {
		for _, at := range []int{leastInt, leastInt + 1, -1, 0, 479, 480, 481, 569, 570, 699, 799, s.At - 2, s.At - 1} {
			if at < s.At {
				checkUnknown(t, n, []impl.Scan{s}, 5, at)
				checkUnknown(t, n, []impl.Scan{s, doneAt(5, impl.MaxTime, "OSL"), hereAt(6, 0, "AMS")}, 5, at)
			}
		}
		if s.Kind != impl.ScanDone {
			if b := impl.BeliefOf(n, []impl.Scan{s}, 5, s.At); impl.Doubt(b) != 1 {
				t.Error(s, b)
			}
			continue
		}
		for _, at := range []int{s.At, s.At + 1, s.At + 1440, impl.MaxTime - 1, impl.MaxTime, impl.MaxTime + 1, greatestInt} {
			checkUnknown(t, n, []impl.Scan{s}, 5, at)
			// What comes behind it can not follow.
			checkUnknown(t, n, []impl.Scan{s, hereAt(5, s.At+1, s.Place), dropAt(5, 5000, 0, 2), doneAt(5, impl.MaxTime, s.Place)}, 5, at)
		}
	}
	checkBeliefs(t, n, []impl.Scan{hereAt(5, 100, "AMS"), doneAt(5, 700, "CDG")}, []beliefCase{
		{99, "unknown"}, {100, "AMS"}, {480, "AMS 0/0"}, {481, "0/0"}, {569, "0/0"}, {570, "CDG"}, {600, "CDG"}, {699, "CDG"}, {700, "unknown"}, {701, "unknown"}, {impl.MaxTime, "unknown"}, {greatestInt, "unknown"},
	})
	checkBeliefs(t, n, []impl.Scan{hereAt(5, 100, "AMS"), doneAt(5, 100, "AMS")}, []beliefCase{{99, "unknown"}, {100, "unknown"}, {101, "unknown"}})
}

// Nothing is seen behind the last scan: all that it may have done since is believed.
func TestBeliefsBehindTheLastScan(t *testing.T) {
	n := lineNetwork()
	checkBeliefs(t, n, []impl.Scan{hereAt(5, 100, "AMS")}, []beliefCase{
		{leastInt, "unknown"}, {-1, "unknown"}, {0, "unknown"}, {98, "unknown"}, {99, "unknown"}, {100, "AMS"}, {101, "AMS"},
		// A trip is ridden from the minute of its start on, but not in that of its end.
		{479, "AMS"}, {480, "AMS 0/0"}, {481, "AMS 0/0"}, {489, "AMS 0/0"}, {490, "AMS 0/0 3/0"}, {569, "AMS 0/0 3/0"}, {570, "AMS CDG 3/0"}, {571, "AMS CDG 3/0"},
		// No change is asked before a ride, but for what comes behind it.
		{598, "AMS CDG 3/0"}, {599, "AMS CDG 3/0 4/0"}, {600, "AMS CDG 1/0 3/0 4/0"}, {629, "AMS CDG 1/0 3/0 4/0"}, {630, "AMS CDG 1/0 3/0"}, {719, "AMS CDG 1/0 3/0"}, {720, "AMS CDG DUB 3/0"},
		{749, "AMS CDG DUB 3/0"}, {750, "AMS CDG DUB 2/0 3/0"}, {809, "AMS CDG DUB 2/0 3/0"}, {810, "AMS CDG DUB OSL 3/0"}, {889, "AMS CDG DUB OSL 3/0"}, {890, "AMS CDG DUB OSL"},
		// Day 1 is off.
		{1919, "AMS CDG DUB OSL"}, {1920, "AMS CDG DUB OSL"}, {2040, "AMS CDG DUB OSL"}, {3359, "AMS CDG DUB OSL"}, {3360, "AMS CDG DUB OSL 0/2"}, {3370, "AMS CDG DUB OSL 0/2 3/2"},
		{86880, "AMS CDG DUB OSL 0/60"}, {87289, "AMS CDG DUB OSL 3/60"}, {87290, "AMS CDG DUB OSL"}, {88320, "AMS CDG DUB OSL"}, {impl.MaxTime, "AMS CDG DUB OSL"}, {impl.MaxTime + 1, "AMS CDG DUB OSL"}, {greatestInt, "AMS CDG DUB OSL"},
	})
	// A minute too late for a trip, and just in time: at the place of the spot no change is asked.
	checkBeliefs(t, n, []impl.Scan{hereAt(5, 481, "AMS")}, []beliefCase{{480, "unknown"}, {481, "AMS"}, {490, "AMS 3/0"}, {570, "AMS 3/0"}, {600, "AMS 3/0"}, {890, "AMS DUB"}, {3360, "AMS DUB 0/2"}})
	checkBeliefs(t, n, []impl.Scan{hereAt(5, 480, "AMS")}, []beliefCase{{479, "unknown"}, {480, "AMS 0/0"}, {481, "AMS 0/0"}})
	checkBeliefs(t, n, []impl.Scan{hereAt(5, 600, "CDG")}, []beliefCase{{600, "CDG 1/0"}, {719, "CDG 1/0"}, {720, "CDG DUB"}, {750, "CDG DUB 2/0"}})
	checkBeliefs(t, n, []impl.Scan{hereAt(5, 599, "CDG")}, []beliefCase{{599, "CDG 4/0"}, {600, "CDG 1/0 4/0"}, {630, "AMS CDG 1/0"}, {720, "AMS CDG DUB"}})
	checkBeliefs(t, n, []impl.Scan{hereAt(5, 601, "CDG")}, []beliefCase{{601, "CDG"}, {630, "CDG"}, {720, "CDG"}, {3479, "CDG 4/2"}, {3480, "CDG 1/2 4/2"}})
	checkBeliefs(t, n, []impl.Scan{dropAt(5, 590, 0, 0)}, []beliefCase{{589, "unknown"}, {590, "CDG"}, {599, "CDG 4/0"}, {600, "CDG 1/0 4/0"}, {720, "AMS CDG DUB"}})
	checkBeliefs(t, n, []impl.Scan{dropAt(5, 600, 0, 0)}, []beliefCase{{600, "CDG 1/0"}, {601, "CDG 1/0"}})
	checkBeliefs(t, n, []impl.Scan{hereAt(5, 0, "OSL")}, []beliefCase{{0, "OSL"}, {480, "OSL"}, {impl.MaxTime, "OSL"}, {greatestInt, "OSL"}})
	checkBeliefs(t, n, []impl.Scan{hereAt(5, impl.MaxTime, "AMS")}, []beliefCase{{impl.MaxTime - 1, "unknown"}, {impl.MaxTime, "AMS"}, {impl.MaxTime + 1, "AMS"}, {greatestInt, "AMS"}})
	checkBeliefs(t, n, []impl.Scan{hereAt(5, 86881, "AMS")}, []beliefCase{{86881, "AMS"}, {86890, "AMS 3/60"}, {87290, "AMS DUB"}, {impl.MaxTime, "AMS DUB"}})
}

// With a change at a place on the way that is just long enough, and a minute too long.
func TestBeliefsWithChanges(t *testing.T) {
	l := []impl.Scan{hereAt(5, 480, "AMS")}
	checkBeliefs(t, lineWithChange(29), l, []beliefCase{{600, "AMS CDG 1/0 3/0 4/0"}, {720, "AMS CDG DUB 3/0"}, {810, "AMS CDG DUB OSL 3/0"}})
	checkBeliefs(t, lineWithChange(30), l, []beliefCase{{600, "AMS CDG 1/0 3/0 4/0"}, {720, "AMS CDG DUB 3/0"}, {810, "AMS CDG DUB OSL 3/0"}})
	checkBeliefs(t, lineWithChange(31), l, []beliefCase{{600, "AMS CDG 1/0 3/0 4/0"}, {720, "AMS CDG 3/0"}, {750, "AMS CDG 3/0"}, {810, "AMS CDG 3/0"}, {890, "AMS CDG DUB"}})
	// From the spot before the next scan back: at DUB by 720, and at OSL by 810.
	seen := []impl.Scan{hereAt(5, 480, "AMS"), hereAt(5, 720, "DUB")}
	checkBeliefs(t, lineWithChange(30), seen, []beliefCase{{480, "AMS 0/0"}, {481, "0/0"}, {570, "CDG"}, {599, "CDG"}, {600, "CDG 1/0"}, {601, "1/0"}, {719, "1/0"}, {720, "DUB"}})
	checkBeliefs(t, lineWithChange(31), seen, []beliefCase{{480, "AMS 0/0"}, {570, "AMS CDG 3/0"}, {720, "AMS CDG 3/0"}})
	seen[0] = hereAt(5, 600, "CDG")
	checkBeliefs(t, lineWithChange(240), seen, []beliefCase{{600, "CDG 1/0"}, {601, "1/0"}, {719, "1/0"}, {720, "DUB"}})
	seen[1] = hereAt(5, 810, "OSL")
	checkBeliefs(t, lineWithChange(30), seen, []beliefCase{{600, "CDG 1/0"}, {601, "1/0"}, {720, "DUB"}, {749, "DUB"}, {750, "DUB 2/0"}, {751, "2/0"}, {809, "2/0"}, {810, "OSL"}})
	checkBeliefs(t, lineWithChange(31), seen, []beliefCase{{600, "CDG 1/0"}, {720, "CDG DUB"}, {809, "CDG DUB 2/0"}, {810, "CDG DUB"}})
	// In the middle, no change is asked: from the place at the time, and from the end of the ride.
	seen[0], seen[1] = hereAt(5, 480, "AMS"), hereAt(5, 3600, "DUB")
	checkBeliefs(t, lineWithChange(240), seen, []beliefCase{{570, "CDG 3/0"}, {890, "CDG DUB"}, {3359, "CDG DUB"}, {3360, "CDG DUB 0/2"}, {3361, "CDG DUB 0/2"}, {3450, "CDG DUB"}, {3480, "CDG DUB 1/2"}, {3481, "DUB 1/2"}, {3600, "DUB"}})
}

// Rule 2: the trip that the thing is taken off next.
func TestBeliefsBeforeADrop(t *testing.T) {
	n := lineNetwork()
	checkBeliefs(t, n, []impl.Scan{hereAt(5, 100, "AMS"), dropAt(5, 800, 1, 0)}, []beliefCase{
		{100, "AMS"}, {480, "AMS 0/0"}, {481, "0/0"}, {570, "CDG"}, {598, "CDG"}, {599, "CDG"}, {600, "1/0"}, {601, "1/0"}, {719, "1/0"}, {720, "DUB"}, {721, "DUB"}, {750, "DUB"}, {799, "DUB"}, {800, "DUB"}, {801, "DUB"},
	})
	checkBeliefs(t, n, []impl.Scan{hereAt(5, 100, "AMS"), dropAt(5, 720, 1, 0)}, []beliefCase{{599, "CDG"}, {600, "1/0"}, {719, "1/0"}, {720, "DUB"}, {750, "DUB 2/0"}})
	checkBeliefs(t, n, []impl.Scan{hereAt(5, 600, "CDG"), dropAt(5, 720, 1, 0)}, []beliefCase{{599, "unknown"}, {600, "1/0"}, {719, "1/0"}, {720, "DUB"}})
	checkBeliefs(t, n, []impl.Scan{dropAt(5, 570, 0, 0), dropAt(5, 730, 1, 0)}, []beliefCase{{569, "unknown"}, {570, "CDG"}, {599, "CDG"}, {600, "1/0"}, {720, "DUB"}, {729, "DUB"}, {730, "DUB"}})
	// It was taken off late: until then it may be nowhere else, although trips leave from there.
	checkBeliefs(t, n, []impl.Scan{hereAt(5, 480, "AMS"), dropAt(5, 9000, 0, 0)}, []beliefCase{{480, "0/0"}, {569, "0/0"}, {570, "CDG"}, {600, "CDG"}, {3480, "CDG"}, {8999, "CDG"}, {9000, "CDG"}})
	// Behind a load, of the same trip and of another one.
	checkBeliefs(t, n, []impl.Scan{loadAt(5, 590, 1, 0), dropAt(5, 800, 1, 0)}, []beliefCase{{589, "unknown"}, {590, "CDG"}, {599, "CDG"}, {600, "1/0"}, {601, "1/0"}, {719, "1/0"}, {720, "DUB"}, {721, "DUB"}, {799, "DUB"}, {800, "DUB"}})
	checkBeliefs(t, n, []impl.Scan{loadAt(5, 600, 1, 0), dropAt(5, 720, 1, 0)}, []beliefCase{{599, "unknown"}, {600, "1/0"}, {719, "1/0"}, {720, "DUB"}})
	checkBeliefs(t, n, []impl.Scan{loadAt(5, 400, 0, 0), dropAt(5, 800, 1, 0)}, []beliefCase{{399, "unknown"}, {400, "AMS"}, {479, "AMS"}, {480, "0/0"}, {569, "0/0"}, {570, "CDG"}, {599, "CDG"}, {600, "1/0"}, {719, "1/0"}, {720, "DUB"}, {799, "DUB"}, {800, "DUB"}})
	checkBeliefs(t, n, []impl.Scan{loadAt(5, 400, 0, 0), dropAt(5, 810, 2, 0)}, []beliefCase{{480, "0/0"}, {570, "CDG"}, {600, "CDG 1/0"}, {601, "1/0"}, {720, "DUB"}, {749, "DUB"}, {750, "2/0"}, {809, "2/0"}, {810, "OSL"}})
	// It can not follow, and does not count.
	checkBeliefs(t, n, []impl.Scan{hereAt(5, 601, "CDG"), dropAt(5, 800, 1, 0)}, []beliefCase{{600, "unknown"}, {601, "CDG"}, {719, "CDG"}, {720, "CDG"}, {800, "CDG"}})
	checkBeliefs(t, n, []impl.Scan{hereAt(5, 100, "OSL"), dropAt(5, 800, 1, 0), hereAt(5, 900, "OSL")}, []beliefCase{{100, "OSL"}, {600, "OSL"}, {800, "OSL"}, {900, "OSL"}})
}

// Rule 3: the trip for which the thing was loaded last.
func TestBeliefsBehindALoad(t *testing.T) {
	n := lineNetwork()
	checkBeliefs(t, n, []impl.Scan{loadAt(5, 400, 0, 0)}, []beliefCase{
		{-1, "unknown"}, {399, "unknown"}, {400, "AMS"}, {401, "AMS"}, {479, "AMS"}, {480, "0/0"}, {481, "0/0"}, {490, "0/0"}, {568, "0/0"}, {569, "0/0"}, {570, "CDG"}, {571, "CDG"},
		{599, "CDG 4/0"}, {600, "CDG 1/0 4/0"}, {630, "AMS CDG 1/0"}, {719, "AMS CDG 1/0"}, {720, "AMS CDG DUB"}, {greatestInt, "AMS CDG DUB OSL"},
	})
	checkBeliefs(t, n, []impl.Scan{loadAt(5, 480, 0, 0)}, []beliefCase{{479, "unknown"}, {480, "0/0"}, {569, "0/0"}, {570, "CDG"}})
	// Loaded days before its start, it waits for it alone, whatever else leaves.
	checkBeliefs(t, n, []impl.Scan{loadAt(5, 0, 0, 2)}, []beliefCase{{0, "AMS"}, {480, "AMS"}, {500, "AMS"}, {3359, "AMS"}, {3360, "0/2"}, {3449, "0/2"}, {3450, "CDG"}, {3480, "CDG 1/2 4/2"}})
	checkBeliefs(t, n, []impl.Scan{loadAt(5, 0, 0, 60)}, []beliefCase{{0, "AMS"}, {86879, "AMS"}, {86880, "0/60"}, {86969, "0/60"}, {86970, "CDG"}, {87000, "CDG 1/60 4/60"}, {impl.MaxTime, "AMS CDG DUB OSL"}})
	// The next scan does not matter as long as it lasts.
	for _, next := range []impl.Scan{hereAt(5, 570, "CDG"), doneAt(5, 570, "CDG"), loadAt(5, 570, 1, 0), dropAt(5, 570, 0, 0)} {
		checkBeliefs(t, n, []impl.Scan{loadAt(5, 400, 0, 0), next}, []beliefCase{{400, "AMS"}, {479, "AMS"}, {480, "0/0"}, {569, "0/0"}})
	}
	checkBeliefs(t, n, []impl.Scan{loadAt(5, 400, 0, 0), loadAt(5, 401, 1, 0)}, []beliefCase{{400, "AMS"}, {401, "CDG"}, {599, "CDG"}, {600, "1/0"}, {719, "1/0"}, {720, "DUB"}, {750, "DUB 2/0"}})
	checkBeliefs(t, n, []impl.Scan{loadAt(5, 400, 0, 0), hereAt(5, 720, "DUB")}, []beliefCase{{569, "0/0"}, {570, "CDG"}, {599, "CDG"}, {600, "CDG 1/0"}, {601, "1/0"}, {719, "1/0"}, {720, "DUB"}})
	checkBeliefs(t, n, []impl.Scan{loadAt(5, 400, 0, 0), doneAt(5, 571, "CDG")}, []beliefCase{{569, "0/0"}, {570, "CDG"}, {571, "unknown"}})
	// Here the thing was seen before its trip, which can not follow.
	checkBeliefs(t, n, []impl.Scan{loadAt(5, 400, 0, 0), hereAt(5, 470, "AMS"), loadAt(5, 480, 0, 0)}, []beliefCase{{469, "AMS"}, {470, "AMS"}, {480, "0/0"}, {570, "CDG"}})
}

// Rules 2 and 3 where one trip ends just when another one starts: a minute earlier, and then.
func TestBeliefsWhereTripsMeet(t *testing.T) {
	n := lineNetwork()
	n.Legs = append(n.Legs, impl.Leg{From: "AMS", To: "CDG", Start: 500, Takes: 100, Days: 127})
	checkBeliefs(t, n, []impl.Scan{hereAt(5, 100, "AMS"), dropAt(5, 800, 1, 0)}, []beliefCase{{499, "AMS 0/0"}, {500, "AMS 0/0 5/0"}, {501, "0/0 5/0"}, {570, "CDG 5/0"}, {598, "CDG 5/0"}, {599, "CDG 5/0"}, {600, "1/0"}, {601, "1/0"}, {720, "DUB"}})
	checkBeliefs(t, n, []impl.Scan{loadAt(5, 400, 5, 0), dropAt(5, 800, 1, 0)}, []beliefCase{{400, "AMS"}, {499, "AMS"}, {500, "5/0"}, {598, "5/0"}, {599, "5/0"}, {600, "1/0"}, {719, "1/0"}, {720, "DUB"}})
	checkBeliefs(t, n, []impl.Scan{loadAt(5, 400, 5, 0)}, []beliefCase{{599, "5/0"}, {600, "CDG 1/0"}, {601, "CDG 1/0"}, {720, "CDG DUB"}})
	checkBeliefs(t, n, []impl.Scan{loadAt(5, 400, 5, 0), loadAt(5, 600, 1, 0)}, []beliefCase{{599, "5/0"}, {600, "1/0"}})
	checkBeliefs(t, n, []impl.Scan{loadAt(5, 400, 5, 0), dropAt(5, 600, 5, 0)}, []beliefCase{{599, "5/0"}, {600, "CDG 1/0"}})
	checkBeliefs(t, n, []impl.Scan{loadAt(5, 400, 5, 0), dropAt(5, 700, 5, 0)}, []beliefCase{{599, "5/0"}, {600, "CDG"}, {699, "CDG"}, {700, "CDG"}})
}

// Rule 4 between two scans: just in time for the next one, and a minute too late.
func TestBeliefsBetweenTwoScans(t *testing.T) {
	n := lineNetwork()
	checkBeliefs(t, n, []impl.Scan{hereAt(5, 100, "AMS"), hereAt(5, 890, "DUB")}, []beliefCase{
		{100, "AMS"}, {480, "AMS 0/0"}, {490, "AMS 0/0 3/0"}, {491, "0/0 3/0"}, {570, "CDG 3/0"}, {599, "CDG 3/0"}, {600, "CDG 1/0 3/0"}, {601, "1/0 3/0"}, {720, "DUB 3/0"}, {750, "DUB 3/0"}, {889, "DUB 3/0"}, {890, "DUB"},
	})
	checkBeliefs(t, n, []impl.Scan{hereAt(5, 100, "AMS"), hereAt(5, 889, "DUB")}, []beliefCase{{480, "AMS 0/0"}, {481, "0/0"}, {490, "0/0"}, {600, "CDG 1/0"}, {720, "DUB"}, {888, "DUB"}})
	checkBeliefs(t, n, []impl.Scan{hereAt(5, 481, "AMS"), hereAt(5, 890, "DUB")}, []beliefCase{{481, "AMS"}, {490, "AMS 3/0"}, {491, "3/0"}, {570, "3/0"}, {889, "3/0"}, {890, "DUB"}})
	// Back at the same place: it may have been away.
	checkBeliefs(t, n, []impl.Scan{hereAt(5, 599, "CDG"), hereAt(5, 4000, "CDG")}, []beliefCase{{599, "CDG 4/0"}, {600, "CDG 4/0"}, {629, "CDG 4/0"}, {630, "AMS CDG"}, {3360, "AMS CDG 0/2"}, {3361, "CDG 0/2"}, {3450, "CDG"}, {3480, "CDG"}, {4000, "CDG"}})
	checkBeliefs(t, n, []impl.Scan{hereAt(5, 599, "CDG"), hereAt(5, 3449, "CDG")}, []beliefCase{{599, "CDG"}, {600, "CDG"}, {630, "CDG"}, {3448, "CDG"}})
	checkBeliefs(t, n, []impl.Scan{hereAt(5, 599, "CDG"), hereAt(5, 3450, "CDG")}, []beliefCase{{599, "CDG 4/0"}, {630, "AMS CDG"}, {3449, "CDG 0/2"}, {3450, "CDG"}})
	// To be loaded, it must be there by the start, and not by the time of the scan.
	checkBeliefs(t, n, []impl.Scan{hereAt(5, 480, "AMS"), loadAt(5, 599, 1, 0)}, []beliefCase{{480, "AMS 0/0"}, {481, "0/0"}, {569, "0/0"}, {570, "CDG"}, {598, "CDG"}, {599, "CDG"}, {600, "1/0"}})
	checkBeliefs(t, n, []impl.Scan{hereAt(5, 470, "AMS"), loadAt(5, 500, 1, 0)}, []beliefCase{{470, "AMS"}, {480, "AMS 0/0"}, {481, "0/0"}, {499, "0/0"}, {500, "CDG"}, {600, "1/0"}})
	checkBeliefs(t, n, []impl.Scan{hereAt(5, 0, "AMS"), loadAt(5, 3480, 1, 2)}, []beliefCase{{0, "AMS"}, {570, "AMS CDG"}, {600, "AMS CDG 4/0"}, {3360, "AMS CDG 0/2"}, {3361, "CDG 0/2"}, {3450, "CDG"}, {3479, "CDG"}, {3480, "1/2"}})
	// Of scans in one minute, the last one counts.
	checkBeliefs(t, n, []impl.Scan{dropAt(5, 600, 0, 0), loadAt(5, 600, 1, 0)}, []beliefCase{{599, "unknown"}, {600, "1/0"}, {720, "DUB"}})
	checkBeliefs(t, n, []impl.Scan{hereAt(5, 480, "AMS"), loadAt(5, 480, 3, 0), dropAt(5, 890, 3, 0)}, []beliefCase{{479, "unknown"}, {480, "AMS"}, {489, "AMS"}, {490, "3/0"}, {889, "3/0"}, {890, "DUB"}})
	// Some that can not follow are left out, and so the one before and the one behind them count.
	checkBeliefs(t, n, []impl.Scan{hereAt(5, 100, "AMS"), hereAt(5, 200, "OSL"), doneAt(5, 300, "DUB"), hereAt(5, 481, "AMS"), dropAt(5, 700, 0, 0), hereAt(5, 889, "DUB"), hereAt(5, 890, "DUB")}, []beliefCase{
		{100, "AMS"}, {200, "AMS"}, {300, "AMS"}, {480, "AMS"}, {481, "AMS"}, {490, "AMS 3/0"}, {491, "3/0"}, {700, "3/0"}, {889, "3/0"}, {890, "DUB"},
	})
}

// Rule 4 in a network whose trips last for days, and run on some days only.
func TestBeliefsOfLongTrips(t *testing.T) {
	n := someNetwork()
	checkBeliefs(t, n, []impl.Scan{hereAt(5, 0, "AMS")}, []beliefCase{
		{480, "AMS 0/0 3/0"}, {570, "AMS CDG 3/0"}, {1200, "AMS CDG 2/0 3/0"}, {1500, "AMS CDG DUB 3/0"}, {2040, "AMS CDG DUB 3/0 1/1"}, {2700, "AMS CDG DUB 3/0 2/1"}, {2879, "AMS CDG DUB 3/0 2/1 5/1"}, {2880, "AMS CDG DUB 3/0 2/1 5/1"}, {2940, "AMS CDG DUB 3/0 5/1"},
		{4319, "AMS CDG DUB 3/0 5/1"}, {4320, "AMS CDG DUB 3/0"}, {4799, "AMS CDG DUB 3/0"}, {4800, "AMS CDG DUB OSL 0/3"}, {86880, "AMS CDG DUB OSL 3/58 5/59 0/60 3/60"}, {88319, "AMS CDG DUB OSL 3/58 3/60"}, {91199, "AMS CDG DUB OSL 3/60"}, {91200, "AMS CDG DUB OSL"},
	})
	checkBeliefs(t, n, []impl.Scan{hereAt(5, 0, "AMS"), hereAt(5, 2160, "DUB")}, []beliefCase{{480, "AMS 0/0"}, {1200, "AMS CDG 2/0"}, {1300, "AMS CDG 2/0"}, {1500, "AMS CDG DUB"}, {1920, "AMS CDG DUB 0/1"}, {1921, "CDG DUB 0/1"}, {2040, "CDG DUB 1/1"}, {2041, "DUB 1/1"}, {2160, "DUB"}})
	checkBeliefs(t, n, []impl.Scan{hereAt(5, 0, "AMS"), hereAt(5, 18720, "OSL")}, []beliefCase{{480, "AMS 3/0"}, {1200, "AMS 3/0"}, {4800, "AMS OSL"}, {13440, "AMS OSL 3/9"}, {13441, "OSL 3/9"}, {17759, "OSL 3/9"}, {17760, "OSL"}, {18719, "OSL"}, {18720, "OSL 4/13"}})
	for _, trip := range noTrips() {
		for _, at := range []int{trip.Day * 1440, trip.Day*1440 + 500, trip.Day*1440 + 700, 500, 3000} {
			if impl.MayRide(n, []impl.Scan{hereAt(5, 0, "AMS")}, 5, at, trip) {
				t.Error(trip, at)
			}
		}
	}
}

// bundleNetwork has as many legs as there may be, all from AMS, each on the way for three days.
func bundleNetwork() impl.Network {
	n := impl.Network{Change: 30}
	for leg := range impl.MaxLegs {
		n.Legs = append(n.Legs, impl.Leg{From: "AMS", To: "CDG", Start: leg, Takes: impl.MaxTakes, Days: 127})
	}
	return n
}

// With so many legs that take so long, no network has more than MaxRides trips under way at once.
func TestAsManyRidesAsThereMayBe(t *testing.T) {
	l := []impl.Scan{hereAt(5, 0, "AMS")}
	n := bundleNetwork()
	rides := ridesOf(n)
	for _, c := range []struct {
		at, rides, places int
	}{{-1, 0, 0}, {0, 1, 1}, {18, 19, 1}, {19, 20, 1}, {1439, 20, 1}, {2879, 40, 1}, {2880, 41, 1}, {2898, 59, 1}, {2899, 60, 1}, {2900, 60, 1}, {4319, 60, 1}, {4320, 60, 2}, {4321, 60, 2}, {50000, 60, 2}, {86419, 60, 2}, {87839, 60, 2}, {90719, 20, 2}, {90720, 19, 2}, {90738, 1, 2}, {90739, 0, 2}, {greatestInt, 0, 2}} {
		b := impl.BeliefOf(n, l, 5, c.at)
		if len(b.Rides) != c.rides || len(b.Places) != c.places || impl.Doubt(b) != c.rides+c.places || !sameBeliefs(b, wantedBelief(n, rides, l, c.at)) {
			t.Error(c, b)
		}
		for i := 0; i < len(rides); i += 7 {
			if may := impl.MayRide(n, l, 5, c.at, rides[i].trip); may != slices.Contains(b.Rides, rides[i].trip) {
				t.Error(c, rides[i], may)
			}
		}
	}
	// One of the legs does not run on one weekday.
	less := bundleNetwork()
	less.Legs[7].Days = 127 - 4
	for at, count := range map[int]int{2886: 47, 2887: 47, 2899: 59, 4000: 59, 4320: 59, 7206: 59, 7207: 60} {
		if b := impl.BeliefOf(less, l, 5, at); len(b.Rides) != count || !sameBeliefs(b, wantedBelief(less, ridesOf(less), l, at)) {
			t.Error(at, len(b.Rides), b)
		}
	}
	want := []impl.Trip{}
	for day := range 3 {
		for leg := range 20 {
			want = append(want, impl.Trip{Leg: leg, Day: day + 7})
		}
	}
	if b := impl.BeliefOf(n, l, 5, 9*1440+100); !slices.Equal(b.Rides, want) || len(want) != impl.MaxRides {
		t.Error(b)
	}
}

func TestDoubt(t *testing.T) {
	for _, c := range []struct {
		b    impl.Belief
		want int
	}{
		{impl.Belief{}, 0}, {impl.Belief{Places: []string{}, Rides: []impl.Trip{}}, 0}, {impl.Belief{Places: []string{"AMS"}}, 1}, {impl.Belief{Rides: trips(0, 0)}, 1}, {impl.Belief{Places: []string{"AMS"}, Rides: trips(0, 0)}, 2}, {impl.Belief{Places: []string{"AMS", "CDG", "DUB"}, Rides: trips(0, 0, 1, 1)}, 5},
		// Whatever they are.
		{impl.Belief{Places: []string{"", ""}, Rides: trips(leastInt, greatestInt, leastInt, greatestInt, -1, -1)}, 5}, {impl.Belief{Places: make([]string, 1000), Rides: make([]impl.Trip, 500)}, 1500}, {impl.Belief{Places: make([]string, 3, 10), Rides: make([]impl.Trip, 0, 7)}, 3},
	} {
		if got := impl.Doubt(c.b); got != c.want {
			t.Error(c, got)
		}
	}
}

func TestIsSure(t *testing.T) {
	n := lineNetwork()
	here, load := []impl.Scan{hereAt(5, 100, "AMS")}, []impl.Scan{loadAt(5, 400, 0, 0)}
	for _, c := range []struct {
		l    []impl.Scan
		at   int
		want bool
	}{
		{here, 99, false}, {here, 100, true}, {here, 479, true}, {here, 480, false}, {here, 490, false}, {here, 570, false}, {load, 399, false}, {load, 400, true}, {load, 480, true}, {load, 570, true}, {load, 599, false}, {nil, 0, false}, {here, leastInt, false}, {here, greatestInt, false},
	} {
		if got := impl.IsSure(n, c.l, 5, c.at); got != c.want {
			t.Error(c, got)
		}
	}
}

func TestFormatBelief(t *testing.T) {
	long := impl.Belief{Rides: make([]impl.Trip, 100)}
	for _, c := range []struct {
		b    impl.Belief
		want string
	}{
		{impl.Belief{}, "unknown"}, {impl.Belief{Places: []string{}, Rides: []impl.Trip{}}, "unknown"}, {impl.Belief{Places: []string{"AMS"}}, "AMS"}, {impl.Belief{Places: []string{"AMS", "CDG", "DUB"}}, "AMS CDG DUB"}, {impl.Belief{Rides: trips(0, 0)}, "0/0"}, {impl.Belief{Rides: trips(1, 2, 19, 60)}, "1/2 19/60"},
		{impl.Belief{Places: []string{"AMS"}, Rides: trips(0, 0)}, "AMS 0/0"}, {impl.Belief{Places: []string{"AMS", "CDG"}, Rides: trips(12, 3, 0, 10)}, "AMS CDG 12/3 0/10"},
		// As they stand, also in another order and twice.
		{impl.Belief{Places: []string{"DUB", "AMS", "DUB"}, Rides: trips(5, 9, 5, 9, 0, 1)}, "DUB AMS DUB 5/9 5/9 0/1"}, {impl.Belief{Places: []string{"", "x y"}}, " x y"}, {impl.Belief{Places: []string{"unknown"}}, "unknown"}, {impl.Belief{Places: []string{"\xff"}, Rides: trips(-1, -2)}, "\xff -1/-2"},
		{impl.Belief{Rides: trips(leastInt, greatestInt)}, "-9223372036854775808/9223372036854775807"}, {long, strings.Repeat("0/0 ", 99) + "0/0"},
	} {
		if got := impl.FormatBelief(c.b); got != c.want {
			t.Errorf("%q, %q", got, c.want)
		}
	}
}

func TestSoonestAt(t *testing.T) {
	n := lineNetwork()
	for _, c := range []struct {
		l     []impl.Scan
		place string
		want  int
	}{
		{[]impl.Scan{hereAt(5, 480, "AMS")}, "AMS", 480}, {[]impl.Scan{hereAt(5, 480, "AMS")}, "CDG", 570}, {[]impl.Scan{hereAt(5, 480, "AMS")}, "DUB", 720}, {[]impl.Scan{hereAt(5, 480, "AMS")}, "OSL", 810}, {[]impl.Scan{hereAt(5, 481, "AMS")}, "CDG", 3450}, {[]impl.Scan{hereAt(5, 481, "AMS")}, "DUB", 890}, {[]impl.Scan{hereAt(5, 481, "AMS")}, "OSL", 3690},
		{[]impl.Scan{hereAt(5, 0, "AMS")}, "AMS", 0}, {[]impl.Scan{hereAt(5, impl.MaxTime, "AMS")}, "AMS", impl.MaxTime}, {[]impl.Scan{hereAt(5, impl.MaxTime, "AMS")}, "CDG", -1}, {[]impl.Scan{hereAt(5, 86880, "AMS")}, "CDG", 86970}, {[]impl.Scan{hereAt(5, 86881, "AMS")}, "CDG", -1}, {[]impl.Scan{hereAt(5, 0, "OSL")}, "AMS", -1}, {[]impl.Scan{hereAt(5, 0, "DUB")}, "CDG", -1}, {[]impl.Scan{hereAt(5, 0, "OSL")}, "OSL", 0},
		// No change is asked at the place of the spot.
		{[]impl.Scan{hereAt(5, 600, "CDG")}, "DUB", 720}, {[]impl.Scan{hereAt(5, 601, "CDG")}, "DUB", 3600}, {[]impl.Scan{dropAt(5, 600, 0, 0)}, "DUB", 720}, {[]impl.Scan{dropAt(5, 599, 0, 0)}, "AMS", 630}, {[]impl.Scan{dropAt(5, 600, 0, 0)}, "AMS", 3510}, {[]impl.Scan{dropAt(5, 9000, 0, 0)}, "CDG", 9000},
		// A load leads to the end of its trip, and the place where it starts is reached again later.
		{[]impl.Scan{loadAt(5, 100, 0, 0)}, "CDG", 570}, {[]impl.Scan{loadAt(5, 100, 0, 0)}, "DUB", 720}, {[]impl.Scan{loadAt(5, 100, 0, 0)}, "AMS", 630}, {[]impl.Scan{loadAt(5, 100, 2, 0)}, "OSL", 810}, {[]impl.Scan{loadAt(5, 100, 2, 0)}, "DUB", -1}, {[]impl.Scan{loadAt(5, 100, 3, 0)}, "OSL", 3690}, {[]impl.Scan{loadAt(5, 0, 0, 60)}, "CDG", 86970},
		// Handed over.
		{[]impl.Scan{doneAt(5, 480, "AMS")}, "AMS", -1}, {[]impl.Scan{doneAt(5, 480, "AMS")}, "CDG", -1}, {[]impl.Scan{hereAt(5, 100, "AMS"), doneAt(5, 480, "AMS")}, "AMS", -1}, {[]impl.Scan{loadAt(5, 100, 0, 0), doneAt(5, 570, "CDG")}, "CDG", -1}, {[]impl.Scan{doneAt(5, 480, "AMS"), hereAt(5, 481, "AMS")}, "AMS", -1},
		// The last scan of those that stay.
		{[]impl.Scan{hereAt(5, 100, "AMS"), doneAt(5, 480, "CDG")}, "AMS", 100}, {[]impl.Scan{hereAt(5, 100, "AMS"), hereAt(5, 200, "OSL")}, "AMS", 100}, {[]impl.Scan{hereAt(5, 100, "AMS"), hereAt(5, 200, "OSL")}, "OSL", 810}, {[]impl.Scan{hereAt(5, 100, "AMS"), hereAt(5, 900, "OSL")}, "OSL", 900}, {[]impl.Scan{hereAt(5, 100, "AMS"), hereAt(5, 900, "OSL")}, "AMS", -1}, {[]impl.Scan{hereAt(5, 600, "CDG"), hereAt(5, 0, "AMS")}, "DUB", 720}, {[]impl.Scan{hereAt(5, 0, "AMS"), hereAt(6, 600, "CDG")}, "AMS", 0},
		// What is no place of the network.
		{[]impl.Scan{hereAt(5, 480, "AMS")}, "", -1}, {[]impl.Scan{hereAt(5, 480, "AMS")}, "XYZ", -1}, {[]impl.Scan{hereAt(5, 480, "AMS")}, "ams", -1}, {[]impl.Scan{hereAt(5, 480, "AMS")}, "AMSX", -1}, {[]impl.Scan{hereAt(5, 480, "XYZ")}, "XYZ", -1}, {[]impl.Scan{hereAt(5, 480, "")}, "", -1}, {nil, "AMS", -1},
	} {
		rides := ridesOf(n)
		_, stay := wantedStay(n, rides, wantedOf(n, c.l, 5))
		if got := impl.SoonestAt(n, c.l, 5, c.place); got != c.want || wantedSoonest(n, rides, stay, c.place) != c.want {
			t.Error(c, got)
		}
	}
}

func TestMetAt(t *testing.T) {
	n := lineNetwork()
	l := []impl.Scan{hereAt(5, 100, "AMS"), hereAt(6, 200, "CDG"), loadAt(7, 400, 0, 0), doneAt(8, 300, "AMS"), hereAt(9, 0, "OSL"), hereAt(9, 100, "CDG"), hereAt(10, 200, "CDG"), doneAt(10, 700, "DUB"), hereAt(5, 101, "OSL")}
	for _, c := range []struct {
		x, y, at int
		want     string
	}{
		{5, 6, 99, ""}, {5, 6, 100, ""}, {5, 6, 199, ""}, {5, 6, 200, ""}, {5, 6, 569, ""}, {5, 6, 570, "CDG"}, {5, 6, 629, "CDG"}, {5, 6, 630, "AMS CDG"}, {5, 6, 720, "AMS CDG DUB"}, {5, 6, 810, "AMS CDG DUB OSL"}, {5, 6, greatestInt, "AMS CDG DUB OSL"}, {5, 6, leastInt, ""}, {5, 6, -1, ""},
		{5, 7, 399, ""}, {5, 7, 400, "AMS"}, {5, 7, 479, "AMS"}, {5, 7, 480, ""}, {5, 7, 569, ""}, {5, 7, 570, "CDG"}, {6, 7, 479, ""}, {6, 7, 569, ""}, {6, 7, 570, "CDG"}, {6, 7, 720, "AMS CDG DUB"},
		// Handed over, not able to be there, with a scan left out, and never seen.
		{5, 8, 299, ""}, {5, 8, 300, ""}, {8, 8, 300, ""}, {9, 6, 300, ""}, {9, 9, 300, "OSL"}, {9, 5, 809, ""}, {9, 5, 810, "OSL"}, {6, 10, 600, "CDG"}, {10, 6, 720, "AMS CDG DUB"}, {5, 11, 600, ""}, {11, 11, 600, ""}, {0, 5, 600, ""}, {-5, 5, 600, ""}, {leastInt, 5, 600, ""}, {5, greatestInt, 600, ""}, {10000, 10000, 600, ""},
		// One thing and itself.
		{5, 5, 99, ""}, {5, 5, 100, "AMS"}, {5, 5, 480, "AMS"}, {5, 5, 570, "AMS CDG"}, {7, 7, 480, ""}, {7, 7, 570, "CDG"},
	} {
		if a, b := impl.MetAt(n, l, c.x, c.y, c.at), impl.MetAt(n, l, c.y, c.x, c.at); strings.Join(a, " ") != c.want || strings.Join(b, " ") != c.want {
			t.Error(c, a, b)
		}
	}
}

func TestOnlyTheFirstScansAreBelieved(t *testing.T) {
	n := lineNetwork()
	many := scansUpTo(impl.MaxScans)
	late := append(slices.Clone(many), dropAt(5, 700, 0, 0))
	checkTold := func(l []impl.Scan, at int, want string) {
		t.Helper()
		if got := impl.FormatBelief(impl.BeliefOf(n, l, 5, at)); got != want {
			t.Error(len(l), at, got, want)
		}
	}
	checkTold(many, 0, "unknown")
	checkTold(many, 1, "AMS")
	checkTold(many, 480, "AMS 0/0")
	checkTold(late, 480, "AMS 0/0")
	checkTold(late, 700, "AMS CDG 1/0 3/0")
	checkTold(late[1:], 480, "0/0")
	checkTold(late[1:], 700, "CDG")
	checkTold(late[1:], 1, "unknown")
	checkTold(append([]impl.Scan{dropAt(5, 700, 0, 0)}, many...), 480, "0/0")
	if a, b := impl.SoonestAt(n, late, 5, "CDG"), impl.SoonestAt(n, late[1:], 5, "CDG"); a != 570 || b != 700 {
		t.Error(a, b)
	}
	// What is not valid, of another thing or comes again counts as well.
	for _, first := range []impl.Scan{{}, hereAt(6, 0, "AMS"), hereAt(5, 0, "AMS"), hereAt(5, 0, "XYZ")} {
		for _, count := range []int{199, 200} {
			l := append(slices.Repeat([]impl.Scan{first}, count), doneAt(5, 0, "AMS"))
			want := "unknown"
			if first == hereAt(5, 0, "AMS") && count == 200 {
				want = "AMS"
			}
			checkTold(l, 0, want)
		}
		checkTold(append(slices.Repeat([]impl.Scan{first}, 199), hereAt(5, 0, "AMS")), 0, "AMS")
	}
}

// Scans, trips and times that are beyond every bound tell nothing, and do not disturb.
func TestVeryGreatAndVerySmallNumbers(t *testing.T) {
	n := lineNetwork()
	for _, number := range []int{leastInt, leastInt + 1, -1, impl.MaxTime + 1, greatestInt - 1, greatestInt} {
		var l []impl.Scan
		for kind := range 6 {
			l = append(l, impl.Scan{Thing: 5, At: number, Kind: kind, Place: "AMS"}, impl.Scan{Thing: number, At: 100, Kind: kind, Place: "AMS"}, impl.Scan{Thing: 5, At: 100, Kind: number, Place: "AMS"}, impl.Scan{Thing: 5, At: number, Kind: kind}, impl.Scan{Thing: 5, At: 100, Kind: kind, Trip: impl.Trip{Leg: number}}, impl.Scan{Thing: 5, At: 100, Kind: kind, Trip: impl.Trip{Day: number}})
		}
		for _, at := range extremeTimes() {
			checkUnknown(t, n, l, 5, at)
			checkUnknown(t, n, l, number, at)
			if a, b := impl.SoonestAt(n, l, 5, "AMS"), impl.SoonestAt(n, l, number, "AMS"); a != -1 || b != -1 {
				t.Error(number, a, b)
			}
			for _, trip := range trips(number, 0, 0, number, number, number) {
				if impl.MayRide(n, []impl.Scan{hereAt(5, 0, "AMS")}, 5, at, trip) || impl.MayRide(n, []impl.Scan{hereAt(5, 0, "AMS")}, 5, number, trip) {
					t.Error(trip, at)
				}
			}
		}
		known := append(slices.Clone(l), hereAt(5, 480, "AMS"))
		if got := impl.FormatBelief(impl.BeliefOf(n, known, 5, 480)); got != "AMS 0/0" {
			t.Error(number, got)
		}
	}
}

// truth tells where a thing on its way is at a time: at a place, or on a trip.
func truth(n impl.Network, way []impl.Trip, from string, at int) (place string, trip impl.Trip) {
	place = from
	for _, trip := range way {
		start := trip.Day*1440 + n.Legs[trip.Leg].Start
		if at < start {
			break
		}
		if at < start+n.Legs[trip.Leg].Takes {
			return "", trip
		}
		place = n.Legs[trip.Leg].To
	}
	return place, impl.Trip{}
}

// checkTruth asks at one time whether what is so may be believed.
func checkTruth(t *testing.T, n impl.Network, given []impl.Scan, way []impl.Trip, from string, at int) {
	t.Helper()
	place, trip := truth(n, way, from, at)
	b := impl.BeliefOf(n, given, 5, at)
	if place != "" {
		if !slices.Contains(b.Places, place) || !impl.MayBeAt(n, given, 5, at, place) {
			t.Fatal(n, given, way, at, place, b)
		}
	} else if !slices.Contains(b.Rides, trip) || !impl.MayRide(n, given, 5, at, trip) {
		t.Fatal(n, given, way, at, trip, b)
	}
	if impl.Doubt(b) == 0 || impl.IsSure(n, given, 5, at) != (impl.Doubt(b) == 1) {
		t.Fatal(n, given, way, at, b)
	}
}

// turnsOf lists the times at which something changes for a thing on its way, with the minutes around them.
func turnsOf(n impl.Network, way []impl.Trip, seen []impl.Scan) []int {
	var times []int
	for _, s := range seen {
		times = append(times, s.At-1, s.At, s.At+1)
	}
	for _, trip := range way {
		start := trip.Day*1440 + n.Legs[trip.Leg].Start
		end := start + n.Legs[trip.Leg].Takes
		times = append(times, start-1, start, start+1, end-1, end, end+1, end+n.Change-1, end+n.Change)
	}
	slices.Sort(times)
	return slices.Compact(times)
}

// checkTruths asks at each turn, and at some times between; stay are the scans that are left, and handed is the end.
func checkTruths(t *testing.T, r *rand.Rand, n impl.Network, given, stay []impl.Scan, way []impl.Trip, from string, turns []int, handed int) int {
	t.Helper()
	if len(stay) == 0 {
		return 0
	}
	first := stay[0].At
	times := slices.Clone(turns)
	for range 10 {
		times = append(times, between(r, first, max(first, handed-1)))
	}
	asked := 0
	for _, at := range times {
		if first <= at && at < handed {
			checkTruth(t, n, given, way, from, at)
			asked++
		}
	}
	return asked
}

// Promise 9: where a thing is, or what it rides, may always be believed.
func TestWhereAThingIsMayBeBelieved(t *testing.T) {
	r := rand.New(rand.NewSource(91))
	longest, asked := 0, 0
	for round := range 120 {
		n := []func(r *rand.Rand) impl.Network{ordinaryNetwork, wayNetworkAtRandom, ordinaryNetwork, networkAtRandom}[round%4](r)
		places := impl.PlacesOf(n)
		if len(places) == 0 {
			continue
		}
		for range 4 {
			from, to := places[r.Intn(len(places))], places[r.Intn(len(places))]
			at := []int{0, r.Intn(10000), r.Intn(90000)}[r.Intn(3)]
			way, ok := impl.FindWay(n, from, to, at)
			if !ok {
				continue
			}
			longest = max(longest, len(way))
			seen := seenOnWay(r, n, 5, way, from, to, at)
			turns := turnsOf(n, way, seen)
			handed := seen[len(seen)-1].At
			asked += checkTruths(t, r, n, seen, seen, way, from, turns, handed)
			for range 3 {
				stay, given := missedAndDoubled(r, seen)
				asked += checkTruths(t, r, n, given, stay, way, from, turns, handed)
			}
		}
	}
	if longest < 4 || asked < 20000 {
		t.Error(longest, asked)
	}
}

// seenAnywhere lists what may be seen of a thing on its way at any time, also in the minute in which it comes or goes, and more
// than once; some of these scans clash, although all are true.
func seenAnywhere(r *rand.Rand, n impl.Network, thing int, way []impl.Trip, from, to string, at int) []impl.Scan {
	var l []impl.Scan
	place, now := from, at
	for i := 0; i <= len(way); i++ {
		leaves := now + 500
		if i < len(way) {
			leaves = way[i].Day*1440 + n.Legs[way[i].Leg].Start
		}
		for range r.Intn(4) {
			l = append(l, hereAt(thing, between(r, now, leaves), place))
		}
		for range r.Intn(3) {
			if i > 0 {
				l = append(l, dropAt(thing, between(r, now, leaves), way[i-1].Leg, way[i-1].Day))
			}
			if i < len(way) {
				l = append(l, loadAt(thing, between(r, now, leaves), way[i].Leg, way[i].Day))
			}
		}
		if i == len(way) {
			return append(l, doneAt(thing, leaves, to))
		}
		place, now = n.Legs[way[i].Leg].To, leaves+n.Legs[way[i].Leg].Takes
	}
	return l
}

// Promise 9 also where true scans clash, as they do when a thing is seen in the minute in which it is taken off.
func TestWhatIsSeenAnywhereMayBeBelieved(t *testing.T) {
	r := rand.New(rand.NewSource(92))
	clashed, asked := 0, 0
	for range 300 {
		n := ordinaryNetwork(r)
		places := impl.PlacesOf(n)
		from, to := places[r.Intn(len(places))], places[r.Intn(len(places))]
		at := r.Intn(10000)
		way, ok := impl.FindWay(n, from, to, at)
		if !ok {
			continue
		}
		seen := seenAnywhere(r, n, 5, way, from, to, at)
		_, given := missedAndDoubled(r, seen)
		if len(given) == 0 {
			continue
		}
		clashed += len(impl.Clashes(n, given, 5))
		first := slices.MinFunc(given, func(a, b impl.Scan) int { return a.At - b.At })
		asked += checkTruths(t, r, n, given, []impl.Scan{first}, way, from, turnsOf(n, way, seen), seen[len(seen)-1].At)
	}
	if clashed < 200 || asked < 5000 {
		t.Error(clashed, asked)
	}
}

// Promise 9 at each minute of a way of three trips, and at each turn whichever scans are missed.
func TestEachMinuteOfAWay(t *testing.T) {
	n := lineNetwork()
	way, ok := impl.FindWay(n, "AMS", "OSL", 300)
	if !ok || !slices.Equal(way, trips(0, 0, 1, 0, 2, 0)) {
		t.Fatal(way, ok)
	}
	r := rand.New(rand.NewSource(93))
	seen := []impl.Scan{hereAt(5, 450, "AMS"), loadAt(5, 470, 0, 0), dropAt(5, 575, 0, 0), hereAt(5, 580, "CDG"), loadAt(5, 600, 1, 0), dropAt(5, 720, 1, 0), loadAt(5, 725, 2, 0), dropAt(5, 815, 2, 0), doneAt(5, 850, "OSL")}
	turns := turnsOf(n, way, seen)
	for kept := range 1 << len(seen) {
		var stay, given []impl.Scan
		for i, s := range seen {
			if kept>>i&1 == 1 {
				stay = append(stay, s)
				given = append([]impl.Scan{s}, given...)
			}
		}
		checkTruths(t, r, n, given, stay, way, "AMS", turns, 850)
		if kept%37 != 1 {
			continue
		}
		for at := stay[0].At; at < 850; at++ {
			checkTruth(t, n, given, way, "AMS", at)
		}
	}
	// With all scans, it is often sure; behind the last one it is known no more.
	for at, want := range map[int]string{449: "unknown", 450: "AMS", 469: "AMS", 470: "AMS", 479: "AMS", 480: "0/0", 569: "0/0", 570: "CDG", 575: "CDG", 599: "CDG", 600: "1/0", 719: "1/0", 720: "DUB", 749: "DUB", 750: "2/0", 809: "2/0", 810: "OSL", 849: "OSL", 850: "unknown", 9000: "unknown"} {
		if got := impl.FormatBelief(impl.BeliefOf(n, seen, 5, at)); got != want {
			t.Error(at, got, want)
		}
	}
}

// timesToAsk are around the scans, and around the starts and ends of rides near them.
func timesToAsk(r *rand.Rand, rides []ride, l []impl.Scan) []int {
	times := []int{leastInt, -1, 0, impl.MaxTime, impl.MaxTime + 1, greatestInt, r.Intn(impl.MaxTime)}
	for _, s := range l {
		times = append(times, s.At+r.Intn(3)-1)
	}
	near := l[r.Intn(len(l))].At
	i := sort.Search(len(rides), func(i int) bool { return rides[i].start >= near })
	for range 8 {
		x := rides[max(min(i+r.Intn(12)-6, len(rides)-1), 0)]
		times = append(times, x.start+r.Intn(3)-1, x.end+r.Intn(3)-1)
	}
	return times
}

// Scans of which some clash, against the words of the document and rides that are gone through one by one.
func TestBeliefsAtRandom(t *testing.T) {
	r := rand.New(rand.NewSource(94))
	doubts := map[int]int{}
	met := 0
	for round := range 80 {
		n := ordinaryNetwork(r)
		if round%4 == 0 {
			n = wayNetworkAtRandom(r)
		}
		rides := ridesOf(n)
		l := wrongScans(r, n, rides)
		stays := [5][]impl.Scan{}
		for thing := 1; thing < 5; thing++ {
			_, stay := wantedStay(n, rides, wantedOf(n, l, thing))
			stays[thing] = stay
			for _, place := range append(placesIn(n), "XYZ") {
				if got, want := impl.SoonestAt(n, l, thing, place), wantedSoonest(n, rides, stay, place); got != want {
					t.Error(n, l, thing, place, got, want)
				}
			}
		}
		for i, at := range timesToAsk(r, rides, l) {
			wanted := [5]impl.Belief{}
			for thing := 1; thing < 5; thing++ {
				want := wantedBelief(n, rides, stays[thing], at)
				wanted[thing] = want
				got := impl.BeliefOf(n, l, thing, at)
				if !sameBeliefs(got, want) || impl.FormatBelief(got) != beliefText(want) || impl.IsSure(n, l, thing, at) != (len(want.Places)+len(want.Rides) == 1) {
					t.Fatal(n, l, thing, at, got, want)
				}
				doubts[min(impl.Doubt(got), 3)]++
				if (i+thing)%14 == 0 {
					if asked := askedBelief(n, l, thing, at); !sameBeliefs(asked, want) {
						t.Fatal(n, l, thing, at, asked, want)
					}
				}
			}
			x, y := 1+r.Intn(4), 1+r.Intn(4)
			both := wantedMet(wanted[x], wanted[y])
			if got := impl.MetAt(n, l, x, y, at); !slices.Equal(got, both) {
				t.Error(n, l, x, y, at, got, both)
			}
			if len(both) > 0 && x != y {
				met++
			}
		}
	}
	if doubts[0] < 1000 || doubts[1] < 2000 || doubts[2] < 300 || doubts[3] < 1000 || met < 80 {
		t.Error(doubts, met)
	}
}

func TestBeliefResultsAreNewMemory(t *testing.T) {
	n := lineNetwork()
	l := []impl.Scan{hereAt(5, 100, "AMS"), loadAt(6, 400, 0, 0), dropAt(7, 570, 0, 0), hereAt(7, 900, "DUB")}
	for _, at := range []int{-1, 100, 450, 500, 570, 600, 9000} {
		for _, thing := range []int{5, 6, 7, 8} {
			told := func() ([]string, []impl.Trip, []string) {
				b := impl.BeliefOf(n, l, thing, at)
				return b.Places, b.Rides, impl.MetAt(n, l, thing, thing, at)
			}
			first := impl.FormatBelief(impl.BeliefOf(n, l, thing, at))
			places, rides, met := told()
			for i := range places {
				places[i] = "XXX"
			}
			for i := range rides {
				rides[i] = impl.Trip{Leg: 77, Day: 77}
			}
			_, _ = append(places, "YYY"), append(rides, impl.Trip{Leg: 78})
			again := impl.FormatBelief(impl.BeliefOf(n, l, thing, at))
			if slices.Contains(met, "XXX") || first != again {
				t.Error(thing, at, met, first, again)
			}
		}
	}
}

func TestBeliefArgumentsStay(t *testing.T) {
	r := rand.New(rand.NewSource(95))
	for range 40 {
		n := ordinaryNetwork(r)
		l := wrongScans(r, n, ridesOf(n))
		n.Legs, n.Off, l = withSpare(n.Legs), withSpare(n.Off), withSpare(l)
		b := impl.Belief{Places: withSpare([]string{"DUB", "AMS"}), Rides: withSpare(trips(3, 2, 1, 0))}
		whole := func() []any {
			return []any{slices.Clone(n.Legs[:cap(n.Legs)]), slices.Clone(n.Off[:cap(n.Off)]), slices.Clone(l[:cap(l)]), slices.Clone(b.Places[:cap(b.Places)]), slices.Clone(b.Rides[:cap(b.Rides)])}
		}
		before := whole()
		for thing := range 5 {
			for _, at := range []int{-1, r.Intn(9000), r.Intn(9000), greatestInt} {
				impl.MayBeAt(n, l, thing, at, "AMS")
				impl.MayRide(n, l, thing, at, impl.Trip{Leg: r.Intn(6), Day: r.Intn(7)})
				impl.BeliefOf(n, l, thing, at)
				impl.IsSure(n, l, thing, at)
				impl.MetAt(n, l, thing, r.Intn(5), at)
			}
			impl.SoonestAt(n, l, thing, "CDG")
		}
		impl.Doubt(b)
		impl.FormatBelief(b)
		if after := whole(); !reflect.DeepEqual(after, before) {
			t.Fatal(after, before)
		}
	}
}
