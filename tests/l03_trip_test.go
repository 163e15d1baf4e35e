package tests

import (
	"fmt"
	"math/rand"
	"reflect"
	"slices"
	"sort"
	"strings"
	"testing"

	"loop.example/g03014/impl"
)

// someLeg is valid and runs every day: each test changes what it is about.
func someLeg() impl.Leg {
	return impl.Leg{From: "AMS", To: "CDG", Start: 480, Takes: 90, Days: 127, Room: 5000}
}

func legBut(change func(l *impl.Leg)) impl.Leg {
	l := someLeg()
	change(&l)
	return l
}

func someNetwork() impl.Network {
	return impl.Network{Legs: []impl.Leg{
		someLeg(),
		{From: "CDG", To: "DUB", Start: 600, Takes: 120, Days: 2, Room: 3000},
		{From: "AMS", To: "DUB", Start: 1200, Takes: 300, Days: 127, Room: 2000},
		{From: "AMS", To: "OSL", Start: 480, Takes: 4320, Days: 85, Room: 0},
		{From: "OSL", To: "AMS", Start: 0, Takes: 1, Days: 64, Room: impl.MaxRoom},
		{From: "AMS", To: "CDG", Start: 1439, Takes: 1441, Days: 42, Room: 1},
	}, Off: []int{2, 6, 7, 30}, Change: 30}
}

func withLeg(l impl.Leg) impl.Network {
	return impl.Network{Legs: []impl.Leg{l}}
}

func legsOf(count int) []impl.Leg {
	var l []impl.Leg
	for range count {
		l = append(l, someLeg())
	}
	return l
}

// goodLegs and badLegs go to each bound, or beyond it, in one field at a time; a leg of zeros is bad as well.
func goodLegs() []impl.Leg {
	l := []impl.Leg{someLeg()}
	l = append(l, legBut(func(l *impl.Leg) { l.From, l.To = "ZZZ", "AAA" }))
	for _, start := range []int{0, 1, 59, 60, 599, 600, impl.DayMinutes - 1} {
		l = append(l, legBut(func(l *impl.Leg) { l.Start = start }))
	}
	for _, takes := range []int{1, 2, impl.DayMinutes, impl.MaxTakes - 1, impl.MaxTakes} {
		l = append(l, legBut(func(l *impl.Leg) { l.Takes = takes }))
	}
	for days := 1; days <= 127; days++ {
		l = append(l, legBut(func(l *impl.Leg) { l.Days = days }))
	}
	for _, room := range []int{0, 1, impl.MaxRoom - 1, impl.MaxRoom} {
		l = append(l, legBut(func(l *impl.Leg) { l.Room = room }))
	}
	return l
}

func badLegs() []impl.Leg {
	l := []impl.Leg{{}}
	for _, place := range []string{"", "AM", "AMST", "ams", "AM1", "A S", "A-S", "-AM", "AM-"} {
		l = append(l, legBut(func(l *impl.Leg) { l.From = place }))
		l = append(l, legBut(func(l *impl.Leg) { l.To = place }))
	}
	l = append(l, legBut(func(l *impl.Leg) { l.To = l.From }))
	l = append(l, legBut(func(l *impl.Leg) { l.From, l.To = "", "" }))
	for _, start := range []int{-1, impl.DayMinutes, impl.DayMinutes + 1, greatestInt, leastInt} {
		l = append(l, legBut(func(l *impl.Leg) { l.Start = start }))
	}
	for _, takes := range []int{0, -1, impl.MaxTakes + 1, greatestInt, leastInt} {
		l = append(l, legBut(func(l *impl.Leg) { l.Takes = takes }))
	}
	for _, days := range []int{0, -1, 128, 129, 255, 256, greatestInt, leastInt} {
		l = append(l, legBut(func(l *impl.Leg) { l.Days = days }))
	}
	for _, room := range []int{-1, impl.MaxRoom + 1, greatestInt, leastInt} {
		l = append(l, legBut(func(l *impl.Leg) { l.Room = room }))
	}
	return l
}

// badNetworks would each have trips of leg 0 if it were valid; each is wrong in one way only.
func badNetworks() []impl.Network {
	l := []impl.Network{{Legs: legsOf(impl.MaxLegs + 1)}}
	for _, leg := range badLegs() {
		l = append(l, impl.Network{Legs: []impl.Leg{someLeg(), leg}}, impl.Network{Legs: []impl.Leg{someLeg(), leg, someLeg()}})
	}
	for _, off := range [][]int{
		{-1}, {impl.MaxDay + 1}, {greatestInt}, {leastInt}, {-1, 1}, {1, impl.MaxDay + 1}, {1, 1}, {0, 0}, {impl.MaxDay, impl.MaxDay},
		{2, 1}, {1, 3, 2}, {1, 2, 2}, {5, 6, 1}, {10, 11, 12, 13, 14, 15, 16, 17, 18, 19, 20},
	} {
		l = append(l, impl.Network{Legs: legsOf(1), Off: off})
	}
	for _, change := range []int{-1, impl.MaxChange + 1, greatestInt, leastInt} {
		l = append(l, impl.Network{Legs: legsOf(1), Change: change})
	}
	return l
}

// daysOf counts the days of a leg with a calendar of its own: the weekday goes round, no remainder is taken.
func daysOf(n impl.Network, leg int) []int {
	var days []int
	bits := fmt.Sprintf("%07b", n.Legs[leg].Days)
	weekday := 0
	for day := 0; day <= 60; day++ {
		off := false
		for _, o := range n.Off {
			off = off || o == day
		}
		if bits[6-weekday] == '1' && !off {
			days = append(days, day)
		}
		if weekday++; weekday == 7 {
			weekday = 0
		}
	}
	return days
}

func networkAtRandom(r *rand.Rand) impl.Network {
	places := []string{"AAA", "AMS", "CDG", "DUB", "ZZZ"}
	n := impl.Network{Change: r.Intn(impl.MaxChange + 1)}
	for range r.Intn(impl.MaxLegs + 1) {
		from := r.Intn(5)
		n.Legs = append(n.Legs, impl.Leg{
			From:  places[from],
			To:    places[(from+1+r.Intn(4))%5],
			Start: []int{0, 480, impl.DayMinutes - 1, r.Intn(impl.DayMinutes)}[r.Intn(4)],
			Takes: []int{1, impl.DayMinutes, impl.MaxTakes, 1 + r.Intn(impl.MaxTakes)}[r.Intn(4)],
			Days:  []int{127, 1 << r.Intn(7), 1 + r.Intn(127)}[r.Intn(3)],
			Room:  r.Intn(impl.MaxRoom + 1),
		})
	}
	n.Off = r.Perm(impl.MaxDay + 1)[:r.Intn(impl.MaxOff+1)]
	sort.Ints(n.Off)
	return n
}

func TestTripConstants(t *testing.T) {
	got := []int{impl.DayMinutes, impl.MaxDay, impl.MaxTime, impl.MaxLegs, impl.MaxTakes, impl.MaxChange, impl.MaxRoom, impl.MaxOff}
	if want := []int{1440, 60, 100000, 20, 4320, 240, 1000000, 10}; !slices.Equal(got, want) {
		t.Error(got, want)
	}
}

func TestIsLeg(t *testing.T) {
	for _, l := range goodLegs() {
		if !impl.IsLeg(l) || !impl.IsNetwork(withLeg(l)) {
			t.Error(l, "is a leg")
		}
	}
	for _, l := range badLegs() {
		if impl.IsLeg(l) || impl.IsNetwork(withLeg(l)) {
			t.Error(l, "is no leg")
		}
	}
}

func TestIsNetwork(t *testing.T) {
	for _, n := range []impl.Network{
		{}, {Legs: []impl.Leg{}, Off: []int{}}, someNetwork(), {Legs: legsOf(impl.MaxLegs - 1)}, {Legs: legsOf(impl.MaxLegs)},
		{Off: []int{0}}, {Off: []int{impl.MaxDay}}, {Off: []int{0, impl.MaxDay}}, {Off: []int{0, 1, 2, 3, 4, 5, 6, 7, 8}},
		{Off: []int{0, 1, 2, 3, 4, 5, 6, 7, 8, 9}}, {Off: []int{51, 52, 53, 54, 55, 56, 57, 58, 59, 60}},
		{Change: 1}, {Change: impl.MaxChange - 1}, {Change: impl.MaxChange},
	} {
		if !impl.IsNetwork(n) {
			t.Error(n, "is a network")
		}
	}
	for _, n := range badNetworks() {
		if impl.IsNetwork(n) {
			t.Error(n, "is no network")
		}
		// Without legs, days off and Change are bound all the same.
		if n.Legs = nil; impl.IsNetwork(n) != (len(n.Off) == 0 && n.Change == 0) {
			t.Error(n, impl.IsNetwork(n))
		}
	}
}

func TestNothingRunsInABadNetwork(t *testing.T) {
	for _, n := range badNetworks() {
		next, isNext := impl.NextTrip(n, 0, 0)
		last, isLast := impl.LastTrip(n, 0, impl.MaxTime)
		if isNext || isLast || next != (impl.Trip{}) || last != (impl.Trip{}) {
			t.Error(n, next, last)
		}
		if l := impl.TripsFrom(n, "AMS", 0, impl.MaxTime); len(l) != 0 {
			t.Error(n, l)
		}
		for day := range impl.MaxDay + 1 {
			trip := impl.Trip{Day: day}
			if impl.RunsOn(n, 0, day) || impl.IsTrip(n, trip) || impl.StartsAt(n, trip) != -1 || impl.EndsAt(n, trip) != -1 {
				t.Error(n, day)
			}
		}
	}
}

func TestPlacesOf(t *testing.T) {
	for _, c := range []struct {
		n    impl.Network
		want []string
	}{
		{impl.Network{}, nil}, {impl.Network{Legs: []impl.Leg{}, Off: []int{3}}, nil},
		{someNetwork(), []string{"AMS", "CDG", "DUB", "OSL"}}, {withLeg(someLeg()), []string{"AMS", "CDG"}},
		{withLeg(impl.Leg{From: "ZZZ", To: "AAA"}), []string{"AAA", "ZZZ"}}, {withLeg(impl.Leg{}), []string{""}},
		{withLeg(impl.Leg{From: "AMS", To: "AMS"}), []string{"AMS"}}, {withLeg(impl.Leg{From: "x", Days: -5}), []string{"", "x"}},
		{impl.Network{Legs: legsOf(impl.MaxLegs + 30)}, []string{"AMS", "CDG"}},
		{impl.Network{Legs: []impl.Leg{{From: "b", To: "\xff"}, {From: "ab", To: "B"}, {From: "a", To: "abc"}, {From: "", To: "b"}}}, []string{"", "B", "a", "ab", "abc", "b", "\xff"}},
		{impl.Network{Legs: legsOf(1), Off: []int{5, 5, -1}, Change: -1}, []string{"AMS", "CDG"}},
	} {
		if got := impl.PlacesOf(c.n); !slices.Equal(got, c.want) {
			t.Errorf("PlacesOf(%v) = %q", c.n, got)
		}
	}
}

func TestPlacesOfManyLegs(t *testing.T) {
	r := rand.New(rand.NewSource(31))
	for range 200 {
		n := networkAtRandom(r)
		places := map[string]bool{}
		for _, l := range n.Legs {
			places[l.From], places[l.To] = true, true
		}
		var want []string
		for place := range places {
			want = append(want, place)
		}
		sort.Strings(want)
		if got := impl.PlacesOf(n); !slices.Equal(got, want) {
			t.Error(n, got)
		}
	}
}

func TestEachWeekdayAlone(t *testing.T) {
	for weekday := range 7 {
		l := someLeg()
		l.Days = 1 << weekday
		want := weekday
		for day := -10; day <= impl.MaxDay+20; day++ {
			runs := day == want && day <= 60
			if got := impl.RunsOn(withLeg(l), 0, day); got != runs {
				t.Error(weekday, day, got)
			}
			if day == want {
				want += 7
			}
		}
	}
}

func TestRunsOnItsDays(t *testing.T) {
	l := someLeg()
	l.Days = 0b0000110
	n := impl.Network{Legs: []impl.Leg{l, someLeg()}, Off: []int{1, 9, 11, 60}}
	for _, c := range []struct {
		leg, day int
		want     bool
	}{
		{0, 0, false}, {0, 1, false}, {0, 2, true}, {0, 3, false}, {0, 8, true}, {0, 9, false}, {0, 11, false}, {0, 15, true}, {0, 16, true},
		{1, 0, true}, {1, 1, false}, {1, 8, true}, {1, 11, false}, {1, 59, true}, {1, 60, false}, {1, 61, false}, {1, -1, false}, {1, -7, false},
		{-1, 2, false}, {2, 2, false}, {3, 8, false}, {greatestInt, 2, false}, {leastInt, 2, false},
		{0, greatestInt, false}, {0, leastInt, false}, {0, -5, false}, {0, 64, false}, {0, 65, false},
	} {
		if got := impl.RunsOn(n, c.leg, c.day); got != c.want {
			t.Error(c, got)
		}
	}
	if n.Off = nil; !impl.RunsOn(n, 1, impl.MaxDay) || impl.RunsOn(n, 1, impl.MaxDay+1) || !impl.RunsOn(n, 1, 0) {
		t.Error("the first and the last day")
	}
	if impl.RunsOn(impl.Network{}, 0, 0) {
		t.Error("a network without legs")
	}
}

func TestRunsOnRandomNetworks(t *testing.T) {
	r := rand.New(rand.NewSource(32))
	for range 100 {
		n := networkAtRandom(r)
		for leg, l := range n.Legs {
			days := daysOf(n, leg)
			for day := -8; day <= impl.MaxDay+8; day++ {
				trip := impl.Trip{Leg: leg, Day: day}
				want, start, end := slices.Contains(days, day), -1, -1
				if want {
					start, end = day*1440+l.Start, day*1440+l.Start+l.Takes
				}
				if impl.RunsOn(n, leg, day) != want || impl.IsTrip(n, trip) != want || impl.StartsAt(n, trip) != start || impl.EndsAt(n, trip) != end {
					t.Error(n, trip, want, impl.StartsAt(n, trip), impl.EndsAt(n, trip))
				}
			}
		}
	}
}

func TestStartsAndEnds(t *testing.T) {
	n := someNetwork()
	for _, c := range []struct{ leg, day, start, end int }{
		{0, 0, 480, 570}, {0, 1, 1920, 2010}, {0, 60, 86880, 86970}, {0, 61, -1, -1}, {0, 2, -1, -1}, {0, -1, -1, -1},
		{1, 1, 2040, 2160}, {1, 0, -1, -1}, {1, 8, 12120, 12240}, {3, 0, 480, 4800}, {4, 13, 18720, 18721}, {4, 6, -1, -1},
		{5, 1, 2879, 4320}, {-1, 1, -1, -1}, {6, 1, -1, -1}, {greatestInt, 1, -1, -1}, {leastInt, 1, -1, -1},
		{0, greatestInt, -1, -1}, {0, leastInt, -1, -1}, {greatestInt, greatestInt, -1, -1},
	} {
		trip := impl.Trip{Leg: c.leg, Day: c.day}
		if start, end := impl.StartsAt(n, trip), impl.EndsAt(n, trip); start != c.start || end != c.end || impl.IsTrip(n, trip) != (c.start >= 0) {
			t.Error(c, start, end)
		}
	}
	l := someLeg()
	l.Start, l.Takes = 0, 1
	if n := withLeg(l); impl.StartsAt(n, impl.Trip{}) != 0 || impl.EndsAt(n, impl.Trip{}) != 1 {
		t.Error("the start of day 0")
	}
	l.Start, l.Takes = impl.DayMinutes-1, impl.MaxTakes
	if n, trip := withLeg(l), (impl.Trip{Day: impl.MaxDay}); impl.StartsAt(n, trip) != 87839 || impl.EndsAt(n, trip) != 92159 {
		t.Error("the end of the last day")
	}
}

// noTrip stands in tables for the day of a trip that there is not.
const noTrip = -1

func checkFound(t *testing.T, what any, got impl.Trip, ok bool, leg, day int) {
	t.Helper()
	want := impl.Trip{Leg: leg, Day: day}
	if day == noTrip {
		want = impl.Trip{}
	}
	if ok != (day != noTrip) || got != want {
		t.Error(what, got, ok, want)
	}
}

func TestNextTrip(t *testing.T) {
	n := someNetwork()
	for _, c := range []struct{ leg, at, day int }{
		{0, leastInt, 0}, {0, -100000, 0}, {0, -1, 0}, {0, 0, 0}, {0, 479, 0}, {0, 480, 0}, {0, 481, 1}, {0, 569, 1}, {0, 570, 1}, {0, 571, 1},
		{0, 1919, 1}, {0, 1920, 1}, {0, 1921, 3}, {0, 4799, 3}, {0, 4800, 3}, {0, 4801, 4}, {0, 7680, 5}, {0, 7681, 8},
		{0, 86879, 60}, {0, 86880, 60}, {0, 86881, noTrip}, {0, impl.MaxTime, noTrip}, {0, greatestInt, noTrip}, {0, greatestInt - 1, noTrip},
		{1, leastInt, 1}, {1, 2040, 1}, {1, 2041, 8}, {1, 12120, 8}, {1, 12121, 15}, {1, 72600, 50}, {1, 72601, 57}, {1, 82680, 57}, {1, 82681, noTrip},
		{3, 0, 0}, {3, 481, 4}, {3, 6240, 4}, {3, 6241, 9}, {4, 0, 13}, {4, 18720, 13}, {4, 18721, 20}, {5, 2879, 1}, {5, 2880, 3},
		{-1, 0, noTrip}, {6, 0, noTrip}, {greatestInt, 0, noTrip}, {leastInt, 0, noTrip}, {leastInt, leastInt, noTrip},
	} {
		got, ok := impl.NextTrip(n, c.leg, c.at)
		checkFound(t, c, got, ok, c.leg, c.day)
	}
	if trip, ok := impl.NextTrip(impl.Network{}, 0, 0); ok || trip != (impl.Trip{}) {
		t.Error(trip)
	}
}

func TestLastTrip(t *testing.T) {
	n := someNetwork()
	for _, c := range []struct{ leg, by, day int }{
		{0, leastInt, noTrip}, {0, leastInt + 1, noTrip}, {0, -1, noTrip}, {0, 0, noTrip}, {0, 480, noTrip}, {0, 569, noTrip}, {0, 570, 0}, {0, 571, 0},
		{0, 2009, 0}, {0, 2010, 1}, {0, 2011, 1}, {0, 4889, 1}, {0, 4890, 3}, {0, 12089, 5}, {0, 12090, 8},
		{0, 86969, 59}, {0, 86970, 60}, {0, 86971, 60}, {0, impl.MaxTime, 60}, {0, greatestInt, 60}, {0, greatestInt - 1, 60},
		{1, 2159, noTrip}, {1, 2160, 1}, {1, 12239, 1}, {1, 12240, 8}, {1, greatestInt, 57}, {1, 82800, 57}, {1, 82799, 50},
		{3, 4799, noTrip}, {3, 4800, 0}, {3, 10559, 0}, {3, 10560, 4}, {3, impl.MaxTime, 60}, {4, 18720, noTrip}, {4, 18721, 13},
		{5, 4319, noTrip}, {5, 4320, 1}, {5, 7199, 1}, {5, 7200, 3},
		{-1, impl.MaxTime, noTrip}, {6, impl.MaxTime, noTrip}, {greatestInt, greatestInt, noTrip}, {leastInt, greatestInt, noTrip},
	} {
		got, ok := impl.LastTrip(n, c.leg, c.by)
		checkFound(t, c, got, ok, c.leg, c.day)
	}
	if trip, ok := impl.LastTrip(impl.Network{}, 0, impl.MaxTime); ok || trip != (impl.Trip{}) {
		t.Error(trip)
	}
}

// A trip may end behind the last day, and behind the start of the next trip of its leg.
func TestTripsThatTakeDays(t *testing.T) {
	l := someLeg()
	l.Start, l.Takes = impl.DayMinutes-1, impl.MaxTakes
	n := withLeg(l)
	for _, c := range []struct{ by, day int }{{5758, noTrip}, {5759, 0}, {7198, 0}, {7199, 1}, {90719, 59}, {92158, 59}, {92159, 60}, {92160, 60}} {
		got, ok := impl.LastTrip(n, 0, c.by)
		checkFound(t, c, got, ok, 0, c.day)
	}
	for _, c := range []struct{ at, day int }{{1439, 0}, {1440, 1}, {86399, 59}, {86400, 60}, {87839, 60}, {87840, noTrip}} {
		got, ok := impl.NextTrip(n, 0, c.at)
		checkFound(t, c, got, ok, 0, c.day)
	}
}

func TestALegWhoseEveryDayIsOff(t *testing.T) {
	for weekday := range 7 {
		n := impl.Network{Legs: legsOf(2)}
		n.Legs[0].Days = 1 << weekday
		for day := weekday; day <= impl.MaxDay; day += 7 {
			n.Off = append(n.Off, day)
		}
		for _, at := range []int{leastInt, -1, 0, 480, 570, 50000, impl.MaxTime, greatestInt} {
			next, isNext := impl.NextTrip(n, 0, at)
			last, isLast := impl.LastTrip(n, 0, at)
			if !impl.IsNetwork(n) || isNext || isLast || next != (impl.Trip{}) || last != (impl.Trip{}) {
				t.Error(n, at, next, isNext, last, isLast)
			}
		}
		for _, trip := range impl.TripsFrom(n, "AMS", leastInt, greatestInt) {
			if trip.Leg != 1 {
				t.Error(n, trip)
			}
		}
		// One day that is not off is found from both sides.
		only := n.Off[len(n.Off)/2]
		n.Off = slices.DeleteFunc(n.Off, func(day int) bool { return day == only })
		next, isNext := impl.NextTrip(n, 0, leastInt)
		checkFound(t, n, next, isNext, 0, only)
		last, isLast := impl.LastTrip(n, 0, greatestInt)
		checkFound(t, n, last, isLast, 0, only)
	}
}

// timesAround lists where NextTrip and LastTrip of a leg may change their minds, and far beyond.
func timesAround(r *rand.Rand, n impl.Network, leg int) []int {
	l := []int{leastInt, leastInt + 1, -impl.MaxTime, -1, 0, 1, impl.MaxTime, impl.MaxTime + 1, greatestInt - 1, greatestInt}
	for _, day := range daysOf(n, leg) {
		start := day*1440 + n.Legs[leg].Start
		end := start + n.Legs[leg].Takes
		l = append(l, start-1, start, start+1, end-1, end, end+1, start+r.Intn(n.Legs[leg].Takes))
	}
	return l
}

// Promise 3: what is found runs in time, no trip of the leg lies between, and nothing is missed.
func TestNoTripRunsBetween(t *testing.T) {
	r := rand.New(rand.NewSource(33))
	for range 60 {
		n := networkAtRandom(r)
		for leg, l := range n.Legs {
			for _, at := range timesAround(r, n, leg) {
				next, isNext := impl.NextTrip(n, leg, at)
				last, isLast := impl.LastTrip(n, leg, at)
				nextStart, lastEnd := impl.StartsAt(n, next), impl.EndsAt(n, last)
				if isNext && (!impl.IsTrip(n, next) || next.Leg != leg || nextStart < at) || isLast && (!impl.IsTrip(n, last) || last.Leg != leg || lastEnd > at) {
					t.Error(n, leg, at, next, last)
				}
				if !isNext && next != (impl.Trip{}) || !isLast && last != (impl.Trip{}) {
					t.Error(n, leg, at, next, last)
				}
				for _, day := range daysOf(n, leg) {
					start, end := day*1440+l.Start, day*1440+l.Start+l.Takes
					if start >= at && (!isNext || start < nextStart) || end <= at && (!isLast || end > lastEnd) {
						t.Error(n, leg, at, next, isNext, last, isLast, day)
					}
				}
			}
		}
	}
}

// From each trip, the next ones and the last ones go through all trips of the leg, forward and backward.
func TestTripsFollowEachOther(t *testing.T) {
	r := rand.New(rand.NewSource(34))
	for range 60 {
		n := networkAtRandom(r)
		for leg := range n.Legs {
			var forward, backward []int
			for trip, ok := impl.NextTrip(n, leg, 0); ok; trip, ok = impl.NextTrip(n, leg, impl.StartsAt(n, trip)+1) {
				forward = append(forward, trip.Day)
			}
			for trip, ok := impl.LastTrip(n, leg, impl.MaxTime); ok; trip, ok = impl.LastTrip(n, leg, impl.EndsAt(n, trip)-1) {
				backward = append(backward, trip.Day)
			}
			slices.Reverse(backward)
			if days := daysOf(n, leg); !slices.Equal(forward, days) || !slices.Equal(backward, days) {
				t.Error(n, leg, forward, backward)
			}
		}
	}
}

func trips(pairs ...int) []impl.Trip {
	var l []impl.Trip
	for i := 0; i < len(pairs); i += 2 {
		l = append(l, impl.Trip{Leg: pairs[i], Day: pairs[i+1]})
	}
	return l
}

func TestTripsFrom(t *testing.T) {
	n := someNetwork()
	for _, c := range []struct {
		place     string
		at, until int
		want      []impl.Trip
	}{
		{"AMS", 0, 1440, trips(0, 0, 3, 0, 2, 0)}, {"AMS", leastInt, 1440, trips(0, 0, 3, 0, 2, 0)}, {"AMS", 480, 1201, trips(0, 0, 3, 0, 2, 0)},
		{"AMS", 480, 1200, trips(0, 0, 3, 0)}, {"AMS", 479, 480, nil}, {"AMS", 479, 481, trips(0, 0, 3, 0)}, {"AMS", 480, 481, trips(0, 0, 3, 0)},
		{"AMS", 480, 480, nil}, {"AMS", 481, 1200, nil}, {"AMS", 481, 1201, trips(2, 0)}, {"AMS", 1200, 1920, trips(2, 0)}, {"AMS", 1200, 1921, trips(2, 0, 0, 1)},
		{"AMS", 1440, 4320, trips(0, 1, 2, 1, 5, 1)}, {"AMS", 2879, 4801, trips(5, 1, 0, 3)}, {"AMS", 2880, 4801, trips(0, 3)},
		{"AMS", 1440, 0, nil}, {"AMS", 481, 480, nil}, {"AMS", greatestInt, leastInt, nil}, {"AMS", 0, leastInt, nil}, {"AMS", greatestInt, greatestInt, nil},
		{"AMS", -5, 0, nil}, {"AMS", 87841, greatestInt, nil}, {"AMS", 86880, greatestInt, trips(0, 60, 3, 60, 2, 60)}, {"AMS", 86400, greatestInt, trips(0, 60, 3, 60, 2, 60)},
		{"OSL", leastInt, 20000, trips(4, 13)}, {"OSL", 18720, 18721, trips(4, 13)}, {"OSL", 18719, 18720, nil}, {"OSL", 18721, 28800, nil},
		{"CDG", leastInt, greatestInt, trips(1, 1, 1, 8, 1, 15, 1, 22, 1, 29, 1, 36, 1, 43, 1, 50, 1, 57)},
		{"DUB", leastInt, greatestInt, nil}, {"XYZ", leastInt, greatestInt, nil}, {"", leastInt, greatestInt, nil}, {"ams", leastInt, greatestInt, nil}, {"AMSCDG", leastInt, greatestInt, nil},
	} {
		if got := impl.TripsFrom(n, c.place, c.at, c.until); !slices.Equal(got, c.want) {
			t.Error(c, got)
		}
	}
	if got := impl.TripsFrom(impl.Network{}, "AMS", 0, impl.MaxTime); len(got) != 0 {
		t.Error(got)
	}
}

// tripsByMinute goes through the minutes and asks for each leg in order, so that nothing is to be sorted.
func tripsByMinute(n impl.Network, place string, at, until int) []impl.Trip {
	starts := map[int][]impl.Trip{}
	for leg, l := range n.Legs {
		for _, day := range daysOf(n, leg) {
			if l.From == place {
				minute := day*1440 + l.Start
				starts[minute] = append(starts[minute], impl.Trip{Leg: leg, Day: day})
			}
		}
	}
	var l []impl.Trip
	for minute := at; minute < until; minute++ {
		l = append(l, starts[minute]...)
	}
	return l
}

func TestTripsFromRandomNetworks(t *testing.T) {
	r := rand.New(rand.NewSource(35))
	found := 0
	for range 150 {
		n := networkAtRandom(r)
		for _, place := range append(impl.PlacesOf(n), "NOT") {
			for range 3 {
				at, until := r.Intn(90000)-1000, r.Intn(90000)-1000
				if r.Intn(2) == 0 {
					at, until = 1440*r.Intn(61)+480, 1440*r.Intn(61)+480
				}
				want := tripsByMinute(n, place, at, until)
				found += len(want)
				if got := impl.TripsFrom(n, place, at, until); !slices.Equal(got, want) {
					t.Error(n, place, at, until, got, want)
				}
			}
			if got, want := impl.TripsFrom(n, place, leastInt, greatestInt), tripsByMinute(n, place, 0, 100000); !slices.Equal(got, want) {
				t.Error(n, place, got, want)
			}
		}
	}
	if found == 0 {
		t.Error("nothing was found")
	}
}

func TestFormatTime(t *testing.T) {
	for time, want := range map[int]string{
		0: "0 00:00", 1: "0 00:01", 59: "0 00:59", 60: "0 01:00", 599: "0 09:59", 600: "0 10:00", 1439: "0 23:59", 1440: "1 00:00", 2040: "1 10:00",
		14400: "10 00:00", 87839: "60 23:59", 92159: "63 23:59", impl.MaxTime - 1: "69 10:39", impl.MaxTime: "69 10:40",
		impl.MaxTime + 1: "", -1: "", -1440: "", greatestInt: "", leastInt: "",
	} {
		if got := impl.FormatTime(time); got != want {
			t.Errorf("FormatTime(%d) = %q", time, got)
		}
	}
}

func TestEachTimeIsReadAgain(t *testing.T) {
	day, hour, minute := 0, 0, 0
	for time := range impl.MaxTime + 1 {
		text := fmt.Sprintf("%d %02d:%02d", day, hour, minute)
		if got := impl.FormatTime(time); got != text {
			t.Fatalf("FormatTime(%d) = %q", time, got)
		}
		if got, ok := impl.ParseTime(text); !ok || got != time {
			t.Fatalf("ParseTime(%q) = %d, %v", text, got, ok)
		}
		if minute++; minute == 60 {
			hour, minute = hour+1, 0
		}
		if hour == 24 {
			day, hour = day+1, 0
		}
	}
}

func TestNoTimeIsRead(t *testing.T) {
	for _, s := range []string{
		"", " ", "  ", ":", " :", "1", "1 ", "10:00", " 10:00", "1 10:00 ", " 1 10:00", "1  10:00", "1 10 :00", "1 10: 00", "1 1 0:00", "1 10:0 0", "1 10:00\n", "1\t10:00", "110:00",
		"1 24:00", "1 24:59", "1 29:00", "1 99:99", "1 10:60", "1 10:99", "0 23:60", "0 00:60", "1 -1:60", "1 -1:70", "1 -0:00", "1 00:-0", "1 00:-1", "1 01:-1",
		"+1 10:00", "-1 10:00", "-0 10:00", "1 +1:00", "1 10:+0", "1 +10:00", "1 10:+00", "01 10:00", "00 10:00", "00 00:00", "001 10:00", "1 010:00", "1 10:000", "1 1:00", "1 10:0", "1 100:0", "1 0:000",
		"1 1000", "1 10.00", "1 10::00", "1 :1000", "1 1000:", "1 :10:00", "1 10:00:", "1 10:00:00", "1: 10:00", "1:10:00", "1:10 00", "1 10 00", "1 10:0a", "1 a0:00", "a 10:00", "1a 10:00", "1 1O:00", "1 10:0\x00", "1 10:0\xff",
		"1 \uff11\uff10:00", "69 10:41", "69 11:00", "69 23:59", "70 00:00", "100 00:00", "1000000000 00:00", "1000000001 00:00", "6405119470038039 10:00", "9223372036854775807 00:00", "12810238940076077 04:16",
		strings.Repeat("0", 100000), strings.Repeat(" ", 100000), strings.Repeat("9", 100000) + " 10:00", "1 10:00" + strings.Repeat(" 10:00", 10000),
	} {
		if time, ok := impl.ParseTime(s); ok || time != 0 {
			t.Errorf("ParseTime(%.100q) = %d, %v", s, time, ok)
		}
	}
}

// textsBeside lists the texts that lack a byte of s, or have one more or another one.
func textsBeside(s string) []string {
	var l []string
	for i := range len(s) + 1 {
		for b := range 256 {
			l = append(l, s[:i]+string([]byte{byte(b)})+s[i:])
			if i < len(s) {
				l = append(l, s[:i]+string([]byte{byte(b)})+s[i+1:])
			}
		}
		if i < len(s) {
			l = append(l, s[:i], s[i:], s[:i]+s[i+1:])
		}
	}
	return l
}

func TestOnlyWrittenTimesAreRead(t *testing.T) {
	read := 0
	for _, time := range []int{0, 1439, 2040, 87839, impl.MaxTime} {
		for _, s := range textsBeside(impl.FormatTime(time)) {
			got, ok := impl.ParseTime(s)
			if ok {
				read++
			}
			if ok && impl.FormatTime(got) != s || !ok && got != 0 {
				t.Errorf("ParseTime(%q) = %d, %v", s, got, ok)
			}
		}
	}
	if read == 0 {
		t.Error("nothing was read")
	}
}

func legText(l impl.Leg) string {
	weekdays := ""
	for days, i := l.Days, 0; i < 7; i++ {
		weekdays += fmt.Sprint(days % 2)
		days /= 2
	}
	return fmt.Sprintf("%s-%s %02d:%02d %d %s %d", l.From, l.To, l.Start/60, l.Start%60, l.Takes, weekdays, l.Room)
}

func TestLegTexts(t *testing.T) {
	legs := goodLegs()
	r := rand.New(rand.NewSource(36))
	for range 100 {
		legs = append(legs, networkAtRandom(r).Legs...)
	}
	for _, l := range legs {
		text := legText(l)
		if got := impl.FormatLeg(l); got != text {
			t.Error(got, text)
		}
		if got, ok := impl.ParseLeg(text); !ok || got != l {
			t.Error(text, got, ok)
		}
	}
	for _, l := range badLegs() {
		if got := impl.FormatLeg(l); got != "" {
			t.Error(l, got)
		}
	}
}

func TestWrittenLegs(t *testing.T) {
	n := someNetwork()
	for i, text := range []string{
		"AMS-CDG 08:00 90 1111111 5000", "CDG-DUB 10:00 120 0100000 3000", "AMS-DUB 20:00 300 1111111 2000",
		"AMS-OSL 08:00 4320 1010101 0", "OSL-AMS 00:00 1 0000001 1000000", "AMS-CDG 23:59 1441 0101010 1",
	} {
		if got := impl.FormatLeg(n.Legs[i]); got != text {
			t.Error(got, text)
		}
		if got, ok := impl.ParseLeg(text); !ok || got != n.Legs[i] {
			t.Error(text, got, ok)
		}
	}
}

func TestNoLegIsRead(t *testing.T) {
	for _, s := range []string{
		"", " ", "-", "    ", "-    ", "AMS-CDG", "AMS-CDG 10:00 120 0100000", "AMS-CDG 10:00 120 0100000 ", "10:00 120 0100000 3000", " 10:00 120 0100000 3000",
		" AMS-CDG 10:00 120 0100000 3000", "AMS-CDG 10:00 120 0100000 3000 ", "AMS-CDG 10:00 120 0100000 3000 1", "AMS-CDG  10:00 120 0100000 3000", "AMS-CDG 10:00  120 0100000 3000",
		"AMS-CDG 10:00 120  0100000 3000", "AMS-CDG 10:00 120 0100000  3000", "AMS- CDG 10:00 120 0100000 3000", "AMS -CDG 10:00 120 0100000 3000", "AMS CDG 10:00 120 0100000 3000",
		"AMSCDG 10:00 120 0100000 3000", "AMS--CDG 10:00 120 0100000 3000", "-AMSCDG 10:00 120 0100000 3000", "AMSCDG- 10:00 120 0100000 3000", "AMS-CDG-DUB 10:00 120 0100000 3000", "AMS+CDG 10:00 120 0100000 3000",
		"AMS:CDG 10:00 120 0100000 3000", "AMS-CDG10:00 120 0100000 3000", "AMS-CDG 10:00120 0100000 3000", "AMS-CDG 10:00 1200100000 3000", "AMS-CDG 10:00 120 01000003000", "AMS-CDG\t10:00 120 0100000 3000", "AMS-CDG 10:00 120 0100000 3000\n",
		"AMS-AMS 10:00 120 0100000 3000", "AM-CDG 10:00 120 0100000 3000", "AMS-CD 10:00 120 0100000 3000", "AMST-CDG 10:00 120 0100000 3000", "AMS-CDGX 10:00 120 0100000 3000", "ams-CDG 10:00 120 0100000 3000", "AMS-cdg 10:00 120 0100000 3000",
		"-CDG 10:00 120 0100000 3000", "AMS- 10:00 120 0100000 3000", "- 10:00 120 0100000 3000",
		"AMS-CDG 24:00 120 0100000 3000", "AMS-CDG 10:60 120 0100000 3000", "AMS-CDG 23:60 120 0100000 3000", "AMS-CDG -1:60 120 0100000 3000", "AMS-CDG 1:00 120 0100000 3000", "AMS-CDG 010:00 120 0100000 3000", "AMS-CDG 10:0 120 0100000 3000",
		"AMS-CDG 10:000 120 0100000 3000", "AMS-CDG 1000 120 0100000 3000", "AMS-CDG 10::00 120 0100000 3000", "AMS-CDG :1000 120 0100000 3000", "AMS-CDG +1:00 120 0100000 3000", "AMS-CDG 10:+1 120 0100000 3000", "AMS-CDG 600 120 0100000 3000", "AMS-CDG 0 10:00 120 0100000 3000",
		"AMS-CDG 10:00 0 0100000 3000", "AMS-CDG 10:00 4321 0100000 3000", "AMS-CDG 10:00 -1 0100000 3000", "AMS-CDG 10:00 +120 0100000 3000", "AMS-CDG 10:00 0120 0100000 3000", "AMS-CDG 10:00 00 0100000 3000", "AMS-CDG 10:00 02:00 0100000 3000", "AMS-CDG 10:00 1e2 0100000 3000", "AMS-CDG 10:00 1000000001 0100000 3000", "AMS-CDG 10:00 18446744073709551736 0100000 3000",
		"AMS-CDG 10:00 120 0000000 3000", "AMS-CDG 10:00 120 010000 3000", "AMS-CDG 10:00 120 01000000 3000", "AMS-CDG 10:00 120 111111 3000", "AMS-CDG 10:00 120 11111111 3000", "AMS-CDG 10:00 120 0200000 3000", "AMS-CDG 10:00 120 010000/ 3000", "AMS-CDG 10:00 120 O100000 3000", "AMS-CDG 10:00 120 +100000 3000", "AMS-CDG 10:00 120 -100000 3000",
		"AMS-CDG 10:00 120 2 3000", "AMS-CDG 10:00 120 1 3000", "AMS-CDG 10:00 120  3000", "AMS-CDG 10:00 120 0100 000 3000", "AMS-CDG 10:00 120 010:000 3000", "AMS-CDG 10:00 120 xxxxxxx 3000",
		"AMS-CDG 10:00 120 0100000 1000001", "AMS-CDG 10:00 120 0100000 -1", "AMS-CDG 10:00 120 0100000 -0", "AMS-CDG 10:00 120 0100000 +1", "AMS-CDG 10:00 120 0100000 03000", "AMS-CDG 10:00 120 0100000 00", "AMS-CDG 10:00 120 0100000 3 000", "AMS-CDG 10:00 120 0100000 a", "AMS-CDG 10:00 120 0100000 18446744073709551617", "AMS-CDG 10:00 120 0100000 \xff",
		strings.Repeat(" ", 100000), strings.Repeat("-", 100000), strings.Repeat("1", 100000), "AMS-CDG 10:00 120 " + strings.Repeat("1", 100000) + " 0", strings.Repeat("AMS-CDG 10:00 120 0100000 3000 ", 1000),
	} {
		if l, ok := impl.ParseLeg(s); ok || l != (impl.Leg{}) {
			t.Errorf("ParseLeg(%.100q) = %v, %v", s, l, ok)
		}
	}
	// Texts of legs that are not valid, written as if they were.
	for _, l := range badLegs() {
		if got, ok := impl.ParseLeg(legText(l)); ok && got == l || !ok && got != (impl.Leg{}) {
			t.Error(legText(l), got, ok)
		}
	}
}

func TestOnlyWrittenLegsAreRead(t *testing.T) {
	read := 0
	for _, l := range someNetwork().Legs {
		for _, s := range textsBeside(impl.FormatLeg(l)) {
			got, ok := impl.ParseLeg(s)
			if ok {
				read++
			}
			if ok && (!impl.IsLeg(got) || impl.FormatLeg(got) != s) || !ok && got != (impl.Leg{}) {
				t.Errorf("ParseLeg(%q) = %v, %v", s, got, ok)
			}
		}
	}
	if read == 0 {
		t.Error("nothing was read")
	}
}

func TestTripResultsAreNewMemory(t *testing.T) {
	n := someNetwork()
	places, found := impl.PlacesOf(n), impl.TripsFrom(n, "AMS", 0, 1440)
	places[0], found[0] = "changed", impl.Trip{Leg: 77}
	if again := impl.PlacesOf(n); !slices.Equal(again, []string{"AMS", "CDG", "DUB", "OSL"}) {
		t.Error(again)
	}
	if again := impl.TripsFrom(n, "AMS", 0, 1440); !slices.Equal(again, trips(0, 0, 3, 0, 2, 0)) {
		t.Error(again)
	}
}

func TestTripArgumentsStay(t *testing.T) {
	n := someNetwork()
	n.Legs, n.Off = withSpare(n.Legs), withSpare(n.Off)
	whole := func() []any {
		return []any{slices.Clone(n.Legs[:cap(n.Legs)]), slices.Clone(n.Off[:cap(n.Off)])}
	}
	before := whole()
	impl.IsNetwork(n)
	impl.PlacesOf(n)
	impl.RunsOn(n, 1, 8)
	impl.IsTrip(n, impl.Trip{})
	impl.StartsAt(n, impl.Trip{})
	impl.EndsAt(n, impl.Trip{})
	impl.NextTrip(n, 1, 5000)
	impl.LastTrip(n, 1, 50000)
	impl.TripsFrom(n, "AMS", 0, impl.MaxTime)
	if after := whole(); !reflect.DeepEqual(after, before) {
		t.Error(after, before)
	}
}
