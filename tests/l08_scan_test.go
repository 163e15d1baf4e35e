package tests

import (
	"fmt"
	"math/rand"
	"reflect"
	"slices"
	"sort"
	"strings"
	"testing"

	"loop.example/g03014/impl"
)

func hereAt(thing, at int, place string) impl.Scan {
	return impl.Scan{Thing: thing, At: at, Kind: impl.ScanHere, Place: place}
}

func doneAt(thing, at int, place string) impl.Scan {
	return impl.Scan{Thing: thing, At: at, Kind: impl.ScanDone, Place: place}
}

func loadAt(thing, at, leg, day int) impl.Scan {
	return impl.Scan{Thing: thing, At: at, Kind: impl.ScanLoad, Trip: impl.Trip{Leg: leg, Day: day}}
}

func dropAt(thing, at, leg, day int) impl.Scan {
	return impl.Scan{Thing: thing, At: at, Kind: impl.ScanDrop, Trip: impl.Trip{Leg: leg, Day: day}}
}

// scansUpTo are of one place, by minutes from 1 on.
func scansUpTo(count int) []impl.Scan {
	var l []impl.Scan
	for at := 1; at <= count; at++ {
		l = append(l, hereAt(5, at, "AMS"))
	}
	return l
}

// someScans are of someNetwork; they go to each bound, or to the minute that is just in time.
func someScans() []impl.Scan {
	return []impl.Scan{
		hereAt(5, 100, "AMS"), hereAt(5, 100, "CDG"), hereAt(5, 100, "DUB"), hereAt(5, 100, "OSL"), doneAt(5, 100, "AMS"), doneAt(5, 100, "OSL"),
		hereAt(1, 0, "AMS"), hereAt(impl.MaxId, impl.MaxTime, "AMS"), doneAt(1, impl.MaxTime, "DUB"), doneAt(impl.MaxId, 0, "DUB"), hereAt(2, impl.MaxTime-1, "OSL"), hereAt(impl.MaxId-1, 1, "OSL"),
		loadAt(5, 480, 0, 0), loadAt(5, 479, 0, 0), loadAt(5, 0, 0, 0), loadAt(1, 0, 0, 60), loadAt(5, 86880, 0, 60), loadAt(5, 2040, 1, 1), loadAt(5, 0, 5, 1), loadAt(5, 2879, 5, 1), loadAt(5, 18720, 4, 13), loadAt(5, 480, 3, 0),
		dropAt(5, 570, 0, 0), dropAt(5, 571, 0, 0), dropAt(5, impl.MaxTime, 0, 0), dropAt(impl.MaxId, 86970, 0, 60), dropAt(5, 4800, 3, 0), dropAt(5, 18721, 4, 13), dropAt(5, 4320, 5, 1), dropAt(5, 2160, 1, 1), dropAt(1, 91200, 3, 60),
	}
}

// noScans are none of someNetwork; each is wrong in one way only.
func noScans() []impl.Scan {
	var l []impl.Scan
	for _, thing := range []int{0, -1, -5, impl.MaxId + 1, leastInt, greatestInt} {
		l = append(l, hereAt(thing, 100, "AMS"), doneAt(thing, 100, "AMS"), loadAt(thing, 480, 0, 0), dropAt(thing, 570, 0, 0))
	}
	for _, at := range []int{-1, leastInt} {
		l = append(l, hereAt(5, at, "AMS"), doneAt(5, at, "AMS"), loadAt(5, at, 0, 0))
	}
	for _, at := range []int{impl.MaxTime + 1, greatestInt} {
		l = append(l, hereAt(5, at, "AMS"), doneAt(5, at, "AMS"), dropAt(5, at, 0, 0))
	}
	for _, kind := range []int{0, -1, 5, 6, leastInt, greatestInt} {
		l = append(l, impl.Scan{Thing: 5, At: 100, Kind: kind, Place: "AMS"}, impl.Scan{Thing: 5, At: 480, Kind: kind}, impl.Scan{Thing: 5, At: 570, Kind: kind})
	}
	for _, place := range []string{"", "XYZ", "ZZZ", "AM", "AMST", "ams", "AMS ", " AMS", "AMSCDG", "\xff"} {
		l = append(l, hereAt(5, 100, place), doneAt(5, 100, place))
	}
	for _, trip := range trips(1, 1, 0, 1, 2, 0, -1, 0, 0, -1, leastInt, 0, 0, greatestInt) {
		l = append(l, impl.Scan{Thing: 5, At: 1, Kind: impl.ScanHere, Place: "AMS", Trip: trip}, impl.Scan{Thing: 5, At: 99999, Kind: impl.ScanDone, Place: "DUB", Trip: trip})
	}
	for _, place := range []string{"AMS", "CDG", "DUB", "XYZ", " ", "\x00"} {
		l = append(l, impl.Scan{Thing: 5, At: 480, Kind: impl.ScanLoad, Place: place}, impl.Scan{Thing: 5, At: 570, Kind: impl.ScanDrop, Place: place})
	}
	for _, trip := range noTrips() {
		l = append(l, loadAt(5, 0, trip.Leg, trip.Day), dropAt(5, impl.MaxTime, trip.Leg, trip.Day))
	}
	for _, x := range ridesOf(someNetwork()) {
		l = append(l, loadAt(5, x.start+1, x.trip.Leg, x.trip.Day), dropAt(5, x.end-1, x.trip.Leg, x.trip.Day))
	}
	return append(l, impl.Scan{}, loadAt(5, 570, 0, 0), loadAt(5, impl.MaxTime, 0, 0), dropAt(5, 480, 0, 0), dropAt(5, 0, 0, 0))
}

func wantedCompare(a, b impl.Scan) int {
	x, y := fieldsOf(a), fieldsOf(b)
	for i := range x {
		if x[i] != y[i] {
			if x[i] < y[i] {
				return -1
			}
			return 1
		}
	}
	return strings.Compare(a.Place, b.Place)
}

// fieldsOf lists the numbers of a scan in the order in which they count.
func fieldsOf(s impl.Scan) [5]int {
	return [5]int{s.At, s.Thing, s.Kind, s.Trip.Day, s.Trip.Leg}
}

func scanOfFields(f [5]int, place string) impl.Scan {
	return impl.Scan{At: f[0], Thing: f[1], Kind: f[2], Trip: impl.Trip{Day: f[3], Leg: f[4]}, Place: place}
}

// isWantedScan is for valid networks.
func isWantedScan(n impl.Network, s impl.Scan) bool {
	if s.Thing < 1 || s.Thing > 9999 || s.At < 0 || s.At > 100000 {
		return false
	}
	if s.Kind == 1 || s.Kind == 4 {
		known := slices.ContainsFunc(n.Legs, func(l impl.Leg) bool { return s.Place == l.From || s.Place == l.To })
		return known && s.Trip.Leg == 0 && s.Trip.Day == 0
	}
	if s.Kind != 2 && s.Kind != 3 || s.Place != "" || !isOnCalendar(n, s.Trip) {
		return false
	}
	start := s.Trip.Day*1440 + n.Legs[s.Trip.Leg].Start
	return s.Kind == 3 && s.At <= start || s.Kind == 2 && s.At >= start+n.Legs[s.Trip.Leg].Takes
}

// wantedScans puts each scan where it belongs: nothing is sorted.
func wantedScans(n impl.Network, l []impl.Scan) []impl.Scan {
	sorted := []impl.Scan{}
	for i, s := range l {
		if i == 200 {
			break
		}
		if !isWantedScan(n, s) || slices.Contains(sorted, s) {
			continue
		}
		at := 0
		for at < len(sorted) && wantedCompare(sorted[at], s) < 0 {
			at++
		}
		sorted = slices.Insert(sorted, at, s)
	}
	return sorted
}

func wantedOf(n impl.Network, l []impl.Scan, thing int) []impl.Scan {
	found := []impl.Scan{}
	for _, s := range wantedScans(n, l) {
		if s.Thing == thing {
			found = append(found, s)
		}
	}
	return found
}

func wantedSpots(n impl.Network, s impl.Scan) (behind, before impl.Spot) {
	if s.Kind == impl.ScanHere || s.Kind == impl.ScanDone {
		spot := impl.Spot{Place: s.Place, At: s.At}
		return spot, spot
	}
	l := n.Legs[s.Trip.Leg]
	start := s.Trip.Day*1440 + l.Start
	behind = impl.Spot{Place: l.To, At: s.At}
	if s.Kind == impl.ScanLoad {
		behind.At = start + l.Takes
	}
	return behind, impl.Spot{Place: l.From, At: start}
}

// isReachedBy goes once through the rides in the order of their starts: whatever leads to one has started before it.
func isReachedBy(n impl.Network, rides []ride, behind, before impl.Spot) bool {
	ready := map[string]int{behind.Place: behind.At}
	for _, x := range rides {
		if at, ok := ready[x.from]; !ok || x.start < at || x.to == behind.Place {
			continue
		}
		if x.to == before.Place && x.end <= before.At {
			return true
		}
		if at, ok := ready[x.to]; !ok || x.end+n.Change < at {
			ready[x.to] = x.end + n.Change
		}
	}
	return behind.Place == before.Place && behind.At <= before.At
}

// wantedFollow is for valid scans.
func wantedFollow(n impl.Network, rides []ride, a, b impl.Scan) bool {
	if a.Thing != b.Thing || wantedCompare(a, b) >= 0 || a.Kind == impl.ScanDone {
		return false
	}
	if a.Kind == impl.ScanLoad && b.Kind == impl.ScanDrop && a.Trip == b.Trip {
		return true
	}
	behind, _ := wantedSpots(n, a)
	_, before := wantedSpots(n, b)
	return isReachedBy(n, rides, behind, before)
}

// wantedStay tells which scans clash, and which ones stay.
func wantedStay(n impl.Network, rides []ride, scans []impl.Scan) (clashes []int, stay []impl.Scan) {
	last := -1
	for i, s := range scans {
		if i > 0 && !wantedFollow(n, rides, scans[i-1], s) {
			clashes = append(clashes, i)
		}
		if last < 0 || wantedFollow(n, rides, scans[last], s) {
			last = i
			stay = append(stay, s)
		}
	}
	return clashes, stay
}

func scanText(s impl.Scan) string {
	where := s.Place
	if s.Kind == impl.ScanLoad || s.Kind == impl.ScanDrop {
		where = fmt.Sprintf("%d/%d", s.Trip.Leg, s.Trip.Day)
	}
	word := map[int]string{1: "here", 2: "drop", 3: "load", 4: "done"}[s.Kind]
	return fmt.Sprintf("%d %02d:%02d %d %s %s", s.At/1440, s.At%1440/60, s.At%60, s.Thing, word, where)
}

func TestScanConstants(t *testing.T) {
	got := []int{impl.ScanHere, impl.ScanDrop, impl.ScanLoad, impl.ScanDone, impl.MaxScans}
	if want := []int{1, 2, 3, 4, 200}; !slices.Equal(got, want) {
		t.Error(got)
	}
}

func TestIsScan(t *testing.T) {
	n := someNetwork()
	for _, s := range someScans() {
		if !impl.IsScan(n, s) || !isWantedScan(n, s) {
			t.Error(s)
		}
	}
	for _, s := range noScans() {
		if impl.IsScan(n, s) || isWantedScan(n, s) {
			t.Error(s)
		}
	}
	for _, x := range ridesOf(n) {
		for _, at := range []int{x.start, x.start - 1, 0} {
			if s := loadAt(7, at, x.trip.Leg, x.trip.Day); !impl.IsScan(n, s) {
				t.Error(s)
			}
		}
		for _, at := range []int{x.end, x.end + 1, impl.MaxTime} {
			if s := dropAt(7, at, x.trip.Leg, x.trip.Day); !impl.IsScan(n, s) {
				t.Error(s)
			}
		}
	}
	for _, s := range append(someScans(), noScans()...) {
		if impl.IsScan(impl.Network{}, s) {
			t.Error("a network without legs has no places and no trips", s)
		}
	}
}

// Zero is a trip of some networks only, and also what Trip is where none is meant.
func TestScansOfTheZeroTrip(t *testing.T) {
	daily, later := withLeg(someLeg()), withLeg(legBut(func(l *impl.Leg) { l.Days = 2 }))
	for _, c := range []struct {
		n    impl.Network
		s    impl.Scan
		want bool
	}{
		{daily, loadAt(5, 480, 0, 0), true}, {daily, dropAt(5, 570, 0, 0), true}, {daily, hereAt(5, 480, "AMS"), true}, {daily, doneAt(5, 480, "CDG"), true},
		{later, loadAt(5, 480, 0, 0), false}, {later, dropAt(5, 570, 0, 0), false}, {later, hereAt(5, 480, "AMS"), true}, {later, doneAt(5, 480, "CDG"), true},
		{later, loadAt(5, 1920, 0, 1), true}, {later, loadAt(5, 1921, 0, 1), false}, {later, dropAt(5, 2010, 0, 1), true}, {later, dropAt(5, 2009, 0, 1), false},
		{daily, hereAt(5, 480, "DUB"), false}, {impl.Network{}, hereAt(5, 480, ""), false}, {impl.Network{}, loadAt(5, 480, 0, 0), false},
	} {
		if got := impl.IsScan(c.n, c.s); got != c.want {
			t.Error(c, got)
		}
	}
}

// checkNoScan asks for everything that a scan would tell if it were valid.
func checkNoScan(t *testing.T, n impl.Network, s impl.Scan) {
	t.Helper()
	if impl.IsScan(n, s) || impl.PlaceOf(n, s) != "" || impl.SpotBehind(n, s) != (impl.Spot{}) || impl.SpotBefore(n, s) != (impl.Spot{}) || impl.FormatScan(n, s) != "" {
		t.Error(n, s, impl.PlaceOf(n, s), impl.SpotBehind(n, s), impl.SpotBefore(n, s), impl.FormatScan(n, s))
	}
	if got := impl.SortScans(n, []impl.Scan{s, s}); len(got) != 0 {
		t.Error(n, s, got)
	}
	if a, b, c := impl.ScansOf(n, []impl.Scan{s}, s.Thing), impl.Clashes(n, []impl.Scan{s, s}, s.Thing), impl.Cleaned(n, []impl.Scan{s}, s.Thing); len(a) != 0 || len(b) != 0 || len(c) != 0 {
		t.Error(n, s, a, b, c)
	}
	if got, ok := impl.LastScan(n, []impl.Scan{s}, s.Thing, greatestInt); ok || got != (impl.Scan{}) {
		t.Error(n, s, got)
	}
	if got, ok := impl.NextScan(n, []impl.Scan{s}, s.Thing, leastInt); ok || got != (impl.Scan{}) {
		t.Error(n, s, got)
	}
	for _, other := range []impl.Scan{s, hereAt(s.Thing, 0, "AMS"), hereAt(s.Thing, impl.MaxTime, "AMS"), hereAt(s.Thing, impl.MaxTime, "CDG"), loadAt(s.Thing, 0, 0, 0), loadAt(s.Thing, 480, 0, 0), dropAt(s.Thing, 570, 0, 0), dropAt(s.Thing, impl.MaxTime, 0, 0)} {
		if impl.CanFollow(n, s, other) || impl.CanFollow(n, other, s) {
			t.Error(n, s, other)
		}
	}
}

func TestWhatIsNoScanTellsNothing(t *testing.T) {
	for _, s := range noScans() {
		checkNoScan(t, someNetwork(), s)
	}
	for _, s := range append(someScans(), noScans()...) {
		checkNoScan(t, impl.Network{}, s)
	}
}

func TestNothingIsSeenInABadNetwork(t *testing.T) {
	for _, n := range badNetworks() {
		for _, s := range []impl.Scan{hereAt(5, 100, "AMS"), doneAt(5, 100, "CDG"), loadAt(5, 480, 0, 0), dropAt(5, 570, 0, 0), hereAt(5, 100, ""), {}} {
			checkNoScan(t, n, s)
		}
		for _, s := range []string{"0 01:40 5 here AMS", "0 01:40 5 done CDG", "0 08:00 5 load 0/0", "0 09:30 5 drop 0/0"} {
			if got, ok := impl.ParseScan(n, s); ok || got != (impl.Scan{}) {
				t.Error(n, s, got)
			}
		}
	}
}

func TestPlacesAndSpots(t *testing.T) {
	n := someNetwork()
	for _, c := range []struct {
		s              impl.Scan
		place          string
		behind, before impl.Spot
	}{
		{hereAt(5, 100, "AMS"), "AMS", impl.Spot{Place: "AMS", At: 100}, impl.Spot{Place: "AMS", At: 100}}, {hereAt(1, 0, "OSL"), "OSL", impl.Spot{Place: "OSL"}, impl.Spot{Place: "OSL"}},
		{doneAt(5, 100, "DUB"), "DUB", impl.Spot{Place: "DUB", At: 100}, impl.Spot{Place: "DUB", At: 100}}, {doneAt(5, impl.MaxTime, "CDG"), "CDG", impl.Spot{Place: "CDG", At: impl.MaxTime}, impl.Spot{Place: "CDG", At: impl.MaxTime}},
		{loadAt(5, 480, 0, 0), "AMS", impl.Spot{Place: "CDG", At: 570}, impl.Spot{Place: "AMS", At: 480}}, {loadAt(5, 0, 0, 0), "AMS", impl.Spot{Place: "CDG", At: 570}, impl.Spot{Place: "AMS", At: 480}},
		{dropAt(5, 570, 0, 0), "CDG", impl.Spot{Place: "CDG", At: 570}, impl.Spot{Place: "AMS", At: 480}}, {dropAt(5, 9999, 0, 0), "CDG", impl.Spot{Place: "CDG", At: 9999}, impl.Spot{Place: "AMS", At: 480}},
		{loadAt(5, 1, 1, 8), "CDG", impl.Spot{Place: "DUB", At: 12240}, impl.Spot{Place: "CDG", At: 12120}}, {dropAt(5, impl.MaxTime, 1, 8), "DUB", impl.Spot{Place: "DUB", At: impl.MaxTime}, impl.Spot{Place: "CDG", At: 12120}},
		{loadAt(9, 480, 3, 60), "AMS", impl.Spot{Place: "OSL", At: 91200}, impl.Spot{Place: "AMS", At: 86880}}, {dropAt(9, 18722, 4, 13), "AMS", impl.Spot{Place: "AMS", At: 18722}, impl.Spot{Place: "OSL", At: 18720}},
	} {
		if place, behind, before := impl.PlaceOf(n, c.s), impl.SpotBehind(n, c.s), impl.SpotBefore(n, c.s); place != c.place || behind != c.behind || before != c.before {
			t.Error(c, place, behind, before)
		}
	}
}

// The same two numbers, or places, in one field only; both scans need not be valid.
func TestCompareScansInOneField(t *testing.T) {
	for field := range 5 {
		for _, numbers := range [][]int{{0, 1, 2, 10, 200}, {leastInt, leastInt + 1, -1, 0, 1, greatestInt - 1, greatestInt}, {-10, -9}, {impl.MaxTime, impl.MaxTime + 1}} {
			for _, base := range []impl.Scan{{}, hereAt(5, 100, "AMS"), loadAt(5, 480, 0, 0), scanOfFields([5]int{greatestInt, leastInt, greatestInt, leastInt, greatestInt}, "zzz")} {
				checkField(t, base, field, numbers)
			}
		}
	}
	places := []string{"", "\x00", " ", "A", "AM", "AMS", "AMSA", "AMT", "CDG", "ZZZ", "a", "ams", "\xff"}
	for i, low := range places {
		for j, high := range places {
			for _, base := range []impl.Scan{{}, hereAt(5, 100, ""), dropAt(leastInt, greatestInt, leastInt, greatestInt)} {
				a, b := base, base
				a.Place, b.Place = low, high
				if got := impl.CompareScans(a, b); got != signOf(i-j) {
					t.Error(a, b, got)
				}
			}
		}
	}
}

func signOf(n int) int {
	return max(-1, min(n, 1))
}

// checkField compares scans that differ in one field, in which they have ascending numbers.
func checkField(t *testing.T, base impl.Scan, field int, ascending []int) {
	t.Helper()
	for i, low := range ascending {
		for j, high := range ascending {
			x, y := fieldsOf(base), fieldsOf(base)
			x[field], y[field] = low, high
			a, b := scanOfFields(x, base.Place), scanOfFields(y, base.Place)
			if got := impl.CompareScans(a, b); got != signOf(i-j) {
				t.Error(field, a, b, got)
			}
		}
	}
}

// A field counts before all that come behind it, whatever these are.
func TestTheFirstFieldDecides(t *testing.T) {
	for field := range 5 {
		for _, c := range [][4]int{{1, 2, 9, 0}, {0, 1, 1, 0}, {-1, 0, greatestInt, leastInt}, {leastInt, greatestInt, greatestInt, leastInt}} {
			x, y := [5]int{7, 7, 7, 7, 7}, [5]int{7, 7, 7, 7, 7}
			x[field], y[field] = c[0], c[1]
			for i := field + 1; i < 5; i++ {
				x[i], y[i] = c[2], c[3]
			}
			low, high := scanOfFields(x, "ZZZ"), scanOfFields(y, "AAA")
			if a, b := impl.CompareScans(low, high), impl.CompareScans(high, low); a != -1 || b != 1 {
				t.Error(low, high, a, b)
			}
		}
	}
	r := rand.New(rand.NewSource(81))
	numbers := []int{leastInt, -1, 0, 1, 2, greatestInt}
	var l []impl.Scan
	for range 150 {
		var f [5]int
		for i := range f {
			f[i] = numbers[r.Intn(6)]
		}
		l = append(l, scanOfFields(f, []string{"", "A", "AMS", "B"}[r.Intn(4)]))
	}
	for _, a := range append(l, append(someScans(), noScans()...)...) {
		for _, b := range append(l, someScans()...) {
			if got := impl.CompareScans(a, b); got != wantedCompare(a, b) {
				t.Error(a, b, got)
			}
		}
	}
}

func TestSortScans(t *testing.T) {
	n := someNetwork()
	bad, many := dropAt(5, 569, 0, 0), scansUpTo(impl.MaxScans)
	early := hereAt(5, 0, "AMS")
	for _, c := range []struct{ l, want []impl.Scan }{
		{nil, nil}, {[]impl.Scan{}, nil}, {[]impl.Scan{bad}, nil}, {[]impl.Scan{early}, []impl.Scan{early}}, {[]impl.Scan{early, early}, []impl.Scan{early}}, {[]impl.Scan{bad, early, bad, early, bad}, []impl.Scan{early}},
		// By time, and at one time by thing, kind, day, leg and place.
		{[]impl.Scan{hereAt(1, 20, "AMS"), hereAt(2, 10, "CDG"), hereAt(1, 15, "CDG")}, []impl.Scan{hereAt(2, 10, "CDG"), hereAt(1, 15, "CDG"), hereAt(1, 20, "AMS")}},
		{[]impl.Scan{doneAt(1, 20, "AMS"), hereAt(10, 20, "AMS"), hereAt(9, 20, "AMS")}, []impl.Scan{doneAt(1, 20, "AMS"), hereAt(9, 20, "AMS"), hereAt(10, 20, "AMS")}},
		{[]impl.Scan{doneAt(5, 570, "CDG"), loadAt(5, 570, 1, 1), dropAt(5, 570, 0, 0), hereAt(5, 570, "CDG")}, []impl.Scan{hereAt(5, 570, "CDG"), dropAt(5, 570, 0, 0), loadAt(5, 570, 1, 1), doneAt(5, 570, "CDG")}},
		{[]impl.Scan{loadAt(5, 0, 0, 3), loadAt(5, 0, 2, 1), loadAt(5, 0, 0, 1), loadAt(5, 0, 1, 1)}, []impl.Scan{loadAt(5, 0, 0, 1), loadAt(5, 0, 1, 1), loadAt(5, 0, 2, 1), loadAt(5, 0, 0, 3)}},
		{[]impl.Scan{hereAt(5, 0, "OSL"), hereAt(5, 0, "CDG"), hereAt(5, 0, "DUB"), hereAt(5, 0, "AMS")}, []impl.Scan{hereAt(5, 0, "AMS"), hereAt(5, 0, "CDG"), hereAt(5, 0, "DUB"), hereAt(5, 0, "OSL")}},
		// What is equal may stand apart.
		{[]impl.Scan{hereAt(5, 9, "AMS"), early, hereAt(5, 9, "AMS"), hereAt(6, 9, "AMS"), early, hereAt(5, 9, "AMS")}, []impl.Scan{early, hereAt(5, 9, "AMS"), hereAt(6, 9, "AMS")}},
		// The first ones count, and of what is not valid or comes again as well.
		{many, many}, {append(slices.Clone(many), early), many}, {append([]impl.Scan{early}, many...), append([]impl.Scan{early}, many[:199]...)}, {append([]impl.Scan{bad}, many...), many[:199]},
		{append(slices.Clone(many[:199]), bad, many[199]), many[:199]}, {append(slices.Repeat([]impl.Scan{bad}, 200), early), nil}, {append(slices.Repeat([]impl.Scan{bad}, 199), early), []impl.Scan{early}}, {append(slices.Repeat([]impl.Scan{{}}, 199), many...), many[:1]},
		{append(slices.Repeat([]impl.Scan{early}, 200), many...), []impl.Scan{early}}, {append(slices.Repeat([]impl.Scan{early}, 199), many...), []impl.Scan{early, many[0]}}, {scansUpTo(5000), many},
	} {
		if got := impl.SortScans(n, c.l); !slices.Equal(got, c.want) || !slices.Equal(got, wantedScans(n, c.l)) {
			t.Error(len(c.l), got, c.want)
		}
	}
	all := append(someScans(), noScans()[:150]...)
	for seed := range int64(50) {
		rand.New(rand.NewSource(seed)).Shuffle(len(all), func(i, j int) { all[i], all[j] = all[j], all[i] })
		if got, want := impl.SortScans(n, all), wantedScans(n, all); len(got) != len(someScans()) || !slices.Equal(got, want) {
			t.Error(got, want)
		}
	}
}

func TestScansOf(t *testing.T) {
	n := someNetwork()
	l := []impl.Scan{hereAt(7, 50, "CDG"), hereAt(5, 100, "AMS"), dropAt(7, 2, 0, 0), hereAt(7, 5, "AMS"), hereAt(impl.MaxId, 1, "DUB"), hereAt(7, 50, "CDG"), hereAt(0, 5, "AMS"), hereAt(-7, 5, "AMS"), hereAt(10000, 5, "AMS"), hereAt(1, 7, "AMS")}
	for thing, want := range map[int][]impl.Scan{
		7: {hereAt(7, 5, "AMS"), hereAt(7, 50, "CDG")}, 5: {hereAt(5, 100, "AMS")}, impl.MaxId: {hereAt(impl.MaxId, 1, "DUB")}, 1: {hereAt(1, 7, "AMS")},
		2: nil, 6: nil, 0: nil, -7: nil, -1: nil, impl.MaxId + 1: nil, leastInt: nil, greatestInt: nil,
	} {
		if got := impl.ScansOf(n, l, thing); !slices.Equal(got, want) {
			t.Error(thing, got, want)
		}
		if got := impl.ScansOf(n, nil, thing); len(got) != 0 {
			t.Error(thing, got)
		}
	}
	// The first ones are counted of all things.
	late := append(scansUpTo(impl.MaxScans), hereAt(6, 1, "AMS"))
	if got := impl.ScansOf(n, late, 6); len(got) != 0 {
		t.Error(got)
	}
	if got := impl.ScansOf(n, late[1:], 6); !slices.Equal(got, late[200:]) {
		t.Error(got)
	}
}

type followCase struct {
	a, b impl.Scan
	want bool
}

func checkFollow(t *testing.T, n impl.Network, cases []followCase) {
	t.Helper()
	rides := ridesOf(n)
	for _, c := range cases {
		if !impl.IsScan(n, c.a) || !impl.IsScan(n, c.b) {
			t.Error(c)
		}
		if got := impl.CanFollow(n, c.a, c.b); got != c.want || wantedFollow(n, rides, c.a, c.b) != c.want {
			t.Error(c, got)
		}
		// No scan can follow a later one, or itself.
		if impl.CanFollow(n, c.b, c.a) && wantedCompare(c.a, c.b) < 0 || impl.CanFollow(n, c.a, c.a) || impl.CanFollow(n, c.b, c.b) {
			t.Error(c)
		}
	}
}

func TestCanFollow(t *testing.T) {
	checkFollow(t, someNetwork(), []followCase{
		// At one place, and at one time.
		{hereAt(5, 100, "AMS"), hereAt(5, 101, "AMS"), true}, {hereAt(5, 100, "AMS"), hereAt(5, impl.MaxTime, "AMS"), true}, {hereAt(5, 0, "DUB"), doneAt(5, 0, "DUB"), true}, {hereAt(5, 100, "AMS"), hereAt(5, 100, "AMS"), false},
		{hereAt(5, 100, "AMS"), doneAt(5, 100, "AMS"), true}, {hereAt(5, 100, "AMS"), doneAt(5, 100, "CDG"), false}, {hereAt(5, 100, "AMS"), hereAt(5, 100, "CDG"), false}, {hereAt(5, 100, "CDG"), hereAt(5, 100, "AMS"), false},
		{hereAt(5, impl.MaxTime, "AMS"), doneAt(5, impl.MaxTime, "AMS"), true}, {hereAt(5, 480, "AMS"), loadAt(5, 480, 0, 0), true}, {loadAt(5, 480, 0, 0), doneAt(5, 480, "AMS"), false}, {loadAt(5, 480, 0, 0), loadAt(5, 480, 3, 0), false},
		{dropAt(5, 2040, 0, 1), loadAt(5, 2040, 1, 1), true}, {dropAt(5, 570, 0, 0), doneAt(5, 570, "CDG"), true}, {dropAt(5, 570, 0, 0), doneAt(5, 570, "AMS"), false}, {hereAt(5, 570, "CDG"), dropAt(5, 570, 0, 0), false},
		// Two things, and an earlier one.
		{hereAt(5, 100, "AMS"), hereAt(6, 101, "AMS"), false}, {hereAt(6, 100, "AMS"), hereAt(5, 101, "AMS"), false}, {loadAt(5, 480, 0, 0), dropAt(6, 570, 0, 0), false}, {hereAt(5, 101, "AMS"), hereAt(5, 100, "AMS"), false}, {dropAt(5, 570, 0, 0), loadAt(5, 480, 0, 0), false}, {loadAt(5, 480, 0, 0), hereAt(5, 100, "AMS"), false},
		// Behind what was handed over there is nothing.
		{doneAt(5, 100, "AMS"), hereAt(5, 101, "AMS"), false}, {doneAt(5, 100, "AMS"), doneAt(5, 101, "AMS"), false}, {doneAt(5, 100, "AMS"), loadAt(5, 480, 0, 0), false}, {doneAt(5, 100, "AMS"), dropAt(5, 570, 0, 0), false}, {doneAt(5, 100, "AMS"), hereAt(5, 9999, "CDG"), false}, {doneAt(5, 100, "AMS"), doneAt(5, 100, "CDG"), false},
		// Just in time, and a minute too little: at the start, and at the end.
		{hereAt(5, 480, "AMS"), hereAt(5, 570, "CDG"), true}, {hereAt(5, 480, "AMS"), hereAt(5, 569, "CDG"), false}, {hereAt(5, 481, "AMS"), hereAt(5, 570, "CDG"), false}, {hereAt(5, 481, "AMS"), hereAt(5, 2010, "CDG"), true}, {hereAt(5, 481, "AMS"), hereAt(5, 2009, "CDG"), false},
		{hereAt(5, 480, "AMS"), dropAt(5, 570, 0, 0), true}, {hereAt(5, 481, "AMS"), dropAt(5, 570, 0, 0), false}, {hereAt(5, 481, "AMS"), dropAt(5, 9999, 0, 0), false}, {hereAt(5, 1920, "AMS"), loadAt(5, 1930, 1, 1), true}, {hereAt(5, 1921, "AMS"), loadAt(5, 1930, 1, 1), false},
		{hereAt(5, 1920, "AMS"), dropAt(5, 5000, 1, 1), true}, {hereAt(5, 1921, "AMS"), dropAt(5, 5000, 1, 1), false}, {hereAt(5, 1920, "AMS"), hereAt(5, 2160, "DUB"), true}, {hereAt(5, 1920, "AMS"), hereAt(5, 2159, "DUB"), false}, {hereAt(5, 1921, "AMS"), hereAt(5, 2940, "DUB"), true}, {hereAt(5, 1921, "AMS"), hereAt(5, 2939, "DUB"), false},
		{dropAt(5, 570, 0, 0), loadAt(5, 570, 1, 1), true}, {dropAt(5, 570, 0, 0), loadAt(5, 2040, 1, 1), true}, {dropAt(5, 2040, 0, 0), hereAt(5, 2160, "DUB"), true}, {dropAt(5, 2041, 0, 0), hereAt(5, 2160, "DUB"), false}, {dropAt(5, 2041, 0, 0), dropAt(5, 2160, 1, 1), false}, {dropAt(5, 2040, 0, 0), dropAt(5, 2160, 1, 1), true},
		// No way leads there at all: too late for any, and from where none goes.
		{hereAt(5, 90000, "AMS"), hereAt(5, 95000, "CDG"), false}, {hereAt(5, 0, "CDG"), hereAt(5, impl.MaxTime, "AMS"), false}, {hereAt(5, 0, "DUB"), hereAt(5, impl.MaxTime, "OSL"), false}, {hereAt(5, impl.MaxTime-1, "AMS"), hereAt(5, impl.MaxTime, "CDG"), false}, {dropAt(5, 570, 0, 0), dropAt(5, 2010, 0, 1), false},
	})
}

// What is loaded is free at the end of the trip, wherever and whenever it was loaded.
func TestCanFollowBehindALoad(t *testing.T) {
	checkFollow(t, someNetwork(), []followCase{
		{loadAt(5, 480, 0, 0), dropAt(5, 570, 0, 0), true}, {loadAt(5, 0, 0, 0), dropAt(5, impl.MaxTime, 0, 0), true}, {loadAt(5, 0, 3, 60), dropAt(5, 91200, 3, 60), true}, {loadAt(5, 480, 0, 0), dropAt(5, 2010, 0, 1), false}, {loadAt(5, 480, 0, 0), dropAt(5, 4320, 5, 1), false}, {loadAt(5, 0, 0, 0), dropAt(5, 4800, 3, 0), false}, {loadAt(5, 0, 0, 1), dropAt(5, 570, 0, 0), false},
		{loadAt(5, 480, 0, 0), dropAt(5, 2160, 1, 1), true}, {loadAt(5, 0, 0, 1), dropAt(5, 2160, 1, 1), true}, {loadAt(5, 0, 0, 3), dropAt(5, 2160, 1, 1), false}, {loadAt(5, 480, 0, 0), loadAt(5, 500, 1, 1), true}, {loadAt(5, 1920, 0, 1), loadAt(5, 1920, 1, 1), true}, {loadAt(5, 1920, 0, 1), loadAt(5, 1920, 2, 1), false}, {loadAt(5, 2, 0, 3), loadAt(5, 3, 1, 1), false}, {loadAt(5, 2, 0, 1), loadAt(5, 3, 0, 1), false},
		{loadAt(5, 100, 0, 0), hereAt(5, 101, "AMS"), false}, {loadAt(5, 100, 0, 0), hereAt(5, 480, "AMS"), false}, {loadAt(5, 100, 0, 0), hereAt(5, 569, "CDG"), false}, {loadAt(5, 100, 0, 0), hereAt(5, 570, "CDG"), true}, {loadAt(5, 100, 0, 0), doneAt(5, 569, "CDG"), false}, {loadAt(5, 100, 0, 0), doneAt(5, 570, "CDG"), true},
		{loadAt(5, 100, 0, 0), hereAt(5, 2159, "DUB"), false}, {loadAt(5, 100, 0, 0), hereAt(5, 2160, "DUB"), true}, {loadAt(5, 480, 3, 0), hereAt(5, 18720, "AMS"), false}, {loadAt(5, 480, 3, 0), hereAt(5, 18721, "AMS"), true}, {loadAt(5, 480, 3, 0), loadAt(5, 481, 4, 13), true}, {loadAt(5, 0, 5, 1), loadAt(5, 1, 1, 1), false}, {loadAt(5, 0, 5, 1), loadAt(5, 1, 1, 8), true},
	})
	checkFollow(t, backNetwork(), []followCase{
		// It is back in time for the same leg on the next day, but not for the leg behind the one on which it is.
		{loadAt(5, 60, 0, 0), dropAt(5, 1560, 0, 1), true}, {loadAt(5, 60, 0, 0), loadAt(5, 61, 0, 1), true}, {loadAt(5, 60, 0, 0), loadAt(5, 61, 2, 0), true}, {loadAt(5, 60, 0, 0), loadAt(5, 61, 1, 0), true}, {dropAt(5, 150, 0, 0), loadAt(5, 150, 1, 0), true}, {dropAt(5, 151, 0, 0), loadAt(5, 239, 2, 0), false}, {dropAt(5, 150, 0, 0), loadAt(5, 239, 2, 0), true},
		{hereAt(5, 0, "TOP"), loadAt(5, 0, 6, 0), true}, {hereAt(5, 1, "TOP"), loadAt(5, 1, 6, 1), true}, {hereAt(5, 0, "AMS"), hereAt(5, impl.MaxTime, "TOP"), false}, {loadAt(5, 0, 4, 0), hereAt(5, 390, "END"), true}, {loadAt(5, 0, 5, 0), hereAt(5, 359, "END"), true}, {loadAt(5, 0, 5, 0), hereAt(5, impl.MaxTime, "CDG"), false},
	})
}

// A change takes its time between two trips, but not where the way begins.
func TestCanFollowWithChanges(t *testing.T) {
	withChange := func(change int) impl.Network {
		n := someNetwork()
		n.Change = change
		return n
	}
	over := []followCase{{hereAt(5, 1920, "AMS"), hereAt(5, 2160, "DUB"), true}, {hereAt(5, 1900, "AMS"), doneAt(5, 2939, "DUB"), true}}
	checkFollow(t, withChange(0), over)
	checkFollow(t, withChange(30), over)
	over[0].want, over[1].want = false, false
	checkFollow(t, withChange(31), over)
	checkFollow(t, withChange(240), over)
	for _, change := range []int{0, 30, 31, 240} {
		checkFollow(t, withChange(change), []followCase{
			{loadAt(5, 1920, 0, 1), loadAt(5, 2040, 1, 1), true}, {loadAt(5, 1920, 0, 1), dropAt(5, 2160, 1, 1), true}, {loadAt(5, 1920, 0, 1), hereAt(5, 2160, "DUB"), true}, {loadAt(5, 1920, 0, 1), hereAt(5, 2159, "DUB"), false},
			{dropAt(5, 2040, 0, 1), loadAt(5, 2040, 1, 1), true}, {dropAt(5, 2040, 0, 1), hereAt(5, 2160, "DUB"), true}, {hereAt(5, 2040, "CDG"), loadAt(5, 2040, 1, 1), true}, {hereAt(5, 2040, "CDG"), hereAt(5, 2160, "DUB"), true}, {hereAt(5, 2041, "CDG"), hereAt(5, 2160, "DUB"), false},
			// To be seen or loaded where a trip ends, no change is asked behind it.
			{hereAt(5, 1920, "AMS"), loadAt(5, 2040, 1, 1), true}, {hereAt(5, 1920, "AMS"), hereAt(5, 2010, "CDG"), true}, {hereAt(5, 2879, "AMS"), loadAt(5, 2880, 1, 8), true}, {hereAt(5, 1920, "AMS"), hereAt(5, 2009, "CDG"), false},
		})
	}
}

func TestClashesAndCleaned(t *testing.T) {
	n := someNetwork()
	for _, c := range []struct {
		l       []impl.Scan
		clashes []int
		stay    []int
	}{
		{nil, nil, nil}, {[]impl.Scan{hereAt(5, 0, "AMS")}, nil, []int{0}}, {[]impl.Scan{doneAt(5, 0, "AMS")}, nil, []int{0}}, {[]impl.Scan{dropAt(5, 570, 0, 0)}, nil, []int{0}},
		{[]impl.Scan{hereAt(5, 0, "AMS"), loadAt(5, 480, 0, 0), dropAt(5, 570, 0, 0), hereAt(5, 600, "CDG"), loadAt(5, 2040, 1, 1), dropAt(5, 2160, 1, 1), doneAt(5, 2160, "DUB")}, nil, []int{0, 1, 2, 3, 4, 5, 6}},
		// The second one can not follow, and the third one can follow the first.
		{[]impl.Scan{hereAt(5, 0, "AMS"), hereAt(5, 100, "DUB"), hereAt(5, 200, "AMS")}, []int{1, 2}, []int{0, 2}}, {[]impl.Scan{hereAt(5, 0, "AMS"), hereAt(5, 500, "CDG"), hereAt(5, 570, "CDG")}, []int{1}, []int{0, 2}}, {[]impl.Scan{hereAt(5, 0, "AMS"), hereAt(5, 100, "OSL"), loadAt(5, 200, 0, 0), dropAt(5, 570, 0, 0)}, []int{1, 2}, []int{0, 2, 3}},
		// The third one can follow the second, but this one does not stay.
		{[]impl.Scan{hereAt(5, 0, "AMS"), hereAt(5, 100, "DUB"), hereAt(5, 200, "DUB")}, []int{1}, []int{0}}, {[]impl.Scan{hereAt(5, 0, "CDG"), hereAt(5, 100, "AMS"), loadAt(5, 480, 0, 0), dropAt(5, 570, 0, 0)}, []int{1}, []int{0}}, {[]impl.Scan{hereAt(5, 0, "CDG"), hereAt(5, 100, "AMS"), loadAt(5, 480, 0, 0), dropAt(5, 570, 0, 0), doneAt(5, 571, "CDG")}, []int{1}, []int{0, 4}},
		// None can follow.
		{[]impl.Scan{hereAt(5, 0, "AMS"), hereAt(5, 1, "CDG"), hereAt(5, 2, "DUB"), hereAt(5, 3, "OSL"), hereAt(5, 4, "CDG")}, []int{1, 2, 3, 4}, []int{0}}, {[]impl.Scan{hereAt(5, 7, "AMS"), hereAt(5, 7, "CDG"), hereAt(5, 7, "DUB"), hereAt(5, 7, "OSL")}, []int{1, 2, 3}, []int{0}}, {[]impl.Scan{hereAt(5, 7, "AMS"), hereAt(5, 7, "CDG"), hereAt(5, 7, "DUB"), doneAt(5, 7, "AMS")}, []int{1, 2, 3}, []int{0, 3}},
		{[]impl.Scan{doneAt(5, 0, "AMS"), hereAt(5, 1, "AMS"), hereAt(5, 2, "AMS"), doneAt(5, 3, "AMS")}, []int{1}, []int{0}}, {[]impl.Scan{hereAt(5, 0, "AMS"), doneAt(5, 0, "AMS"), doneAt(5, 1, "AMS"), doneAt(5, 2, "AMS")}, []int{2, 3}, []int{0, 1}},
		// The same trip twice: loaded, taken off, and seen where it ended before it was taken off.
		{[]impl.Scan{loadAt(5, 470, 0, 0), loadAt(5, 480, 0, 0), dropAt(5, 570, 0, 0), dropAt(5, 580, 0, 0), hereAt(5, 590, "CDG")}, []int{1, 3}, []int{0, 2, 4}}, {[]impl.Scan{loadAt(5, 480, 0, 0), hereAt(5, 570, "CDG"), dropAt(5, 570, 0, 0), doneAt(5, 570, "CDG")}, []int{2}, []int{0, 1, 3}}, {[]impl.Scan{loadAt(5, 470, 0, 0), hereAt(5, 475, "AMS"), dropAt(5, 570, 0, 0)}, []int{1}, []int{0, 2}},
	} {
		checkStay(t, n, c.l, c.clashes, c.stay)
	}
	many := scansUpTo(impl.MaxScans + 1)
	for i := 1; i < len(many); i += 2 {
		many[i].Place = "CDG"
	}
	clashes, stay := []int{}, []int{}
	for i := range 200 {
		if i > 0 {
			clashes = append(clashes, i)
		}
		if i%2 == 0 {
			stay = append(stay, i)
		}
	}
	if a, b := impl.Clashes(n, many, 5), impl.Cleaned(n, many, 5); !slices.Equal(a, clashes) || len(b) != len(stay) || b[99] != many[198] {
		t.Error(a, b)
	}
}

// checkStay gives the scans in several orders, doubled, and among what is not to be looked at.
func checkStay(t *testing.T, n impl.Network, l []impl.Scan, clashes, stay []int) {
	t.Helper()
	want := []impl.Scan{}
	for _, i := range stay {
		want = append(want, l[i])
	}
	back := slices.Clone(l)
	slices.Reverse(back)
	for _, given := range [][]impl.Scan{l, back, append(slices.Clone(l), back...), append([]impl.Scan{hereAt(4, 0, "DUB"), {}, dropAt(5, 0, 0, 0), hereAt(6, 1, "OSL")}, back...)} {
		if got := impl.ScansOf(n, given, 5); !slices.Equal(got, l) {
			t.Error(given, got)
		}
		if got := impl.Clashes(n, given, 5); !slices.Equal(got, clashes) {
			t.Error(given, got, clashes)
		}
		if got := impl.Cleaned(n, given, 5); !slices.Equal(got, want) {
			t.Error(given, got, want)
		}
		for _, thing := range []int{0, -5, 7, leastInt, greatestInt} {
			if a, b := impl.Clashes(n, given, thing), impl.Cleaned(n, given, thing); len(a) != 0 || len(b) != 0 {
				t.Error(given, thing, a, b)
			}
		}
	}
}

func TestLastAndNextScan(t *testing.T) {
	n := someNetwork()
	// Of these, the one at DUB can not follow and is left out; four are at one time.
	l := []impl.Scan{hereAt(5, 100, "AMS"), hereAt(5, 200, "DUB"), loadAt(5, 480, 0, 0), dropAt(5, 2040, 0, 0), loadAt(5, 2040, 1, 1), dropAt(5, 2160, 1, 1), doneAt(5, 2160, "DUB"), hereAt(5, 3000, "DUB"), hereAt(6, 150, "CDG"), hereAt(5, 2040, "AMS"), dropAt(5, 570, 0, 3)}
	none := impl.Scan{}
	for _, c := range []struct {
		at         int
		last, next impl.Scan
	}{
		{leastInt, none, l[0]}, {-1, none, l[0]}, {0, none, l[0]}, {99, none, l[0]}, {100, l[0], l[2]}, {101, l[0], l[2]}, {150, l[0], l[2]}, {200, l[0], l[2]}, {479, l[0], l[2]}, {480, l[2], l[3]}, {570, l[2], l[3]}, {2039, l[2], l[3]},
		{2040, l[4], l[5]}, {2041, l[4], l[5]}, {2159, l[4], l[5]}, {2160, l[6], none}, {2161, l[6], none}, {3000, l[6], none}, {impl.MaxTime, l[6], none}, {impl.MaxTime + 1, l[6], none}, {greatestInt, l[6], none},
	} {
		if got, ok := impl.LastScan(n, l, 5, c.at); got != c.last || ok != (c.last != none) {
			t.Error(c, got, ok)
		}
		if got, ok := impl.NextScan(n, l, 5, c.at); got != c.next || ok != (c.next != none) {
			t.Error(c, got, ok)
		}
		for _, thing := range []int{7, 0, -5, leastInt, greatestInt} {
			last, hasLast := impl.LastScan(n, l, thing, c.at)
			next, hasNext := impl.NextScan(n, l, thing, c.at)
			if hasLast || hasNext || last != none || next != none {
				t.Error(c, thing, last, next)
			}
		}
		last, hasLast := impl.LastScan(n, nil, 5, c.at)
		next, hasNext := impl.NextScan(n, nil, 5, c.at)
		if hasLast || hasNext || last != none || next != none {
			t.Error(c, last, next)
		}
	}
	edges := []impl.Scan{hereAt(1, 0, "AMS"), doneAt(1, impl.MaxTime, "AMS")}
	for at, want := range map[int][2]impl.Scan{-1: {none, edges[0]}, 0: {edges[0], edges[1]}, impl.MaxTime - 1: {edges[0], edges[1]}, impl.MaxTime: {edges[1], none}} {
		last, _ := impl.LastScan(n, edges, 1, at)
		next, _ := impl.NextScan(n, edges, 1, at)
		if last != want[0] || next != want[1] {
			t.Error(at, last, next)
		}
	}
}

func TestWrittenScans(t *testing.T) {
	n := someNetwork()
	for text, s := range map[string]impl.Scan{
		"0 01:40 5 here AMS": hereAt(5, 100, "AMS"), "0 09:30 5 drop 0/0": dropAt(5, 570, 0, 0), "0 08:00 5 load 0/0": loadAt(5, 480, 0, 0), "1 12:00 5 done DUB": doneAt(5, 2160, "DUB"),
		"0 00:00 1 here OSL": hereAt(1, 0, "OSL"), "69 10:40 9999 done CDG": doneAt(9999, impl.MaxTime, "CDG"), "69 10:40 10 drop 3/60": dropAt(10, impl.MaxTime, 3, 60), "0 00:00 100 load 5/57": loadAt(100, 0, 5, 57), "12 23:59 7 load 4/13": loadAt(7, 18719, 4, 13),
	} {
		if got := impl.FormatScan(n, s); got != text {
			t.Error(got, text)
		}
		if got, ok := impl.ParseScan(n, text); !ok || got != s {
			t.Error(text, got, ok)
		}
	}
	for _, s := range someScans() {
		text := scanText(s)
		if got := impl.FormatScan(n, s); got != text {
			t.Error(got, text)
		}
		if got, ok := impl.ParseScan(n, text); !ok || got != s {
			t.Error(text, got, ok)
		}
	}
	for _, s := range noScans() {
		if got := impl.FormatScan(n, s); got != "" {
			t.Error(s, got)
		}
		// A text does not tell a Place or a Trip that its kind does not use: without it, the scan may be valid.
		if got, ok := impl.ParseScan(n, scanText(s)); ok && (got == s || !isWantedScan(n, got) || scanText(got) != scanText(s)) || !ok && got != (impl.Scan{}) {
			t.Error(s, got, ok)
		}
	}
	long := withLeg(someLeg())
	long.Legs = legsOf(impl.MaxLegs)
	if got := impl.FormatScan(long, loadAt(12, 0, 19, 60)); got != "0 00:00 12 load 19/60" {
		t.Error(got)
	}
	if got, ok := impl.ParseScan(long, "0 00:00 12 load 19/60"); !ok || got != loadAt(12, 0, 19, 60) {
		t.Error(got, ok)
	}
}

func TestNoScanIsRead(t *testing.T) {
	n := someNetwork()
	for _, s := range []string{
		"", " ", "    ", "     ", "here", "AMS", "0 01:40", "0 01:40 5", "0 01:40 5 here", "0 01:40 5 here ", "01:40 5 here AMS", " 01:40 5 here AMS", "0 5 here AMS", "0 01:40 here AMS", "0 01:40 5 AMS", "5 here AMS", "0 08:00 5 load", "0 08:00 5 load ", "/",
		// A blank too many or too few, another byte for one, and something behind.
		" 0 01:40 5 here AMS", "0  01:40 5 here AMS", "0 01:40  5 here AMS", "0 01:40 5  here AMS", "0 01:40 5 here  AMS", "0 01:40 5 here AMS ", "001:40 5 here AMS", "0 01:405 here AMS", "0 01:40 5here AMS", "0 01:40 5 hereAMS", "0 08:00 5 load0/0", "0 08:00 5load 0/0",
		"0\t01:40 5 here AMS", "0 01:40 5 here\tAMS", "0 01:40 5 here AMS\n", "\n0 01:40 5 here AMS", "0 01:40 5 here AMS 0/0", "0 01:40 5 here AMS CDG", "0 08:00 5 load 0/0 AMS", "0 08:00 5 load 0 / 0", "0 08:00 5 load 0/ 0", "0 08:00 5 load 0 /0", "0 08:00 5 load 0 0", " 0 08:00 5 load 0/0", "0 08:00 5 load  0/0", "0 08:00 5 load 0/0 ",
		// Leading zeros and signs.
		"00 01:40 5 here AMS", "+0 01:40 5 here AMS", "-0 01:40 5 here AMS", "-1 01:40 5 here AMS", "0 1:40 5 here AMS", "0 +1:40 5 here AMS", "0 -1:40 5 here AMS", "0 001:40 5 here AMS", "0 01:40 05 here AMS", "0 01:40 +5 here AMS", "0 01:40 -5 here AMS", "0 01:40 5. here AMS", "0 01:40 0x5 here AMS",
		"0 08:00 5 load 00/0", "0 08:00 5 load 0/00", "0 08:00 5 load +0/0", "0 08:00 5 load -0/0", "0 08:00 5 load 0/+0", "0 08:00 5 load 0/-0", "0 08:00 5 load 0/01", "0 08:00 5 load 01/1", "0 08:00 5 load -1/0", "0 08:00 5 load 0/-1",
		// Words.
		"0 01:40 5 Here AMS", "0 01:40 5 HERE AMS", "0 01:40 5 her AMS", "0 01:40 5 heree AMS", "0 01:40 5 there AMS", "0 01:40 5 1 AMS", "0 01:40 5  AMS", "0 08:00 5  0/0", "0 08:00 5 loaded 0/0", "0 08:00 5 LOAD 0/0", "0 09:30 5 dropped 0/0", "0 08:00 5 3 0/0", "0 01:40 5 don AMS", "0 01:40 5 seen AMS",
		// A place for a trip, a trip for a place, and neither.
		"0 08:00 5 load AMS", "0 09:30 5 drop CDG", "0 01:40 5 here 0/0", "0 01:40 5 done 0/0", "0 08:00 5 load 0", "0 08:00 5 load 0/", "0 08:00 5 load /0", "0 08:00 5 load /", "0 08:00 5 load 0/0/0", "0 08:00 5 load 0//0", "0 08:00 5 load /0/0", "0 08:00 5 load 0/0/", "0 08:00 5 load 0-0", "0 08:00 5 load 0/a", "0 08:00 5 load AMS/0",
		// What is not valid.
		"0 01:40 0 here AMS", "0 01:40 10000 here AMS", "0 01:40 9223372036854775807 here AMS", "0 01:40 18446744073709551621 here AMS", "69 10:41 5 here AMS", "70 00:00 5 here AMS", "0 24:00 5 here AMS", "0 01:60 5 here AMS", "1000000001 01:40 5 here AMS", "0 01:40 5 here XYZ", "0 01:40 5 done ams", "0 01:40 5 done AM", "0 01:40 5 here AMSX",
		"0 08:01 5 load 0/0", "0 09:29 5 drop 0/0", "0 00:00 5 load 6/0", "0 00:00 5 load 0/61", "0 00:00 5 load 0/2", "0 00:00 5 load 1/0", "0 00:00 5 load 1/30", "69 10:40 5 drop 1/2", "0 00:00 0 load 0/0", "0 00:00 5 load 9223372036854775807/0", "0 00:00 5 load 0/9223372036854775807", "0 00:00 5 load 18446744073709551616/0", "0 00:00 5 load 1000000001/0",
		strings.Repeat(" ", 10000), "0 01:40 5 here " + strings.Repeat("A", 10000), "0 00:00 5 load " + strings.Repeat("0", 10000) + "/0",
	} {
		if got, ok := impl.ParseScan(n, s); ok || got != (impl.Scan{}) {
			t.Errorf("ParseScan(%.100q) = %v, %v", s, got, ok)
		}
	}
}

func TestOnlyWrittenScansAreRead(t *testing.T) {
	n := someNetwork()
	read, missed := 0, 0
	for _, s := range []impl.Scan{hereAt(5, 100, "AMS"), doneAt(9999, impl.MaxTime, "OSL"), loadAt(12, 480, 0, 10), dropAt(7, 2160, 1, 1)} {
		for _, text := range textsBeside(impl.FormatScan(n, s)) {
			got, ok := impl.ParseScan(n, text)
			if ok && (!isWantedScan(n, got) || scanText(got) != text) || !ok && got != (impl.Scan{}) {
				t.Errorf("ParseScan(%q) = %v, %v", text, got, ok)
			}
			if ok {
				read++
			} else {
				missed++
			}
		}
	}
	if read < 50 || missed < 10000 {
		t.Error(read, missed)
	}
}

// between is a minute from low to high: often one of both.
func between(r *rand.Rand, low, high int) int {
	return []int{low, high, low + r.Intn(high-low+1)}[r.Intn(3)]
}

// seenOnWay lists what is seen of a thing that goes a way, in order: at its start, loaded for each trip, taken off each trip,
// at each place on the way, and handed over at the end. It is seen at a place a minute behind the one in which it is taken
// off there, since at one time ScanHere comes first; where there is none, it is not seen there.
func seenOnWay(r *rand.Rand, n impl.Network, thing int, way []impl.Trip, from, to string, at int) []impl.Scan {
	place, now := from, at
	var l []impl.Scan
	for i, trip := range way {
		leg := n.Legs[trip.Leg]
		start := trip.Day*1440 + leg.Start
		if i == 0 || now < start {
			if i > 0 {
				now++
			}
			now = between(r, now, start)
			l = append(l, hereAt(thing, now, place))
		}
		now = between(r, now, start)
		l = append(l, loadAt(thing, now, trip.Leg, trip.Day))
		latest := impl.MaxTime
		if i+1 < len(way) {
			latest = way[i+1].Day*1440 + n.Legs[way[i+1].Leg].Start
		}
		place = leg.To
		now = between(r, start+leg.Takes, latest)
		l = append(l, dropAt(thing, now, trip.Leg, trip.Day))
	}
	if len(way) == 0 {
		l = append(l, hereAt(thing, now, place))
	} else if now < impl.MaxTime && r.Intn(2) == 0 {
		now = between(r, now+1, impl.MaxTime)
		l = append(l, hereAt(thing, now, place))
	}
	return append(l, doneAt(thing, between(r, now, impl.MaxTime), to))
}

// missedAndDoubled gives some of the scans, some of these twice, in another order.
func missedAndDoubled(r *rand.Rand, l []impl.Scan) (stay, given []impl.Scan) {
	missed := r.Intn(4)
	for _, s := range l {
		if r.Intn(4) < missed {
			continue
		}
		stay = append(stay, s)
		for range 1 + r.Intn(3)/2 {
			given = append(given, s)
		}
	}
	r.Shuffle(len(given), func(i, j int) { given[i], given[j] = given[j], given[i] })
	return stay, given
}

// checkNoClash holds what is given against the scans that must stay.
func checkNoClash(t *testing.T, n impl.Network, given, stay []impl.Scan, thing int) {
	t.Helper()
	if got := impl.ScansOf(n, given, thing); !slices.Equal(got, stay) {
		t.Fatal(n, given, got, stay)
	}
	if got := impl.Clashes(n, given, thing); len(got) != 0 {
		t.Fatal(n, stay, got)
	}
	if got := impl.Cleaned(n, given, thing); !slices.Equal(got, stay) {
		t.Fatal(n, stay, got)
	}
}

// ordinaryNetwork has every day some trips between four places, so that there are ways of several trips with short waits.
func ordinaryNetwork(r *rand.Rand) impl.Network {
	n := impl.Network{Change: []int{0, 1, 30, 60}[r.Intn(4)], Off: [][]int{nil, {1}, {0, 3}}[r.Intn(3)]}
	places := []string{"AMS", "CDG", "DUB", "OSL"}
	for i := range 6 + r.Intn(8) {
		from := i % 4
		n.Legs = append(n.Legs, impl.Leg{From: places[from], To: places[(from+1+r.Intn(8)/7)%4], Start: 30 * r.Intn(48), Takes: 30 * (1 + r.Intn(12)), Days: 127, Room: 1000})
	}
	return n
}

// Promise 8: what is seen of a thing that goes a way has no clash, and none of it is left out.
func TestWhatIsSeenOnAWayHasNoClash(t *testing.T) {
	r := rand.New(rand.NewSource(82))
	longest, tight, idle := 0, 0, 0
	for round := range 150 {
		n := []func(r *rand.Rand) impl.Network{ordinaryNetwork, wayNetworkAtRandom, networkAtRandom}[round%3](r)
		places := impl.PlacesOf(n)
		if len(places) == 0 {
			continue
		}
		for range 4 {
			from, to := places[r.Intn(len(places))], places[r.Intn(len(places))]
			at := []int{0, r.Intn(10000), r.Intn(90000)}[r.Intn(3)]
			way, ok := impl.FindWay(n, from, to, at)
			if !ok {
				continue
			}
			longest = max(longest, len(way))
			if len(way) == 0 {
				idle++
			}
			if impl.SlackOf(n, way) == 0 {
				tight++
			}
			l := seenOnWay(r, n, 5, way, from, to, at)
			checkNoClash(t, n, l, l, 5)
			for range 6 {
				stay, given := missedAndDoubled(r, l)
				checkNoClash(t, n, given, stay, 5)
				others, _ := missedAndDoubled(r, l)
				for _, s := range others {
					s.Thing = 6
					given = append(given, s, impl.Scan{Thing: 5, At: s.At, Kind: s.Kind + 5, Place: s.Place})
				}
				r.Shuffle(len(given), func(i, j int) { given[i], given[j] = given[j], given[i] })
				checkNoClash(t, n, given, stay, 5)
			}
		}
	}
	if longest < 4 || tight < 10 || idle < 10 {
		t.Error(longest, tight, idle)
	}
}

// Promise 8, whichever scans are missed: each one can follow each earlier one.
func TestWhatIsSeenOnAWayCanFollow(t *testing.T) {
	r := rand.New(rand.NewSource(83))
	pairs := 0
	for range 400 {
		n := ordinaryNetwork(r)
		places := impl.PlacesOf(n)
		from, to := places[r.Intn(len(places))], places[r.Intn(len(places))]
		at := r.Intn(10000)
		way, ok := impl.FindWay(n, from, to, at)
		if !ok {
			continue
		}
		l := seenOnWay(r, n, 5, way, from, to, at)
		for i, a := range l {
			for _, b := range l[i+1:] {
				pairs++
				if !impl.CanFollow(n, a, b) || impl.CanFollow(n, b, a) {
					t.Error(n, way, a, b)
				}
			}
		}
	}
	if pairs < 3000 {
		t.Error(pairs)
	}
}

// All ways of missing scans of a way of three trips.
func TestAllScansThatMayBeMissed(t *testing.T) {
	n := impl.Network{Legs: []impl.Leg{
		{From: "AMS", To: "CDG", Start: 480, Takes: 60, Days: 127},
		{From: "CDG", To: "DUB", Start: 570, Takes: 60, Days: 127},
		{From: "DUB", To: "AMS", Start: 660, Takes: 60, Days: 127},
		{From: "AMS", To: "OSL", Start: 1439, Takes: 1, Days: 127},
		{From: "DUB", To: "OSL", Start: 660, Takes: 60, Days: 127},
	}, Change: 30}
	way, ok := impl.FindWay(n, "AMS", "OSL", 300)
	if !ok || !slices.Equal(way, trips(0, 0, 1, 0, 4, 0)) {
		t.Fatal(way, ok)
	}
	l := seenOnWay(rand.New(rand.NewSource(84)), n, 5, way, "AMS", "OSL", 300)
	just := []impl.Scan{hereAt(5, 480, "AMS"), loadAt(5, 480, 0, 0), dropAt(5, 540, 0, 0), hereAt(5, 570, "CDG"), loadAt(5, 570, 1, 0), dropAt(5, 660, 1, 0), loadAt(5, 660, 4, 0), dropAt(5, 720, 4, 0), doneAt(5, 720, "OSL")}
	for _, seen := range [][]impl.Scan{l, just} {
		for kept := range 1 << len(seen) {
			var stay, given []impl.Scan
			for i, s := range seen {
				if kept>>i&1 == 1 {
					stay = append(stay, s)
					given = append([]impl.Scan{s}, given...)
				}
			}
			checkNoClash(t, n, given, stay, 5)
		}
	}
}

// scanAtRandom is often one that can be, somewhere around the time at, and sometimes not valid.
func scanAtRandom(r *rand.Rand, n impl.Network, rides []ride, thing, at int) impl.Scan {
	s := impl.Scan{Thing: thing, At: at + 10*r.Intn(30), Kind: 1 + r.Intn(4)}
	if r.Intn(3) > 0 {
		s.Kind = 2 + r.Intn(2)
	}
	if places := impl.PlacesOf(n); s.Kind == impl.ScanHere || s.Kind == impl.ScanDone {
		s.Place = places[r.Intn(len(places))]
		return s
	}
	i, _ := slices.BinarySearchFunc(rides, at, func(x ride, at int) int { return x.start - at })
	x := rides[min(i+r.Intn(6), len(rides)-1)]
	s.Trip = x.trip
	if s.Kind == impl.ScanLoad {
		s.At = x.start - []int{0, 0, 1, 60, -1}[r.Intn(5)]
	} else {
		s.At = x.end + []int{0, 0, 1, 60, -1}[r.Intn(5)]
	}
	return s
}

// wrongScans are those of ways, or some that are made up, with a few in between that do not belong there.
func wrongScans(r *rand.Rand, n impl.Network, rides []ride) []impl.Scan {
	var l []impl.Scan
	places := impl.PlacesOf(n)
	for thing := 1; thing <= 3; thing++ {
		at := r.Intn(5000)
		from, to := places[r.Intn(len(places))], places[r.Intn(len(places))]
		if way, ok := impl.FindWay(n, from, to, at); ok && thing < 3 {
			seen := seenOnWay(r, n, thing, way, from, to, at)
			if r.Intn(2) == 0 {
				seen = seen[:len(seen)-1]
			}
			l = append(l, seen...)
		}
		for range r.Intn(3*thing-2) + 3*(thing/3) {
			l = append(l, scanAtRandom(r, n, rides, thing, at))
			at += r.Intn(400)
		}
	}
	for range r.Intn(5) {
		s := l[r.Intn(len(l))]
		s.At += r.Intn(41) - 20
		l = append(l, s)
	}
	r.Shuffle(len(l), func(i, j int) { l[i], l[j] = l[j], l[i] })
	return l
}

// Scans of which some clash, against the words of the document and rides that are gone through one by one.
func TestScansThatClash(t *testing.T) {
	r := rand.New(rand.NewSource(85))
	clashed, left, clean := 0, 0, 0
	for round := range 300 {
		n := ordinaryNetwork(r)
		if round%4 == 0 {
			n = wayNetworkAtRandom(r)
		}
		rides := ridesOf(n)
		l := wrongScans(r, n, rides)
		if got, want := impl.SortScans(n, l), wantedScans(n, l); !slices.Equal(got, want) {
			t.Fatal(n, l, got, want)
		}
		for thing := range 5 {
			scans := wantedOf(n, l, thing)
			clashes, stay := wantedStay(n, rides, scans)
			if got := impl.ScansOf(n, l, thing); !slices.Equal(got, scans) {
				t.Error(n, l, thing, got, scans)
			}
			if got := impl.Clashes(n, l, thing); !slices.Equal(got, clashes) {
				t.Error(n, scans, got, clashes)
			}
			if got := impl.Cleaned(n, l, thing); !slices.Equal(got, stay) {
				t.Error(n, scans, got, stay)
			}
			checkLastAndNext(t, n, l, thing, stay)
			clashed += len(clashes)
			left += len(scans) - len(stay)
			if len(scans) > 3 && len(clashes) == 0 {
				clean++
			}
		}
	}
	if clashed < 500 || left < 500 || clean < 100 {
		t.Error(clashed, left, clean)
	}
}

func checkLastAndNext(t *testing.T, n impl.Network, l []impl.Scan, thing int, stay []impl.Scan) {
	t.Helper()
	times := []int{leastInt, 0, impl.MaxTime, greatestInt}
	for _, s := range stay {
		times = append(times, s.At-1, s.At, s.At+1)
	}
	for _, at := range times {
		later := sort.Search(len(stay), func(i int) bool { return stay[i].At > at })
		var wantLast, wantNext impl.Scan
		if later > 0 {
			wantLast = stay[later-1]
		}
		if later < len(stay) {
			wantNext = stay[later]
		}
		last, hasLast := impl.LastScan(n, l, thing, at)
		next, hasNext := impl.NextScan(n, l, thing, at)
		if last != wantLast || hasLast != (later > 0) || next != wantNext || hasNext != (later < len(stay)) {
			t.Error(n, stay, at, last, hasLast, next, hasNext)
		}
	}
}

// All pairs of scans around the starts and ends of the trips of two days.
func TestAllPairsOfScans(t *testing.T) {
	can, not := 0, 0
	for _, n := range []impl.Network{someNetwork(), backNetwork(), evenNetwork()} {
		rides := ridesOf(n)
		var l []impl.Scan
		for _, x := range rides {
			if x.trip.Day > 1 {
				continue
			}
			for _, at := range []int{x.start - 1, x.start, x.end, x.end + 1} {
				l = append(l, hereAt(5, at, x.from), hereAt(5, at, x.to), loadAt(5, at, x.trip.Leg, x.trip.Day), dropAt(5, at, x.trip.Leg, x.trip.Day))
			}
			l = append(l, doneAt(5, x.end, x.to))
		}
		for _, a := range l {
			for _, b := range l {
				want := isWantedScan(n, a) && isWantedScan(n, b) && wantedFollow(n, rides, a, b)
				if got := impl.CanFollow(n, a, b); got != want {
					t.Error(n, a, b, got, want)
				}
				if want {
					can++
				} else {
					not++
				}
			}
		}
	}
	if can < 3000 || not < 3000 {
		t.Error(can, not)
	}
}

// Places, spots and texts of scans of random networks, with one field changed now and then.
func TestChangedScans(t *testing.T) {
	r := rand.New(rand.NewSource(86))
	good, bad := 0, 0
	for range 300 {
		n := wayNetworkAtRandom(r)
		rides := ridesOf(n)
		for range 20 {
			s := scanAtRandom(r, n, rides, r.Intn(12000)-1000, r.Intn(90000))
			switch r.Intn(12) {
			case 0:
				s.At = []int{-1, 0, impl.MaxTime, impl.MaxTime + 1}[r.Intn(4)]
			case 1:
				s.Kind = r.Intn(8) - 1
			case 2:
				s.Place = []string{"", "AMS", "XYZ"}[r.Intn(3)]
			case 3:
				s.Trip.Day += r.Intn(3) - 1
			case 4:
				s.Trip.Leg += r.Intn(3) - 1
			}
			if !isWantedScan(n, s) {
				bad++
				checkNoScan(t, n, s)
				continue
			}
			good++
			behind, before := wantedSpots(n, s)
			if a, b := impl.SpotBehind(n, s), impl.SpotBefore(n, s); a != behind || b != before {
				t.Error(n, s, a, b)
			}
			place := behind.Place
			if s.Kind == impl.ScanLoad {
				place = before.Place
			}
			if got := impl.PlaceOf(n, s); got != place {
				t.Error(n, s, got)
			}
			text := impl.FormatScan(n, s)
			if got, ok := impl.ParseScan(n, text); text != scanText(s) || !ok || got != s {
				t.Error(n, s, text, got, ok)
			}
		}
	}
	if good < 1000 || bad < 1000 {
		t.Error(good, bad)
	}
}

func TestScanResultsAreNewMemory(t *testing.T) {
	n := someNetwork()
	sorted := []impl.Scan{hereAt(5, 100, "AMS"), hereAt(5, 200, "DUB"), loadAt(5, 480, 0, 0), dropAt(5, 570, 0, 0)}
	for _, list := range [][]impl.Scan{sorted, {sorted[3], sorted[0], sorted[2], sorted[1]}, append(slices.Clone(sorted), impl.Scan{}), sorted[:1]} {
		l := withSpare(list)
		before := slices.Clone(l[:cap(l)])
		lists := func() [][]impl.Scan {
			return [][]impl.Scan{impl.SortScans(n, l), impl.ScansOf(n, l, 5), impl.Cleaned(n, l, 5)}
		}
		first := lists()
		clashes := impl.Clashes(n, l, 5)
		for _, got := range lists() {
			for i := range got {
				got[i] = hereAt(77, 77, "XXX")
			}
			_ = append(got, hereAt(78, 78, "YYY"))
		}
		for i := range clashes {
			clashes[i] = 77
		}
		if again := lists(); !reflect.DeepEqual(first, again) || !slices.Equal(l[:cap(l)], before) || slices.Contains(impl.Clashes(n, l, 5), 77) {
			t.Error(list, first, again, l)
		}
	}
}

func TestScanArgumentsStay(t *testing.T) {
	r := rand.New(rand.NewSource(87))
	for range 60 {
		n := ordinaryNetwork(r)
		l := wrongScans(r, n, ridesOf(n))
		n.Legs, n.Off, l = withSpare(n.Legs), withSpare(n.Off), withSpare(l)
		whole := func() []any {
			return []any{slices.Clone(n.Legs[:cap(n.Legs)]), slices.Clone(n.Off[:cap(n.Off)]), slices.Clone(l[:cap(l)])}
		}
		before := whole()
		impl.SortScans(n, l)
		for thing := range 5 {
			impl.ScansOf(n, l, thing)
			impl.Clashes(n, l, thing)
			impl.Cleaned(n, l, thing)
			impl.LastScan(n, l, thing, r.Intn(9000))
			impl.NextScan(n, l, thing, r.Intn(9000))
		}
		for i, s := range l {
			impl.IsScan(n, s)
			impl.PlaceOf(n, s)
			impl.SpotBehind(n, s)
			impl.SpotBefore(n, s)
			impl.CanFollow(n, l[0], s)
			impl.CompareScans(l[i/2], s)
			impl.ParseScan(n, impl.FormatScan(n, s))
		}
		if after := whole(); !reflect.DeepEqual(after, before) {
			t.Fatal(after, before)
		}
	}
}
