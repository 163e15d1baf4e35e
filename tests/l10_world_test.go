package tests

import (
	"fmt"
	"math/rand"
	"reflect"
	"slices"
	"sort"
	"strings"
	"testing"

	"loop.example/g03014/impl"
)

// cityNetwork leads from AMS to OSL in three legs, each of which starts just in time for the next one, or in two; leg 4 is a
// second leg to OSL, with little room, and leg 5 runs seldom.
func cityNetwork() impl.Network {
	return impl.Network{Legs: []impl.Leg{
		{From: "AMS", To: "CDG", Start: 480, Takes: 90, Days: 127, Room: 5000},
		{From: "CDG", To: "DUB", Start: 600, Takes: 120, Days: 127, Room: 3000},
		{From: "DUB", To: "OSL", Start: 750, Takes: 60, Days: 127, Room: 2000},
		{From: "AMS", To: "DUB", Start: 500, Takes: 700, Days: 127, Room: 2500},
		{From: "DUB", To: "OSL", Start: 1300, Takes: 100, Days: 127, Room: 1500},
		{From: "OSL", To: "CDG", Start: 0, Takes: 2000, Days: 1, Room: impl.MaxRoom},
	}, Off: []int{2}, Change: 30}
}

// order100 weighs 100; it is promised and served like all others.
func order100(from, to string, at int, way []impl.Trip) impl.Order {
	return impl.Order{From: from, To: to, Service: impl.ServiceFast, Weight: 100, At: at, Due: 5000, Way: way}
}

func waiting(from, to string, at int, place string, gone int, way ...int) impl.Order {
	o := order100(from, to, at, trips(way...))
	o.State, o.Place, o.Gone = impl.OrderWaits, place, gone
	return o
}

func riding(from, to string, at, gone int, way ...int) impl.Order {
	o := order100(from, to, at, trips(way...))
	o.State, o.Gone = impl.OrderRides, gone
	return o
}

func handed(from, to string, at, ended int, way ...int) impl.Order {
	o := order100(from, to, at, trips(way...))
	o.State, o.Place, o.Ended, o.Gone = impl.OrderDone, to, ended, len(o.Way)
	return o
}

// bookedFor are the bookings that orders must have, and no others.
func bookedFor(orders []impl.Order) []impl.Booking {
	l := []impl.Booking{}
	for i, o := range orders {
		for _, trip := range o.Way {
			l = append(l, impl.Booking{Thing: i + 1, Trip: trip, Weight: o.Weight})
		}
	}
	sort.SliceStable(l, func(i, j int) bool { return rankOf(l[i]) < rankOf(l[j]) })
	return l
}

func worldOf(n impl.Network, now int, orders ...impl.Order) impl.World {
	return impl.World{Network: n, Now: now, Orders: orders, Bookings: bookedFor(orders)}
}

// someWorld has an order of each kind: done, on its way, yet to leave, and stranded at its first place, while it rides, and on
// the way. Trips that were or are ridden are closed.
func someWorld() impl.World {
	w := worldOf(cityNetwork(), 2140,
		handed("AMS", "DUB", 0, 720, 0, 0, 1, 0),
		riding("AMS", "OSL", 1400, 1, 0, 1, 1, 1, 2, 1),
		waiting("AMS", "DUB", 2140, "AMS", 0, 3, 3),
		waiting("CDG", "OSL", 2100, "CDG", 0),
		riding("AMS", "OSL", 1500, 0, 3, 1),
		waiting("AMS", "OSL", 5, "DUB", 2, 0, 0, 1, 0),
		waiting("AMS", "OSL", 1439, "CDG", 1, 0, 1, 1, 3, 4, 3))
	w.Closed = trips(2, 0, 1, 0, 3, 1, 5, 0, 4, 60)
	w.Scans = []impl.Scan{hereAt(1, 0, "AMS"), loadAt(1, 480, 0, 0), dropAt(1, 720, 1, 0), doneAt(1, 720, "DUB"), hereAt(9999, 2140, "OSL"), {Thing: 7, At: 0, Kind: impl.ScanHere, Place: "CDG"}}
	w.Skip, w.Made = []int{3, 3, -1, 0, leastInt, greatestInt}, 12
	return w
}

func someWorldBut(change func(w *impl.World)) impl.World {
	w := someWorld()
	change(&w)
	return w
}

func copyOfWorld(w impl.World) impl.World {
	w.Network.Legs, w.Network.Off = slices.Clone(w.Network.Legs), slices.Clone(w.Network.Off)
	w.Orders = slices.Clone(w.Orders)
	for i := range w.Orders {
		w.Orders[i].Way = slices.Clone(w.Orders[i].Way)
	}
	w.Bookings, w.Closed = slices.Clone(w.Bookings), slices.Clone(w.Closed)
	w.Scans, w.Skip = slices.Clone(w.Scans), slices.Clone(w.Skip)
	return w
}

// worldText writes all parts of a world; a nil list is written like an empty one.
func worldText(w impl.World) string {
	return fmt.Sprintf("%+v", w)
}

// orderText writes where an order is, and its way with a stroke behind the trips that have ended.
func orderText(o impl.Order) string {
	where := map[int]string{impl.OrderWaits: "waits " + o.Place, impl.OrderRides: "rides", impl.OrderDone: fmt.Sprint("done ", o.Ended)}[o.State]
	words := []string{where + ":"}
	for i, trip := range o.Way {
		if i == o.Gone {
			words = append(words, "|")
		}
		words = append(words, fmt.Sprintf("%d/%d", trip.Leg, trip.Day))
	}
	return strings.Join(words, " ")
}

func scanTexts(w impl.World) string {
	var texts []string
	for _, s := range w.Scans {
		texts = append(texts, scanText(s))
	}
	return strings.Join(texts, ", ")
}

func checkOrders(t *testing.T, what any, w impl.World, texts ...string) {
	t.Helper()
	if len(w.Orders) != len(texts) {
		t.Fatal(what, len(w.Orders), len(texts))
	}
	for i, o := range w.Orders {
		if got := orderText(o); got != texts[i] {
			t.Error(what, i+1, got, "not", texts[i])
		}
	}
	checkValid(t, w)
}

// calendar has the ride of each trip of a network.
type calendar map[impl.Trip]ride

func calendarOf(n impl.Network) calendar {
	c := calendar{}
	for _, x := range ridesOf(n) {
		c[x.trip] = x
	}
	return c
}

func (c calendar) ridesOn(way []impl.Trip) []ride {
	var rides []ride
	for _, trip := range way {
		x, ok := c[trip]
		if !ok {
			return nil
		}
		rides = append(rides, x)
	}
	return rides
}

// areWantedRides tells whether the rides of an order are a way that may be.
func areWantedRides(n impl.Network, rides []ride, o impl.Order) bool {
	place, ready := o.From, o.At+1
	for i, x := range rides {
		if x.from != place || x.start < ready || x.to == o.To && i < len(rides)-1 {
			return false
		}
		place, ready = x.to, x.end+n.Change
	}
	return len(rides) == len(o.Way)
}

func isWantedOrder(w impl.World, c calendar, o impl.Order) bool {
	places := placesIn(w.Network)
	if o.From == o.To || !slices.Contains(places, o.From) || !slices.Contains(places, o.To) || o.Service < 1 || o.Service > 3 || o.Weight < 1 || o.Weight > 30000 {
		return false
	}
	rides := c.ridesOn(o.Way)
	if o.At < 0 || o.At > w.Now || o.Due < 0 || o.Due > 200000 || o.Gone < 0 || o.Gone > len(rides) || !areWantedRides(w.Network, rides, o) {
		return false
	}
	here, ended, rest := o.From, 0, rides[o.Gone:]
	if o.Gone > 0 {
		here, ended = rides[o.Gone-1].to, rides[o.Gone-1].end
	}
	if ended > w.Now {
		return false
	}
	switch {
	case o.State == 1 && o.Place == here && here != o.To && o.Ended == 0:
		if len(rest) > 0 && rest[0].start <= w.Now {
			return false
		}
	case o.State == 2 && o.Place == "" && o.Ended == 0 && len(rest) > 0:
		if w.Now < rest[0].start || w.Now >= rest[0].end {
			return false
		}
		rest = rest[1:]
	case o.State == 3 && o.Place == o.To && here == o.To && o.Gone > 0 && len(rest) == 0:
		return o.Ended == ended
	default:
		return false
	}
	return !slices.ContainsFunc(rest, func(x ride) bool { return slices.Contains(w.Closed, x.trip) })
}

func isWantedWorld(w impl.World) bool {
	if !impl.IsNetwork(w.Network) || !areWantedBookings(w.Network, w.Bookings) || w.Now < 0 || w.Now > 100000 {
		return false
	}
	if len(w.Orders) > 30 || len(w.Closed) > 20 || len(w.Scans) > 200 || len(w.Skip) > 50 || w.Made < len(w.Scans) || w.Made > 1000000000 {
		return false
	}
	c := calendarOf(w.Network)
	for i, trip := range w.Closed {
		if _, ok := c[trip]; !ok || slices.Index(w.Closed, trip) < i {
			return false
		}
	}
	for _, s := range w.Scans {
		if s.At > w.Now || !isWantedScan(w.Network, s) {
			return false
		}
	}
	for _, o := range w.Orders {
		if !isWantedOrder(w, c, o) {
			return false
		}
	}
	return slices.Equal(bookedFor(w.Orders), w.Bookings)
}

func checkValid(t *testing.T, w impl.World) {
	t.Helper()
	if !isWantedWorld(w) || !impl.IsWorld(w) {
		t.Error(worldText(w), isWantedWorld(w), impl.IsWorld(w))
	}
}

// wantedSeen makes a scan.
func wantedSeen(w *impl.World, s impl.Scan) {
	if w.Made < 1000000000 {
		w.Made++
	}
	if !slices.Contains(w.Skip, w.Made) && len(w.Scans) < 200 {
		w.Scans = append(w.Scans, s)
	}
}

// wantedAdvance lets each minute pass on its own.
func wantedAdvance(w impl.World, until int) impl.World {
	w = copyOfWorld(w)
	c := calendarOf(w.Network)
	for w.Now < until {
		w.Now++
		for i := range w.Orders {
			o := &w.Orders[i]
			if o.State != 2 || c[o.Way[o.Gone]].end != w.Now {
				continue
			}
			x := c[o.Way[o.Gone]]
			o.State, o.Place, o.Gone = 1, x.to, o.Gone+1
			wantedSeen(&w, dropAt(i+1, w.Now, x.trip.Leg, x.trip.Day))
			if x.to == o.To {
				o.State, o.Ended = 3, w.Now
				wantedSeen(&w, doneAt(i+1, w.Now, x.to))
			}
		}
		for i := range w.Orders {
			o := &w.Orders[i]
			if o.State == 1 && o.Gone < len(o.Way) && c[o.Way[o.Gone]].start == w.Now {
				o.State, o.Place = 2, ""
				wantedSeen(&w, loadAt(i+1, w.Now, o.Way[o.Gone].Leg, o.Way[o.Gone].Day))
			}
		}
	}
	return w
}

// tripsToCome are those that an order will ride and does not yet.
func tripsToCome(o impl.Order) []impl.Trip {
	if o.State == 2 {
		return o.Way[o.Gone+1:]
	}
	return o.Way[o.Gone:]
}

// wantedLeave tells where and when an order can leave on a new way.
func wantedLeave(w impl.World, c calendar, o impl.Order) (place string, at int) {
	place, at = o.From, w.Now+1
	if kept := len(o.Way) - len(tripsToCome(o)); kept > 0 {
		x := c[o.Way[kept-1]]
		place, at = x.to, max(at, x.end+w.Network.Change)
	}
	return place, at
}

// wantedFind finds a way with room among all free rides, and books it.
func wantedFind(w impl.World, number, weight int, from, to string, at int) ([]impl.Trip, []impl.Booking, bool) {
	free := freeRides(w.Network, w.Bookings, w.Closed, weight)
	byLegs := arrivalsByFree(w.Network, free, from, at, len(placesIn(w.Network)))
	way, found := wayByFree(w.Network, free, byLegs, from, to)
	if !found || at > 100000 {
		return nil, w.Bookings, false
	}
	booked, ok := wantedBook(w.Network, w.Bookings, number, weight, way)
	return way, booked, ok
}

func wantedNewWay(w *impl.World, i int) {
	o := &w.Orders[i]
	place, at := wantedLeave(*w, calendarOf(w.Network), *o)
	dropped := tripsToCome(*o)
	w.Bookings = slices.DeleteFunc(slices.Clone(w.Bookings), func(b impl.Booking) bool {
		return b.Thing == i+1 && slices.Contains(dropped, b.Trip)
	})
	o.Way = slices.Clone(o.Way[:len(o.Way)-len(dropped)])
	if way, booked, ok := wantedFind(*w, i+1, o.Weight, place, o.To, at); ok {
		o.Way, w.Bookings = append(o.Way, way...), booked
	}
}

func wantedAccept(w impl.World, from, to string, service, weight int) (impl.World, int, bool) {
	known := placesIn(w.Network)
	if !isWantedWorld(w) || len(w.Orders) >= 30 || from == to || service < 1 || service > 3 || weight < 1 || weight > 30000 || !slices.Contains(known, from) || !slices.Contains(known, to) {
		return w, 0, false
	}
	number := len(w.Orders) + 1
	way, booked, ok := wantedFind(w, number, weight, from, to, w.Now+1)
	if !ok {
		return w, 0, false
	}
	w = copyOfWorld(w)
	w.Bookings = booked
	due := impl.PromiseOf(w.Network, service, from, to, w.Now+1)
	w.Orders = append(w.Orders, impl.Order{From: from, To: to, Service: service, Weight: weight, At: w.Now, Due: due, Way: way, State: 1, Place: from})
	wantedSeen(&w, hereAt(number, w.Now, from))
	return w, number, true
}

func wantedShut(w impl.World, trip impl.Trip) (impl.World, bool) {
	x, ok := calendarOf(w.Network)[trip]
	if !isWantedWorld(w) || !ok || x.start <= w.Now || slices.Contains(w.Closed, trip) || len(w.Closed) >= 20 {
		return w, false
	}
	w = copyOfWorld(w)
	w.Closed = append(w.Closed, trip)
	for i, o := range w.Orders {
		if slices.Contains(tripsToCome(o), trip) {
			wantedNewWay(&w, i)
		}
	}
	return w, true
}

func isWantedStranded(w impl.World, c calendar, o impl.Order) bool {
	place, _ := wantedLeave(w, c, o)
	return o.State != 3 && len(tripsToCome(o)) == 0 && place != o.To
}

// wantedNumbers are those of the orders that are asked for.
func wantedNumbers(w impl.World, is func(o impl.Order) bool) []int {
	numbers := []int{}
	for i, o := range w.Orders {
		if is(o) {
			numbers = append(numbers, i+1)
		}
	}
	return numbers
}

func wantedStranded(w impl.World) []int {
	c := calendarOf(w.Network)
	return wantedNumbers(w, func(o impl.Order) bool { return isWantedStranded(w, c, o) })
}

func wantedRetry(w impl.World) (impl.World, int) {
	w = copyOfWorld(w)
	before := wantedStranded(w)
	for _, number := range before {
		wantedNewWay(&w, number-1)
	}
	return w, len(before) - len(wantedStranded(w))
}

func TestWorldConstants(t *testing.T) {
	got := []int{impl.MaxOrders, impl.MaxClosed, impl.MaxSkip, impl.OrderWaits, impl.OrderRides, impl.OrderDone}
	if want := []int{30, 20, 50, 1, 2, 3}; !slices.Equal(got, want) {
		t.Error(got)
	}
}

// goodWorlds go to each limit.
func goodWorlds() []impl.World {
	l := []impl.World{{}, someWorld(), worldOf(cityNetwork(), 0), worldOf(cityNetwork(), impl.MaxTime), {Now: impl.MaxTime, Made: impl.MaxNumber}}
	for _, change := range []func(w *impl.World){
		func(w *impl.World) { w.Closed = allOfLeg(w.Network, 5)[:1] },
		func(w *impl.World) { w.Closed = allOfLeg(w.Network, 2)[40:60] },
		func(w *impl.World) { w.Scans, w.Made = scansUpTo(impl.MaxScans), impl.MaxScans },
		func(w *impl.World) { w.Scans, w.Made = scansUpTo(impl.MaxScans), impl.MaxNumber },
		func(w *impl.World) { w.Made = len(w.Scans) },
		func(w *impl.World) { w.Skip = make([]int, impl.MaxSkip) },
		func(w *impl.World) { w.Scans, w.Closed, w.Skip, w.Made = nil, nil, nil, 0 },
		func(w *impl.World) { w.Orders[0].Due = 0 },
		func(w *impl.World) { w.Orders[0].Due = 2 * impl.MaxTime },
		func(w *impl.World) { w.Orders[0].Service = impl.ServiceSlow },
		func(w *impl.World) { w.Orders[3].At = 0 },
		func(w *impl.World) { w.Orders[3].At = w.Now },
		func(w *impl.World) { w.Orders[3].Weight = 1 },
		func(w *impl.World) { w.Orders[3].Weight = impl.MaxWeight },
		func(w *impl.World) { w.Orders[0].At = 479 },
		func(w *impl.World) { w.Network.Legs[1].Room = 200 },
	} {
		l = append(l, someWorldBut(change))
	}
	full := worldOf(cityNetwork(), 0)
	for range impl.MaxOrders {
		full.Orders = append(full.Orders, waiting("AMS", "CDG", 0, "AMS", 0))
	}
	return append(l, full)
}

func TestIsWorld(t *testing.T) {
	for _, w := range goodWorlds() {
		checkValid(t, w)
	}
}

// changesOfOrders make someWorld one that is not valid, though the bookings are made to fit.
func changesOfOrders() []func(l []impl.Order) {
	var changes []func(l []impl.Order)
	for _, number := range []int{0, 4, -1, leastInt, greatestInt} {
		changes = append(changes, func(l []impl.Order) { l[1].Service = number })
		if number != 4 {
			changes = append(changes, func(l []impl.Order) { l[3].Weight = min(number, 0) }, func(l []impl.Order) { l[3].Weight = max(number, impl.MaxWeight+1) })
		}
	}
	for _, number := range []int{-1, leastInt} {
		changes = append(changes, func(l []impl.Order) { l[3].At = number }, func(l []impl.Order) { l[3].Due = number }, func(l []impl.Order) { l[3].Gone = number }, func(l []impl.Order) { l[1].Gone = number })
	}
	for _, number := range []int{1, 2, greatestInt - 1, greatestInt} {
		changes = append(changes, func(l []impl.Order) { l[3].At = 2140 + number }, func(l []impl.Order) { l[3].Due = 2*impl.MaxTime + number }, func(l []impl.Order) { l[3].Gone = number }, func(l []impl.Order) { l[4].Gone = number })
	}
	for _, state := range []int{0, 4, -1, leastInt, greatestInt} {
		changes = append(changes, func(l []impl.Order) { l[0].State = state }, func(l []impl.Order) { l[1].State = state }, func(l []impl.Order) { l[3].State = state })
	}
	for _, place := range []string{"", "XYZ", "ZZZ", "ams", "AM", "AMST", "\xff"} {
		changes = append(changes, func(l []impl.Order) { l[3].From, l[3].Place = place, place }, func(l []impl.Order) { l[3].To = place })
		changes = append(changes, func(l []impl.Order) { l[0].Place = place }, func(l []impl.Order) { l[2].Place = place }, func(l []impl.Order) { l[3].Place = place })
	}
	for _, trip := range noTrips() {
		if trip.Day != 6 && trip.Day != 7 && trip.Day != 30 && trip.Leg != 1 && trip.Leg != 3 {
			changes = append(changes, func(l []impl.Order) { l[2].Way[0] = trip }, func(l []impl.Order) { l[6].Way[2] = trip })
		}
	}
	return append(changes,
		// From and To are one place.
		func(l []impl.Order) { l[3].To = "CDG" }, func(l []impl.Order) { l[2].To = "AMS" },
		// The way is none: it begins elsewhere, leaves a gap, has no time to change, goes back, has a trip twice.
		func(l []impl.Order) { l[2].Way[0] = impl.Trip{Leg: 1, Day: 3} }, func(l []impl.Order) { l[2].From = "CDG"; l[2].Place = "CDG" },
		func(l []impl.Order) { l[1].Way[2] = impl.Trip{Leg: 5, Day: 7} }, func(l []impl.Order) { l[6].Way[1] = impl.Trip{Leg: 4, Day: 3} },
		func(l []impl.Order) { l[6].Way[2] = impl.Trip{Leg: 2, Day: 1} }, func(l []impl.Order) { l[6].Way[1] = impl.Trip{Leg: 1, Day: 0} }, func(l []impl.Order) { l[1].Way[2] = l[1].Way[1] },
		// It starts too early.
		func(l []impl.Order) { l[0].At = 480 }, func(l []impl.Order) { l[0].At = 2140 }, func(l []impl.Order) { l[1].At = 1920 },
		// It passes To.
		func(l []impl.Order) { l[1].To = "CDG" }, func(l []impl.Order) { l[1].To = "DUB" }, func(l []impl.Order) { l[6].To = "DUB" },
		func(l []impl.Order) { l[2].Way = trips(3, 3, 2, 4, 5, 7) }, func(l []impl.Order) { l[2].Way = trips(3, 3, 2, 4) },
		// Too little or too much has gone.
		func(l []impl.Order) { l[0].Gone = 1 }, func(l []impl.Order) { l[0].Gone = 0 }, func(l []impl.Order) { l[1].Gone = 0 }, func(l []impl.Order) { l[1].Gone = 2 }, func(l []impl.Order) { l[1].Gone = 3 },
		func(l []impl.Order) { l[5].Gone = 1 }, func(l []impl.Order) { l[6].Gone = 0 }, func(l []impl.Order) { l[6].Gone = 2 }, func(l []impl.Order) { l[2].Gone = 1 },
		// It is elsewhere, or in two places.
		func(l []impl.Order) { l[0].Place = "CDG" }, func(l []impl.Order) { l[1].Place = "CDG" }, func(l []impl.Order) { l[1].Place = "DUB" }, func(l []impl.Order) { l[2].Place = "DUB" },
		func(l []impl.Order) { l[3].Place = "OSL" }, func(l []impl.Order) { l[4].Place = "DUB" }, func(l []impl.Order) { l[6].Place = "AMS" }, func(l []impl.Order) { l[6].Place = "DUB" },
		// It is where it should be handed over, or was not handed over where it should be.
		func(l []impl.Order) { l[5].To = "DUB" }, func(l []impl.Order) { l[0].To = "OSL" }, func(l []impl.Order) { l[0].To, l[0].Place = "OSL", "OSL" },
		func(l []impl.Order) { l[0].State, l[0].Ended = impl.OrderWaits, 0 }, func(l []impl.Order) { l[5].State, l[5].Ended = impl.OrderDone, 720 },
		// Another State than the time says.
		func(l []impl.Order) { l[1].State, l[1].Place = impl.OrderWaits, "CDG" }, func(l []impl.Order) { l[2].State, l[2].Place = impl.OrderRides, "" },
		func(l []impl.Order) { l[3].State, l[3].Place = impl.OrderRides, "" }, func(l []impl.Order) { l[5].State, l[5].Place = impl.OrderRides, "" },
		func(l []impl.Order) { l[3].State, l[3].Place = impl.OrderDone, "OSL" }, func(l []impl.Order) { l[3].State, l[3].To = impl.OrderDone, "CDG" },
		// Ended.
		func(l []impl.Order) { l[0].Ended = 0 }, func(l []impl.Order) { l[0].Ended = 719 }, func(l []impl.Order) { l[0].Ended = 721 }, func(l []impl.Order) { l[0].Ended = leastInt },
		func(l []impl.Order) { l[1].Ended = 1 }, func(l []impl.Order) { l[2].Ended = -1 }, func(l []impl.Order) { l[3].Ended = 2140 }, func(l []impl.Order) { l[4].Ended = greatestInt }, func(l []impl.Order) { l[5].Ended = 720 },
		// It is done, and rode no trip.
		func(l []impl.Order) { l[0].Way, l[0].Gone = nil, 0 }, func(l []impl.Order) { l[0].Way, l[0].Gone, l[0].Ended = nil, 0, 0 })
}

// badWorlds break each condition of IsWorld, and each one alone.
func badWorlds() []impl.World {
	var l []impl.World
	for _, change := range changesOfOrders() {
		w := someWorld()
		change(w.Orders)
		w.Bookings = bookedFor(w.Orders)
		l = append(l, w)
	}
	for _, n := range append(badNetworks(), impl.Network{Change: -1}) {
		l = append(l, impl.World{Network: n})
	}
	for _, bookings := range badBookings() {
		l = append(l, impl.World{Network: someNetwork(), Bookings: bookings})
	}
	for _, now := range []int{-1, leastInt, impl.MaxTime + 1, greatestInt} {
		l = append(l, impl.World{Now: now}, worldOf(cityNetwork(), now))
	}
	for _, made := range []int{-1, leastInt, impl.MaxNumber + 1, greatestInt} {
		l = append(l, impl.World{Made: made}, someWorldBut(func(w *impl.World) { w.Made = made }))
	}
	for _, s := range noScans() {
		l = append(l, impl.World{Network: someNetwork(), Now: impl.MaxTime, Scans: []impl.Scan{hereAt(5, 5, "AMS"), s}, Made: 2})
	}
	for _, trip := range noTrips() {
		l = append(l, impl.World{Network: someNetwork(), Closed: []impl.Trip{{}, trip}})
	}
	for _, change := range []func(w *impl.World){
		func(w *impl.World) { w.Made = len(w.Scans) - 1 }, func(w *impl.World) { w.Scans, w.Made = scansUpTo(impl.MaxScans+1), 1000 }, func(w *impl.World) { w.Scans, w.Made = scansUpTo(impl.MaxScans), impl.MaxScans-1 },
		func(w *impl.World) { w.Scans[4].At = 2141 }, func(w *impl.World) { w.Scans = append(w.Scans, loadAt(1, 2141, 0, 3)) },
		func(w *impl.World) { w.Skip = make([]int, impl.MaxSkip+1) },
		func(w *impl.World) { w.Closed = allOfLeg(w.Network, 2)[39:60] }, func(w *impl.World) { w.Closed = append(w.Closed, w.Closed[0]) }, func(w *impl.World) { w.Closed = append(w.Closed, w.Closed[len(w.Closed)-1]) },
		// A trip to come is closed: for one that rides, and for one that waits, its next one and a later one.
		func(w *impl.World) { w.Closed = append(w.Closed, w.Orders[1].Way[2]) }, func(w *impl.World) { w.Closed = append(w.Closed, w.Orders[2].Way[0]) },
		func(w *impl.World) { w.Closed = append(w.Closed, w.Orders[6].Way[1]) }, func(w *impl.World) { w.Closed = append(w.Closed, w.Orders[6].Way[2]) },
		// A booking is missing, is of another weight, or is of another thing; another one is of no way, or of no order.
		func(w *impl.World) { w.Bookings = w.Bookings[1:] }, func(w *impl.World) { w.Bookings = w.Bookings[:len(w.Bookings)-1] }, func(w *impl.World) { w.Bookings = nil },
		func(w *impl.World) { w.Bookings[0].Weight++ }, func(w *impl.World) { w.Bookings[len(w.Bookings)-1].Weight = 1 }, func(w *impl.World) { w.Bookings[len(w.Bookings)-1].Thing = 5 }, func(w *impl.World) { w.Orders[0].Weight++ }, func(w *impl.World) { w.Orders[2].Weight-- },
		func(w *impl.World) { w.Bookings = append(w.Bookings, bookingOf(1, 0, 60, 100)) }, func(w *impl.World) { w.Bookings = append(w.Bookings, bookingOf(8, 0, 60, 1)) }, func(w *impl.World) { w.Bookings = append(w.Bookings, bookingOf(impl.MaxId, 0, 60, 1)) },
		func(w *impl.World) { w.Bookings[0], w.Bookings[1] = w.Bookings[1], w.Bookings[0] }, func(w *impl.World) { w.Network.Legs[1].Room = 199 }, func(w *impl.World) { w.Network.Off = []int{2, 60} },
		// The orders are others.
		func(w *impl.World) { w.Orders = w.Orders[:6] }, func(w *impl.World) { w.Orders[0], w.Orders[1] = w.Orders[1], w.Orders[0] }, func(w *impl.World) { w.Orders = append(w.Orders, w.Orders[2]) }, func(w *impl.World) { w.Orders = append(w.Orders, impl.Order{}) },
	} {
		l = append(l, someWorldBut(change))
	}
	full := worldOf(cityNetwork(), 0)
	for range impl.MaxOrders + 1 {
		full.Orders = append(full.Orders, waiting("AMS", "CDG", 0, "AMS", 0))
	}
	return append(l, full)
}

// checkNoWorld asks everything of a world that is not valid.
func checkNoWorld(t *testing.T, w impl.World) {
	t.Helper()
	text := worldText(w)
	if impl.IsWorld(w) {
		t.Error("valid:", text)
	}
	if got, number, ok := impl.AcceptOrder(w, "AMS", "CDG", impl.ServiceFast, 1); ok || number != 0 || worldText(got) != text {
		t.Error(text, worldText(got), number, ok)
	}
	for _, until := range []int{w.Now, w.Now + 1, 0, impl.MaxTime} {
		if got := impl.AdvanceTo(w, until); worldText(got) != text {
			t.Error(text, worldText(got))
		}
	}
	for _, trip := range trips(0, 60, 2, 3) {
		if got, ok := impl.ShutTrip(w, trip); ok || worldText(got) != text {
			t.Error(text, worldText(got), ok)
		}
	}
	if got, n := impl.RetryOrders(w); n != 0 || worldText(got) != text {
		t.Error(text, worldText(got), n)
	}
	if got := impl.NextEvent(w); got != -1 {
		t.Error(text, got)
	}
	for id := -1; id < 9; id++ {
		if got := impl.PlannedEnd(w, id); got != -1 {
			t.Error(text, id, got)
		}
	}
	lists := [][]int{impl.StrandedIn(w), impl.LateOrders(w), impl.WaitingAt(w, "AMS"), impl.WaitingAt(w, "CDG"), impl.WaitingAt(w, "DUB"), impl.WaitingAt(w, ""), impl.RidingOn(w, impl.Trip{Leg: 1, Day: 1}), impl.RidingOn(w, impl.Trip{Leg: 3, Day: 1})}
	for i, l := range lists {
		if len(l) != 0 {
			t.Error(text, i, l)
		}
	}
}

func TestBadWorlds(t *testing.T) {
	for i, w := range badWorlds() {
		if isWantedWorld(w) {
			t.Error("not by the document:", i, worldText(w))
		}
		checkNoWorld(t, w)
	}
}

// An order in all states, at all places, and with all numbers of trips gone: at each time, one of them alone is valid, or none
// if the way passes To or starts elsewhere than the order.
func TestAnOrderIsInOnePlace(t *testing.T) {
	n := cityNetwork()
	c := calendarOf(n)
	count := map[int]int{}
	for _, way := range [][]impl.Trip{nil, trips(0, 0), trips(0, 0, 1, 0), trips(0, 0, 1, 1), trips(3, 0), trips(1, 0), trips(0, 0, 1, 0, 2, 0)} {
		for _, to := range []string{"CDG", "DUB", "OSL"} {
			for _, now := range []int{0, 478, 479, 480, 481, 500, 569, 570, 571, 599, 600, 601, 719, 720, 721, 749, 750, 751, 809, 810, 811, 1199, 1200, 2040, 2160} {
				valid := 0
				statesOf(way, func(o impl.Order) {
					o.To = to
					w := worldOf(n, now, o)
					want := isWantedOrder(w, c, o)
					if impl.IsWorld(w) != want {
						t.Error(worldText(w), want)
					}
					if want {
						valid++
					}
				})
				count[valid]++
			}
		}
	}
	if len(count) != 2 || count[0] < 100 || count[1] < 200 {
		t.Error(count)
	}
}

func statesOf(way []impl.Trip, do func(o impl.Order)) {
	for gone := -1; gone <= len(way)+1; gone++ {
		for state := 0; state <= 4; state++ {
			for _, place := range []string{"", "AMS", "CDG", "DUB", "OSL"} {
				for _, ended := range []int{0, 570, 720, 810, 1200, 2160} {
					do(impl.Order{From: "AMS", Service: 1, Weight: 1, Way: way, Gone: gone, State: state, Place: place, Ended: ended})
				}
			}
		}
	}
}

func TestTimesOfOrders(t *testing.T) {
	n := cityNetwork()
	for _, c := range []struct {
		o           impl.Order
		first, last int
	}{
		{waiting("AMS", "OSL", 0, "AMS", 0, 0, 0, 1, 0, 2, 0), 0, 479},
		{riding("AMS", "OSL", 0, 0, 0, 0, 1, 0, 2, 0), 480, 569},
		{waiting("AMS", "OSL", 0, "CDG", 1, 0, 0, 1, 0, 2, 0), 570, 599},
		{riding("AMS", "OSL", 0, 1, 0, 0, 1, 0, 2, 0), 600, 719},
		{waiting("AMS", "OSL", 0, "DUB", 2, 0, 0, 1, 0, 2, 0), 720, 749},
		{riding("AMS", "OSL", 0, 2, 0, 0, 1, 0, 2, 0), 750, 809},
		{handed("AMS", "OSL", 0, 810, 0, 0, 1, 0, 2, 0), 810, impl.MaxTime},
		{waiting("AMS", "OSL", 479, "AMS", 0, 0, 0), 479, 479},
		{waiting("AMS", "OSL", 478, "AMS", 0, 0, 0), 478, 479},
		{waiting("AMS", "OSL", 480, "AMS", 0, 0, 0), -1, -1},
		{handed("AMS", "CDG", 479, 570, 0, 0), 570, impl.MaxTime},
		{handed("AMS", "CDG", 480, 570, 0, 0), -1, -1},
		{waiting("AMS", "OSL", 700, "AMS", 0), 700, impl.MaxTime},
		{waiting("AMS", "OSL", 0, "CDG", 1, 0, 0), 570, impl.MaxTime},
		{riding("AMS", "OSL", 0, 0, 0, 0), 480, 569},
		{riding("AMS", "CDG", 0, 0, 0, 0), 480, 569},
		{riding("AMS", "DUB", 0, 0, 0, 0, 1, 1), 480, 569},
		{waiting("AMS", "OSL", 0, "AMS", 0, 0, 60), 0, 60*1440 + 479},
		{handed("OSL", "CDG", 0, 56*1440+2000, 5, 56), 56*1440 + 2000, impl.MaxTime},
	} {
		for _, now := range []int{-1, 0, c.o.At - 1, c.o.At, c.first - 1, c.first, c.first + 1, c.last - 1, c.last, c.last + 1, impl.MaxTime, impl.MaxTime + 1} {
			want := c.first >= 0 && now >= c.first && now <= c.last
			if got := impl.IsWorld(worldOf(n, now, c.o)); got != want {
				t.Error(orderText(c.o), now, got, want)
			}
		}
	}
}

func TestNewWorld(t *testing.T) {
	for _, n := range []impl.Network{{}, cityNetwork(), someNetwork(), {Change: impl.MaxChange}, {Off: []int{0, 60}}, {Legs: legsOf(impl.MaxLegs)}} {
		for _, skip := range [][]int{nil, {}, {0}, {-1}, {1, 1}, {3, 2, 1, 2}, {leastInt, greatestInt}, make([]int, impl.MaxSkip), upTo(impl.MaxSkip)} {
			w, ok := impl.NewWorld(n, skip)
			if want := (impl.World{Network: n, Skip: skip}); !ok || worldText(w) != worldText(want) {
				t.Error(n, skip, ok, worldText(w))
			}
			checkValid(t, w)
		}
	}
}

func TestNoNewWorld(t *testing.T) {
	zero := worldText(impl.World{})
	for _, n := range append(badNetworks(), impl.Network{Change: -1}) {
		for _, skip := range [][]int{nil, {1}, make([]int, impl.MaxSkip+1)} {
			if w, ok := impl.NewWorld(n, skip); ok || worldText(w) != zero {
				t.Error(n, skip, ok, worldText(w))
			}
		}
	}
	for _, n := range []impl.Network{{}, cityNetwork()} {
		for _, count := range []int{impl.MaxSkip + 1, impl.MaxSkip + 2, 1000} {
			if w, ok := impl.NewWorld(n, make([]int, count)); ok || worldText(w) != zero {
				t.Error(n, count, ok, worldText(w))
			}
		}
	}
}

func newWorld(t *testing.T, n impl.Network, skip ...int) impl.World {
	t.Helper()
	w, ok := impl.NewWorld(n, skip)
	if !ok {
		t.Fatal("no world", n, skip)
	}
	return w
}

// accept accepts an order of ServiceFast, which must be possible and be as the document says.
func accept(t *testing.T, w impl.World, from, to string, weight int) impl.World {
	t.Helper()
	got, number, ok := impl.AcceptOrder(w, from, to, impl.ServiceFast, weight)
	want, wantNumber, wantOk := wantedAccept(w, from, to, impl.ServiceFast, weight)
	if !ok || !wantOk || number != wantNumber || worldText(got) != worldText(want) {
		t.Fatal(worldText(w), from, to, weight, worldText(got), number, ok, worldText(want), wantOk)
	}
	checkValid(t, got)
	return got
}

// advance goes to a time, which must be possible and be as the document says.
func advance(t *testing.T, w impl.World, until int) impl.World {
	t.Helper()
	got := impl.AdvanceTo(w, until)
	if want := wantedAdvance(w, until); worldText(got) != worldText(want) || got.Now != until {
		t.Fatal(worldText(w), until, worldText(got), worldText(want))
	}
	checkValid(t, got)
	return got
}

// shut shuts a trip, which must be possible and be as the document says.
func shut(t *testing.T, w impl.World, leg, day int) impl.World {
	t.Helper()
	got, ok := impl.ShutTrip(w, impl.Trip{Leg: leg, Day: day})
	want, wantOk := wantedShut(w, impl.Trip{Leg: leg, Day: day})
	if !ok || !wantOk || worldText(got) != worldText(want) {
		t.Fatal(worldText(w), leg, day, worldText(got), ok, worldText(want), wantOk)
	}
	checkValid(t, got)
	return got
}

func retry(t *testing.T, w impl.World, helped int) impl.World {
	t.Helper()
	got, n := impl.RetryOrders(w)
	want, wantN := wantedRetry(w)
	if n != wantN || n != helped || worldText(got) != worldText(want) {
		t.Fatal(worldText(w), worldText(got), n, helped, worldText(want), wantN)
	}
	checkValid(t, got)
	return got
}

func TestAcceptOrder(t *testing.T) {
	for _, c := range []struct {
		now      int
		from, to string
		service  int
		weight   int
		order    string
		due      int
	}{
		{0, "AMS", "CDG", 1, 1, "waits AMS: | 0/0", 1080}, {0, "AMS", "CDG", 2, 5000, "waits AMS: | 0/0", 2520}, {0, "AMS", "CDG", 3, 1, "waits AMS: | 0/0", 6840},
		{479, "AMS", "CDG", 1, 1, "waits AMS: | 0/0", 1080}, {480, "AMS", "CDG", 1, 1, "waits AMS: | 0/1", 2520}, {478, "AMS", "CDG", 1, 1, "waits AMS: | 0/0", 1080},
		{0, "AMS", "OSL", 1, 1, "waits AMS: | 0/0 1/0 2/0", 1080}, {480, "AMS", "OSL", 1, 1500, "waits AMS: | 3/0 4/0", 2520}, {480, "AMS", "OSL", 1, 1501, "waits AMS: | 3/0 2/1", 2520}, {480, "AMS", "DUB", 1, 1, "waits AMS: | 3/0", 2520},
		// Due is what was promised of all trips, whether they have room or not.
		{0, "AMS", "OSL", 1, 2001, "", 0}, {0, "AMS", "DUB", 1, 2501, "waits AMS: | 0/0 1/0", 1080}, {0, "CDG", "OSL", 1, 1501, "waits CDG: | 1/0 2/0", 1080}, {720, "DUB", "OSL", 1, 1501, "waits DUB: | 2/0", 1080}, {750, "DUB", "OSL", 1, 1501, "waits DUB: | 2/1", 2520},
		{1200, "DUB", "OSL", 1, 1500, "waits DUB: | 4/0", 2520}, {1299, "DUB", "OSL", 1, 1501, "waits DUB: | 2/1", 2520}, {1440, "OSL", "CDG", 1, impl.MaxWeight, "waits OSL: | 5/7", 12600}, {1440, "OSL", "CDG", 1, impl.MaxWeight + 1, "", 0}, {1440, "OSL", "CDG", 1, 0, "", 0},
		// Day 2 is off, and day 60 the last one.
		{2 * 1440, "AMS", "CDG", 1, 1, "waits AMS: | 0/3", 5400}, {60*1440 + 479, "AMS", "CDG", 1, 1, "waits AMS: | 0/60", 87480}, {60*1440 + 480, "AMS", "CDG", 1, 1, "", 0}, {60*1440 + 1299, "DUB", "OSL", 3, 1, "waits DUB: | 4/60", 94680},
		{60*1440 + 1300, "DUB", "OSL", 3, 1, "", 0}, {impl.MaxTime - 1, "DUB", "OSL", 3, 1, "", 0}, {impl.MaxTime, "DUB", "OSL", 3, 1, "", 0}, {0, "DUB", "AMS", 1, 1, "", 0},
	} {
		w := worldOf(cityNetwork(), c.now)
		w.Skip, w.Made = []int{2}, 5
		want, wantNumber, wantOk := wantedAccept(w, c.from, c.to, c.service, c.weight)
		got, number, ok := impl.AcceptOrder(w, c.from, c.to, c.service, c.weight)
		if ok != wantOk || ok != (c.order != "") || number != wantNumber || worldText(got) != worldText(want) {
			t.Error(c, worldText(got), number, ok, worldText(want))
		}
		if !ok {
			continue
		}
		checkOrders(t, c, got, c.order)
		o := got.Orders[0]
		if number != 1 || o.Due != c.due || o.At != c.now || o.From != c.from || o.To != c.to || o.Service != c.service || o.Weight != c.weight || got.Now != c.now || got.Made != 6 || !slices.Equal(got.Scans, []impl.Scan{hereAt(1, c.now, c.from)}) {
			t.Error(c, worldText(got))
		}
	}
}

// call is one of AcceptOrder.
type call struct {
	w        impl.World
	from, to string
	service  int
	weight   int
}

// weekNetwork runs once a week, so that all trips of a leg may be closed; none leads to OSL.
func weekNetwork() impl.Network {
	return impl.Network{Legs: []impl.Leg{
		{From: "AMS", To: "CDG", Start: 480, Takes: 90, Days: 1, Room: 1000},
		{From: "CDG", To: "AMS", Start: 600, Takes: 90, Days: 1, Room: 1000},
		{From: "OSL", To: "AMS", Start: 600, Takes: 90, Days: 1, Room: 1000},
	}}
}

// lastCall is one that is possible, for the last order that there may be.
func lastCall() call {
	w := worldOf(weekNetwork(), 0)
	w.Network.Legs[0].Room = impl.MaxRoom
	for range impl.MaxOrders - 1 {
		w.Orders = append(w.Orders, waiting("AMS", "CDG", 0, "AMS", 0))
	}
	return call{w, "AMS", "CDG", impl.ServiceWeek, 500}
}

// refusals each make a call that is possible one that is not.
func refusals() []func(c *call) {
	l := []func(c *call){
		func(c *call) { c.w.Made = -1 }, func(c *call) { c.w.Orders[7].Place = "" }, func(c *call) { c.w.Network.Change = -1 },
		func(c *call) { c.w.Orders = append(c.w.Orders, c.w.Orders[0]) },
		func(c *call) { c.to = c.from }, func(c *call) { c.from = c.to },
		func(c *call) { c.from = "XYZ" }, func(c *call) { c.from = "" }, func(c *call) { c.to = "XYZ" }, func(c *call) { c.to = "ams" }, func(c *call) { c.to = "OSL" },
		func(c *call) { c.w.Now = impl.MaxTime }, func(c *call) { c.w.Now = 56*1440 + 480 },
		func(c *call) { c.w.Network.Legs[0].Room = 499 }, func(c *call) { c.w.Closed = allOfLeg(c.w.Network, 0) },
		func(c *call) {
			c.w.Network.Legs[0].Room = 1000
			c.w.Closed = allOfLeg(c.w.Network, 0)[1:]
			c.w.Orders[3].Way, c.w.Orders[3].Weight = trips(0, 0), 501
			c.w.Bookings = bookedFor(c.w.Orders)
		},
	}
	for _, number := range []int{0, -1, leastInt, impl.MaxWeight + 1, greatestInt} {
		l = append(l, func(c *call) { c.weight = number })
	}
	for _, number := range []int{0, 4, -1, leastInt, greatestInt} {
		l = append(l, func(c *call) { c.service = number })
	}
	return l
}

func checkRefused(t *testing.T, what any, c call) {
	t.Helper()
	got, number, ok := impl.AcceptOrder(c.w, c.from, c.to, c.service, c.weight)
	if ok || number != 0 || worldText(got) != worldText(c.w) {
		t.Error(what, number, ok, worldText(got))
	}
	if _, _, ok := wantedAccept(c.w, c.from, c.to, c.service, c.weight); ok {
		t.Error(what, "not by the document")
	}
}

func TestAcceptOrderRefuses(t *testing.T) {
	c := lastCall()
	if got, number, ok := impl.AcceptOrder(c.w, c.from, c.to, c.service, c.weight); !ok || number != impl.MaxOrders || len(got.Orders) != impl.MaxOrders {
		t.Fatal(number, ok, worldText(got))
	} else {
		checkValid(t, got)
	}
	for i, one := range refusals() {
		c := lastCall()
		one(&c)
		checkRefused(t, i, c)
		for k, other := range refusals() {
			c := lastCall()
			one(&c)
			other(&c)
			checkRefused(t, []int{i, k}, c)
		}
	}
}

func TestAcceptOrderWithLittleRoom(t *testing.T) {
	n := weekNetwork()
	w := newWorld(t, n)
	w = accept(t, w, "AMS", "CDG", 600)
	w = accept(t, w, "AMS", "CDG", 600)
	w = accept(t, w, "AMS", "CDG", 400)
	w = accept(t, w, "AMS", "CDG", 401)
	w = accept(t, w, "AMS", "CDG", 1)
	checkOrders(t, "little room", w, "waits AMS: | 0/0", "waits AMS: | 0/7", "waits AMS: | 0/0", "waits AMS: | 0/14", "waits AMS: | 0/7")
	// Due is promised of the first trip, that has no room.
	if w.Orders[3].Due != 1080 {
		t.Error(worldText(w))
	}
	// All nine trips are full.
	for range 6 {
		w = accept(t, w, "AMS", "CDG", 1000)
	}
	checkRefused(t, "no room", call{w, "AMS", "CDG", 1, 1000})
	w = accept(t, w, "AMS", "CDG", 599)
	checkRefused(t, "no room", call{w, "AMS", "CDG", 1, 600})
	checkOrders(t, "full", w, "waits AMS: | 0/0", "waits AMS: | 0/7", "waits AMS: | 0/0", "waits AMS: | 0/14", "waits AMS: | 0/7", "waits AMS: | 0/21", "waits AMS: | 0/28", "waits AMS: | 0/35", "waits AMS: | 0/42", "waits AMS: | 0/49", "waits AMS: | 0/56", "waits AMS: | 0/14")
}

func TestAcceptOrderWithClosedTrips(t *testing.T) {
	w := newWorld(t, weekNetwork())
	for day := 0; day <= 49; day += 7 {
		w = shut(t, w, 0, day)
	}
	w = accept(t, w, "AMS", "CDG", 1000)
	w = accept(t, w, "CDG", "AMS", 1000)
	checkOrders(t, "closed", w, "waits AMS: | 0/56", "waits CDG: | 1/0")
	checkRefused(t, "the last one is full", call{w, "AMS", "CDG", 1, 1})
	w = shut(t, w, 0, 56)
	checkOrders(t, "closed", w, "waits AMS:", "waits CDG: | 1/0")
	checkRefused(t, "all are closed", call{w, "AMS", "CDG", 1, 1})
}

// longNetwork is a line of 18 legs, each of which ends just in time for the next one; leg 18 leads past the second place, sooner.
func longNetwork() impl.Network {
	n := impl.Network{Change: 30}
	place := func(i int) string { return "P" + string(rune('A'+i/10)) + string(rune('A'+i%10)) }
	for i := range 18 {
		n.Legs = append(n.Legs, impl.Leg{From: place(i), To: place(i + 1), Start: 60 + 60*i, Takes: 30, Days: 127, Room: impl.MaxRoom})
	}
	n.Legs = append(n.Legs, impl.Leg{From: place(0), To: place(2), Start: 61, Takes: 59, Days: 127, Room: 1000})
	return n
}

func TestAsManyBookingsAsThereMayBe(t *testing.T) {
	w := newWorld(t, longNetwork())
	for range 7 {
		w = accept(t, w, "PAB", "PBI", 1)
	}
	if len(w.Bookings) != 119 {
		t.Fatal(len(w.Bookings))
	}
	checkRefused(t, "two trips", call{w, "PAG", "PAI", 1, 1})
	w = accept(t, w, "PAA", "PAC", 1)
	if len(w.Bookings) != impl.MaxBookings || orderText(w.Orders[7]) != "waits PAA: | 18/0" {
		t.Fatal(len(w.Bookings), orderText(w.Orders[7]))
	}
	checkRefused(t, "one trip", call{w, "PAG", "PAH", 1, 1})
	// The new way has two trips, which are one too many: the order is stranded, and its booking is dropped.
	w = shut(t, w, 18, 0)
	if got := impl.StrandedIn(w); len(w.Bookings) != 119 || !slices.Equal(got, []int{8}) {
		t.Error(len(w.Bookings), got)
	}
	w = retry(t, w, 0)
	w = retry(t, advance(t, w, 30), 0)
	// Behind the first leg's start, leg 18 of this day is not open, and that of the next one is the best that there is.
	w = retry(t, advance(t, w, 60), 1)
	if got := orderText(w.Orders[7]); got != "waits PAA: | 18/1" || len(w.Bookings) != impl.MaxBookings {
		t.Error(got)
	}
}

// checkScans holds all scans that were made against a text.
func checkScans(t *testing.T, what any, w impl.World, want string) {
	t.Helper()
	if got := scanTexts(w); got != want {
		t.Error(what, got, "not", want)
	}
}

// meetNetwork has legs that start when, or a minute after, another one ends.
func meetNetwork(change int) impl.Network {
	return impl.Network{Legs: []impl.Leg{
		{From: "AMS", To: "CDG", Start: 480, Takes: 90, Days: 127, Room: 1000},
		{From: "CDG", To: "DUB", Start: 570, Takes: 120, Days: 127, Room: 1000},
		{From: "CDG", To: "DUB", Start: 571, Takes: 120, Days: 127, Room: 1000},
		{From: "OSL", To: "CDG", Start: 540, Takes: 30, Days: 127, Room: 1000},
	}, Change: change}
}

func TestATripStartsWhereAnotherOneEnds(t *testing.T) {
	for _, c := range []struct {
		change             int
		before, at, behind string
		later, ends        string
	}{
		{0, "rides: | 0/0 1/0", "rides: 0/0 | 1/0", "rides: 0/0 | 1/0", "rides: 0/0 | 1/0", "done 690: 0/0 1/0"},
		{1, "rides: | 0/0 2/0", "waits CDG: 0/0 | 2/0", "rides: 0/0 | 2/0", "rides: 0/0 | 2/0", "done 691: 0/0 2/0"},
		{2, "rides: | 0/0 1/1", "waits CDG: 0/0 | 1/1", "waits CDG: 0/0 | 1/1", "waits CDG: 0/0 | 1/1", "waits CDG: 0/0 | 1/1"},
	} {
		w := accept(t, newWorld(t, meetNetwork(c.change)), "AMS", "DUB", 1)
		for _, step := range []struct {
			until int
			text  string
		}{{569, c.before}, {570, c.at}, {571, c.behind}, {689, c.later}, {691, c.ends}} {
			w = advance(t, w, step.until)
			checkOrders(t, c, w, step.text)
		}
	}
	w := advance(t, accept(t, newWorld(t, meetNetwork(0)), "AMS", "DUB", 1), 690)
	checkScans(t, "one order", w, "0 00:00 1 here AMS, 0 08:00 1 load 0/0, 0 09:30 1 drop 0/0, 0 09:30 1 load 1/0, 0 11:30 1 drop 1/0, 0 11:30 1 done DUB")
}

// Whatever their numbers are: all rides end before one starts, and both in the order of the numbers.
func TestManyTripsStartWhereOthersEnd(t *testing.T) {
	w := newWorld(t, meetNetwork(0))
	w = accept(t, w, "CDG", "DUB", 1)
	w = accept(t, w, "AMS", "DUB", 1)
	w = accept(t, w, "OSL", "CDG", 1)
	w = accept(t, w, "CDG", "DUB", 1)
	w = accept(t, w, "OSL", "DUB", 1)
	w = accept(t, w, "AMS", "CDG", 1)
	w.Scans, w.Made = nil, 0
	w = advance(t, w, 569)
	checkScans(t, "starts", w, "0 08:00 2 load 0/0, 0 08:00 6 load 0/0, 0 09:00 3 load 3/0, 0 09:00 5 load 3/0")
	w.Scans, w.Made = nil, 0
	w = advance(t, w, 570)
	checkScans(t, "ends and starts", w, "0 09:30 2 drop 0/0, 0 09:30 3 drop 3/0, 0 09:30 3 done CDG, 0 09:30 5 drop 3/0, 0 09:30 6 drop 0/0, 0 09:30 6 done CDG, "+
		"0 09:30 1 load 1/0, 0 09:30 2 load 1/0, 0 09:30 4 load 1/0, 0 09:30 5 load 1/0")
	checkOrders(t, "ends and starts", w, "rides: | 1/0", "rides: 0/0 | 1/0", "done 570: 3/0", "rides: | 1/0", "rides: 3/0 | 1/0", "done 570: 0/0")
	if got := impl.NextEvent(w); got != 690 {
		t.Error(got)
	}
	w.Scans, w.Made = nil, 0
	w = advance(t, w, 690)
	checkScans(t, "ends", w, "0 11:30 1 drop 1/0, 0 11:30 1 done DUB, 0 11:30 2 drop 1/0, 0 11:30 2 done DUB, 0 11:30 4 drop 1/0, 0 11:30 4 done DUB, 0 11:30 5 drop 1/0, 0 11:30 5 done DUB")
}

// Two orders: the one leaves where and when the other one comes, and the other way round.
func TestTwoOrdersMeet(t *testing.T) {
	for _, change := range []int{0, 1} {
		for _, first := range []string{"AMS", "CDG"} {
			second := map[string]string{"AMS": "CDG", "CDG": "AMS"}[first]
			w := accept(t, newWorld(t, meetNetwork(change)), first, "DUB", 1)
			w = accept(t, w, second, "DUB", 1)
			for _, until := range []int{479, 480, 569, 570, 571, 689, 690, 691} {
				w = advance(t, w, until)
				far, near := w.Orders[0], w.Orders[1]
				if first == "CDG" {
					far, near = near, far
				}
				switch {
				case until == 570 && change == 0 && (orderText(far) != "rides: 0/0 | 1/0" || orderText(near) != "rides: | 1/0"):
					t.Error(first, worldText(w))
				case until == 570 && change == 1 && (orderText(far) != "waits CDG: 0/0 | 2/0" || orderText(near) != "rides: | 1/0"):
					t.Error(first, worldText(w))
				}
			}
		}
	}
}

// An order that reaches its To is done, however far the time goes on, and is not moved any more.
func TestOrdersReachTheirTo(t *testing.T) {
	w := accept(t, newWorld(t, cityNetwork()), "AMS", "OSL", 1)
	w = accept(t, w, "AMS", "CDG", 1)
	w = accept(t, w, "CDG", "DUB", 1)
	for _, until := range []int{810, 811, 5000, impl.MaxTime} {
		got := advance(t, w, until)
		checkOrders(t, until, got, "done 810: 0/0 1/0 2/0", "done 570: 0/0", "done 720: 1/0")
		checkScans(t, until, got, "0 00:00 1 here AMS, 0 00:00 2 here AMS, 0 00:00 3 here CDG, 0 08:00 1 load 0/0, 0 08:00 2 load 0/0, 0 09:30 1 drop 0/0, 0 09:30 2 drop 0/0, 0 09:30 2 done CDG, "+
			"0 10:00 1 load 1/0, 0 10:00 3 load 1/0, 0 12:00 1 drop 1/0, 0 12:00 3 drop 1/0, 0 12:00 3 done DUB, 0 12:30 1 load 2/0, 0 13:30 1 drop 2/0, 0 13:30 1 done OSL")
	}
	// A way that ends elsewhere leaves the order there.
	w = worldOf(cityNetwork(), 0, waiting("AMS", "OSL", 0, "AMS", 0, 0, 0))
	checkOrders(t, "elsewhere", advance(t, w, 570), "waits CDG: 0/0")
}

func TestScansAreSkipped(t *testing.T) {
	all := "0 00:00 1 here AMS, 0 00:00 2 here AMS, 0 08:00 1 load 0/0, 0 08:00 2 load 0/0, 0 09:30 1 drop 0/0, 0 09:30 1 done CDG, 0 09:30 2 drop 0/0, 0 10:00 2 load 1/0, 0 12:00 2 drop 1/0, 0 12:00 2 done DUB"
	texts := strings.Split(all, ", ")
	for _, skip := range [][]int{nil, {1}, {2, 2}, {10, 1}, {3, 5, 7, 9}, {0, -1, 11, leastInt, greatestInt}, {6, 4, 6}, upTo(10), upTo(9), {impl.MaxNumber}} {
		w := newWorld(t, cityNetwork(), skip...)
		w = accept(t, w, "AMS", "CDG", 1)
		w = advance(t, accept(t, w, "AMS", "DUB", 1), 5000)
		var kept []string
		for i, text := range texts {
			if !slices.Contains(skip, i+1) {
				kept = append(kept, text)
			}
		}
		checkScans(t, skip, w, strings.Join(kept, ", "))
		if w.Made != 10 {
			t.Error(skip, w.Made)
		}
	}
}

// The number of scans stays what it is when it is MaxNumber, and each further scan has this number.
func TestManyScansWereMade(t *testing.T) {
	for _, c := range []struct {
		made  int
		skip  []int
		kept  int
		after int
	}{
		{impl.MaxNumber - 5, nil, 4, impl.MaxNumber - 1}, {impl.MaxNumber - 4, nil, 4, impl.MaxNumber}, {impl.MaxNumber - 3, nil, 4, impl.MaxNumber}, {impl.MaxNumber - 1, nil, 4, impl.MaxNumber}, {impl.MaxNumber, nil, 4, impl.MaxNumber},
		{impl.MaxNumber, []int{impl.MaxNumber}, 0, impl.MaxNumber}, {impl.MaxNumber - 1, []int{impl.MaxNumber}, 0, impl.MaxNumber}, {impl.MaxNumber - 2, []int{impl.MaxNumber}, 1, impl.MaxNumber}, {impl.MaxNumber - 4, []int{impl.MaxNumber}, 3, impl.MaxNumber},
		{impl.MaxNumber, []int{impl.MaxNumber + 1}, 4, impl.MaxNumber}, {impl.MaxNumber - 2, []int{impl.MaxNumber - 1, impl.MaxNumber + 1, impl.MaxNumber + 2}, 3, impl.MaxNumber},
	} {
		w := newWorld(t, cityNetwork(), c.skip...)
		w.Made = c.made
		w = advance(t, accept(t, w, "AMS", "CDG", 1), 570)
		if len(w.Scans) != c.kept || w.Made != c.after {
			t.Error(c, len(w.Scans), w.Made)
		}
	}
}

func TestOnlySoManyScansAreKept(t *testing.T) {
	for _, before := range []int{impl.MaxScans - 5, impl.MaxScans - 4, impl.MaxScans - 3, impl.MaxScans - 1, impl.MaxScans} {
		w := newWorld(t, cityNetwork(), before+2)
		w.Now, w.Scans, w.Made = 300, scansUpTo(before), before
		w = advance(t, accept(t, w, "AMS", "CDG", 1), 600)
		if len(w.Scans) != min(before+3, impl.MaxScans) || w.Made != before+4 {
			t.Error(before, len(w.Scans), w.Made)
		}
	}
}

func TestNextEvent(t *testing.T) {
	n := cityNetwork()
	for _, c := range []struct {
		w    impl.World
		want int
	}{
		{impl.World{}, -1}, {worldOf(n, 0), -1}, {worldOf(n, impl.MaxTime), -1}, {someWorld(), 2160},
		{worldOf(n, 5, waiting("AMS", "OSL", 0, "AMS", 0, 0, 0)), 480}, {worldOf(n, 479, waiting("AMS", "OSL", 0, "AMS", 0, 0, 0)), 480}, {worldOf(n, 480, riding("AMS", "OSL", 0, 0, 0, 0)), 570}, {worldOf(n, 569, riding("AMS", "OSL", 0, 0, 0, 0, 1, 0)), 570},
		{worldOf(n, 570, waiting("AMS", "OSL", 0, "CDG", 1, 0, 0, 1, 3)), 4920}, {worldOf(n, 570, waiting("AMS", "OSL", 0, "CDG", 1, 0, 0)), -1}, {worldOf(n, 0, waiting("AMS", "OSL", 0, "AMS", 0)), -1}, {worldOf(n, 570, handed("AMS", "CDG", 0, 570, 0, 0)), -1},
		// The least one, wherever it stands and whatever it is.
		{worldOf(n, 570, riding("AMS", "OSL", 0, 0, 3, 0), waiting("CDG", "DUB", 0, "CDG", 0, 1, 0), handed("AMS", "CDG", 0, 570, 0, 0)), 600},
		{worldOf(n, 600, riding("AMS", "OSL", 0, 0, 3, 0), riding("CDG", "DUB", 0, 0, 1, 0), waiting("AMS", "CDG", 0, "AMS", 0, 0, 1)), 720},
		{worldOf(n, 720, waiting("AMS", "OSL", 0, "AMS", 0), waiting("AMS", "CDG", 0, "AMS", 0, 0, 1), riding("AMS", "OSL", 0, 0, 3, 0)), 1200},
	} {
		checkValid(t, c.w)
		if got := impl.NextEvent(c.w); got != c.want {
			t.Error(worldText(c.w), got, c.want)
		}
	}
}

func TestAdvanceTo(t *testing.T) {
	w := someWorld()
	w.Made, w.Skip = len(w.Scans), nil
	text := worldText(w)
	for _, until := range []int{leastInt, -1, 0, 1, 2138, 2139, 2140, impl.MaxTime + 1, greatestInt} {
		if got := impl.AdvanceTo(w, until); worldText(got) != text {
			t.Error(until, worldText(got))
		}
	}
	for _, c := range []struct {
		until int
		texts []string
	}{
		{2141, []string{"done 720: 0/0 1/0", "rides: 0/1 | 1/1 2/1", "waits AMS: | 3/3", "waits CDG:", "rides: | 3/1", "waits DUB: 0/0 1/0", "waits CDG: 0/1 | 1/3 4/3"}},
		{2159, []string{"done 720: 0/0 1/0", "rides: 0/1 | 1/1 2/1", "waits AMS: | 3/3", "waits CDG:", "rides: | 3/1", "waits DUB: 0/0 1/0", "waits CDG: 0/1 | 1/3 4/3"}},
		{2160, []string{"done 720: 0/0 1/0", "waits DUB: 0/1 1/1 | 2/1", "waits AMS: | 3/3", "waits CDG:", "rides: | 3/1", "waits DUB: 0/0 1/0", "waits CDG: 0/1 | 1/3 4/3"}},
		{2250, []string{"done 720: 0/0 1/0", "done 2250: 0/1 1/1 2/1", "waits AMS: | 3/3", "waits CDG:", "rides: | 3/1", "waits DUB: 0/0 1/0", "waits CDG: 0/1 | 1/3 4/3"}},
		{5000, []string{"done 720: 0/0 1/0", "done 2250: 0/1 1/1 2/1", "rides: | 3/3", "waits CDG:", "waits DUB: 3/1", "waits DUB: 0/0 1/0", "rides: 0/1 | 1/3 4/3"}},
		{impl.MaxTime, []string{"done 720: 0/0 1/0", "done 2250: 0/1 1/1 2/1", "done 5520: 3/3", "waits CDG:", "waits DUB: 3/1", "waits DUB: 0/0 1/0", "done 5720: 0/1 1/3 4/3"}},
	} {
		checkOrders(t, c.until, advance(t, w, c.until), c.texts...)
	}
	late := advance(t, w, impl.MaxTime)
	if got := impl.AdvanceTo(late, impl.MaxTime); worldText(got) != worldText(late) {
		t.Error(worldText(got))
	}
	if got := impl.AdvanceTo(late, impl.MaxTime+1); worldText(got) != worldText(late) {
		t.Error(worldText(got))
	}
	checkValid(t, advance(t, impl.World{}, impl.MaxTime))
}

// Each trip of the last day ends before MaxTime.
func TestTheLastTrips(t *testing.T) {
	n := impl.Network{Legs: []impl.Leg{{From: "AMS", To: "CDG", Start: 1439, Takes: impl.MaxTakes, Days: 127, Room: 1}}}
	w := worldOf(n, 60*1440+1438)
	w = accept(t, w, "AMS", "CDG", 1)
	w = advance(t, w, impl.MaxTime)
	checkOrders(t, "last", w, "done 92159: 0/60")
}

func checkNotShut(t *testing.T, what any, w impl.World, trip impl.Trip) {
	t.Helper()
	if got, ok := impl.ShutTrip(w, trip); ok || worldText(got) != worldText(w) {
		t.Error(what, trip, ok, worldText(got))
	}
	if _, ok := wantedShut(w, trip); ok {
		t.Error(what, trip, "not by the document")
	}
}

func TestShutTripRefuses(t *testing.T) {
	w := someWorld()
	for _, trip := range trips(-1, 3, 6, 3, leastInt, 3, greatestInt, 3, 0, -1, 0, 2, 0, 61, 0, leastInt, 0, greatestInt, 5, 8, 0, 0, 1, 0, 0, 1, 1, 1, 3, 1, 5, 0, 4, 60) {
		checkNotShut(t, "none, or too late", w, trip)
	}
	for _, trip := range trips(2, 1, 4, 1, 0, 3, 4, 3, 0, 60, 5, 7) {
		w = shut(t, w, trip.Leg, trip.Day)
		checkNotShut(t, "closed", w, trip)
	}
	for _, trip := range ridesOf(cityNetwork()) {
		w := worldOf(cityNetwork(), trip.start)
		checkNotShut(t, "now", w, trip.trip)
		w.Now = trip.start - 1
		if w.Now >= 0 {
			w = shut(t, w, trip.trip.Leg, trip.trip.Day)
			checkNotShut(t, "again", w, trip.trip)
		}
	}
}

func TestAsManyClosedTripsAsThereMayBe(t *testing.T) {
	w := accept(t, newWorld(t, cityNetwork()), "AMS", "CDG", 1)
	for day := 20; day < 20+impl.MaxClosed-1; day++ {
		w = shut(t, w, 2, day)
	}
	w.Orders[0].Way, w.Bookings = trips(0, 60), []impl.Booking{bookingOf(1, 0, 60, 1)}
	w = shut(t, w, 0, 60)
	checkOrders(t, "the last one", w, "waits AMS: | 0/0")
	if len(w.Closed) != impl.MaxClosed || w.Closed[19] != (impl.Trip{Leg: 0, Day: 60}) {
		t.Error(w.Closed)
	}
	for _, trip := range trips(0, 0, 0, 60, 1, 0, 2, 20, 5, 7) {
		checkNotShut(t, "too many", w, trip)
	}
}

func TestShutTrip(t *testing.T) {
	for _, c := range []struct {
		what      string
		orders    []impl.Order
		now       int
		leg, day  int
		texts     []string
		remaining int
	}{
		{"of nobody", []impl.Order{waiting("AMS", "DUB", 0, "AMS", 0, 0, 0, 1, 0)}, 0, 1, 1, []string{"waits AMS: | 0/0 1/0"}, 2},
		{"the next one", []impl.Order{waiting("AMS", "DUB", 0, "AMS", 0, 0, 0, 1, 0)}, 0, 0, 0, []string{"waits AMS: | 3/0"}, 1},
		{"the next one, just before it starts", []impl.Order{waiting("AMS", "DUB", 0, "AMS", 0, 0, 0, 1, 0)}, 479, 0, 0, []string{"waits AMS: | 3/0"}, 1},
		{"a later one", []impl.Order{waiting("AMS", "DUB", 0, "AMS", 0, 0, 0, 1, 0)}, 479, 1, 0, []string{"waits AMS: | 3/0"}, 1},
		{"a later one, when the other way starts", []impl.Order{waiting("AMS", "DUB", 0, "AMS", 0, 0, 3, 1, 3)}, 500, 1, 3, []string{"waits AMS: | 0/1 1/1"}, 2},
		{"the next one of one that rides", []impl.Order{riding("AMS", "DUB", 0, 0, 0, 0, 1, 0)}, 480, 1, 0, []string{"rides: | 0/0 1/1"}, 2},
		{"the last one of one that rides", []impl.Order{riding("AMS", "OSL", 0, 0, 0, 0, 1, 0, 2, 0)}, 569, 2, 0, []string{"rides: | 0/0 1/0 4/0"}, 3},
		{"the next one of one that came", []impl.Order{waiting("AMS", "DUB", 0, "CDG", 1, 0, 0, 1, 0)}, 570, 1, 0, []string{"waits CDG: 0/0 | 1/1"}, 2},
		{"where it came just in time", []impl.Order{waiting("AMS", "OSL", 0, "DUB", 2, 0, 0, 1, 0, 4, 0)}, 720, 4, 0, []string{"waits DUB: 0/0 1/0 | 2/0"}, 3},
		{"a minute later", []impl.Order{waiting("AMS", "OSL", 0, "DUB", 2, 0, 0, 1, 0, 4, 0)}, 749, 4, 0, []string{"waits DUB: 0/0 1/0 | 2/0"}, 3},
		{"too late for the next one", []impl.Order{waiting("AMS", "OSL", 0, "DUB", 2, 0, 0, 1, 0, 4, 0)}, 750, 4, 0, []string{"waits DUB: 0/0 1/0 | 2/1"}, 3},
		{"it stays elsewhere", []impl.Order{handed("AMS", "CDG", 0, 570, 0, 0), waiting("AMS", "DUB", 0, "CDG", 1, 0, 0), riding("AMS", "DUB", 0, 0, 3, 0)}, 570, 1, 0, []string{"done 570: 0/0", "waits CDG: 0/0", "rides: | 3/0"}, 3},
	} {
		w := worldOf(cityNetwork(), c.now, c.orders...)
		checkValid(t, w)
		w = shut(t, w, c.leg, c.day)
		checkOrders(t, c.what, w, c.texts...)
		if len(w.Bookings) != c.remaining || !slices.Equal(w.Closed, trips(c.leg, c.day)) || w.Made != 0 || w.Now != c.now {
			t.Error(c.what, worldText(w))
		}
	}
}

// What may start between the end of a ride and the change is not taken, neither while it rides nor behind it.
func TestANewWayWaitsForTheChange(t *testing.T) {
	for change, want := range map[int]string{30: "2/0", 31: "4/0", 0: "2/0", 240: "4/0"} {
		n := cityNetwork()
		n.Change = change
		for _, now := range []int{600, 719, 720, 730, 749} {
			o := riding("CDG", "OSL", 0, 0, 1, 0, 4, 3)
			want := "rides: | 1/0 " + want
			if now >= 720 {
				o = waiting("CDG", "OSL", 0, "DUB", 1, 1, 0, 4, 3)
				want = strings.Replace(want, "rides: | 1/0", "waits DUB: 1/0 |", 1)
			}
			w := worldOf(n, now, o)
			checkValid(t, w)
			checkOrders(t, []int{change, now}, shut(t, w, 4, 3), want)
		}
	}
}

func TestTwoOrdersWithRoomForOne(t *testing.T) {
	for _, c := range []struct {
		first, second int
		texts         []string
	}{
		{1000, 1000, []string{"waits AMS: | 3/0 4/0", "waits AMS: | 3/0 2/1"}},
		{1000, 500, []string{"waits AMS: | 3/0 4/0", "waits AMS: | 3/0 4/0"}},
		{1000, 501, []string{"waits AMS: | 3/0 4/0", "waits AMS: | 3/0 2/1"}},
		{499, 1001, []string{"waits AMS: | 3/0 4/0", "waits AMS: | 3/0 4/0"}},
		{500, 1001, []string{"waits AMS: | 3/0 4/0", "waits AMS: | 3/0 2/1"}},
		{300, 1501, []string{"waits AMS: | 3/0 4/0", "waits AMS: | 3/0 2/1"}},
	} {
		w := accept(t, newWorld(t, cityNetwork()), "AMS", "OSL", c.first)
		w = accept(t, w, "AMS", "OSL", 1)
		w.Orders[1].Weight, w.Bookings[1].Weight, w.Bookings[3].Weight, w.Bookings[5].Weight = c.second, c.second, c.second, c.second
		w = shut(t, w, 2, 0)
		checkOrders(t, c, w, c.texts...)
	}
}

// seldomNetwork has one leg on, which runs on day 0 and on day 56 only.
func seldomNetwork() impl.Network {
	return impl.Network{Legs: []impl.Leg{
		{From: "AMS", To: "CDG", Start: 480, Takes: 90, Days: 127, Room: 1000},
		{From: "CDG", To: "DUB", Start: 600, Takes: 120, Days: 1, Room: 1000},
		{From: "DUB", To: "OSL", Start: 750, Takes: 60, Days: 127, Room: 1000},
	}, Off: []int{7, 14, 21, 28, 35, 42, 49}, Change: 30}
}

func TestOrdersBecomeStranded(t *testing.T) {
	for _, c := range []struct {
		now        int
		text, then string
		bookings   int
		end        string
	}{
		{0, "waits AMS: | 0/0 1/0 2/0", "waits AMS:", 0, "waits AMS:"},
		{480, "rides: | 0/0 1/0 2/0", "rides: | 0/0", 1, "waits CDG: 0/0"},
		{570, "waits CDG: 0/0 | 1/0 2/0", "waits CDG: 0/0", 1, "waits CDG: 0/0"},
	} {
		w := accept(t, newWorld(t, seldomNetwork()), "AMS", "OSL", 1)
		w = shut(t, advance(t, w, c.now), 1, 56)
		checkOrders(t, c, w, c.text)
		if got := impl.StrandedIn(w); len(got) != 0 {
			t.Error(c, got)
		}
		w = shut(t, w, 1, 0)
		checkOrders(t, c, w, c.then)
		if got := impl.StrandedIn(w); !slices.Equal(got, []int{1}) || len(w.Bookings) != c.bookings || impl.PlannedEnd(w, 1) != -1 {
			t.Error(c, got, w.Bookings)
		}
		w = retry(t, w, 0)
		w = advance(t, w, impl.MaxTime)
		checkOrders(t, c, w, c.end)
		if got := impl.StrandedIn(w); !slices.Equal(got, []int{1}) || impl.NextEvent(w) != -1 {
			t.Error(c, got)
		}
	}
	// On the last leg, nothing is to come that could be shut, and it is not stranded.
	w := advance(t, accept(t, newWorld(t, seldomNetwork()), "AMS", "OSL", 1), 750)
	w = shut(t, w, 2, 1)
	checkOrders(t, "last", w, "rides: 0/0 1/0 | 2/0")
	if got := impl.StrandedIn(w); len(got) != 0 || impl.PlannedEnd(w, 1) != 810 {
		t.Error(got)
	}
}

// What was booked on the trips that are dropped can be booked by another order.
func TestDroppedBookingsLeaveRoom(t *testing.T) {
	w := accept(t, newWorld(t, seldomNetwork()), "AMS", "OSL", 600)
	w = accept(t, w, "DUB", "OSL", 600)
	checkOrders(t, "full", w, "waits AMS: | 0/0 1/0 2/0", "waits DUB: | 2/1")
	w = shut(t, shut(t, w, 1, 56), 1, 0)
	w = accept(t, w, "DUB", "OSL", 600)
	w = accept(t, w, "AMS", "CDG", 1000)
	checkOrders(t, "dropped", w, "waits AMS:", "waits DUB: | 2/1", "waits DUB: | 2/0", "waits AMS: | 0/0")
}

func TestRetryOrders(t *testing.T) {
	all := someWorld()
	checkOrders(t, "all", retry(t, all, 3), "done 720: 0/0 1/0", "rides: 0/1 | 1/1 2/1", "waits AMS: | 3/3", "waits CDG: | 1/3 2/3", "rides: | 3/1 4/1", "waits DUB: 0/0 1/0 | 2/1", "waits CDG: 0/1 | 1/3 4/3")
	retry(t, retry(t, all, 3), 0)
	some := someWorldBut(func(w *impl.World) { w.Orders[3].Weight = impl.MaxWeight })
	checkOrders(t, "some", retry(t, some, 2), "done 720: 0/0 1/0", "rides: 0/1 | 1/1 2/1", "waits AMS: | 3/3", "waits CDG:", "rides: | 3/1 4/1", "waits DUB: 0/0 1/0 | 2/1", "waits CDG: 0/1 | 1/3 4/3")
	// With room for one alone, the order with the least number has it.
	one := someWorldBut(func(w *impl.World) { w.Network.Legs[2].Room, w.Network.Legs[4].Room = 100, 100 })
	checkOrders(t, "one by one", retry(t, one, 3), "done 720: 0/0 1/0", "rides: 0/1 | 1/1 2/1", "waits AMS: | 3/3", "waits CDG: | 1/3 2/3", "rides: | 3/1 4/1", "waits DUB: 0/0 1/0 | 2/4", "waits CDG: 0/1 | 1/3 4/3")
	late := worldOf(cityNetwork(), impl.MaxTime, waiting("AMS", "OSL", 0, "AMS", 0), waiting("AMS", "OSL", 0, "CDG", 1, 0, 0))
	for _, now := range []int{60*1440 + 1300, impl.MaxTime - 1, impl.MaxTime} {
		late.Now = now
		retry(t, late, 0)
	}
	late.Now = 60*1440 + 600 - 1
	checkOrders(t, "the last minute", retry(t, late, 1), "waits AMS:", "waits CDG: 0/0 | 1/60 2/60")
	retry(t, impl.World{}, 0)
	retry(t, worldOf(cityNetwork(), 0, waiting("AMS", "OSL", 0, "AMS", 0, 0, 0)), 0)
}

func TestWaitingAndRiding(t *testing.T) {
	w := someWorld()
	for place, want := range map[string][]int{"AMS": {3}, "CDG": {4, 7}, "DUB": {6}, "OSL": {}, "": {}, "XYZ": {}, "cdg": {}, "CDGX": {}} {
		if got := impl.WaitingAt(w, place); !slices.Equal(got, want) {
			t.Error(place, got)
		}
	}
	for trip, want := range map[impl.Trip][]int{{Leg: 1, Day: 1}: {2}, {Leg: 3, Day: 1}: {5}} {
		if got := impl.RidingOn(w, trip); !slices.Equal(got, want) {
			t.Error(trip, got)
		}
	}
	// They have ended, are to come, are ridden by nobody, or are none.
	for _, trip := range trips(0, 1, 0, 0, 1, 0, 2, 1, 3, 3, 1, 3, 4, 3, 5, 0, 2, 60, 0, 2, -1, 0, 6, 0, leastInt, 0, greatestInt, 0, 0, -1, 0, 61, 0, leastInt, 0, greatestInt, 5, 1) {
		if got := impl.RidingOn(w, trip); len(got) != 0 {
			t.Error(trip, got)
		}
	}
	if got := impl.StrandedIn(w); !slices.Equal(got, []int{4, 5, 6}) {
		t.Error(got)
	}
	full := impl.AdvanceTo(accept(t, accept(t, accept(t, newWorld(t, cityNetwork()), "AMS", "CDG", 1), "AMS", "OSL", 1), "AMS", "DUB", 1), 500)
	if got := impl.RidingOn(full, impl.Trip{}); !slices.Equal(got, []int{1, 2, 3}) {
		t.Error(got)
	}
}

func TestPlannedEnd(t *testing.T) {
	w := someWorld()
	for id, want := range map[int]int{1: 720, 2: 2250, 3: 5520, 4: -1, 5: -1, 6: -1, 7: 5720, 0: -1, -1: -1, -7: -1, 8: -1, 9: -1, leastInt: -1, leastInt + 1: -1, greatestInt: -1, impl.MaxOrders: -1} {
		if got := impl.PlannedEnd(w, id); got != want {
			t.Error(id, got, want)
		}
	}
	for _, c := range []struct {
		now  int
		o    impl.Order
		want int
	}{
		{480, riding("AMS", "CDG", 0, 0, 0, 0), 570}, {480, riding("AMS", "OSL", 0, 0, 0, 0), -1}, {569, riding("AMS", "DUB", 0, 0, 0, 0, 1, 3), 5040}, {570, handed("AMS", "CDG", 0, 570, 0, 0), 570}, {impl.MaxTime, handed("AMS", "CDG", 0, 570, 0, 0), 570},
		// The way of one that is not stranded may end elsewhere.
		{0, waiting("AMS", "OSL", 0, "AMS", 0, 0, 0), 570}, {0, waiting("AMS", "OSL", 0, "AMS", 0, 0, 0, 1, 1), 2160}, {570, waiting("AMS", "OSL", 0, "CDG", 1, 0, 0), -1}, {0, waiting("AMS", "OSL", 0, "AMS", 0), -1},
	} {
		w := worldOf(cityNetwork(), c.now, c.o)
		checkValid(t, w)
		if got, stranded := impl.PlannedEnd(w, 1), impl.StrandedIn(w); got != c.want || len(stranded) == 1 != (c.want == -1) {
			t.Error(orderText(c.o), got, stranded)
		}
	}
	if got := impl.PlannedEnd(impl.World{}, 1); got != -1 {
		t.Error(got)
	}
}

func TestLateOrders(t *testing.T) {
	for _, c := range []struct {
		now    int
		o      impl.Order
		inTime int
	}{
		{480, riding("AMS", "CDG", 0, 0, 0, 0), 480}, {569, riding("AMS", "OSL", 0, 0, 0, 0), 569}, {400, waiting("AMS", "OSL", 0, "AMS", 0, 0, 0), 400}, {0, waiting("AMS", "OSL", 0, "AMS", 0), 0}, {impl.MaxTime, waiting("AMS", "OSL", 0, "AMS", 0), impl.MaxTime},
		{570, handed("AMS", "CDG", 0, 570, 0, 0), 570}, {571, handed("AMS", "CDG", 0, 570, 0, 0), 570}, {impl.MaxTime, handed("AMS", "CDG", 0, 570, 0, 0), 570},
	} {
		for _, due := range []int{0, 1, c.inTime - 1, c.inTime, c.inTime + 1, impl.MaxTime, 2 * impl.MaxTime} {
			c.o.Due = max(due, 0)
			w := worldOf(cityNetwork(), c.now, c.o)
			checkValid(t, w)
			want := []int{1}
			if c.o.Due >= c.inTime {
				want = nil
			}
			if got := impl.LateOrders(w); !slices.Equal(got, want) {
				t.Error(orderText(c.o), c.now, c.o.Due, got)
			}
		}
	}
	w := someWorld()
	for due, want := range map[int][]int{0: {1, 2, 3, 4, 5, 6, 7}, 719: {1, 2, 3, 4, 5, 6, 7}, 720: {2, 3, 4, 5, 6, 7}, 2139: {2, 3, 4, 5, 6, 7}, 2140: {}, 2141: {}, 2 * impl.MaxTime: {}} {
		for i := range w.Orders {
			w.Orders[i].Due = due
		}
		if got := impl.LateOrders(w); !slices.Equal(got, want) {
			t.Error(due, got)
		}
	}
}

func TestCountState(t *testing.T) {
	some, none := someWorld(), impl.World{Made: -1}
	for i := range 40 {
		none.Orders = append(none.Orders, impl.Order{State: []int{1, 2, 3, 7, -1, leastInt, greatestInt, 0}[i%8], Gone: -5})
	}
	for state, want := range map[int][]int{1: {4, 5}, 2: {2, 5}, 3: {1, 5}, 0: {0, 5}, 4: {0, 0}, 7: {0, 5}, -1: {0, 5}, -2: {0, 0}, leastInt: {0, 5}, greatestInt: {0, 5}} {
		got := []int{impl.CountState(some, state), impl.CountState(none, state)}
		if !slices.Equal(got, want) || impl.CountState(impl.World{}, state) != 0 {
			t.Error(state, got)
		}
	}
}

// eachPart goes through all numbers, texts and lists in a value and lets do change each one, which is then set back.
func eachPart(v reflect.Value, do func(part reflect.Value)) {
	switch v.Kind() {
	case reflect.Struct:
		for i := range v.NumField() {
			eachPart(v.Field(i), do)
		}
		return
	case reflect.Slice:
		for i := range v.Len() {
			eachPart(v.Index(i), do)
		}
	}
	before := reflect.ValueOf(v.Interface())
	do(v)
	v.Set(before)
}

func TestSameWorlds(t *testing.T) {
	a := someWorld()
	check := func(what string, b impl.World, want bool) {
		t.Helper()
		if impl.SameWorlds(a, b) != want || impl.SameWorlds(b, a) != want || !impl.SameWorlds(b, b) {
			t.Error(what, worldText(b), want)
		}
	}
	check("itself", a, true)
	check("a copy", copyOfWorld(a), true)
	b := copyOfWorld(a)
	parts := 0
	eachPart(reflect.ValueOf(&b).Elem(), func(part reflect.Value) {
		parts++
		switch part.Kind() {
		case reflect.Int:
			number := part.Int()
			for _, by := range []int64{1, -1, leastInt} {
				part.SetInt(number + by)
				check("a number", b, false)
			}
		case reflect.String:
			for _, text := range []string{part.String() + " ", "\x00", "ams"} {
				part.SetString(text)
				check("a text", b, false)
			}
		case reflect.Slice:
			whole := part.Interface()
			if part.Len() > 0 {
				part.Set(part.Slice(0, part.Len()-1))
				check("a list that is shorter", b, false)
				part.Set(reflect.ValueOf(whole).Slice(1, reflect.ValueOf(whole).Len()))
				check("a list without its first", b, false)
			}
			part.Set(reflect.Append(reflect.ValueOf(whole).Slice3(0, reflect.ValueOf(whole).Len(), reflect.ValueOf(whole).Len()), reflect.Zero(part.Type().Elem())))
			check("a list that is longer", b, false)
		}
	})
	check("set back", b, true)
	if parts < 200 {
		t.Error(parts)
	}
	b = copyOfWorld(a)
	b.Bookings[0], b.Bookings[1] = b.Bookings[1], b.Bookings[0]
	check("another order of bookings", b, false)
	b = copyOfWorld(a)
	b.Closed[0], b.Closed[1] = b.Closed[1], b.Closed[0]
	check("another order of closed trips", b, false)
	check("nothing", impl.World{}, false)
}

func TestNilListsAreEmptyOnes(t *testing.T) {
	full := impl.World{Network: impl.Network{Legs: []impl.Leg{}, Off: []int{}}, Orders: []impl.Order{}, Bookings: []impl.Booking{}, Closed: []impl.Trip{}, Scans: []impl.Scan{}, Skip: []int{}}
	if !impl.SameWorlds(impl.World{}, full) || !impl.SameWorlds(full, impl.World{}) || !impl.SameWorlds(full, full) || !impl.IsWorld(full) {
		t.Error("empty lists")
	}
	a, b := impl.World{Orders: []impl.Order{{}}}, impl.World{Orders: []impl.Order{{Way: []impl.Trip{}}}}
	if !impl.SameWorlds(a, b) || !impl.SameWorlds(b, a) || impl.SameWorlds(a, full) || impl.SameWorlds(full, b) {
		t.Error("an empty way")
	}
	w, ok := impl.NewWorld(impl.Network{}, nil)
	if !ok || !impl.SameWorlds(w, full) {
		t.Error(worldText(w))
	}
}

// storyNetwork has little room and legs that meet; many of them run on two days only.
func storyNetwork(r *rand.Rand) impl.Network {
	n := ordinaryNetwork(r)
	weekday := r.Intn(3)
	n.Off = nil
	for day := weekday + 14; day <= impl.MaxDay; day += 7 {
		n.Off = append(n.Off, day)
	}
	for i := range n.Legs {
		n.Legs[i].Room = []int{100, 300, 600, 1000}[r.Intn(4)]
		if r.Intn(3) > 0 {
			n.Legs[i].Days = 1 << weekday
		}
	}
	return n
}

// story is a world at random, and what happened in it.
type story struct {
	r        *rand.Rand
	w        impl.World
	happened map[string]int
}

func newStory(t *testing.T, r *rand.Rand) story {
	t.Helper()
	skip := r.Perm(100)[:[]int{0, 5, impl.MaxSkip}[r.Intn(3)]]
	return story{r, newWorld(t, storyNetwork(r), skip...), map[string]int{}}
}

func (s *story) accept(t *testing.T) {
	places := placesIn(s.w.Network)
	from := s.r.Intn(len(places))
	s.acceptOne(t, places[from], append(places, "XYZ")[(from+1+s.r.Intn(len(places)))%(len(places)+1)])
}

func (s *story) acceptOne(t *testing.T, from, to string) {
	service, weight := 1+s.r.Intn(3), []int{1, 1, 50, 50, 100, 100, 200, 300, 600}[s.r.Intn(9)]
	got, number, ok := impl.AcceptOrder(s.w, from, to, service, weight)
	want, wantNumber, wantOk := wantedAccept(s.w, from, to, service, weight)
	if ok != wantOk || number != wantNumber || worldText(got) != worldText(want) {
		t.Fatal(worldText(s.w), from, to, service, weight, worldText(got), number, ok)
	}
	s.w = got
	s.happened[fmt.Sprint("accepted ", ok)]++
}

// tripToShut is often one that somebody will ride.
func (s *story) tripToShut() impl.Trip {
	if len(s.w.Orders) > 0 {
		o := s.w.Orders[s.r.Intn(len(s.w.Orders))]
		if come := tripsToCome(o); len(come) > 0 {
			return come[s.r.Intn(len(come))]
		}
	}
	return impl.Trip{Leg: s.r.Intn(len(s.w.Network.Legs)+2) - 1, Day: s.r.Intn(20) - 1}
}

func (s *story) shut(t *testing.T) {
	trip := s.tripToShut()
	before := len(wantedStranded(s.w))
	got, ok := impl.ShutTrip(s.w, trip)
	want, wantOk := wantedShut(s.w, trip)
	if ok != wantOk || worldText(got) != worldText(want) {
		t.Fatal(worldText(s.w), trip, worldText(got), ok)
	}
	s.w = got
	s.happened[fmt.Sprint("shut ", ok)]++
	s.happened["stranded"] += len(wantedStranded(s.w)) - before
}

// retry sometimes opens a trip before, which is how a world may be, too.
func (s *story) retry(t *testing.T) {
	if count := len(s.w.Closed); count > 0 && s.r.Intn(2) == 0 {
		s.w = copyOfWorld(s.w)
		s.w.Closed = slices.Delete(s.w.Closed, 0, 1+s.r.Intn(count))
	}
	got, n := impl.RetryOrders(s.w)
	want, wantN := wantedRetry(s.w)
	if n != wantN || worldText(got) != worldText(want) {
		t.Fatal(worldText(s.w), worldText(got), n, wantN)
	}
	s.w = got
	s.happened["helped"] += n
}

// advance often stops when something happens, or a minute before or behind it.
func (s *story) advance(t *testing.T) {
	until := s.w.Now + s.r.Intn(700)
	if next := impl.NextEvent(s.w); next > 0 && s.r.Intn(4) > 0 {
		until = max(s.w.Now, next+s.r.Intn(3)-1)
	}
	before := impl.CountState(s.w, impl.OrderDone)
	s.w = advance(t, s.w, until)
	s.happened["done"] += impl.CountState(s.w, impl.OrderDone) - before
}

func (s *story) step(t *testing.T) {
	switch s.r.Intn(10) {
	case 0, 1, 2:
		s.accept(t)
	case 3, 4:
		s.shut(t)
	case 5:
		s.retry(t)
	default:
		s.advance(t)
	}
}

// checkPlaces asks for each order in all places, on all trips that may be ridden, and whether it is done: that is one answer.
func checkPlaces(t *testing.T, w impl.World) {
	t.Helper()
	found := make([]int, len(w.Orders))
	for _, place := range append(placesIn(w.Network), "", "XYZ") {
		for _, number := range impl.WaitingAt(w, place) {
			found[number-1]++
			if o := w.Orders[number-1]; o.State != impl.OrderWaits || o.Place != place || place == o.To {
				t.Error(worldText(w), number, place)
			}
		}
	}
	for _, x := range ridesOf(w.Network) {
		if x.start > w.Now || x.end <= w.Now {
			continue
		}
		load := 0
		for _, number := range impl.RidingOn(w, x.trip) {
			found[number-1]++
			load += w.Orders[number-1].Weight
			if o := w.Orders[number-1]; o.State != impl.OrderRides || !slices.Contains(w.Bookings, impl.Booking{Thing: number, Trip: x.trip, Weight: o.Weight}) {
				t.Error(worldText(w), number, x)
			}
		}
		if load > w.Network.Legs[x.trip.Leg].Room {
			t.Error(worldText(w), x, load)
		}
	}
	done := 0
	for i, o := range w.Orders {
		if o.State == impl.OrderDone && o.Place == o.To && o.Ended <= w.Now {
			found[i]++
			done++
		}
		if found[i] != 1 {
			t.Error(worldText(w), i+1, found[i])
		}
	}
	if got := impl.CountState(w, impl.OrderDone); got != done || impl.CountState(w, impl.OrderWaits)+impl.CountState(w, impl.OrderRides)+done != len(w.Orders) {
		t.Error(worldText(w), got, done)
	}
}

// checkPlan lets time pass to its end: who is not stranded is done when it was planned, and who is stays where it is left.
func checkPlan(t *testing.T, w impl.World) {
	t.Helper()
	last := impl.AdvanceTo(w, impl.MaxTime)
	stranded := wantedStranded(w)
	if got := impl.StrandedIn(w); !slices.Equal(got, stranded) {
		t.Error(worldText(w), got, stranded)
	}
	for i, o := range last.Orders {
		end := impl.PlannedEnd(w, i+1)
		if slices.Contains(stranded, i+1) {
			if end != -1 || o.State != impl.OrderWaits || o.Place == o.To || o.Gone != len(o.Way) {
				t.Error(worldText(w), i+1, end, orderText(o))
			}
			continue
		}
		if o.State != impl.OrderDone || o.Place != o.To || o.Ended != end || end < 0 || end == greatestInt {
			t.Error(worldText(w), i+1, end, orderText(o))
			continue
		}
		if before := impl.AdvanceTo(w, max(end-1, w.Now)); end > w.Now && before.Orders[i].State == impl.OrderDone {
			t.Error(worldText(w), i+1, end)
		}
		if on := impl.AdvanceTo(w, max(end, w.Now)); on.Orders[i].State != impl.OrderDone {
			t.Error(worldText(w), i+1, end)
		}
	}
	if !impl.IsWorld(last) || !slices.Equal(impl.StrandedIn(last), stranded) || impl.NextEvent(last) != -1 {
		t.Error(worldText(w), worldText(last))
	}
}

// checkParts lets time pass in one part, and in two and in many, which makes no difference.
func checkParts(t *testing.T, r *rand.Rand, w impl.World) {
	t.Helper()
	until := min(w.Now+r.Intn(6000), impl.MaxTime)
	want := impl.AdvanceTo(w, until)
	if between := impl.AdvanceTo(w, w.Now+r.Intn(until-w.Now+1)); worldText(impl.AdvanceTo(between, until)) != worldText(want) {
		t.Error(worldText(w), between.Now, until)
	}
	step := w
	for next := impl.NextEvent(step); next >= 0 && next <= until; next = impl.NextEvent(step) {
		if before := impl.AdvanceTo(step, next-1); fmt.Sprintf("%+v", before.Orders) != fmt.Sprintf("%+v", step.Orders) || before.Made != step.Made {
			t.Error(worldText(step), next)
		}
		step = impl.AdvanceTo(step, next)
		if next <= w.Now || step.Now != next {
			t.Fatal(worldText(w), next)
		}
	}
	if step = impl.AdvanceTo(step, until); worldText(step) != worldText(want) || !impl.SameWorlds(step, want) {
		t.Error(worldText(w), worldText(step), worldText(want))
	}
}

// checkSeen holds what may be believed by the scans of a world against where its orders are.
func checkSeen(t *testing.T, w impl.World) {
	t.Helper()
	for i, o := range w.Orders {
		if len(impl.Clashes(w.Network, w.Scans, i+1)) > 0 {
			t.Error(worldText(w), i+1)
		}
		if _, seen := impl.LastScan(w.Network, w.Scans, i+1, w.Now); !seen {
			continue
		}
		if o.State == impl.OrderWaits && !impl.MayBeAt(w.Network, w.Scans, i+1, w.Now, o.Place) || o.State == impl.OrderRides && !impl.MayRide(w.Network, w.Scans, i+1, w.Now, o.Way[o.Gone]) {
			t.Error(worldText(w), i+1)
		}
	}
}

// Promise 10, at each time of many stories.
func TestStories(t *testing.T) {
	r := rand.New(rand.NewSource(101))
	happened := map[string]int{}
	for range 60 {
		s := newStory(t, r)
		for range 60 {
			s.step(t)
			checkValid(t, s.w)
			checkPlaces(t, s.w)
			if r.Intn(4) == 0 {
				checkPlan(t, s.w)
				checkParts(t, r, s.w)
			}
		}
		checkLoads(t, s.w.Network, s.w.Bookings)
		checkSeen(t, s.w)
		for what, count := range s.happened {
			happened[what] += count
		}
	}
	for what, least := range map[string]int{"accepted true": 400, "accepted false": 200, "shut true": 200, "shut false": 50, "stranded": 50, "helped": 10, "done": 200} {
		if happened[what] < least {
			t.Error(what, happened)
		}
	}
}

// storyWorlds are worlds in which something happened.
func storyWorlds(t *testing.T, r *rand.Rand, count int) []impl.World {
	t.Helper()
	var l []impl.World
	for range count {
		s := newStory(t, r)
		for range 10 + r.Intn(30) {
			s.step(t)
		}
		l = append(l, s.w)
	}
	return l
}

// askAll calls everything of a world.
func askAll(w impl.World, number int, place string, trip impl.Trip) {
	impl.IsWorld(w)
	impl.NewWorld(w.Network, w.Skip)
	impl.AcceptOrder(w, place, "DUB", number, number)
	impl.AcceptOrder(w, "AMS", place, impl.ServiceFast, 1)
	impl.AcceptOrder(w, "AMS", "CDG", impl.ServiceSlow, number)
	impl.NextEvent(w)
	impl.AdvanceTo(w, number)
	impl.AdvanceTo(w, w.Now+1)
	impl.ShutTrip(w, trip)
	impl.StrandedIn(w)
	impl.RetryOrders(w)
	impl.WaitingAt(w, place)
	impl.RidingOn(w, trip)
	impl.PlannedEnd(w, number)
	impl.LateOrders(w)
	impl.CountState(w, number)
	impl.SameWorlds(w, impl.World{})
}

// Each part of a world is changed alone, also to numbers that are very great and very small: it is valid, or is told not to be.
func TestChangedWorlds(t *testing.T) {
	r := rand.New(rand.NewSource(102))
	good, bad := 0, 0
	for _, w := range append(storyWorlds(t, r, 12), someWorld(), lastCall().w) {
		w = copyOfWorld(w)
		eachPart(reflect.ValueOf(&w).Elem(), func(part reflect.Value) {
			if r.Intn(2) > 0 {
				return
			}
			changeAtRandom(r, part)
			want := isWantedWorld(w)
			if want {
				good++
				checkValid(t, w)
				checkPlaces(t, w)
				s := story{r, copyOfWorld(w), map[string]int{}}
				s.step(t)
				checkPlaces(t, s.w)
				return
			}
			bad++
			if r.Intn(4) == 0 {
				checkNoWorld(t, w)
			} else if impl.IsWorld(w) {
				t.Error(worldText(w))
			}
			askAll(w, []int{leastInt, -1, 0, 1, greatestInt}[r.Intn(5)], "CDG", impl.Trip{Leg: leastInt, Day: greatestInt})
		})
	}
	if good < 100 || bad < 1000 {
		t.Error(good, bad)
	}
}

func changeAtRandom(r *rand.Rand, part reflect.Value) {
	switch part.Kind() {
	case reflect.Int:
		number := part.Int()
		part.SetInt([]int64{number + 1, number - 1, -number, leastInt, leastInt + 1, greatestInt, greatestInt - 1, 0, impl.MaxTime, impl.MaxTime + 1, number + impl.MaxTime, impl.MaxNumber + 1}[r.Intn(12)])
	case reflect.String:
		part.SetString([]string{"", "AMS", "CDG", "DUB", "OSL", "XYZ", "ams", "AMSX"}[r.Intn(8)])
	case reflect.Slice:
		if count := part.Len(); count > 0 && r.Intn(2) == 0 {
			first := r.Intn(2)
			part.Set(part.Slice(first, max(first, count-r.Intn(2))))
		} else if count > 0 {
			part.Set(reflect.Append(part.Slice3(0, count, count), part.Index(r.Intn(count))))
		} else {
			part.Set(reflect.MakeSlice(part.Type(), 1, 1))
		}
	}
}

// worldCalls are all that return a world: what they do, and what they refuse.
func worldCalls(w impl.World) map[string]func() impl.World {
	accepted := func(from, to string, weight int) func() impl.World {
		return func() impl.World { got, _, _ := impl.AcceptOrder(w, from, to, 1, weight); return got }
	}
	shut := func(trip impl.Trip) func() impl.World {
		return func() impl.World { got, _ := impl.ShutTrip(w, trip); return got }
	}
	calls := map[string]func() impl.World{
		"new":     func() impl.World { got, _ := impl.NewWorld(w.Network, w.Skip); return got },
		"advance": func() impl.World { return impl.AdvanceTo(w, w.Now+1000) }, "advance to now": func() impl.World { return impl.AdvanceTo(w, w.Now) }, "advance back": func() impl.World { return impl.AdvanceTo(w, w.Now-1) }, "advance to the end": func() impl.World { return impl.AdvanceTo(w, impl.MaxTime) },
		"shut nothing": shut(impl.Trip{Leg: -1}), "retry": func() impl.World { got, _ := impl.RetryOrders(w); return got },
		"accept nothing": accepted("AMS", "AMS", 1), "accept too much": accepted("AMS", "CDG", impl.MaxWeight), "accept": accepted("AMS", "CDG", 1), "accept another": accepted("AMS", "OSL", 1),
	}
	for _, o := range w.Orders {
		for _, trip := range o.Way {
			calls[fmt.Sprint("shut ", trip)] = shut(trip)
		}
	}
	return calls
}

// span is the memory of a list, with its spare capacity.
type span struct{ first, end uintptr }

func spansOf(v reflect.Value) []span {
	var l []span
	switch v.Kind() {
	case reflect.Struct:
		for i := range v.NumField() {
			l = append(l, spansOf(v.Field(i))...)
		}
	case reflect.Slice:
		if v.Cap() > 0 {
			l = append(l, span{v.Pointer(), v.Pointer() + uintptr(v.Cap())*v.Type().Elem().Size()})
		}
		for i := range v.Len() {
			l = append(l, spansOf(v.Index(i))...)
		}
	}
	return l
}

func checkApart(t *testing.T, what any, worlds ...impl.World) {
	t.Helper()
	var all []span
	for _, w := range worlds {
		all = append(all, spansOf(reflect.ValueOf(w))...)
	}
	sort.Slice(all, func(i, j int) bool { return all[i].first < all[j].first })
	for i := 1; i < len(all); i++ {
		if all[i].first < all[i-1].end {
			t.Error(what, "memory is shared")
		}
	}
}

// ownWorlds are valid ones and others, in which no list shares memory with another one.
func ownWorlds(t *testing.T, r *rand.Rand) []impl.World {
	t.Helper()
	var l []impl.World
	for i, w := range append(storyWorlds(t, r, 12), someWorld(), lastCall().w, someWorldBut(func(w *impl.World) { w.Made = -1 }), someWorldBut(func(w *impl.World) { w.Orders[3].Gone = 7 })) {
		w = copyOfWorld(w)
		if i%4 == 0 {
			w.Now--
		}
		l = append(l, w)
	}
	return l
}

func TestWorldsShareNothing(t *testing.T) {
	r := rand.New(rand.NewSource(103))
	for _, w := range ownWorlds(t, r) {
		checkApart(t, "the world itself", w)
		for what, call := range worldCalls(w) {
			got, again := call(), call()
			if worldText(got) != worldText(again) {
				t.Error(what, worldText(got), worldText(again))
			}
			checkApart(t, what, w, got, again)
			for next, call := range worldCalls(got) {
				if !strings.HasPrefix(next, "shut ") {
					checkApart(t, what+", "+next, w, got, call())
				}
			}
		}
	}
}

func TestWorldListsAreNewMemory(t *testing.T) {
	w := someWorld()
	told := func() [][]int {
		return [][]int{impl.StrandedIn(w), impl.WaitingAt(w, "CDG"), impl.RidingOn(w, impl.Trip{Leg: 1, Day: 1}), impl.LateOrders(w)}
	}
	for i := range w.Orders {
		w.Orders[i].Due = 0
	}
	text := worldText(w)
	first := told()
	for _, l := range told() {
		if len(l) == 0 {
			t.Error("nothing is told")
		}
		for i := range l[:cap(l)] {
			l[:cap(l)][i] = 77
		}
	}
	if again := told(); !reflect.DeepEqual(first, again) || worldText(w) != text {
		t.Error(first, again, worldText(w))
	}
}

// withSpareLists gives all lists of a world spare capacity.
func withSpareLists(w impl.World) impl.World {
	w = copyOfWorld(w)
	w.Network.Legs, w.Network.Off = withSpare(w.Network.Legs), withSpare(w.Network.Off)
	for i := range w.Orders {
		w.Orders[i].Way = withSpare(w.Orders[i].Way)
	}
	w.Orders, w.Bookings, w.Closed = withSpare(w.Orders), withSpare(w.Bookings), withSpare(w.Closed)
	w.Scans, w.Skip = withSpare(w.Scans), withSpare(w.Skip)
	return w
}

// wholeText writes all that a value holds, and its lists with their spare capacity.
func wholeText(v reflect.Value) string {
	text := ""
	switch v.Kind() {
	case reflect.Struct:
		for i := range v.NumField() {
			text += wholeText(v.Field(i)) + " "
		}
	case reflect.Slice:
		whole := v.Slice(0, v.Cap())
		for i := range whole.Len() {
			text += wholeText(whole.Index(i)) + ", "
		}
		text = fmt.Sprint(v.Len(), "[", text, "]")
	default:
		text = fmt.Sprint(v)
	}
	return text
}

func TestWorldArgumentsStay(t *testing.T) {
	r := rand.New(rand.NewSource(104))
	for _, w := range ownWorlds(t, r) {
		w = withSpareLists(w)
		whole := func() string { return wholeText(reflect.ValueOf(w)) }
		before := whole()
		for what, call := range worldCalls(w) {
			call()
			if whole() != before {
				t.Fatal(what, whole(), before)
			}
		}
		for _, number := range []int{leastInt, -1, 0, 1, 3, w.Now, w.Now + 1, impl.MaxTime, greatestInt} {
			for _, place := range append(placesIn(w.Network), "", "XYZ") {
				askAll(w, number, place, impl.Trip{Leg: number, Day: 1})
			}
		}
		if whole() != before {
			t.Fatal(whole(), before)
		}
	}
}
