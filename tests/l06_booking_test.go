package tests

import (
	"maps"
	"math/rand"
	"reflect"
	"slices"
	"sort"
	"testing"

	"loop.example/g03014/impl"
)

func bookingOf(thing, leg, day, weight int) impl.Booking {
	return impl.Booking{Thing: thing, Trip: impl.Trip{Leg: leg, Day: day}, Weight: weight}
}

// someBookings are of someNetwork: the trips of leg 0 on day 0, of legs 1 and 5 on day 1 and of leg 4 on day 13 are full.
func someBookings() []impl.Booking {
	return []impl.Booking{
		bookingOf(3, 0, 0, 1000), bookingOf(7, 0, 0, 4000), bookingOf(7, 2, 0, 500),
		bookingOf(7, 0, 1, 2), bookingOf(3, 1, 1, 3000), bookingOf(9, 5, 1, 1),
		bookingOf(9999, 4, 13, impl.MaxRoom), bookingOf(1, 0, 60, 1),
	}
}

// bookingsUpTo are of one trip, by things from 1 on.
func bookingsUpTo(count, weight int) []impl.Booking {
	var l []impl.Booking
	for thing := 1; thing <= count; thing++ {
		l = append(l, bookingOf(thing, 0, 0, weight))
	}
	return l
}

// withRoom has one leg, each day, with so much room.
func withRoom(room int) impl.Network {
	return withLeg(legBut(func(l *impl.Leg) { l.Room = room }))
}

// noTrips are none of someNetwork: no such leg, no such day, not its weekday, a day off.
func noTrips() []impl.Trip {
	return trips(-1, 0, 6, 0, impl.MaxLegs, 0, leastInt, 0, greatestInt, 0, 0, -1, 0, 61, 0, leastInt, 0, greatestInt, 1, 0, 1, 7, 3, 1, 5, 0, 0, 2, 0, 6, 0, 30, 4, 6, 2, 7)
}

// badBookings are none of someNetwork; each list is wrong in one way only.
func badBookings() [][]impl.Booking {
	l := [][]impl.Booking{
		// By day, by leg, by thing, and one twice.
		{bookingOf(1, 0, 1, 1), bookingOf(1, 0, 0, 1)}, {bookingOf(1, 0, 1, 1), bookingOf(2, 2, 0, 1)}, {bookingOf(1, 2, 0, 1), bookingOf(1, 0, 0, 1)}, {bookingOf(1, 2, 0, 1), bookingOf(2, 0, 0, 1)},
		{bookingOf(2, 0, 0, 1), bookingOf(1, 0, 0, 1)}, {bookingOf(2, 0, 0, 1), bookingOf(2, 0, 0, 1)}, {bookingOf(2, 0, 0, 1), bookingOf(2, 0, 0, 2)},
		append(someBookings(), bookingOf(1, 0, 60, 1)), append(someBookings(), bookingOf(2, 0, 59, 1)), append([]impl.Booking{bookingOf(4, 2, 0, 1)}, someBookings()...),
		// Weights: one gram over, alone or together, and no room at all.
		{bookingOf(1, 0, 0, 5001)}, {bookingOf(1, 0, 0, 1), bookingOf(2, 0, 0, 5000)}, {bookingOf(1, 5, 1, 2)}, {bookingOf(1, 5, 1, 1), bookingOf(2, 5, 1, 1)}, {bookingOf(1, 3, 0, 1)}, {bookingOf(1, 3, 4, 1)},
		{bookingOf(1, 0, 0, 1), bookingOf(1, 0, 1, 5000), bookingOf(2, 0, 1, 1), bookingOf(1, 0, 3, 1)}, {bookingOf(1, 4, 13, impl.MaxRoom), bookingOf(2, 4, 13, 1)},
		bookingsUpTo(51, 100), append(bookingsUpTo(50, 100), bookingOf(51, 0, 0, 1)), append(someBookings(), bookingOf(2, 0, 60, 5000)),
		// Too many.
		bookingsUpTo(impl.MaxBookings+1, 1), bookingsUpTo(1000, 1),
	}
	for _, thing := range []int{0, -1, impl.MaxId + 1, leastInt, greatestInt} {
		l = append(l, []impl.Booking{bookingOf(thing, 0, 0, 1)})
	}
	for _, weight := range []int{0, -1, -5000, leastInt} {
		l = append(l, []impl.Booking{bookingOf(1, 0, 0, weight)}, []impl.Booking{bookingOf(1, 0, 0, 10), bookingOf(2, 0, 0, weight)})
	}
	for _, weight := range []int{impl.MaxRoom + 1, greatestInt} {
		l = append(l, []impl.Booking{bookingOf(1, 4, 13, weight)})
	}
	// Alone, their sum is in the range of the room.
	l = append(l, []impl.Booking{bookingOf(1, 4, 13, greatestInt), bookingOf(2, 4, 13, greatestInt), bookingOf(3, 4, 13, 2)})
	for _, trip := range noTrips() {
		l = append(l, []impl.Booking{{Thing: 1, Trip: trip, Weight: 1}})
	}
	return l
}

func wantedLoad(l []impl.Booking, trip impl.Trip) int {
	load := 0
	for i := range l {
		if l[i].Trip.Leg == trip.Leg && l[i].Trip.Day == trip.Day {
			load += l[i].Weight
		}
	}
	return load
}

func isOnCalendar(n impl.Network, trip impl.Trip) bool {
	return trip.Leg >= 0 && trip.Leg < len(n.Legs) && slices.Contains(daysOf(n, trip.Leg), trip.Day)
}

func rankOf(b impl.Booking) int {
	return (b.Trip.Day*20+b.Trip.Leg)*10000 + b.Thing
}

func areWantedBookings(n impl.Network, l []impl.Booking) bool {
	if len(l) > 120 {
		return false
	}
	for i, b := range l {
		if !isOnCalendar(n, b.Trip) || b.Thing < 1 || b.Thing > 9999 || b.Weight < 1 || b.Weight > 1000000 {
			return false
		}
		if i > 0 && rankOf(b) <= rankOf(l[i-1]) || wantedLoad(l, b.Trip) > n.Legs[b.Trip.Leg].Room {
			return false
		}
	}
	return true
}

// wantedBook puts all at the end and sorts: no place is looked for.
func wantedBook(n impl.Network, l []impl.Booking, thing, weight int, way []impl.Trip) ([]impl.Booking, bool) {
	all := slices.Clone(l)
	for _, trip := range way {
		all = append(all, impl.Booking{Thing: thing, Trip: trip, Weight: weight})
	}
	sort.SliceStable(all, func(i, j int) bool { return rankOf(all[i]) < rankOf(all[j]) })
	if len(way) > 20 || !areWantedBookings(n, l) || !areWantedBookings(n, all) {
		return l, false
	}
	return all, true
}

// freeRides are those of all rides that are not closed and have so much room left.
func freeRides(n impl.Network, l []impl.Booking, closed []impl.Trip, weight int) []ride {
	return slices.DeleteFunc(ridesOf(n), func(x ride) bool {
		return slices.Contains(closed, x.trip) || wantedLoad(l, x.trip)+weight > n.Legs[x.trip.Leg].Room
	})
}

func firstRide(free []ride, leg, at int) (ride, bool) {
	i := slices.IndexFunc(free, func(x ride) bool { return x.trip.Leg == leg && x.start >= at })
	if i < 0 {
		return ride{}, false
	}
	return free[i], true
}

// arrivalsByFree tries all free rides, not only the next ones, for each further leg.
func arrivalsByFree(n impl.Network, free []ride, from string, at, most int) []map[string]int {
	now := map[string]int{}
	for _, place := range impl.PlacesOf(n) {
		now[place] = never
	}
	now[from] = max(at, 0)
	byLegs := []map[string]int{now}
	for range most {
		next := maps.Clone(now)
		for _, x := range free {
			ready := now[x.from]
			if x.from != from {
				ready += n.Change
			}
			if x.start >= ready {
				next[x.to] = min(next[x.to], x.end)
			}
		}
		now = next
		byLegs = append(byLegs, now)
	}
	return byLegs
}

// wayByFree follows the document's words from the end of the way, with free rides alone.
func wayByFree(n impl.Network, free []ride, byLegs []map[string]int, from, to string) ([]impl.Trip, bool) {
	must := byLegs[len(byLegs)-1][to]
	if must == never {
		return nil, false
	}
	legs := slices.IndexFunc(byLegs, func(arrivals map[string]int) bool { return arrivals[to] == must })
	var way []impl.Trip
	for place := to; legs > 0; legs-- {
		for leg, g := range n.Legs {
			ready := byLegs[legs-1][g.From]
			if g.From != from {
				ready += n.Change
			}
			next, ok := firstRide(free, leg, ready)
			if ok && next.to == place && next.end == must {
				way = append(way, next.trip)
				place, must = next.from, byLegs[legs-1][next.from]
				break
			}
		}
	}
	slices.Reverse(way)
	return way, true
}

func TestBookingConstants(t *testing.T) {
	if impl.MaxBookings != 120 {
		t.Error(impl.MaxBookings)
	}
}

func TestBookingsOfATrip(t *testing.T) {
	l := someBookings()
	for _, c := range []struct {
		trip impl.Trip
		load int
		who  []int
	}{
		{impl.Trip{}, 5000, []int{3, 7}}, {impl.Trip{Leg: 2}, 500, []int{7}}, {impl.Trip{Day: 1}, 2, []int{7}}, {impl.Trip{Leg: 1, Day: 1}, 3000, []int{3}}, {impl.Trip{Leg: 4, Day: 13}, impl.MaxRoom, []int{9999}},
		{impl.Trip{Leg: 1}, 0, nil}, {impl.Trip{Leg: 2, Day: 1}, 0, nil}, {impl.Trip{Leg: 13, Day: 4}, 0, nil}, {impl.Trip{Leg: -1, Day: leastInt}, 0, nil},
	} {
		if got := impl.LoadOf(l, c.trip); got != c.load {
			t.Error(c, got)
		}
		if got := impl.WhoRides(l, c.trip); !slices.Equal(got, c.who) {
			t.Error(c, got)
		}
	}
	for thing, want := range map[int][]impl.Trip{
		7: trips(0, 0, 2, 0, 0, 1), 3: trips(0, 0, 1, 1), 9: trips(5, 1), 9999: trips(4, 13), 1: trips(0, 60), 2: nil, 0: nil, -7: nil, leastInt: nil, greatestInt: nil,
	} {
		if got := impl.TripsOf(l, thing); !slices.Equal(got, want) {
			t.Error(thing, got, want)
		}
	}
	for _, empty := range [][]impl.Booking{nil, {}} {
		if impl.LoadOf(empty, impl.Trip{}) != 0 || len(impl.WhoRides(empty, impl.Trip{})) != 0 || len(impl.TripsOf(empty, 0)) != 0 {
			t.Error("something is in an empty list")
		}
	}
}

// These three functions ask for no order, no range and no network.
func TestBookingsThatAreNotValid(t *testing.T) {
	odd, other := impl.Trip{Leg: -3, Day: 99}, impl.Trip{Leg: 99, Day: -3}
	l := []impl.Booking{{Thing: 9, Trip: odd, Weight: -5}, {Thing: 4, Trip: other, Weight: 10}, {Thing: 9, Trip: odd, Weight: -5}, {Thing: -1, Trip: odd, Weight: 3}, {Thing: 9, Trip: other}, {Thing: 4, Trip: odd, Weight: 1}, {Weight: 8}}
	if impl.LoadOf(l, odd) != -6 || impl.LoadOf(l, other) != 10 || impl.LoadOf(l, impl.Trip{}) != 8 {
		t.Error(impl.LoadOf(l, odd), impl.LoadOf(l, other))
	}
	if a, b, c := impl.WhoRides(l, odd), impl.WhoRides(l, other), impl.WhoRides(l, impl.Trip{}); !slices.Equal(a, []int{9, 9, -1, 4}) || !slices.Equal(b, []int{4, 9}) || !slices.Equal(c, []int{0}) {
		t.Error(a, b, c)
	}
	if a, b, c := impl.TripsOf(l, 9), impl.TripsOf(l, 4), impl.TripsOf(l, 0); !slices.Equal(a, []impl.Trip{odd, odd, other}) || !slices.Equal(b, []impl.Trip{other, odd}) || !slices.Equal(c, trips(0, 0)) {
		t.Error(a, b, c)
	}
	for _, c := range []struct {
		weights []int
		want    int
	}{
		{[]int{greatestInt, 1}, leastInt}, {[]int{greatestInt, greatestInt}, -2}, {[]int{leastInt, -1}, greatestInt}, {[]int{leastInt, leastInt}, 0}, {[]int{greatestInt, greatestInt, 2, 7}, 7}, {[]int{greatestInt, 5, -5}, greatestInt},
	} {
		var l []impl.Booking
		for _, weight := range c.weights {
			l = append(l, impl.Booking{Trip: odd, Weight: weight})
		}
		if got := impl.LoadOf(l, odd); got != c.want {
			t.Error(c, got)
		}
	}
	if many := bookingsUpTo(5000, 3); impl.LoadOf(many, impl.Trip{}) != 15000 || len(impl.WhoRides(many, impl.Trip{})) != 5000 || len(impl.TripsOf(many, 4999)) != 1 {
		t.Error("of many bookings, all count")
	}
}

func TestAreBookings(t *testing.T) {
	for _, l := range [][]impl.Booking{
		nil, {}, someBookings(), {bookingOf(1, 0, 0, 1)}, {bookingOf(impl.MaxId, 0, 0, 1)}, {bookingOf(1, 4, 13, impl.MaxRoom)}, {bookingOf(1, 0, 0, 5000)}, {bookingOf(1, 5, 1, 1)},
		{bookingOf(2, 2, 0, 1), bookingOf(1, 0, 1, 1)}, {bookingOf(2, 0, 0, 1), bookingOf(1, 2, 0, 1)}, {bookingOf(1, 0, 0, 2), bookingOf(2, 0, 0, 1)},
		{bookingOf(1, 0, 0, 5000), bookingOf(1, 0, 1, 5000), bookingOf(1, 0, 3, 5000), bookingOf(1, 0, 60, 5000)}, {bookingOf(1, 0, 0, 1), bookingOf(2, 0, 0, 4999)}, bookingsUpTo(50, 100), bookingsUpTo(impl.MaxBookings-1, 1), bookingsUpTo(impl.MaxBookings, 1), bookingsUpTo(impl.MaxBookings, 41),
	} {
		if !impl.AreBookings(someNetwork(), l) {
			t.Error(l)
		}
	}
	for _, c := range []struct {
		room int
		l    []impl.Booking
		want bool
	}{
		{120, bookingsUpTo(120, 1), true}, {119, bookingsUpTo(120, 1), false}, {240, bookingsUpTo(120, 2), true}, {239, bookingsUpTo(120, 2), false}, {impl.MaxRoom, bookingsUpTo(100, 10000), true}, {impl.MaxRoom - 1, bookingsUpTo(100, 10000), false}, {impl.MaxRoom, bookingsUpTo(101, 10000), false}, {impl.MaxRoom, bookingsUpTo(120, impl.MaxRoom), false},
		{0, nil, true}, {0, bookingsUpTo(1, 1), false}, {1, bookingsUpTo(1, 1), true}, {1, bookingsUpTo(2, 1), false}, {impl.MaxRoom, bookingsUpTo(1, impl.MaxRoom), true}, {impl.MaxRoom - 1, bookingsUpTo(1, impl.MaxRoom), false},
	} {
		if got := impl.AreBookings(withRoom(c.room), c.l); got != c.want {
			t.Error(c.room, len(c.l), got)
		}
	}
	if !impl.AreBookings(impl.Network{}, nil) || impl.AreBookings(impl.Network{}, bookingsUpTo(1, 1)) {
		t.Error("a network without legs has no trips, but is one")
	}
}

// checkNoRoom asks for everything that the bookings would allow if they were valid.
func checkNoRoom(t *testing.T, n impl.Network, l []impl.Booking) {
	t.Helper()
	for _, trip := range append(trips(0, 0, 0, 1, 0, 3), trips(4, 13)...) {
		if spare, fill := impl.SpareOn(n, l, trip), impl.FillOf(n, l, trip); spare != -1 || fill != -1 {
			t.Error(n, l, trip, spare, fill)
		}
	}
	for _, way := range [][]impl.Trip{nil, trips(0, 4)} {
		if got, ok := impl.BookWay(n, l, 9998, 1, way); ok || !slices.Equal(got, l) {
			t.Error(n, l, got, ok)
		}
	}
	for _, thing := range []int{1, 2, 3, 7} {
		if got := impl.DropFrom(n, l, thing, 0); !slices.Equal(got, l) {
			t.Error(n, l, got)
		}
		if got, ok := impl.RideAt(n, l, thing, 480); ok || got != (impl.Trip{}) {
			t.Error(n, l, got, ok)
		}
	}
	if got, ok := impl.NextFree(n, l, nil, 0, 5000, 1); ok || got != (impl.Trip{}) {
		t.Error(n, l, got, ok)
	}
	if got := impl.BestFree(n, l, nil, "AMS", 5000, 1, 1); len(got) != 0 {
		t.Error(n, l, got)
	}
	for _, to := range []string{"AMS", "CDG"} {
		if got, ok := impl.FindRoom(n, l, nil, "AMS", to, 5000, 1); ok || len(got) != 0 {
			t.Error(n, l, got, ok)
		}
	}
}

func TestNothingIsBookedInABadList(t *testing.T) {
	for _, l := range badBookings() {
		if impl.AreBookings(someNetwork(), l) || areWantedBookings(someNetwork(), l) {
			t.Error(l)
		}
		checkNoRoom(t, someNetwork(), l)
	}
}

func TestNothingIsBookedInABadNetwork(t *testing.T) {
	for _, n := range badNetworks() {
		for _, l := range [][]impl.Booking{nil, {}, bookingsUpTo(1, 1), {bookingOf(1, 0, 0, 1), bookingOf(1, 0, 1, 1)}} {
			if impl.AreBookings(n, l) {
				t.Error(n, l)
			}
			checkNoRoom(t, n, l)
		}
	}
}

func TestSpareAndFill(t *testing.T) {
	n, l := someNetwork(), someBookings()
	for _, c := range []struct {
		l           []impl.Booking
		trip        impl.Trip
		spare, fill int
	}{
		{l, impl.Trip{}, 0, 100}, {l, impl.Trip{Leg: 2}, 1500, 25}, {l, impl.Trip{Day: 1}, 4998, 0}, {l, impl.Trip{Leg: 1, Day: 1}, 0, 100}, {l, impl.Trip{Leg: 5, Day: 1}, 0, 100}, {l, impl.Trip{Leg: 4, Day: 13}, 0, 100},
		{l, impl.Trip{Leg: 1, Day: 8}, 3000, 0}, {l, impl.Trip{Leg: 4, Day: 20}, impl.MaxRoom, 0}, {l, impl.Trip{Leg: 3}, 0, 0}, {l, impl.Trip{Day: 60}, 4999, 0},
		{nil, impl.Trip{}, 5000, 0}, {nil, impl.Trip{Leg: 3}, 0, 0}, {[]impl.Booking{}, impl.Trip{Leg: 5, Day: 1}, 1, 0},
		{bookingsUpTo(1, 49), impl.Trip{}, 4951, 0}, {bookingsUpTo(1, 50), impl.Trip{}, 4950, 1}, {bookingsUpTo(1, 99), impl.Trip{}, 4901, 1}, {bookingsUpTo(2, 50), impl.Trip{}, 4900, 2}, {bookingsUpTo(1, 4999), impl.Trip{}, 1, 99}, {bookingsUpTo(2, 2475), impl.Trip{}, 50, 99}, {bookingsUpTo(1, 4949), impl.Trip{}, 51, 98},
	} {
		if spare, fill := impl.SpareOn(n, c.l, c.trip), impl.FillOf(n, c.l, c.trip); spare != c.spare || fill != c.fill {
			t.Error(c.trip, spare, fill, c.spare, c.fill)
		}
	}
	for _, trip := range noTrips() {
		for _, l := range [][]impl.Booking{nil, l} {
			if spare, fill := impl.SpareOn(n, l, trip), impl.FillOf(n, l, trip); spare != -1 || fill != -1 {
				t.Error(trip, spare, fill)
			}
		}
	}
	for _, c := range [][3]int{{3, 1, 33}, {3, 2, 66}, {3, 3, 100}, {7, 6, 85}, {200, 1, 0}, {200, 199, 99}, {impl.MaxRoom, impl.MaxRoom, 100}, {impl.MaxRoom, impl.MaxRoom - 1, 99}, {1, 1, 100}} {
		if spare, fill := impl.SpareOn(withRoom(c[0]), bookingsUpTo(1, c[1]), impl.Trip{}), impl.FillOf(withRoom(c[0]), bookingsUpTo(1, c[1]), impl.Trip{}); spare != c[0]-c[1] || fill != c[2] {
			t.Error(c, spare, fill)
		}
	}
}

// changedAt gives the list with something put in at an index.
func changedAt(l []impl.Booking, i int, more ...impl.Booking) []impl.Booking {
	return slices.Concat(l[:i], more, l[i:])
}

func TestBookWay(t *testing.T) {
	n, l := someNetwork(), someBookings()
	for _, c := range []struct {
		thing, weight int
		way           []impl.Trip
		want          []impl.Booking
	}{
		// By thing: the first one of its trip, the last one, and between two.
		{2, 5, trips(0, 1), changedAt(l, 3, bookingOf(2, 0, 1, 5))}, {8, 4998, trips(0, 1), changedAt(l, 4, bookingOf(8, 0, 1, 4998))}, {6, 1500, trips(2, 0), changedAt(l, 2, bookingOf(6, 2, 0, 1500))}, {8, 1500, trips(2, 0), changedAt(l, 3, bookingOf(8, 2, 0, 1500))},
		// By day and leg: the last one of all, and between two.
		{2, 4999, trips(0, 60), changedAt(l, 8, bookingOf(2, 0, 60, 4999))}, {1, 7, trips(2, 60), changedAt(l, 8, bookingOf(1, 2, 60, 7))}, {1, 2000, trips(2, 1), changedAt(l, 5, bookingOf(1, 2, 1, 2000))}, {9999, 1, trips(0, 59), changedAt(l, 7, bookingOf(9999, 0, 59, 1))}, {9999, 1, trips(0, 13), changedAt(l, 6, bookingOf(9999, 0, 13, 1))}, {3, 1, trips(0, 1), changedAt(l, 3, bookingOf(3, 0, 1, 1))},
		// No way, but a list of trips: any order, any places.
		{4, 9, trips(2, 60, 2, 0), changedAt(changedAt(l, 8, bookingOf(4, 2, 60, 9)), 2, bookingOf(4, 2, 0, 9))}, {4, 9, trips(2, 4, 0, 4, 2, 3, 0, 3), changedAt(l, 6, bookingOf(4, 0, 3, 9), bookingOf(4, 2, 3, 9), bookingOf(4, 0, 4, 9), bookingOf(4, 2, 4, 9))},
		// No trips: the thing and the weight are of no booking.
		{4, 9, nil, l}, {4, 9, []impl.Trip{}, l}, {0, 9, nil, l}, {impl.MaxId + 1, impl.MaxRoom + 1, nil, l}, {leastInt, leastInt, nil, l},
	} {
		if got, ok := impl.BookWay(n, l, c.thing, c.weight, c.way); !ok || !slices.Equal(got, c.want) || !impl.AreBookings(n, got) {
			t.Error(c.thing, c.weight, c.way, got, ok)
		}
	}
	first := impl.Booking{Thing: 1, Weight: 1}
	if got, ok := impl.BookWay(n, l[1:], 1, 1, trips(0, 0)); !ok || !slices.Equal(got, changedAt(l[1:], 0, first)) {
		t.Error(got, ok)
	}
	for _, empty := range [][]impl.Booking{nil, {}} {
		if got, ok := impl.BookWay(n, empty, 1, 1, trips(0, 0)); !ok || !slices.Equal(got, []impl.Booking{first}) {
			t.Error(got, ok)
		}
		if got, ok := impl.BookWay(n, empty, 1, 1, nil); !ok || len(got) != 0 {
			t.Error(got, ok)
		}
	}
}

func TestBookWayFails(t *testing.T) {
	n, l := someNetwork(), someBookings()
	for _, c := range []struct {
		thing, weight int
		way           []impl.Trip
	}{
		// Twice, or again.
		{4, 1, trips(0, 3, 0, 3)}, {4, 1, trips(0, 3, 2, 3, 0, 3)}, {7, 1, trips(0, 1)}, {7, 1, trips(2, 0)}, {1, 1, trips(0, 60)}, {7, 1, trips(0, 3, 0, 1)},
		// Full.
		{4, 1, trips(0, 0)}, {1, 1, trips(1, 1)}, {1, 1, trips(5, 1)}, {1, 1, trips(4, 13)}, {4, 1, trips(3, 0)}, {4, 1, trips(2, 0, 0, 0)}, {4, 1, trips(0, 0, 2, 0)}, {4, 1501, trips(2, 0)}, {8, 4999, trips(0, 1)}, {4, 5001, trips(0, 3)}, {4, 2001, trips(0, 3, 2, 3)},
		// Out of range.
		{0, 1, trips(0, 3)}, {-1, 1, trips(0, 3)}, {impl.MaxId + 1, 1, trips(0, 3)}, {leastInt, 1, trips(0, 3)}, {greatestInt, 1, trips(0, 3)}, {4, 0, trips(0, 3)}, {4, -1, trips(0, 3)}, {4, leastInt, trips(0, 3)}, {4, greatestInt, trips(0, 3)}, {4, impl.MaxRoom + 1, trips(4, 20)}, {4, greatestInt, trips(0, 0)}, {4, -1, trips(0, 0)}, {4, 0, trips(0, 0)},
	} {
		if got, ok := impl.BookWay(n, l, c.thing, c.weight, c.way); ok || !slices.Equal(got, l) {
			t.Error(c, got, ok)
		}
	}
	for _, trip := range noTrips() {
		for _, way := range [][]impl.Trip{{trip}, {{Leg: 0, Day: 3}, trip}, {trip, {Leg: 0, Day: 3}}} {
			if got, ok := impl.BookWay(n, l, 4, 1, way); ok || !slices.Equal(got, l) {
				t.Error(way, got, ok)
			}
		}
	}
	for _, c := range [][2]int{{1, 1}, {impl.MaxId, impl.MaxRoom}} {
		if got, ok := impl.BookWay(n, l, c[0], c[1], trips(4, 20)); !ok || len(got) != len(l)+1 {
			t.Error(c, got, ok)
		}
	}
}

func TestBookWayOfManyTrips(t *testing.T) {
	n := withRoom(impl.MaxRoom)
	var days []impl.Trip
	for day := range impl.MaxDay + 1 {
		days = append(days, impl.Trip{Day: impl.MaxDay - day})
	}
	for count := range days {
		got, ok := impl.BookWay(n, nil, 1, impl.MaxRoom, days[:count])
		if ok != (count <= impl.MaxLegs) || ok && len(got) != count || !ok && len(got) != 0 {
			t.Error(count, got, ok)
		}
	}
	for _, c := range []struct {
		before, more int
		want         bool
	}{
		{119, 1, true}, {119, 2, false}, {120, 0, true}, {120, 1, false}, {100, 20, true}, {101, 20, false}, {100, 21, false}, {121, 0, false},
	} {
		l := bookingsUpTo(c.before, 1)
		got, ok := impl.BookWay(n, l, 9000, 1, days[:c.more])
		if ok != c.want || ok && len(got) != c.before+c.more || !ok && !slices.Equal(got, l) {
			t.Error(c, len(got), ok)
		}
	}
}

func TestDropFrom(t *testing.T) {
	n, l := someNetwork(), someBookings()
	without := func(at ...int) []impl.Booking {
		var kept []impl.Booking
		for i, b := range l {
			if !slices.Contains(at, i) {
				kept = append(kept, b)
			}
		}
		return kept
	}
	for _, c := range []struct {
		thing, at int
		want      []impl.Booking
	}{
		// Thing 7 starts at 480, 1200 and 1920, each time beside others.
		{7, leastInt, without(1, 2, 3)}, {7, -1, without(1, 2, 3)}, {7, 0, without(1, 2, 3)}, {7, 479, without(1, 2, 3)}, {7, 480, without(1, 2, 3)}, {7, 481, without(2, 3)}, {7, 570, without(2, 3)}, {7, 1199, without(2, 3)}, {7, 1200, without(2, 3)}, {7, 1201, without(3)}, {7, 1919, without(3)}, {7, 1920, without(3)}, {7, 1921, l}, {7, greatestInt, l},
		{3, 480, without(0, 4)}, {3, 2040, without(4)}, {3, 2041, l}, {9, 2879, without(5)}, {9, 2880, l}, {1, 86880, without(7)}, {1, 86881, l}, {9999, 18720, without(6)}, {9999, 18721, l},
		{2, 0, l}, {0, 0, l}, {-7, leastInt, l}, {leastInt, 0, l}, {greatestInt, 0, l},
	} {
		if got := impl.DropFrom(n, l, c.thing, c.at); !slices.Equal(got, c.want) {
			t.Error(c, got)
		}
	}
	for _, empty := range [][]impl.Booking{nil, {}} {
		if got := impl.DropFrom(n, empty, 1, 0); len(got) != 0 {
			t.Error(got)
		}
	}
	if got := impl.DropFrom(n, []impl.Booking{bookingOf(1, 0, 0, 1), bookingOf(1, 2, 0, 1)}, 1, 0); len(got) != 0 {
		t.Error(got)
	}
}

func TestRideAt(t *testing.T) {
	// Leg 3 takes three days, from 480 to 4800, so that others of the thing run meanwhile.
	n := someNetwork()
	n.Legs[3].Room = 10
	l := []impl.Booking{bookingOf(5, 0, 0, 1), bookingOf(6, 2, 0, 1), bookingOf(5, 3, 0, 1), bookingOf(5, 0, 1, 1), bookingOf(6, 0, 1, 1), bookingOf(5, 4, 13, 1), bookingOf(5, 0, 60, 1)}
	for _, c := range []struct {
		thing, at int
		want      impl.Trip
		ok        bool
	}{
		{6, 1199, impl.Trip{}, false}, {6, 1200, impl.Trip{Leg: 2}, true}, {6, 1201, impl.Trip{Leg: 2}, true}, {6, 1499, impl.Trip{Leg: 2}, true}, {6, 1500, impl.Trip{}, false}, {6, 1919, impl.Trip{}, false}, {6, 1920, impl.Trip{Day: 1}, true}, {6, 2009, impl.Trip{Day: 1}, true}, {6, 2010, impl.Trip{}, false},
		// Two trips at once: the first booking counts.
		{5, 479, impl.Trip{}, false}, {5, 480, impl.Trip{}, true}, {5, 569, impl.Trip{}, true}, {5, 570, impl.Trip{Leg: 3}, true}, {5, 1920, impl.Trip{Leg: 3}, true}, {5, 2009, impl.Trip{Leg: 3}, true}, {5, 4799, impl.Trip{Leg: 3}, true}, {5, 4800, impl.Trip{}, false},
		{5, 18719, impl.Trip{}, false}, {5, 18720, impl.Trip{Leg: 4, Day: 13}, true}, {5, 18721, impl.Trip{}, false}, {5, 86880, impl.Trip{Day: 60}, true}, {5, 86969, impl.Trip{Day: 60}, true}, {5, 86970, impl.Trip{}, false},
		{5, leastInt, impl.Trip{}, false}, {5, -1, impl.Trip{}, false}, {5, greatestInt, impl.Trip{}, false}, {7, 480, impl.Trip{}, false}, {0, 480, impl.Trip{}, false}, {-5, 1200, impl.Trip{}, false},
	} {
		if got, ok := impl.RideAt(n, l, c.thing, c.at); ok != c.ok || got != c.want {
			t.Error(c, got, ok)
		}
	}
	for _, empty := range [][]impl.Booking{nil, {}} {
		if got, ok := impl.RideAt(n, empty, 5, 480); ok || got != (impl.Trip{}) {
			t.Error(got, ok)
		}
	}
}

func allOfLeg(n impl.Network, leg int) []impl.Trip {
	var l []impl.Trip
	for _, day := range daysOf(n, leg) {
		l = append(l, impl.Trip{Leg: leg, Day: day})
	}
	return l
}

func TestNextFree(t *testing.T) {
	n, l := someNetwork(), someBookings()
	for _, c := range []struct {
		closed                []impl.Trip
		leg, at, weight, want int
	}{
		// Leg 0 is full on day 0, has 4998 grams left on day 1, and is off on days 2, 6 and 7.
		{nil, 0, 0, 1, 1}, {nil, 0, 480, 1, 1}, {nil, 0, 1920, 1, 1}, {nil, 0, 1921, 1, 3}, {nil, 0, 0, 4997, 1}, {nil, 0, 0, 4998, 1}, {nil, 0, 0, 4999, 3}, {nil, 0, 0, 5000, 3}, {nil, 0, 0, 5001, -1},
		{trips(0, 1), 0, 0, 1, 3}, {trips(0, 3, 0, 1), 0, 0, 1, 4}, {trips(0, 3), 0, 0, 1, 1}, {trips(0, 3), 0, 0, 4999, 4}, {trips(0, 0, 0, 1, 0, 3, 0, 4, 0, 5), 0, 0, 1, 8}, {trips(2, 1, 1, 1, 1, 0), 0, 0, 1, 1}, {trips(0, 1, 0, 1, 0, 1), 0, 0, 1, 3},
		{nil, 0, leastInt, 1, 1}, {nil, 0, -1, 1, 1}, {nil, 0, 86880, 4999, 60}, {nil, 0, 86880, 5000, -1}, {nil, 0, 86881, 1, -1}, {trips(0, 60), 0, 86880, 1, -1}, {nil, 0, greatestInt, 1, -1}, {nil, 0, impl.MaxTime + 1, 1, -1},
		{nil, 0, 0, 0, -1}, {nil, 0, 5000, 0, -1}, {nil, 0, 0, -1, -1}, {nil, 0, 0, leastInt, -1}, {nil, 0, 0, greatestInt, -1},
		{nil, 2, 0, 1500, 0}, {nil, 2, 0, 1501, 1}, {trips(2, 0), 2, 0, 1, 1}, {nil, 1, 0, 1, 8}, {nil, 5, 0, 1, 3}, {nil, 5, 0, 2, -1}, {nil, 3, 0, 1, -1}, {nil, 3, 0, 0, -1},
		{nil, 4, 0, 1, 20}, {nil, 4, 0, impl.MaxRoom, 20}, {nil, 4, 0, impl.MaxRoom + 1, -1}, {trips(4, 20), 4, 0, impl.MaxRoom, 27},
		{nil, -1, 0, 1, -1}, {nil, 6, 0, 1, -1}, {nil, impl.MaxLegs, 0, 1, -1}, {nil, leastInt, 0, 1, -1}, {nil, greatestInt, 0, 1, -1},
		{noTrips(), 0, 0, 1, 1}, {noTrips(), 4, 0, 1, 20}, {append(noTrips(), trips(0, 1)...), 0, 0, 1, 3}, {noTrips(), -1, 0, 1, -1}, {noTrips(), 6, 0, 1, -1},
		{allOfLeg(n, 0), 0, 0, 1, -1}, {allOfLeg(n, 0)[:40], 0, 0, 1, daysOf(n, 0)[40]}, {allOfLeg(n, 0), 2, 0, 1, 0},
	} {
		want := impl.Trip{}
		if c.want >= 0 {
			want = impl.Trip{Leg: c.leg, Day: c.want}
		}
		if got, ok := impl.NextFree(n, l, c.closed, c.leg, c.at, c.weight); ok != (c.want >= 0) || got != want {
			t.Error(c, got, ok)
		}
	}
	for _, empty := range [][]impl.Booking{nil, {}} {
		if got, ok := impl.NextFree(n, empty, []impl.Trip{}, 0, 0, 5000); !ok || got != (impl.Trip{}) {
			t.Error(got, ok)
		}
	}
}

func TestNextFreeWhereAllAreFull(t *testing.T) {
	n := withLeg(legBut(func(l *impl.Leg) { l.Days, l.Room = 64, 3 }))
	var l []impl.Booking
	for _, day := range daysOf(n, 0) {
		l = append(l, bookingOf(1, 0, day, 1), bookingOf(2, 0, day, 2))
	}
	if got, ok := impl.NextFree(n, l, nil, 0, 0, 1); ok || got != (impl.Trip{}) {
		t.Error(got, ok)
	}
	last := impl.Trip{Day: 55}
	spared := l[:len(l)-1]
	for weight, want := range map[int]bool{1: true, 2: true, 3: false} {
		if got, ok := impl.NextFree(n, spared, nil, 0, 0, weight); ok != want || ok && got != last {
			t.Error(weight, got, ok)
		}
	}
	if got, ok := impl.NextFree(n, spared, []impl.Trip{last}, 0, 0, 1); ok || got != (impl.Trip{}) {
		t.Error(got, ok)
	}
	if way, ok := impl.FindRoom(n, l, nil, "AMS", "CDG", 0, 1); ok || len(way) != 0 {
		t.Error(way, ok)
	}
}

func TestBestFree(t *testing.T) {
	n, l := someNetwork(), someBookings()
	for _, c := range []struct {
		closed           []impl.Trip
		from             string
		at, weight, legs int
		want             []int
	}{
		// The places are AMS, CDG, DUB and OSL; nothing is taken to OSL.
		{nil, "AMS", 0, 1, 0, []int{0, -1, -1, -1}}, {nil, "AMS", 0, 1, 1, []int{0, 2010, 1500, -1}}, {nil, "AMS", 0, 1500, 1, []int{0, 2010, 1500, -1}}, {nil, "AMS", 0, 1501, 1, []int{0, 2010, 2940, -1}}, {nil, "AMS", 0, 1501, 2, []int{0, 2010, 2940, -1}},
		{nil, "AMS", 0, 2001, 1, []int{0, 2010, -1, -1}}, {nil, "AMS", 0, 2001, 2, []int{0, 2010, 12240, -1}}, {nil, "AMS", 0, 2001, greatestInt, []int{0, 2010, 12240, -1}}, {nil, "AMS", 0, 4998, 9, []int{0, 2010, -1, -1}}, {nil, "AMS", 0, 5000, 9, []int{0, 4890, -1, -1}}, {nil, "AMS", 0, 5001, 9, []int{0, -1, -1, -1}},
		{trips(2, 0), "AMS", 0, 1, 2, []int{0, 2010, 2940, -1}}, {trips(2, 1, 2, 0), "AMS", 0, 1, 2, []int{0, 2010, 5820, -1}}, {allOfLeg(n, 2), "AMS", 0, 1, 1, []int{0, 2010, -1, -1}}, {allOfLeg(n, 2), "AMS", 0, 1, 2, []int{0, 2010, 12240, -1}}, {append(allOfLeg(n, 2), allOfLeg(n, 1)...), "AMS", 0, 1, 2, []int{0, 2010, -1, -1}},
		{trips(0, 1), "AMS", 0, 1, 1, []int{0, 4890, 1500, -1}}, {noTrips(), "AMS", 0, 1, 1, []int{0, 2010, 1500, -1}},
		{nil, "OSL", 0, 1, 1, []int{28801, -1, -1, 0}}, {nil, "OSL", 0, 1, 2, []int{28801, 29370, 30300, 0}}, {nil, "OSL", 0, impl.MaxRoom, 9, []int{28801, -1, -1, 0}}, {nil, "OSL", 0, impl.MaxRoom + 1, 9, []int{-1, -1, -1, 0}}, {trips(4, 20), "OSL", 0, 1, 1, []int{38881, -1, -1, 0}},
		{nil, "DUB", 77, 1, 9, []int{-1, -1, 77, -1}}, {nil, "AMS", leastInt, 1, 1, []int{0, 2010, 1500, -1}}, {nil, "AMS", impl.MaxTime, 1, 9, []int{impl.MaxTime, -1, -1, -1}}, {nil, "AMS", 0, greatestInt, 9, []int{0, -1, -1, -1}},
		{nil, "AMS", impl.MaxTime + 1, 1, 9, nil}, {nil, "AMS", 0, 1, -1, nil}, {nil, "AMS", 0, 1, leastInt, nil}, {nil, "AMS", 0, 0, 1, nil}, {nil, "AMS", 0, -1, 1, nil}, {nil, "AMS", 0, leastInt, 1, nil}, {nil, "XYZ", 0, 1, 1, nil}, {nil, "", 0, 1, 1, nil}, {nil, "ams", 0, 1, 1, nil},
	} {
		if got := impl.BestFree(n, l, c.closed, c.from, c.at, c.weight, c.legs); !slices.Equal(got, c.want) {
			t.Error(c.from, c.at, c.weight, c.legs, got, c.want)
		}
	}
	if got := impl.BestFree(impl.Network{}, nil, nil, "AMS", 0, 1, 1); len(got) != 0 {
		t.Error(got)
	}
}

func TestFindRoom(t *testing.T) {
	n, l := someNetwork(), someBookings()
	for _, c := range []struct {
		closed     []impl.Trip
		from, to   string
		at, weight int
		want       []impl.Trip
	}{
		{nil, "AMS", "DUB", 0, 1, trips(2, 0)}, {nil, "AMS", "DUB", 0, 1500, trips(2, 0)}, {nil, "AMS", "DUB", 0, 1501, trips(2, 1)}, {nil, "AMS", "DUB", 0, 2000, trips(2, 1)}, {nil, "AMS", "DUB", 0, 2001, trips(0, 1, 1, 8)}, {nil, "AMS", "DUB", 0, 3000, trips(0, 1, 1, 8)},
		{nil, "AMS", "CDG", 0, 4998, trips(0, 1)}, {nil, "AMS", "CDG", 0, 4999, trips(0, 3)}, {nil, "AMS", "CDG", 86880, 4999, trips(0, 60)}, {trips(0, 1), "AMS", "CDG", 0, 1, trips(0, 3)},
		{trips(2, 0), "AMS", "DUB", 0, 1, trips(2, 1)}, {trips(2, 0, 2, 1), "AMS", "DUB", 0, 1, trips(2, 3)}, {allOfLeg(n, 2), "AMS", "DUB", 0, 1, trips(0, 1, 1, 8)}, {append(allOfLeg(n, 2), trips(0, 1, 1, 8)...), "AMS", "DUB", 0, 1, trips(0, 3, 1, 15)}, {noTrips(), "AMS", "DUB", 0, 1, trips(2, 0)},
		{nil, "OSL", "CDG", leastInt, 1, trips(4, 20, 0, 20)}, {nil, "OSL", "AMS", 0, impl.MaxRoom, trips(4, 20)},
		{nil, "AMS", "AMS", 0, 1, nil}, {nil, "AMS", "AMS", leastInt, greatestInt, nil}, {nil, "OSL", "OSL", impl.MaxTime, impl.MaxRoom + 1, nil},
	} {
		got, ok := impl.FindRoom(n, l, c.closed, c.from, c.to, c.at, c.weight)
		if !ok || !slices.Equal(got, c.want) {
			t.Error(c.from, c.to, c.at, c.weight, got, ok, c.want)
		}
	}
	for _, c := range []struct {
		closed     []impl.Trip
		from, to   string
		at, weight int
	}{
		{nil, "AMS", "DUB", 0, 3001}, {nil, "AMS", "OSL", 0, 1}, {nil, "AMS", "CDG", 0, 5001}, {nil, "AMS", "CDG", 86880, 5000}, {nil, "AMS", "CDG", 86881, 1}, {trips(0, 60), "AMS", "CDG", 86880, 1}, {append(allOfLeg(n, 2), allOfLeg(n, 1)...), "AMS", "DUB", 0, 1}, {append(allOfLeg(n, 2), append(allOfLeg(n, 0), allOfLeg(n, 5)...)...), "AMS", "DUB", 0, 1}, {nil, "OSL", "AMS", 0, impl.MaxRoom + 1}, {nil, "DUB", "AMS", 0, 1},
		{nil, "AMS", "CDG", impl.MaxTime + 1, 1}, {nil, "AMS", "AMS", impl.MaxTime + 1, 1}, {nil, "AMS", "AMS", greatestInt, 1}, {nil, "AMS", "CDG", 0, 0}, {nil, "AMS", "CDG", 0, leastInt}, {nil, "AMS", "AMS", 0, 0}, {nil, "AMS", "AMS", 0, -1}, {nil, "AMS", "CDG", 0, greatestInt},
		{nil, "AMS", "XYZ", 0, 1}, {nil, "XYZ", "AMS", 0, 1}, {nil, "XYZ", "XYZ", 0, 1}, {nil, "", "", 0, 1}, {nil, "AMS", "", 0, 1},
	} {
		if got, ok := impl.FindRoom(n, l, c.closed, c.from, c.to, c.at, c.weight); ok || len(got) != 0 {
			t.Error(c.from, c.to, c.at, c.weight, got, ok)
		}
	}
	if got, ok := impl.FindRoom(impl.Network{}, nil, nil, "AMS", "AMS", 0, 1); ok || len(got) != 0 {
		t.Error(got, ok)
	}
}

// Where nothing is booked or closed, and each leg has room, all is as in chapter 4: also the choice among ways that arrive together.
func TestWithRoomAllIsAsWithout(t *testing.T) {
	r := rand.New(rand.NewSource(61))
	for _, n := range append([]impl.Network{backNetwork(), evenNetwork()}, wayNetworkAtRandom(r), wayNetworkAtRandom(r), wayNetworkAtRandom(r), networkAtRandom(r), networkAtRandom(r)) {
		for i := range n.Legs {
			n.Legs[i].Room = 1 + r.Intn(impl.MaxRoom)
		}
		n.Legs = append(n.Legs, someLeg())[:min(len(n.Legs)+1, impl.MaxLegs)]
		places := append(impl.PlacesOf(n), "XYZ")
		for _, at := range append(someTimes(r, n), impl.MaxTime+1, greatestInt) {
			for _, from := range places {
				for _, legs := range []int{-1, 0, 1, 2, len(places), greatestInt} {
					if got, want := impl.BestFree(n, nil, nil, from, at, 1, legs), impl.BestArrivals(n, from, at, legs); !slices.Equal(got, want) {
						t.Error(n, from, at, legs, got, want)
					}
				}
				for _, to := range places {
					got, ok := impl.FindRoom(n, nil, nil, from, to, at, 1)
					want, found := impl.FindWay(n, from, to, at)
					if ok != found || !slices.Equal(got, want) {
						t.Error(n, from, to, at, got, ok, want, found)
					}
				}
			}
			for leg := -1; leg <= len(n.Legs); leg++ {
				got, ok := impl.NextFree(n, nil, nil, leg, at, 1)
				want, found := impl.NextTrip(n, leg, at)
				if ok != found || got != want {
					t.Error(n, leg, at, got, ok, want, found)
				}
			}
		}
	}
}

// roomNetworkAtRandom has little room, and legs that run seldom, so that trips are often full.
func roomNetworkAtRandom(r *rand.Rand) impl.Network {
	n := wayNetworkAtRandom(r)
	for i := range n.Legs {
		n.Legs[i].Room = []int{0, 1, 2, 3, 5, 8, 1000, impl.MaxRoom}[r.Intn(8)]
	}
	return n
}

// bookingsAtRandom takes a part of the room, often all of it, on some of the trips of a few days.
func bookingsAtRandom(r *rand.Rand, n impl.Network) []impl.Booking {
	var l []impl.Booking
	rides := ridesOf(n)
	rides = rides[min(r.Intn(10), len(rides)):]
	for _, x := range rides[:min(len(rides), r.Intn(100))] {
		room := n.Legs[x.trip.Leg].Room
		for thing := 1 + r.Intn(3); room > 0 && r.Intn(4) > 0 && len(l) < 110; thing += 1 + r.Intn(3) {
			weight := []int{room, 1, 1 + r.Intn(room)}[r.Intn(3)]
			l = append(l, impl.Booking{Thing: thing, Trip: x.trip, Weight: weight})
			room -= weight
		}
	}
	sort.Slice(l, func(i, j int) bool { return rankOf(l[i]) < rankOf(l[j]) })
	return l
}

func closedAtRandom(r *rand.Rand, n impl.Network) []impl.Trip {
	var closed []impl.Trip
	rides := ridesOf(n)
	for range r.Intn(30) {
		if len(rides) > 0 {
			closed = append(closed, rides[r.Intn(min(len(rides), 60))].trip)
		}
		if r.Intn(5) == 0 {
			closed = append(closed, impl.Trip{Leg: r.Intn(25) - 2, Day: r.Intn(70) - 4})
		}
	}
	return closed
}

func tripsAtRandom(r *rand.Rand, n impl.Network, l []impl.Booking) []impl.Trip {
	var some []impl.Trip
	rides := ridesOf(n)
	for range r.Intn(4) {
		switch {
		case r.Intn(12) == 0:
			some = append(some, impl.Trip{Leg: r.Intn(25) - 2, Day: r.Intn(70) - 4})
		case len(l) > 0 && r.Intn(2) == 0:
			some = append(some, l[r.Intn(len(l))].Trip)
		case len(rides) > 0:
			some = append(some, rides[r.Intn(min(len(rides), 40))].trip)
		}
	}
	return some
}

// checkLoads tells by all trips that the network has that none is booked beyond its room.
func checkLoads(t *testing.T, n impl.Network, l []impl.Booking) {
	t.Helper()
	if !impl.AreBookings(n, l) || !areWantedBookings(n, l) {
		t.Error(n, l)
	}
	loads := 0
	for _, x := range ridesOf(n) {
		load, room := impl.LoadOf(l, x.trip), n.Legs[x.trip.Leg].Room
		if load < 0 || load > room || load != wantedLoad(l, x.trip) {
			t.Error(n, l, x.trip, load, room)
		}
		loads += load
	}
	all := 0
	for _, b := range l {
		all += b.Weight
	}
	if loads != all {
		t.Error(n, l, loads, all)
	}
}

// Promise 6: after each booking, no trip is booked beyond its room; only what would be too much, or no booking, is refused.
func TestNoTripIsBookedBeyondItsRoom(t *testing.T) {
	r := rand.New(rand.NewSource(62))
	booked, refused := 0, 0
	for range 60 {
		n := roomNetworkAtRandom(r)
		l := bookingsAtRandom(r, n)
		checkLoads(t, n, l)
		for range 40 {
			thing, weight := r.Intn(9), []int{0, 1, 1, 2, 3, 5, 900, impl.MaxRoom}[r.Intn(8)]
			way := tripsAtRandom(r, n, l)
			got, ok := impl.BookWay(n, l, thing, weight, way)
			want, wantOk := wantedBook(n, l, thing, weight, way)
			if ok != wantOk || !slices.Equal(got, want) {
				t.Fatal(n, l, thing, weight, way, got, ok, wantOk)
			}
			if !ok {
				refused++
				continue
			}
			checkLoads(t, n, got)
			checkDropped(t, r, n, got, thing)
			if len(way) > 0 {
				booked++
			}
			l = got
			if r.Intn(10) == 0 {
				l = impl.DropFrom(n, l, 1+r.Intn(8), 1440*r.Intn(5))
			}
		}
	}
	if booked < 100 || refused < 100 {
		t.Error(booked, refused)
	}
}

// checkDropped holds what a thing has against the calendar, before and after some of it is dropped.
func checkDropped(t *testing.T, r *rand.Rand, n impl.Network, l []impl.Booking, thing int) {
	t.Helper()
	at := 60*r.Intn(60*24) + r.Intn(2)
	var kept []impl.Booking
	var own []impl.Trip
	var rides []impl.Trip
	for _, b := range l {
		start := b.Trip.Day*1440 + n.Legs[b.Trip.Leg].Start
		if b.Thing != thing {
			kept = append(kept, b)
			continue
		}
		own = append(own, b.Trip)
		if start < at {
			kept = append(kept, b)
		}
		if start <= at && at < start+n.Legs[b.Trip.Leg].Takes {
			rides = append(rides, b.Trip)
		}
	}
	if got := impl.DropFrom(n, l, thing, at); !slices.Equal(got, kept) || !impl.AreBookings(n, got) {
		t.Error(n, l, thing, at, got, kept)
	}
	if got := impl.TripsOf(l, thing); !slices.Equal(got, own) {
		t.Error(l, thing, got, own)
	}
	got, ok := impl.RideAt(n, l, thing, at)
	if ok != (len(rides) > 0) || ok && got != rides[0] || !ok && got != (impl.Trip{}) {
		t.Error(n, l, thing, at, got, ok, rides)
	}
	for _, trip := range own {
		if !slices.Contains(impl.WhoRides(l, trip), thing) {
			t.Error(l, thing, trip)
		}
	}
}

// checkRoom holds the way that is found against all free rides, and books it.
func checkRoom(t *testing.T, n impl.Network, l []impl.Booking, free []ride, byLegs []map[string]int, from, to string, at, weight int, closed []impl.Trip) (found bool, legs int) {
	t.Helper()
	want, wantOk := wayByFree(n, free, byLegs, from, to)
	way, ok := impl.FindRoom(n, l, closed, from, to, at, weight)
	if ok != wantOk || !slices.Equal(way, want) {
		t.Error(n, l, closed, from, to, at, weight, way, ok, want, wantOk)
	}
	if !ok {
		return false, 0
	}
	if !impl.IsWay(n, way, from, to, at) || !isWayByRides(n, free, way, from, to, at) || impl.WayEnds(n, way, max(at, 0)) != byLegs[len(byLegs)-1][to] {
		t.Error(n, l, closed, from, to, at, weight, way)
	}
	// A thing without bookings, and bookings that leave some: nothing but the room could be in the way.
	got, ok := impl.BookWay(n, l, 5000, weight, way)
	if all, allOk := wantedBook(n, l, 5000, weight, way); !ok || !allOk || !slices.Equal(got, all) {
		t.Error(n, l, closed, from, to, at, weight, way, got, ok)
	}
	checkLoads(t, n, got)
	return true, len(way)
}

// Promise 6: a way with room is found where there is one, none that arrives earlier has room, and it can be booked.
func TestAWayWithRoomCanBeBooked(t *testing.T) {
	r := rand.New(rand.NewSource(63))
	found, missed, longest, later := 0, 0, 0, 0
	for range 50 {
		n := roomNetworkAtRandom(r)
		l, closed := bookingsAtRandom(r, n), closedAtRandom(r, n)
		places := impl.PlacesOf(n)
		for _, at := range append(someTimes(r, n)[:3], -5, 0) {
			weight := []int{1, 1, 2, 3, 900}[r.Intn(5)]
			from := places[r.Intn(len(places))]
			free := freeRides(n, l, closed, weight)
			byLegs := arrivalsByFree(n, free, from, at, len(places)+1)
			for legs, arrivals := range byLegs {
				if got, want := impl.BestFree(n, l, closed, from, at, weight, legs), inOrderOf(n, arrivals); !slices.Equal(got, want) {
					t.Fatal(n, l, closed, from, at, weight, legs, got, want)
				}
			}
			for leg := range n.Legs {
				next, wantOk := firstRide(free, leg, at)
				if got, ok := impl.NextFree(n, l, closed, leg, at, weight); ok != wantOk || got != next.trip {
					t.Error(n, l, closed, leg, at, weight, got, ok, next, wantOk)
				}
			}
			for _, to := range places {
				ok, legs := checkRoom(t, n, l, free, byLegs, from, to, at, weight, closed)
				longest = max(longest, legs)
				if !ok {
					missed++
					continue
				}
				found++
				if impl.EarliestAt(n, from, to, at) < byLegs[len(byLegs)-1][to] {
					later++
				}
			}
		}
	}
	if found < 300 || missed < 100 || longest < 3 || later < 100 {
		t.Error(found, missed, longest, later)
	}
}

// Promise 6, by all lists of up to three trips of two days: one that is a way and has room is not better than what is found.
func TestNoListWithRoomIsBetter(t *testing.T) {
	r := rand.New(rand.NewSource(64))
	ways, full := 0, 0
	for range 60 {
		n := roomNetworkAtRandom(r)
		n.Legs = n.Legs[:min(len(n.Legs), 6)]
		for i := range n.Legs {
			places := []string{"AMS", "CDG", "DUB"}
			n.Legs[i].From, n.Legs[i].To = places[i%3], places[(i+1+i/3%2)%3]
			n.Legs[i].Days, n.Legs[i].Room = 127, 1+r.Intn(3)
		}
		n.Off = nil
		places := impl.PlacesOf(n)
		var some, closed []impl.Trip
		var l []impl.Booking
		for _, x := range ridesOf(n)[:min(len(n.Legs)*2, 10)] {
			some = append(some, x.trip)
			switch r.Intn(4) {
			case 0:
				closed = append(closed, x.trip)
			case 1:
				l = append(l, impl.Booking{Thing: 1, Trip: x.trip, Weight: 1})
			}
		}
		sort.Slice(l, func(i, j int) bool { return rankOf(l[i]) < rankOf(l[j]) })
		from, to := places[r.Intn(len(places))], places[r.Intn(len(places))]
		weight := 1 + r.Intn(2)
		best, ok := impl.FindRoom(n, l, closed, from, to, 0, weight)
		listsOf(some, 3, nil, func(way []impl.Trip) {
			if !impl.IsWay(n, way, from, to, 0) {
				return
			}
			_, room := impl.BookWay(n, l, 2, weight, way)
			if !room || slices.ContainsFunc(way, func(trip impl.Trip) bool { return slices.Contains(closed, trip) }) {
				full++
				return
			}
			ways++
			if ends, first := impl.WayEnds(n, way, 0), impl.WayEnds(n, best, 0); !ok || ends < first || ends == first && len(way) < len(best) {
				t.Error(n, l, closed, from, to, weight, way, best, ok)
			}
		})
	}
	if ways < 50 || full < 50 {
		t.Error(ways, full)
	}
}

// Random changes of one field make bookings that are valid, and bookings that are not.
func TestChangedBookings(t *testing.T) {
	r := rand.New(rand.NewSource(65))
	good, bad := 0, 0
	for range 3000 {
		n := roomNetworkAtRandom(r)
		l := bookingsAtRandom(r, n)
		if len(l) == 0 {
			continue
		}
		b := &l[r.Intn(len(l))]
		switch r.Intn(5) {
		case 0:
			b.Thing += r.Intn(5) - 2
		case 1:
			b.Trip.Day += r.Intn(3) - 1
		case 2:
			b.Trip.Leg += r.Intn(3) - 1
		case 3:
			b.Weight += r.Intn(3) - 1
		case 4:
			l = append(l, *b)
			sort.Slice(l, func(i, j int) bool { return rankOf(l[i]) < rankOf(l[j]) })
			l[r.Intn(len(l))].Thing++
		}
		want := areWantedBookings(n, l)
		if impl.AreBookings(n, l) != want {
			t.Error(n, l, want)
		}
		if want {
			good++
			checkLoads(t, n, l)
			continue
		}
		bad++
		if got, ok := impl.BookWay(n, l, 5000, 1, nil); ok || !slices.Equal(got, l) {
			t.Error(n, l, got, ok)
		}
	}
	if good < 500 || bad < 500 {
		t.Error(good, bad)
	}
}

func TestBookingResultsAreNewMemory(t *testing.T) {
	n := someNetwork()
	bad := append(someBookings(), bookingOf(1, 0, 60, 1))
	for _, list := range [][]impl.Booking{someBookings(), bad, someBookings()[:1]} {
		before := slices.Clone(list)
		for _, thing := range []int{1, 2, 7, 0} {
			for _, way := range [][]impl.Trip{nil, trips(0, 3), trips(0, 0), make([]impl.Trip, 21)} {
				booked, _ := impl.BookWay(n, list, thing, 1, way)
				for _, got := range [][]impl.Booking{booked, impl.DropFrom(n, list, thing, 0), impl.DropFrom(n, list, thing, impl.MaxTime)} {
					for i := range got {
						got[i] = bookingOf(77, 77, 77, 77)
					}
					_ = append(got, bookingOf(78, 78, 78, 78))
					if !slices.Equal(list, before) {
						t.Fatal(thing, way, list)
					}
				}
			}
		}
	}
	l := someBookings()
	impl.WhoRides(l, impl.Trip{})[0] = 77
	impl.TripsOf(l, 7)[0].Leg = 77
	impl.BestFree(n, l, nil, "AMS", 0, 1, 1)[0] = 77
	way, _ := impl.FindRoom(n, l, nil, "AMS", "DUB", 0, 1)
	way[0].Leg = 77
	if again, _ := impl.FindRoom(n, l, nil, "AMS", "DUB", 0, 1); !slices.Equal(again, trips(2, 0)) || !slices.Equal(l, someBookings()) || impl.BestFree(n, l, nil, "AMS", 0, 1, 1)[0] != 0 {
		t.Error(again, l)
	}
}

func TestBookingArgumentsStay(t *testing.T) {
	r := rand.New(rand.NewSource(66))
	for round := range 200 {
		n := roomNetworkAtRandom(r)
		l := bookingsAtRandom(r, n)
		if r.Intn(8) == 0 {
			l = append(l, bookingOf(0, 0, 0, 0))
		}
		n.Legs, n.Off, l = withSpare(n.Legs), withSpare(n.Off), withSpare(l)
		closed, way := withSpare(closedAtRandom(r, n)), withSpare(tripsAtRandom(r, n, l))
		whole := func() []any {
			return []any{slices.Clone(n.Legs[:cap(n.Legs)]), slices.Clone(n.Off[:cap(n.Off)]), slices.Clone(l[:cap(l)]), slices.Clone(closed[:cap(closed)]), slices.Clone(way[:cap(way)])}
		}
		before := whole()
		impl.AreBookings(n, l)
		for _, trip := range append(slices.Clone(way), impl.Trip{}) {
			impl.LoadOf(l, trip)
			impl.SpareOn(n, l, trip)
			impl.FillOf(n, l, trip)
			impl.WhoRides(l, trip)
		}
		for thing := range 6 {
			impl.TripsOf(l, thing)
			impl.BookWay(n, l, thing, 1+round%3, way)
			impl.BookWay(n, l, thing, 1, nil)
			impl.DropFrom(n, l, thing, 60*r.Intn(200))
			impl.RideAt(n, l, thing, 60*r.Intn(200))
			impl.NextFree(n, l, closed, thing, 0, 1)
		}
		impl.BestFree(n, l, closed, "AMS", 0, 1, 3)
		impl.FindRoom(n, l, closed, "AMS", "CDG", 0, 1)
		if after := whole(); !reflect.DeepEqual(after, before) {
			t.Fatal(after, before)
		}
	}
}
