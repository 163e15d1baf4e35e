package tests

import (
	"fmt"
	"math"
	"math/rand"
	"reflect"
	"slices"
	"sort"
	"strings"
	"testing"

	"loop.example/g03014/impl"
)

func boxOf(a, b, c int) []int {
	return []int{a, b, c}
}

// someParcel is valid and counts for its Weight: each test changes what it is about.
func someParcel() impl.Parcel {
	return impl.Parcel{Label: impl.Label{Service: 2, Serial: 7, To: "CDG"}, From: "AMS", Weight: 1200, Sides: boxOf(100, 300, 200)}
}

func someZones() []impl.Zone {
	return []impl.Zone{{First: "AAA", Last: "CZZ"}, {First: "DAA", Last: "DAA"}, {First: "FAA", Last: "MZZ"}}
}

func someRates() []impl.Rate {
	return []impl.Rate{
		{Zone: 0, Service: 1, Limit: 1000, Price: 900},
		{Zone: 0, Service: 1, Limit: 30000, Price: 2500},
		{Zone: 0, Service: 2, Limit: 1000, Price: 500},
		{Zone: 0, Service: 2, Limit: 1200, Price: 700},
		{Zone: 0, Service: 2, Limit: 5000, Price: 700},
		{Zone: 0, Service: 2, Limit: 90000, Price: 1500},
		{Zone: 1, Service: 1, Limit: 90000, Price: 0},
		{Zone: 1, Service: 2, Limit: 90000, Price: 0},
		{Zone: 2, Service: 3, Limit: 10, Price: 1},
	}
}

// turned lists all six orders of three numbers.
func turned(s []int) [][]int {
	return [][]int{
		boxOf(s[0], s[1], s[2]), boxOf(s[0], s[2], s[1]), boxOf(s[1], s[0], s[2]),
		boxOf(s[1], s[2], s[0]), boxOf(s[2], s[0], s[1]), boxOf(s[2], s[1], s[0]),
	}
}

func notThreeSides() [][]int {
	return [][]int{
		nil, {}, {5}, {5, 6}, {5, 6, 7, 8}, {5, 6, 7, 0}, {0, 5, 6, 7}, make([]int, 1000),
		{0, 5, 6}, {5, 0, 6}, {5, 6, 0}, {0, 0, 0}, {-1, 5, 6}, {5, -1, 6}, {5, 6, -1}, {-1, -1, 6}, {-5, -6, -7},
		{impl.MaxSide + 1, 5, 6}, {5, impl.MaxSide + 1, 6}, {5, 6, impl.MaxSide + 1},
		{greatestInt, 5, 6}, {5, greatestInt, greatestInt}, {leastInt, 5, 6}, {leastInt, leastInt, leastInt},
	}
}

func sidesOf(r *rand.Rand, most int) []int {
	return boxOf(1+r.Intn(most), 1+r.Intn(most), 1+r.Intn(most))
}

// wantedGirth tries each side as the longest one instead of sorting.
func wantedGirth(s []int) int {
	return min(s[0]+2*s[1]+2*s[2], s[1]+2*s[0]+2*s[2], s[2]+2*s[0]+2*s[1])
}

func wantedChargeWeight(p impl.Parcel) int {
	volume := float64(p.Sides[0]) * float64(p.Sides[1]) * float64(p.Sides[2])
	return int(math.Max(float64(p.Weight), math.Ceil(volume/5000)))
}

// parcelsOf lists valid parcels of many shapes, light and heavy, to places in and beyond the zones.
func parcelsOf(r *rand.Rand, count int) []impl.Parcel {
	var l []impl.Parcel
	for len(l) < count {
		to := []string{"AAA", "CDG", "CZZ", "DAA", "DAB", "EZZ", "FAA", "JFK", "MZZ", "NAA", "ZZZ"}[r.Intn(11)]
		p := impl.Parcel{
			Label:  impl.Label{Service: 1 + r.Intn(3), Serial: r.Intn(impl.MaxSerial + 1), To: to},
			From:   "XYZ",
			Weight: 1 + r.Intn([]int{15, 1500, impl.MaxWeight}[r.Intn(3)]),
			Sides:  sidesOf(r, []int{30, 300, impl.MaxSide}[r.Intn(3)]),
			Value:  r.Intn(impl.MaxValue + 1),
		}
		if wantedGirth(p.Sides) <= impl.MaxGirth {
			l = append(l, p)
		}
	}
	return l
}

// badParcels are each wrong in one way only.
func badParcels() []impl.Parcel {
	l := []impl.Parcel{{}}
	add := func(change func(p *impl.Parcel)) {
		p := someParcel()
		change(&p)
		l = append(l, p)
	}
	for _, label := range badLabels() {
		add(func(p *impl.Parcel) { p.Label = label })
	}
	for _, from := range []string{"", "AM", "AMST", "ams", "AM1", "A S", "CDG"} {
		add(func(p *impl.Parcel) { p.From = from })
	}
	for _, weight := range []int{0, -1, impl.MaxWeight + 1, greatestInt, leastInt} {
		add(func(p *impl.Parcel) { p.Weight = weight })
	}
	for _, value := range []int{-1, impl.MaxValue + 1, greatestInt, leastInt} {
		add(func(p *impl.Parcel) { p.Value = value })
	}
	for _, sides := range append(notThreeSides(), boxOf(1999, 401, 400), boxOf(400, 401, 1999), boxOf(2000, 2000, 2000), boxOf(1, 2000, 800)) {
		add(func(p *impl.Parcel) { p.Sides = sides })
	}
	return l
}

func TestParcelConstants(t *testing.T) {
	got := []int{impl.MaxWeight, impl.MaxSide, impl.MaxGirth, impl.MaxValue, impl.MaxPrice, impl.MaxZones, impl.MaxRates}
	if want := []int{30000, 2000, 3600, 500000, 100000, 8, 24}; !slices.Equal(got, want) {
		t.Error(got, want)
	}
}

func TestSortSides(t *testing.T) {
	for _, c := range []struct{ l, want []int }{
		{nil, nil}, {[]int{}, nil}, {[]int{5}, []int{5}}, {[]int{1, 2}, []int{2, 1}}, {[]int{2, 1}, []int{2, 1}},
		{[]int{100, 300, 200}, []int{300, 200, 100}}, {[]int{7, 7, 7}, []int{7, 7, 7}}, {[]int{1, 2, 1, 2}, []int{2, 2, 1, 1}},
		{[]int{0, -1, 1}, []int{1, 0, -1}}, {[]int{-3, -1, -2}, []int{-1, -2, -3}},
		{[]int{leastInt, greatestInt, 0, leastInt, 1, -1, greatestInt}, []int{greatestInt, greatestInt, 1, 0, -1, leastInt, leastInt}},
	} {
		if got := impl.SortSides(c.l); !slices.Equal(got, c.want) {
			t.Error(c.l, got, c.want)
		}
	}
}

func TestSortSidesOfManyNumbers(t *testing.T) {
	r := rand.New(rand.NewSource(2))
	for size := range 200 {
		l := make([]int, size)
		for i := range l {
			l[i] = int(r.Uint64()) >> (7 * r.Intn(9))
		}
		want := slices.Clone(l)
		sort.Sort(sort.Reverse(sort.IntSlice(want)))
		if got := impl.SortSides(l); !slices.Equal(got, want) {
			t.Error(l, got)
		}
	}
}

func TestSortSidesIsNewMemory(t *testing.T) {
	for _, l := range [][]int{{3, 2, 1}, {1, 2, 3}, {5}} {
		before := slices.Clone(l)
		sorted := impl.SortSides(l)
		sorted[0] = 77
		_ = append(sorted[:0], 78, 79, 80)
		if !slices.Equal(l, before) {
			t.Error(l, before)
		}
	}
}

func TestGirthAndVolume(t *testing.T) {
	for _, c := range []struct {
		sides         []int
		girth, volume int
	}{
		{boxOf(100, 300, 200), 900, 6000000}, {boxOf(1, 1, 1), 5, 1}, {boxOf(1, 2, 3), 9, 6}, {boxOf(5, 5, 2), 19, 50},
		{boxOf(impl.MaxSide, 1, 1), 2004, 2000}, {boxOf(impl.MaxSide, impl.MaxSide, impl.MaxSide), 10000, 8000000000},
		{boxOf(2000, 400, 400), impl.MaxGirth, 320000000}, {boxOf(1999, 401, 400), impl.MaxGirth + 1, 320639600},
	} {
		for _, sides := range turned(c.sides) {
			if impl.GirthOf(sides) != c.girth || impl.VolumeOf(sides) != c.volume {
				t.Error(sides, impl.GirthOf(sides), impl.VolumeOf(sides), c)
			}
		}
	}
	for _, sides := range notThreeSides() {
		if impl.GirthOf(sides) != 0 || impl.VolumeOf(sides) != 0 {
			t.Error(sides, impl.GirthOf(sides), impl.VolumeOf(sides))
		}
	}
}

func TestFitsIn(t *testing.T) {
	for _, c := range []struct {
		sides, room []int
		want        bool
	}{
		{boxOf(100, 300, 200), boxOf(100, 200, 300), true}, {boxOf(1, 1, 1), boxOf(1, 1, 1), true},
		{boxOf(301, 200, 100), boxOf(100, 200, 300), false}, {boxOf(300, 201, 100), boxOf(100, 200, 300), false},
		{boxOf(300, 200, 101), boxOf(100, 200, 300), false}, {boxOf(99, 199, 299), boxOf(100, 200, 300), true},
		{boxOf(50, 50, 250), boxOf(100, 100, 249), false}, {boxOf(101, 101, 101), boxOf(2000, 2000, 100), false},
		{boxOf(impl.MaxSide, impl.MaxSide, impl.MaxSide), boxOf(impl.MaxSide, impl.MaxSide, impl.MaxSide), true},
	} {
		if got := impl.FitsIn(c.sides, c.room); got != c.want {
			t.Error(c, got)
		}
	}
	for _, bad := range notThreeSides() {
		roomy, tiny := boxOf(impl.MaxSide, impl.MaxSide, impl.MaxSide), boxOf(1, 1, 1)
		if impl.FitsIn(bad, roomy) || impl.FitsIn(tiny, bad) || impl.FitsIn(bad, bad) {
			t.Error(bad)
		}
	}
}

// fitsSomehow tries each way to turn the sides instead of sorting them.
func fitsSomehow(sides, room []int) bool {
	return slices.ContainsFunc(turned(sides), func(s []int) bool {
		return s[0] <= room[0] && s[1] <= room[1] && s[2] <= room[2]
	})
}

func TestFitsInTurnedInAnyWay(t *testing.T) {
	r := rand.New(rand.NewSource(3))
	count := map[bool]int{}
	for range 500 {
		sides, room := sidesOf(r, 9), sidesOf(r, 12)
		want := fitsSomehow(sides, room)
		count[want]++
		for _, s := range turned(sides) {
			for _, o := range turned(room) {
				if got := impl.FitsIn(s, o); got != want {
					t.Fatal(s, o, got)
				}
			}
		}
	}
	if count[true] < 50 || count[false] < 50 {
		t.Error(count)
	}
}

func TestIsParcel(t *testing.T) {
	for _, change := range []func(p *impl.Parcel){
		func(p *impl.Parcel) {},
		func(p *impl.Parcel) { p.Weight = 1 },
		func(p *impl.Parcel) { p.Weight = impl.MaxWeight },
		func(p *impl.Parcel) { p.Value = 1 },
		func(p *impl.Parcel) { p.Value = impl.MaxValue },
		func(p *impl.Parcel) { p.Sides = boxOf(1, 1, 1) },
		func(p *impl.Parcel) { p.Sides = boxOf(400, impl.MaxSide, 400) },
		func(p *impl.Parcel) { p.Sides = boxOf(1998, 401, 400) },
		func(p *impl.Parcel) { p.From, p.Label.To = "AAA", "AAB" },
		func(p *impl.Parcel) { p.From, p.Label.To = "ZZZ", "AAA" },
		func(p *impl.Parcel) { p.Label.Serial = impl.MaxSerial },
	} {
		p := someParcel()
		change(&p)
		if !impl.IsParcel(p) || impl.ChargeWeight(p) != wantedChargeWeight(p) {
			t.Error(p, impl.ChargeWeight(p))
		}
	}
}

func TestBadParcels(t *testing.T) {
	for _, p := range badParcels() {
		if impl.IsParcel(p) || impl.ChargeWeight(p) != 0 || impl.FormatParcel(p) != "" {
			t.Error(p, impl.IsParcel(p), impl.ChargeWeight(p), impl.FormatParcel(p))
		}
		if price, ok := impl.PriceOf(someZones(), someRates(), p); ok || price != 0 {
			t.Error(p, price)
		}
	}
}

func TestChargeWeight(t *testing.T) {
	for _, c := range []struct {
		sides        []int
		weight, want int
	}{
		{boxOf(100, 100, 50), 1, 100}, {boxOf(100, 100, 50), 99, 100}, {boxOf(100, 100, 50), 100, 100}, {boxOf(100, 100, 50), 101, 101},
		{boxOf(1, 1, 1), 1, 1}, {boxOf(1, 2, 2000), 1, 1}, {boxOf(2, 2, 1250), 1, 1}, {boxOf(2, 2, 1251), 1, 2}, {boxOf(3, 1667, 1), 1, 2},
		{boxOf(301, 200, 100), 1200, 1204}, {boxOf(301, 200, 101), 1200, 1217}, {boxOf(100, 300, 200), 1200, 1200}, {boxOf(100, 300, 200), 1199, 1200},
		{boxOf(1200, 600, 600), impl.MaxWeight, 86400}, {boxOf(1, 1, 1), impl.MaxWeight, impl.MaxWeight},
	} {
		for _, sides := range turned(c.sides) {
			p := someParcel()
			p.Sides, p.Weight = sides, c.weight
			if got := impl.ChargeWeight(p); got != c.want {
				t.Error(p, got, c.want)
			}
		}
	}
	for _, p := range parcelsOf(rand.New(rand.NewSource(4)), 500) {
		if got := impl.ChargeWeight(p); got != wantedChargeWeight(p) {
			t.Error(p, got)
		}
	}
}

func zonesUpTo(count int) []impl.Zone {
	var l []impl.Zone
	for i := range count {
		letter := string(rune('A' + i))
		l = append(l, impl.Zone{First: letter + "AA", Last: letter + "ZZ"})
	}
	return l
}

func TestAreZones(t *testing.T) {
	for _, l := range [][]impl.Zone{
		nil, {}, someZones(), zonesUpTo(1), zonesUpTo(impl.MaxZones),
		{{First: "AAA", Last: "ZZZ"}}, {{First: "AMS", Last: "AMS"}}, {{First: "AAA", Last: "AMR"}, {First: "AMS", Last: "ZZZ"}},
	} {
		if !impl.AreZones(l) {
			t.Error(l)
		}
	}
}

func badZones() [][]impl.Zone {
	return [][]impl.Zone{
		zonesUpTo(impl.MaxZones + 1), {{}},
		{{First: "BAA", Last: "AZZ"}}, {{First: "AAB", Last: "AAA"}},
		{{First: "", Last: "ZZZ"}}, {{First: "AAA", Last: ""}}, {{First: "AA", Last: "ZZZ"}}, {{First: "AAA", Last: "ZZ"}},
		{{First: "AAA", Last: "ZZZZ"}}, {{First: "AAA", Last: "zzz"}}, {{First: "A00", Last: "ZZZ"}},
		{{First: "AAA", Last: "CZZ"}, {First: "CZZ", Last: "ZZZ"}}, {{First: "AAA", Last: "CZZ"}, {First: "BAA", Last: "ZZZ"}},
		{{First: "AAA", Last: "ZZZ"}, {First: "BAA", Last: "BZZ"}}, {{First: "AAA", Last: "CZZ"}, {First: "AAA", Last: "CZZ"}},
		{{First: "DAA", Last: "ZZZ"}, {First: "AAA", Last: "CZZ"}},
		{{First: "AAA", Last: "CZZ"}, {First: "DAA", Last: "DZZ"}, {First: "DZZ", Last: "EZZ"}},
		{{First: "AAA", Last: "CZZ"}, {First: "DAA", Last: "DZZ"}, {}},
	}
}

func TestBadZones(t *testing.T) {
	for _, l := range badZones() {
		if impl.AreZones(l) {
			t.Error(l)
		}
		for _, place := range []string{"AAA", "BBB", "CZZ", "DDD", "ZZZ", ""} {
			if got := impl.ZoneOf(l, place); got != -1 {
				t.Error(l, place, got)
			}
		}
		if price, ok := impl.PriceOf(l, someRates()[:1], someParcel()); ok || price != 0 {
			t.Error(l, price)
		}
		if service, price := impl.CheapestService(l, someRates()[:1], someParcel()); service != 0 || price != 0 {
			t.Error(l, service, price)
		}
	}
}

func TestZoneOf(t *testing.T) {
	for place, want := range map[string]int{
		"AAA": 0, "CDG": 0, "CZZ": 0, "DAA": 1, "DAB": -1, "EAA": -1, "EZZ": -1, "FAA": 2, "JFK": 2, "MZZ": 2, "NAA": -1, "ZZZ": -1,
		"": -1, "C": -1, "CD": -1, "CDGX": -1, "cdg": -1, "CD1": -1, "C1G": -1, "GGGG": -1, "G\xffG": -1,
	} {
		if got := impl.ZoneOf(someZones(), place); got != want {
			t.Error(place, got, want)
		}
		if got := impl.ZoneOf(nil, place); got != -1 {
			t.Error(place, got)
		}
	}
	if got := impl.ZoneOf(zonesUpTo(impl.MaxZones), "HHH"); got != impl.MaxZones-1 {
		t.Error(got)
	}
	if got := impl.ZoneOf(someZones()[1:], "CZZ"); got != -1 {
		t.Error(got)
	}
}

func ratesUpTo(count int) []impl.Rate {
	var l []impl.Rate
	for i := range count {
		l = append(l, impl.Rate{Zone: 0, Service: 2, Limit: 100 * (i + 1), Price: 10 * i})
	}
	return l
}

func TestAreRates(t *testing.T) {
	for _, l := range [][]impl.Rate{
		nil, {}, someRates(), ratesUpTo(1), ratesUpTo(impl.MaxRates),
		{{Zone: 0, Service: 1, Limit: 1, Price: 0}}, {{Zone: 2, Service: 3, Limit: impl.MaxNumber, Price: impl.MaxPrice}},
		{{Zone: 0, Service: 1, Limit: 9, Price: 5}, {Zone: 0, Service: 1, Limit: 10, Price: 5}},
		{{Zone: 0, Service: 1, Limit: 9, Price: 5}, {Zone: 0, Service: 2, Limit: 9, Price: 4}},
		{{Zone: 0, Service: 1, Limit: 9, Price: 5}, {Zone: 0, Service: 2, Limit: 8, Price: 5}},
		{{Zone: 0, Service: 3, Limit: 9, Price: 5}, {Zone: 1, Service: 1, Limit: 8, Price: 4}},
		{{Zone: 0, Service: 2, Limit: 9, Price: 5}, {Zone: 2, Service: 2, Limit: 9, Price: 4}},
	} {
		if !impl.AreRates(l, 3) {
			t.Error(l)
		}
	}
}

func badRates() [][]impl.Rate {
	return [][]impl.Rate{
		ratesUpTo(impl.MaxRates + 1), {{}},
		{{Zone: -1, Service: 1, Limit: 9}}, {{Zone: 3, Service: 1, Limit: 9}}, {{Zone: leastInt, Service: 1, Limit: 9}}, {{Zone: greatestInt, Service: 1, Limit: 9}},
		{{Service: 0, Limit: 9}}, {{Service: 4, Limit: 9}}, {{Service: -1, Limit: 9}},
		{{Service: 1, Limit: 0}}, {{Service: 1, Limit: -1}}, {{Service: 1, Limit: impl.MaxNumber + 1}}, {{Service: 1, Limit: greatestInt}},
		{{Service: 1, Limit: 9, Price: -1}}, {{Service: 1, Limit: 9, Price: impl.MaxPrice + 1}}, {{Service: 1, Limit: 9, Price: leastInt}},
		{{Service: 1, Limit: 9, Price: 5}, {Service: 1, Limit: 10, Price: 4}},
		{{Service: 1, Limit: 9, Price: 5}, {Service: 1, Limit: 9, Price: 5}},
		{{Service: 1, Limit: 9, Price: 5}, {Service: 1, Limit: 9, Price: 6}},
		{{Service: 1, Limit: 9, Price: 5}, {Service: 1, Limit: 8, Price: 6}},
		{{Service: 2, Limit: 9}, {Service: 1, Limit: 9}}, {{Service: 2, Limit: 9}, {Service: 1, Limit: 10}},
		{{Zone: 1, Service: 1, Limit: 9}, {Zone: 0, Service: 1, Limit: 10}}, {{Zone: 1, Service: 1, Limit: 9}, {Zone: 0, Service: 2, Limit: 10}},
		{{Service: 1, Limit: 9}, {Service: 2, Limit: 9}, {Service: 2, Limit: 8}}, {{Service: 1, Limit: 9}, {Service: 2, Limit: 9}, {}},
	}
}

func TestBadRates(t *testing.T) {
	p := someParcel()
	p.Weight, p.Sides = 1, boxOf(1, 1, 1)
	for _, l := range badRates() {
		if impl.AreRates(l, 3) {
			t.Error(l)
		}
		for service := impl.ServiceFast; service <= impl.ServiceSlow; service++ {
			p.Label.Service = service
			if price, ok := impl.PriceOf(someZones(), l, p); ok || price != 0 {
				t.Error(l, service, price)
			}
		}
		if service, price := impl.CheapestService(someZones(), l, p); service != 0 || price != 0 {
			t.Error(l, service, price)
		}
	}
}

func TestRatesOfSoManyZones(t *testing.T) {
	l := []impl.Rate{{Zone: 0, Service: 1, Limit: 9}, {Zone: 1, Service: 1, Limit: 9}}
	for zones, want := range map[int]bool{2: true, 3: true, impl.MaxZones: true, greatestInt: true, 1: false, 0: false, -1: false, leastInt: false} {
		if got := impl.AreRates(l, zones); got != want {
			t.Error(zones, got)
		}
	}
	// Rates for a zone that is not there make all of them useless, not only those.
	if price, ok := impl.PriceOf(someZones()[:1], someRates(), someParcel()); ok || price != 0 {
		t.Error(price)
	}
	if price, ok := impl.PriceOf(someZones()[:2], someRates()[:8], someParcel()); !ok || price != 700 {
		t.Error(price, ok)
	}
}

func TestPriceOf(t *testing.T) {
	for _, c := range []struct {
		to              string
		service, weight int
		sides           []int
		price           int
		ok              bool
	}{
		{"CDG", 2, 1, boxOf(1, 1, 1), 500, true}, {"CDG", 2, 999, boxOf(1, 1, 1), 500, true}, {"CDG", 2, 1000, boxOf(1, 1, 1), 500, true},
		{"CDG", 2, 1001, boxOf(1, 1, 1), 700, true}, {"CDG", 2, 5000, boxOf(1, 1, 1), 700, true}, {"CDG", 2, 5001, boxOf(1, 1, 1), 1500, true},
		{"CDG", 2, 1, boxOf(100, 500, 100), 500, true}, {"CDG", 2, 1, boxOf(100, 501, 100), 700, true}, {"CDG", 2, 1, boxOf(1200, 600, 600), 1500, true},
		{"CDG", 1, 1200, boxOf(100, 300, 200), 2500, true}, {"CDG", 1, impl.MaxWeight, boxOf(1, 1, 1), 2500, true},
		{"CDG", 1, 1, boxOf(500, 500, 600), 2500, true}, {"CDG", 1, 1, boxOf(500, 500, 601), 0, false},
		{"CDG", 3, 1, boxOf(1, 1, 1), 0, false}, {"AAA", 1, 1, boxOf(1, 1, 1), 900, true}, {"CZZ", 1, 1, boxOf(1, 1, 1), 900, true},
		{"DAA", 1, 1, boxOf(1, 1, 1), 0, true}, {"DAA", 3, 1, boxOf(1, 1, 1), 0, false}, {"DAB", 1, 1, boxOf(1, 1, 1), 0, false}, {"ZZZ", 1, 1, boxOf(1, 1, 1), 0, false},
		{"FAA", 3, 10, boxOf(1, 1, 1), 1, true}, {"FAA", 3, 11, boxOf(1, 1, 1), 0, false}, {"FAA", 2, 10, boxOf(1, 1, 1), 0, false},
	} {
		p := impl.Parcel{Label: impl.Label{Service: c.service, To: c.to}, From: "AMS", Weight: c.weight, Sides: c.sides}
		price, ok := impl.PriceOf(someZones(), someRates(), p)
		if price != c.price || ok != c.ok {
			t.Error(c, price, ok)
		}
		for _, empty := range [][]impl.Rate{nil, {}} {
			if price, ok := impl.PriceOf(someZones(), empty, p); ok || price != 0 {
				t.Error(c, price)
			}
		}
		if price, ok := impl.PriceOf(nil, nil, p); ok || price != 0 {
			t.Error(c, price)
		}
	}
}

func TestThePriceIsThatOfTheTo(t *testing.T) {
	p := someParcel()
	p.Label.To, p.From = "ZZZ", "CDG"
	if price, ok := impl.PriceOf(someZones(), someRates(), p); ok || price != 0 {
		t.Error(price)
	}
	p.Label.To, p.From = "CDG", "ZZZ"
	if price, ok := impl.PriceOf(someZones(), someRates(), p); !ok || price != 700 {
		t.Error(price, ok)
	}
}

// ratesOfPrices has a rate of each service for zone 0 whose price is not negative.
func ratesOfPrices(prices ...int) []impl.Rate {
	var l []impl.Rate
	for i, price := range prices {
		if price >= 0 {
			l = append(l, impl.Rate{Service: i + 1, Limit: 5000, Price: price})
		}
	}
	return l
}

func TestCheapestService(t *testing.T) {
	for _, c := range []struct {
		rates          []impl.Rate
		service, price int
	}{
		{ratesOfPrices(9, 7, 5), 3, 5}, {ratesOfPrices(5, 7, 9), 1, 5}, {ratesOfPrices(7, 5, 9), 2, 5}, {ratesOfPrices(7, 9, 5), 3, 5},
		{ratesOfPrices(5, 5, 5), 1, 5}, {ratesOfPrices(9, 5, 5), 2, 5}, {ratesOfPrices(5, 9, 5), 1, 5}, {ratesOfPrices(-1, 5, 5), 2, 5},
		{ratesOfPrices(-1, -1, 5), 3, 5}, {ratesOfPrices(-1, 5, -1), 2, 5}, {ratesOfPrices(5, -1, -1), 1, 5}, {ratesOfPrices(9, -1, 5), 3, 5},
		{ratesOfPrices(0, 0, 0), 1, 0}, {ratesOfPrices(0, 5, 5), 1, 0}, {ratesOfPrices(5, 0, 5), 2, 0}, {ratesOfPrices(5, 5, 0), 3, 0}, {ratesOfPrices(-1, 0, 0), 2, 0},
		{ratesOfPrices(), 0, 0}, {ratesOfPrices(-1, -1, -1), 0, 0}, {ratesOfPrices(impl.MaxPrice, -1, -1), 1, impl.MaxPrice},
	} {
		// The service of the label does not matter, not even that there is none such.
		for _, service := range []int{1, 2, 3, 0, 4, -1, greatestInt, leastInt} {
			p := someParcel()
			p.Label.Service = service
			if s, n := impl.CheapestService(someZones(), c.rates, p); s != c.service || n != c.price {
				t.Error(c, service, s, n)
			}
		}
	}
}

func TestNoServiceIsCheapest(t *testing.T) {
	rates := ratesOfPrices(9, 7, 5)
	for _, p := range badParcels() {
		// A parcel whose service alone is wrong becomes valid by each service.
		q := p
		q.Label.Service = impl.ServiceFast
		if s, n := impl.CheapestService(someZones(), rates, p); !impl.IsParcel(q) && (s != 0 || n != 0) {
			t.Error(p, s, n)
		}
	}
	p := someParcel()
	p.Weight = 5001
	if s, n := impl.CheapestService(someZones(), rates, p); s != 0 || n != 0 {
		t.Error(s, n)
	}
	p = someParcel()
	p.Label.To = "DAB"
	if s, n := impl.CheapestService(someZones(), rates, p); s != 0 || n != 0 {
		t.Error(s, n)
	}
}

// pricesOf lists what a parcel costs by each service, -1 for none.
func pricesOf(zones []impl.Zone, rates []impl.Rate, p impl.Parcel) []int {
	var l []int
	for service := impl.ServiceFast; service <= impl.ServiceSlow; service++ {
		p.Label.Service = service
		price, ok := impl.PriceOf(zones, rates, p)
		if !ok {
			price = -1
		}
		l = append(l, price)
	}
	return l
}

// ratesAtRandom are valid, with steps where parcels of all sizes meet them.
func ratesAtRandom(r *rand.Rand) []impl.Rate {
	var l []impl.Rate
	for zone := range 3 {
		for service := impl.ServiceFast; service <= impl.ServiceSlow; service++ {
			limit, price := 0, 0
			for range r.Intn(3) {
				limit += 1 + r.Intn([]int{20, 2000, 40000}[r.Intn(3)])
				price += r.Intn(3) * r.Intn(500)
				l = append(l, impl.Rate{Zone: zone, Service: service, Limit: limit, Price: price})
			}
		}
	}
	return l
}

// Promise 2, first half.
func TestHowAParcelIsTurnedDoesNotMatter(t *testing.T) {
	r := rand.New(rand.NewSource(5))
	priced := 0
	for _, p := range parcelsOf(r, 400) {
		rates := ratesAtRandom(r)
		prices := pricesOf(someZones(), rates, p)
		service, least := impl.CheapestService(someZones(), rates, p)
		if service != 0 {
			priced++
		}
		for _, sides := range turned(p.Sides) {
			q := p
			q.Sides = sides
			s, n := impl.CheapestService(someZones(), rates, q)
			if !impl.IsParcel(q) || !slices.Equal(impl.SortSides(sides), impl.SortSides(p.Sides)) || impl.GirthOf(sides) != wantedGirth(p.Sides) ||
				impl.VolumeOf(sides) != impl.VolumeOf(p.Sides) || !impl.FitsIn(sides, p.Sides) || !impl.FitsIn(p.Sides, sides) ||
				impl.ChargeWeight(q) != impl.ChargeWeight(p) || !slices.Equal(pricesOf(someZones(), rates, q), prices) || s != service || n != least {
				t.Error(p, q)
			}
		}
	}
	if priced < 100 {
		t.Error(priced)
	}
}

// The bounds of a girth hold for a parcel however it lies: only one order has the longest side first.
func TestTooLongIsTooLongInEveryWay(t *testing.T) {
	for _, c := range []struct {
		sides []int
		want  bool
	}{
		{boxOf(2000, 400, 400), true}, {boxOf(1998, 401, 400), true}, {boxOf(1999, 401, 400), false}, {boxOf(720, 720, 720), true},
		{boxOf(720, 720, 721), false}, {boxOf(1, 2000, 799), true}, {boxOf(1, 2000, 800), false}, {boxOf(2001, 1, 1), false}, {boxOf(0, 1, 1), false},
	} {
		for _, sides := range turned(c.sides) {
			p := someParcel()
			p.Sides = sides
			if got := impl.IsParcel(p); got != c.want {
				t.Error(sides, got)
			}
		}
	}
}

func checkHeavier(t *testing.T, rates []impl.Rate, light, heavy impl.Parcel) (steps int) {
	t.Helper()
	before, behind := pricesOf(someZones(), rates, light), pricesOf(someZones(), rates, heavy)
	for i := range before {
		if before[i] < 0 && behind[i] >= 0 || behind[i] >= 0 && behind[i] < before[i] {
			t.Error(light, heavy, before, behind)
		}
		if before[i] >= 0 && before[i] < behind[i] {
			steps++
		}
	}
	s, n := impl.CheapestService(someZones(), rates, light)
	z, m := impl.CheapestService(someZones(), rates, heavy)
	if impl.ChargeWeight(heavy) < impl.ChargeWeight(light) || s == 0 && z != 0 || z != 0 && m < n {
		t.Error(light, heavy, s, n, z, m)
	}
	return steps
}

// Promise 2, second half: not for more weight, and not for longer sides.
func TestAHeavierParcelIsNeverCheaper(t *testing.T) {
	r := rand.New(rand.NewSource(6))
	steps := 0
	for _, p := range parcelsOf(r, 1500) {
		rates := ratesAtRandom(r)
		q := p
		for _, more := range []int{1, 1, 5, 100, 500, 5000, 10000, 20000} {
			light := q
			if q.Weight += more; q.Weight > impl.MaxWeight {
				break
			}
			steps += checkHeavier(t, rates, light, q)
		}
		q = p
		for _, more := range []int{1, 10, 100, 500} {
			light := q
			q.Sides = slices.Clone(q.Sides)
			q.Sides[r.Intn(3)] += more
			if !impl.IsParcel(q) {
				break
			}
			steps += checkHeavier(t, rates, light, q)
		}
	}
	if steps < 50 {
		t.Error(steps)
	}
}

// At each rate's own Limit and at its neighbours, prices of a zone and service climb as the rates do.
func TestPricesClimbAtLimits(t *testing.T) {
	last := 0
	for weight := 1; weight <= impl.MaxWeight; weight++ {
		p := someParcel()
		p.Weight, p.Sides = weight, boxOf(1, 1, 1)
		want := 500
		if weight > 5000 {
			want = 1500
		} else if weight > 1000 {
			want = 700
		}
		price, ok := impl.PriceOf(someZones(), someRates(), p)
		if !ok || price != want || price < last {
			t.Fatal(weight, price, ok)
		}
		last = price
	}
}

func parcelText(p impl.Parcel) string {
	return fmt.Sprintf("%s %s %d %dx%dx%d %d", impl.FormatLabel(p.Label), p.From, p.Weight, p.Sides[0], p.Sides[1], p.Sides[2], p.Value)
}

func TestParcelTexts(t *testing.T) {
	l := append(parcelsOf(rand.New(rand.NewSource(7)), 300), someParcel())
	extreme := someParcel()
	extreme.Weight, extreme.Value, extreme.Sides = impl.MaxWeight, impl.MaxValue, boxOf(400, 400, impl.MaxSide)
	for _, p := range append(l, extreme) {
		text := parcelText(p)
		if got := impl.FormatParcel(p); got != text {
			t.Error(got, text)
		}
		if got, ok := impl.ParseParcel(text); !ok || !reflect.DeepEqual(got, p) {
			t.Error(text, got, ok)
		}
	}
	if got := impl.FormatParcel(someParcel()); got != "2000000007CDG33 AMS 1200 100x300x200 0" {
		t.Error(got)
	}
}

func TestNoParcelIsRead(t *testing.T) {
	const label = "2000000007CDG33"
	for _, s := range []string{
		"", " ", "    ", "x", "xx", "xxxx", label,
		label + " AMS 1200 100x300x200", label + " AMS 1200 100x300x200 ", label + " AMS 1200 100x300x200 0 ", label + " AMS 1200 100x300x200 0 0",
		" " + label + " AMS 1200 100x300x200 0", label + "  AMS 1200 100x300x200 0", label + " AMS  1200 100x300x200 0", label + " AMS 1200  100x300x200 0",
		label + " AMS 1200 100x300x200  0", label + "AMS 1200 100x300x200 0", label + " AMS1200 100x300x200 0", label + " AMS 1200100x300x200 0",
		label + "\tAMS 1200 100x300x200 0", label + " AMS 1200 100x300x200 0\n", label + "\nAMS 1200 100x300x200 0",
		label + " AMS 1200 100x300 0", label + " AMS 1200 100 0", label + " AMS 1200  0", label + " AMS 1200 100x300x200x400 0", label + " AMS 1200 100x300x200x 0",
		label + " AMS 1200 x100x300x200 0", label + " AMS 1200 100xx300x200 0", label + " AMS 1200 100x300x 0", label + " AMS 1200 x300x200 0", label + " AMS 1200 100xx200 0",
		label + " AMS 1200 100X300X200 0", label + " AMS 1200 100,300,200 0", label + " AMS 1200 100 300 200 0", label + " AMS 1200 100x300 x200 0",
		label + " AMS 01200 100x300x200 0", label + " AMS 1200 0100x300x200 0", label + " AMS 1200 100x0300x200 0", label + " AMS 1200 100x300x0200 0",
		label + " AMS 1200 100x300x200 00", label + " AMS 1200 100x300x200 01", label + " AMS +1200 100x300x200 0", label + " AMS 1200 +100x300x200 0",
		label + " AMS 1200 100x300x200 -0", label + " AMS 1200 100x300x200 -1", label + " AMS 1200 100x300x200 +1", label + " AMS -1200 100x300x200 0",
		label + " AMS 1200 100x300x200 500001", label + " AMS 0 100x300x200 0", label + " AMS 30001 100x300x200 0", label + " AMS 1000000001 100x300x200 0",
		label + " AMS 1200 0x300x200 0", label + " AMS 1200 100x2001x200 0", label + " AMS 1200 1999x401x400 0", label + " AMS 1200 100x300x-200 0",
		label + " CDG 1200 100x300x200 0", label + " ams 1200 100x300x200 0", label + " AM 1200 100x300x200 0", label + "  1200 100x300x200 0",
		"2000000007CDG34 AMS 1200 100x300x200 0", "2000000007CDG AMS 1200 100x300x200 0", " AMS 1200 100x300x200 0", "2000000007cdg33 AMS 1200 100x300x200 0",
		label + " AMS 1200 100x300x200 0x", label + " AMS 1200 100x300x200 \xff", label + " AMS a 100x300x200 0", label + " AMS 1200 axbxc 0", label + " AMS 1.0 100x300x200 0",
		strings.Repeat(" ", 100000), strings.Repeat("x", 100000), label + " AMS 1200 " + strings.Repeat("1x", 100000) + "1 0",
	} {
		if p, ok := impl.ParseParcel(s); ok || !isZeroParcel(p) {
			t.Errorf("ParseParcel(%.100q) = %v, %v", s, p, ok)
		}
	}
}

func isZeroParcel(p impl.Parcel) bool {
	return p.Label == (impl.Label{}) && p.From == "" && p.Weight == 0 && len(p.Sides) == 0 && p.Value == 0
}

// Whatever is read is written again as the same text, for each text beside that of a parcel.
func TestOnlyWrittenTextsAreRead(t *testing.T) {
	text := impl.FormatParcel(someParcel())
	read := 0
	check := func(s string) {
		p, ok := impl.ParseParcel(s)
		if ok {
			read++
		}
		if ok && (!impl.IsParcel(p) || impl.FormatParcel(p) != s) || !ok && !isZeroParcel(p) {
			t.Errorf("ParseParcel(%q) = %v, %v", s, p, ok)
		}
	}
	for i := range len(text) {
		check(text[:i])
		check(text[:i] + text[i+1:])
		for b := range 256 {
			check(text[:i] + string([]byte{byte(b)}) + text[i+1:])
			check(text[:i] + string([]byte{byte(b)}) + text[i:])
		}
	}
	if read == 0 {
		t.Error("nothing was read")
	}
}

func TestParseParcelIsNewMemory(t *testing.T) {
	text := impl.FormatParcel(someParcel())
	p, _ := impl.ParseParcel(text)
	p.Sides[0] = 999
	if q, ok := impl.ParseParcel(text); !ok || q.Sides[0] != 100 {
		t.Error(q, ok)
	}
}

// withSpare gives a list spare capacity whose elements a function might overwrite.
func withSpare[T any](l []T) []T {
	return append(slices.Clone(l), l...)[:len(l)]
}

func TestParcelArgumentsStay(t *testing.T) {
	sides, room := withSpare(boxOf(100, 300, 200)), withSpare(boxOf(150, 250, 350))
	zones, rates := withSpare(someZones()), withSpare(someRates())
	whole := func() []any {
		return []any{
			slices.Clone(sides[:cap(sides)]), slices.Clone(room[:cap(room)]),
			slices.Clone(zones[:cap(zones)]), slices.Clone(rates[:cap(rates)]),
		}
	}
	before := whole()
	p := someParcel()
	p.Sides = sides
	impl.SortSides(sides)
	impl.GirthOf(sides)
	impl.VolumeOf(sides)
	impl.FitsIn(sides, room)
	impl.IsParcel(p)
	impl.ChargeWeight(p)
	impl.AreZones(zones)
	impl.ZoneOf(zones, "CDG")
	impl.AreRates(rates, len(zones))
	impl.PriceOf(zones, rates, p)
	impl.CheapestService(zones, rates, p)
	impl.FormatParcel(p)
	if after := whole(); !reflect.DeepEqual(after, before) {
		t.Error(after, before)
	}
}
