package tests

import (
	"fmt"
	"math/rand"
	"reflect"
	"regexp"
	"slices"
	"sort"
	"strconv"
	"strings"
	"testing"

	"loop.example/g03014/impl"
)

func parcelIn(id, own, in int) impl.Thing {
	return impl.Thing{Id: id, Own: own, In: in}
}

func boxIn(id, own, room, in int) impl.Thing {
	return impl.Thing{Id: id, Own: own, Room: room, In: in, Box: true}
}

func sealedIn(id, own, room, in int) impl.Thing {
	return impl.Thing{Id: id, Own: own, Room: room, In: in, Box: true, Sealed: true}
}

// someThings has the boxes 30[2 20[] 50[4 60[]]], 40[3] and 70[], of which 40 (exactly full) and 50 are sealed.
func someThings() []impl.Thing {
	return []impl.Thing{
		parcelIn(1, 500, 0), parcelIn(2, 300, 20), parcelIn(3, 200, 40), parcelIn(4, 100, 50),
		boxIn(20, 100, 1000, 30), boxIn(30, 200, 3000, 0), sealedIn(40, 50, 200, 0), sealedIn(50, 60, 1000, 30), boxIn(60, 70, 500, 50), boxIn(70, 80, 499, 0),
	}
}

// thingsBut changes one thing of a list.
func thingsBut(l []impl.Thing, id int, change func(x *impl.Thing)) []impl.Thing {
	l = slices.Clone(l)
	for i := range l {
		if l[i].Id == id {
			change(&l[i])
		}
	}
	return l
}

func movedTo(l []impl.Thing, id, in int) []impl.Thing {
	return thingsBut(l, id, func(x *impl.Thing) { x.In = in })
}

// boxLine has boxes 10, 20 and so on, each in the one before, and the parcel 1 in the last one.
func boxLine(boxes int) []impl.Thing {
	l := []impl.Thing{parcelIn(1, 5, 10*boxes)}
	for i := range boxes {
		l = append(l, boxIn(10*(i+1), 10, 1000, 10*i))
	}
	return l
}

func parcelsUpTo(count int) []impl.Thing {
	var l []impl.Thing
	for i := range count {
		l = append(l, parcelIn(i+1, 1+i, 0))
	}
	return l
}

func goodThings() [][]impl.Thing {
	return [][]impl.Thing{
		nil, {}, someThings(), parcelsUpTo(impl.MaxThings), boxLine(1), boxLine(impl.MaxDeep), boxLine(impl.MaxDeep + 1)[1:],
		{parcelIn(1, 1, 0)}, {parcelIn(impl.MaxId, impl.MaxWeight, 0)}, {parcelIn(1, 1, 0), parcelIn(impl.MaxId, 1, 0)},
		{boxIn(1, 1, 1, 0)}, {boxIn(1, impl.MaxWeight, impl.MaxRoom, 0)}, {sealedIn(1, 1, 1, 0)}, {parcelIn(1, 1, 2), sealedIn(2, 1, 1, 0)},
		// A box behind what is in it, or before.
		{parcelIn(1, 7, 2), boxIn(2, 1, 7, 0)}, {boxIn(1, 1, 7, 0), parcelIn(2, 7, 1)}, {boxIn(1, impl.MaxWeight, 7, 0), parcelIn(2, 7, 1)},
		// Exactly full, by what lies in a box inside, too.
		{boxIn(1, 1, 1000, 0), parcelIn(2, 600, 1), boxIn(3, 100, 300, 1), parcelIn(4, 300, 3)},
		{boxIn(1, 1, 201, 0), boxIn(2, 1, 200, 1), boxIn(3, 1, 199, 2), parcelIn(4, 199, 3)},
	}
}

func badThings() [][]impl.Thing {
	return [][]impl.Thing{
		// Ids.
		{parcelIn(2, 1, 0), parcelIn(1, 1, 0)}, {parcelIn(1, 1, 0), parcelIn(1, 1, 0)}, {parcelIn(1, 1, 0), parcelIn(3, 1, 0), parcelIn(2, 1, 0)}, {boxIn(1, 1, 10, 0), boxIn(1, 1, 10, 0), parcelIn(2, 1, 1)},
		{parcelIn(0, 1, 0)}, {parcelIn(-1, 1, 0)}, {parcelIn(leastInt, 1, 0)}, {parcelIn(impl.MaxId+1, 1, 0)}, {parcelIn(greatestInt, 1, 0)}, {boxIn(0, 1, 1, 0), parcelIn(1, 1, 0)}, {parcelIn(1, 1, 0), parcelIn(impl.MaxId+1, 1, 0)},
		parcelsUpTo(impl.MaxThings + 1), parcelsUpTo(1000),
		// Own.
		{parcelIn(1, 0, 0)}, {parcelIn(1, -1, 0)}, {parcelIn(1, leastInt, 0)}, {parcelIn(1, impl.MaxWeight+1, 0)}, {parcelIn(1, greatestInt, 0)}, {boxIn(1, 0, 1, 0)}, {boxIn(1, impl.MaxWeight+1, 1, 0)},
		{boxIn(1, 1, 10, 0), parcelIn(2, 12, 1), parcelIn(3, -5, 1)}, {boxIn(1, 1, 10, 0), parcelIn(2, greatestInt, 1), parcelIn(3, greatestInt, 1)},
		// Room.
		{boxIn(1, 1, 0, 0)}, {boxIn(1, 1, -1, 0)}, {boxIn(1, 1, leastInt, 0)}, {boxIn(1, 1, impl.MaxRoom+1, 0)}, {boxIn(1, 1, greatestInt, 0)},
		// What is no box.
		{{Id: 1, Own: 1, Room: 1}}, {{Id: 1, Own: 1, Room: -1}}, {{Id: 1, Own: 1, Sealed: true}}, {{Id: 1, Own: 1, Room: 10}, parcelIn(2, 1, 1)}, {parcelIn(1, 1, 0), parcelIn(2, 1, 1)}, {parcelIn(1, 1, 2), parcelIn(2, 1, 0)}, {parcelIn(1, 1, 0), boxIn(2, 1, 1, 1)},
		// In.
		{parcelIn(1, 1, 2)}, {parcelIn(1, 1, -1)}, {parcelIn(1, 1, leastInt)}, {parcelIn(1, 1, greatestInt)}, {parcelIn(1, 1, 1)}, {boxIn(1, 1, 1, 2)}, {parcelIn(1, 1, 3), boxIn(2, 1, 9, 0)},
		{boxIn(1, 1, 9, 1)}, {boxIn(1, 1, impl.MaxRoom, 2), boxIn(2, 1, impl.MaxRoom, 1)}, {boxIn(1, 1, 900, 3), boxIn(2, 1, 900, 1), boxIn(3, 1, 900, 2)}, {parcelIn(1, 1, 2), boxIn(2, 1, 900, 2)},
		{parcelIn(1, 1, 0), boxIn(5, 1, 900, 0), boxIn(6, 1, 900, 7), boxIn(7, 1, 900, 6)}, {parcelIn(1, 1, 7), boxIn(6, 1, 900, 7), boxIn(7, 1, 900, 6)}, {sealedIn(1, 1, 900, 1)},
		movedTo(boxLine(4), 10, 40), movedTo(boxLine(20), 10, 200), movedTo(boxLine(20), 30, 200),
		// Depth.
		boxLine(impl.MaxDeep + 1), boxLine(impl.MaxDeep + 2)[1:], boxLine(impl.MaxDeep + 2), boxLine(impl.MaxThings - 1),
		// One gram too much.
		{parcelIn(1, 8, 2), boxIn(2, 1, 7, 0)}, {parcelIn(1, 4, 3), parcelIn(2, 4, 3), boxIn(3, 1, 7, 0)},
		{boxIn(1, 1, 999, 0), parcelIn(2, 600, 1), boxIn(3, 100, 300, 1), parcelIn(4, 300, 3)}, {boxIn(1, 1, 1000, 0), parcelIn(2, 600, 1), boxIn(3, 101, 300, 1), parcelIn(4, 300, 3)},
		{boxIn(1, 1, 1000, 0), parcelIn(2, 600, 1), boxIn(3, 100, 299, 1), parcelIn(4, 300, 3)}, {boxIn(1, 1, 200, 0), boxIn(2, 1, 200, 1), boxIn(3, 1, 199, 2), parcelIn(4, 199, 3)},
		{sealedIn(1, 1, 5, 0), parcelIn(2, 6, 1)},
	}
}

// boxesOver follows In from a thing to the outermost box. It gives up where a thing is missing or no box, or after so many steps
// that there must be a circle.
func boxesOver(l []impl.Thing, id int) ([]int, bool) {
	byId := map[int]impl.Thing{}
	for _, x := range l {
		byId[x.Id] = x
	}
	var over []int
	for in := byId[id].In; in != 0; in = byId[in].In {
		if !byId[in].Box || len(over) > len(l) {
			return nil, false
		}
		over = append(over, in)
	}
	return over, true
}

// wantedLoads adds each thing to all the boxes around it, so that no sum is made of sums.
func wantedLoads(l []impl.Thing) map[int]int {
	loads := map[int]int{}
	for _, x := range l {
		over, _ := boxesOver(l, x.Id)
		for _, id := range over {
			loads[id] += x.Own
		}
	}
	return loads
}

func isDeep(l []impl.Thing) bool {
	return slices.ContainsFunc(l, func(x impl.Thing) bool {
		over, ok := boxesOver(l, x.Id)
		return !ok || len(over) > 4
	})
}

func isWantedThing(x impl.Thing) bool {
	if !x.Box && (x.Room != 0 || x.Sealed) || x.Box && (x.Room < 1 || x.Room > 1000000) {
		return false
	}
	return x.Id >= 1 && x.Id <= 9999 && x.Own >= 1 && x.Own <= 30000
}

func areWantedThings(l []impl.Thing) bool {
	for i, x := range l {
		if !isWantedThing(x) || slices.ContainsFunc(l[:i], func(before impl.Thing) bool { return before.Id >= x.Id }) {
			return false
		}
	}
	if len(l) > 40 || isDeep(l) {
		return false
	}
	loads := wantedLoads(l)
	return !slices.ContainsFunc(l, func(x impl.Thing) bool { return x.Box && loads[x.Id] > x.Room })
}

// thingBy returns the thing with an Id, or nothing.
func thingBy(l []impl.Thing, id int) *impl.Thing {
	for i := range l {
		if l[i].Id == id {
			return &l[i]
		}
	}
	return nil
}

func wantedInside(l []impl.Thing, id int) (direct, all []int) {
	for _, x := range l {
		over, _ := boxesOver(l, x.Id)
		if len(over) > 0 && over[0] == id {
			direct = append(direct, x.Id)
		}
		if slices.Contains(over, id) {
			all = append(all, x.Id)
		}
	}
	return direct, all
}

func wantedGross(l []impl.Thing, id int) int {
	if thingBy(l, id) == nil {
		return 0
	}
	return thingBy(l, id).Own + wantedLoads(l)[id]
}

func wantedLock(l []impl.Thing, id int) bool {
	over, _ := boxesOver(l, id)
	return slices.ContainsFunc(over, func(box int) bool { return thingBy(l, box).Sealed })
}

// wantedPut, and those that follow it, tell what a call gives for a valid list.
func wantedPut(l []impl.Thing, id, box int) ([]impl.Thing, int) {
	if thingBy(l, id) == nil || thingBy(l, box) == nil || !thingBy(l, box).Box {
		return l, 1
	}
	if wantedLock(l, id) || wantedLock(l, box) || thingBy(l, box).Sealed {
		return l, 2
	}
	if over, _ := boxesOver(l, box); slices.Contains(append(over, box), id) {
		return l, 3
	}
	put := movedTo(l, id, box)
	switch {
	case isDeep(put):
		return l, 4
	case !areWantedThings(put):
		return l, 5
	}
	return put, 0
}

func wantedTake(l []impl.Thing, id int) ([]impl.Thing, int) {
	over, _ := boxesOver(l, id)
	switch {
	case thingBy(l, id) == nil:
		return l, 1
	case wantedLock(l, id):
		return l, 2
	case len(over) == 0:
		return l, 6
	case len(over) == 1:
		return movedTo(l, id, 0), 0
	}
	return movedTo(l, id, over[1]), 0
}

func wantedSeal(l []impl.Thing, id int, sealed bool) ([]impl.Thing, int) {
	if thingBy(l, id) == nil || !thingBy(l, id).Box {
		return l, 1
	}
	if wantedLock(l, id) {
		return l, 2
	}
	return thingsBut(l, id, func(x *impl.Thing) { x.Sealed = sealed }), 0
}

func wantedEmpty(l []impl.Thing, id int) ([]impl.Thing, int) {
	if thingBy(l, id) == nil || !thingBy(l, id).Box {
		return l, 1
	}
	if wantedLock(l, id) || thingBy(l, id).Sealed {
		return l, 2
	}
	direct, _ := wantedInside(l, id)
	for _, inner := range direct {
		l, _ = wantedTake(l, inner)
	}
	return l, 0
}

func wantedPack(l []impl.Thing, ids, boxes []int) ([]impl.Thing, []int) {
	if len(ids) > 40 || len(boxes) > 40 {
		return l, nil
	}
	order := slices.Clone(ids)
	sort.Ints(order)
	first := l
	sort.SliceStable(order, func(i, j int) bool { return wantedGross(first, order[i]) > wantedGross(first, order[j]) })
	var left []int
	for _, id := range order {
		took := slices.IndexFunc(boxes, func(box int) bool {
			_, code := wantedPut(l, id, box)
			return code == 0
		})
		if took < 0 {
			left = append(left, id)
			continue
		}
		l, _ = wantedPut(l, id, boxes[took])
	}
	return l, left
}

func TestBoxConstants(t *testing.T) {
	got := []int{impl.MaxThings, impl.MaxId, impl.MaxDeep, impl.BoxOk, impl.BoxBad, impl.BoxSealed, impl.BoxCircle, impl.BoxDeep, impl.BoxFull, impl.BoxFree}
	if !slices.Equal(got, []int{40, 9999, 4, 0, 1, 2, 3, 4, 5, 6}) {
		t.Error(got)
	}
}

func TestFindThing(t *testing.T) {
	twice := []impl.Thing{{Id: 7}, {Id: 3}, {Id: 7}, {Id: -2}, {Id: 0}, {Id: greatestInt}, {Id: leastInt}}
	for _, c := range []struct {
		l        []impl.Thing
		id, want int
	}{
		{someThings(), 1, 0}, {someThings(), 2, 1}, {someThings(), 20, 4}, {someThings(), 70, 9}, {someThings(), 0, -1}, {someThings(), 5, -1}, {someThings(), 71, -1}, {someThings(), -1, -1}, {someThings(), greatestInt, -1}, {someThings(), leastInt, -1},
		{twice, 7, 0}, {twice, 3, 1}, {twice, -2, 3}, {twice, 0, 4}, {twice, greatestInt, 5}, {twice, leastInt, 6}, {twice, 1, -1},
		{nil, 0, -1}, {nil, 1, -1}, {[]impl.Thing{}, 1, -1}, {parcelsUpTo(1000), 1000, 999}, {parcelsUpTo(1000), 1001, -1},
	} {
		if got := impl.FindThing(c.l, c.id); got != c.want {
			t.Error(c.id, got, c.want)
		}
	}
}

func TestAreThings(t *testing.T) {
	for _, l := range goodThings() {
		if !impl.AreThings(l) {
			t.Error(l)
		}
	}
	for _, l := range badThings() {
		if impl.AreThings(l) {
			t.Error(l)
		}
	}
}

// checkNothing checks a call that is refused because of its list or because there is no such thing.
func checkNothing(t *testing.T, l []impl.Thing, id int) {
	t.Helper()
	if a, b := impl.InsideOf(l, id), impl.AllInside(l, id); len(a) != 0 || len(b) != 0 {
		t.Error(l, id, a, b)
	}
	if a, b, c, d := impl.GrossOf(l, id), impl.OuterOf(l, id), impl.DepthOf(l, id), impl.IsLocked(l, id); a != 0 || b != 0 || c != -1 || d {
		t.Error(l, id, a, b, c, d)
	}
	if s := impl.Manifest(l, id); s != "" {
		t.Error(l, id, s)
	}
	for name, call := range map[string]func() ([]impl.Thing, int){
		"take": func() ([]impl.Thing, int) { return impl.TakeFrom(l, id) }, "empty": func() ([]impl.Thing, int) { return impl.EmptyBox(l, id) },
		"seal": func() ([]impl.Thing, int) { return impl.SealBox(l, id, true) }, "unseal": func() ([]impl.Thing, int) { return impl.SealBox(l, id, false) },
		"put": func() ([]impl.Thing, int) { return impl.PutInto(l, id, 30) }, "put it": func() ([]impl.Thing, int) { return impl.PutInto(l, 1, id) },
		"put into itself": func() ([]impl.Thing, int) { return impl.PutInto(l, id, id) }, "put into nothing": func() ([]impl.Thing, int) { return impl.PutInto(l, id, 0) },
	} {
		if got, code := call(); code != impl.BoxBad || !slices.Equal(got, l) {
			t.Error(name, l, id, got, code)
		}
	}
}

func TestNothingIsInABadList(t *testing.T) {
	for _, l := range badThings() {
		ids := []int{0, 1, 30, impl.MaxId}
		for _, x := range l[:min(len(l), 4)] {
			ids = append(ids, x.Id)
		}
		for _, id := range ids {
			checkNothing(t, l, id)
			if got, left := impl.PackAll(l, []int{id, 1}, []int{id, 2, 10}); len(left) != 0 || !slices.Equal(got, l) {
				t.Error(l, got, left)
			}
		}
	}
}

func TestNoSuchThing(t *testing.T) {
	for _, l := range [][]impl.Thing{nil, {}, someThings(), boxLine(4)} {
		for _, id := range []int{0, 5, 71, 9999, 10000, -1, -20, greatestInt, leastInt} {
			checkNothing(t, l, id)
			if got, left := impl.PackAll(l, []int{id}, []int{30, 20, 10}); !slices.Equal(left, []int{id}) || !slices.Equal(got, l) {
				t.Error(l, got, left)
			}
			if got, left := impl.PackAll(l, []int{1}, []int{id}); !slices.Equal(left, []int{1}) || !slices.Equal(got, l) {
				t.Error(l, got, left)
			}
		}
	}
}

func TestWhatIsKnownOfThings(t *testing.T) {
	l := someThings()
	for _, c := range []struct {
		id, gross, outer, depth int
		locked                  bool
		inside, all             []int
		text                    string
	}{
		{1, 500, 1, 0, false, nil, nil, "1"}, {2, 300, 30, 2, false, nil, nil, "2"}, {3, 200, 40, 1, true, nil, nil, "3"}, {4, 100, 30, 2, true, nil, nil, "4"},
		{20, 400, 30, 1, false, []int{2}, []int{2}, "20[2]"}, {30, 830, 30, 0, false, []int{20, 50}, []int{2, 4, 20, 50, 60}, "30[20[2] 50[4 60[]]]"},
		{40, 250, 40, 0, false, []int{3}, []int{3}, "40[3]"}, {50, 230, 30, 1, false, []int{4, 60}, []int{4, 60}, "50[4 60[]]"}, {60, 70, 30, 2, true, nil, nil, "60[]"}, {70, 80, 70, 0, false, nil, nil, "70[]"},
	} {
		if a, b, d, e := impl.GrossOf(l, c.id), impl.OuterOf(l, c.id), impl.DepthOf(l, c.id), impl.IsLocked(l, c.id); a != c.gross || b != c.outer || d != c.depth || e != c.locked {
			t.Error(c.id, a, b, d, e)
		}
		if a, b := impl.InsideOf(l, c.id), impl.AllInside(l, c.id); !slices.Equal(a, c.inside) || !slices.Equal(b, c.all) {
			t.Error(c.id, a, b)
		}
		if s := impl.Manifest(l, c.id); s != c.text {
			t.Error(c.id, s)
		}
	}
}

func TestBoxesAroundBoxes(t *testing.T) {
	l := boxLine(impl.MaxDeep)
	for i := range impl.MaxDeep {
		id := 10 * (i + 1)
		if a, b, c := impl.DepthOf(l, id), impl.OuterOf(l, id), impl.GrossOf(l, id); a != i || b != 10 || c != 5+10*(impl.MaxDeep-i) {
			t.Error(id, a, b, c)
		}
		sealed := thingsBut(l, id, func(x *impl.Thing) { x.Sealed = true })
		for j := range impl.MaxDeep {
			if got := impl.IsLocked(sealed, 10*(j+1)); got != (j > i) {
				t.Error(i, j, got)
			}
		}
		if !impl.IsLocked(sealed, 1) {
			t.Error(id)
		}
	}
	if a, b, c := impl.DepthOf(l, 1), impl.OuterOf(l, 1), impl.IsLocked(l, 1); a != impl.MaxDeep || b != 10 || c {
		t.Error(a, b, c)
	}
	if a, s := impl.AllInside(l, 10), impl.Manifest(l, 10); !slices.Equal(a, []int{1, 20, 30, 40}) || s != "10[20[30[40[1]]]]" {
		t.Error(a, s)
	}
	if s := impl.Manifest(boxLine(impl.MaxDeep + 1)[1:], 10); s != "10[20[30[40[50[]]]]]" {
		t.Error(s)
	}
}

func TestTheHeaviestThings(t *testing.T) {
	l := []impl.Thing{boxIn(1, impl.MaxWeight, impl.MaxRoom, 0)}
	for i := range 33 {
		l = append(l, parcelIn(2+i, impl.MaxWeight, 1))
	}
	l = append(l, parcelIn(50, 10000, 1))
	if got := impl.GrossOf(l, 1); !impl.AreThings(l) || got != impl.MaxRoom+impl.MaxWeight {
		t.Error(got)
	}
	if impl.AreThings(append(l, parcelIn(51, 1, 1))) {
		t.Error("one gram over")
	}
	if _, code := impl.PutInto(append(l, parcelIn(51, 1, 0)), 51, 1); code != impl.BoxFull {
		t.Error(code)
	}
}

// checkCall checks that a call that is refused gives the list back, and one that is done moves or seals as it is told.
func checkCall(t *testing.T, what any, l, got []impl.Thing, code int, want []impl.Thing, wantCode int) {
	t.Helper()
	if code != wantCode || !slices.Equal(got, want) || code != impl.BoxOk && !slices.Equal(got, l) {
		t.Error(what, l, got, code, want, wantCode)
	}
}

// checkPuts checks PutInto a valid list for rows of a thing, a box and the code.
func checkPuts(t *testing.T, l []impl.Thing, rows [][3]int) {
	t.Helper()
	if !impl.AreThings(l) {
		t.Error(l)
	}
	for _, c := range rows {
		want := slices.Clone(l)
		if c[2] == impl.BoxOk {
			want = movedTo(want, c[0], c[1])
		}
		got, code := impl.PutInto(l, c[0], c[1])
		checkCall(t, c, l, got, code, want, c[2])
	}
}

func TestPutInto(t *testing.T) {
	checkPuts(t, someThings(), [][3]int{
		{1, 20, impl.BoxOk}, {1, 30, impl.BoxOk}, {2, 30, impl.BoxOk}, {2, 70, impl.BoxOk}, {20, 70, impl.BoxOk}, {70, 20, impl.BoxOk}, {70, 30, impl.BoxOk},
		// Into the box in which it is.
		{2, 20, impl.BoxOk}, {20, 30, impl.BoxOk}, {50, 30, impl.BoxOk},
		// A sealed box may be put, and keeps what it has.
		{40, 30, impl.BoxOk}, {40, 20, impl.BoxOk}, {40, 70, impl.BoxOk}, {50, 20, impl.BoxOk}, {50, 70, impl.BoxOk},
		// No such thing, no such box, or no box, also where something is sealed.
		{0, 20, impl.BoxBad}, {1, 0, impl.BoxBad}, {2, 0, impl.BoxBad}, {5, 20, impl.BoxBad}, {1, 5, impl.BoxBad}, {1, 1, impl.BoxBad}, {1, 2, impl.BoxBad}, {20, 2, impl.BoxBad}, {20, 1, impl.BoxBad}, {-1, 20, impl.BoxBad}, {1, -1, impl.BoxBad}, {greatestInt, 20, impl.BoxBad}, {1, leastInt, impl.BoxBad},
		{5, 40, impl.BoxBad}, {5, 60, impl.BoxBad}, {4, 5, impl.BoxBad}, {4, 0, impl.BoxBad}, {4, 4, impl.BoxBad}, {3, 1, impl.BoxBad}, {1, 4, impl.BoxBad}, {60, 4, impl.BoxBad},
		// A box around the thing, around the box, or the box itself is sealed.
		{3, 20, impl.BoxSealed}, {4, 20, impl.BoxSealed}, {4, 30, impl.BoxSealed}, {60, 30, impl.BoxSealed}, {60, 70, impl.BoxSealed}, {1, 60, impl.BoxSealed}, {70, 60, impl.BoxSealed}, {1, 40, impl.BoxSealed}, {1, 50, impl.BoxSealed}, {20, 50, impl.BoxSealed},
		{3, 40, impl.BoxSealed}, {4, 50, impl.BoxSealed}, {4, 60, impl.BoxSealed}, {3, 60, impl.BoxSealed},
		// Sealed before circle.
		{40, 40, impl.BoxSealed}, {50, 50, impl.BoxSealed}, {60, 60, impl.BoxSealed}, {50, 60, impl.BoxSealed}, {30, 50, impl.BoxSealed}, {30, 60, impl.BoxSealed},
		{20, 20, impl.BoxCircle}, {30, 30, impl.BoxCircle}, {30, 20, impl.BoxCircle}, {70, 70, impl.BoxCircle},
		{1, 70, impl.BoxFull}, {30, 70, impl.BoxFull},
	})
}

// deepThings has the boxes 10[20[30[40[50[] 90[]]]]], 60[61], 80[] and 92[], of which 90 is sealed.
func deepThings() []impl.Thing {
	return append(boxLine(5)[1:], boxIn(60, 1, 1000, 0), parcelIn(61, 2, 60), parcelIn(70, 3, 0), boxIn(80, 1, 20, 0), sealedIn(90, 1, 20, 40), parcelIn(91, 2000, 0), boxIn(92, 3000, 10, 0))
}

func TestPutIntoDeepBoxes(t *testing.T) {
	checkPuts(t, deepThings(), [][3]int{
		// 50 has four boxes around it, so that nothing may be in it; the box 60 has a thing in it, so that it may not be in 40.
		{70, 40, impl.BoxOk}, {70, 50, impl.BoxDeep}, {80, 40, impl.BoxOk}, {80, 50, impl.BoxDeep}, {60, 30, impl.BoxOk}, {60, 40, impl.BoxDeep}, {60, 50, impl.BoxDeep}, {70, 80, impl.BoxOk},
		{20, 80, impl.BoxFull}, {20, 60, impl.BoxOk}, {10, 60, impl.BoxDeep}, {30, 60, impl.BoxOk}, {50, 40, impl.BoxOk},
		// Deep before full: 91 and 92 are too heavy for all of the boxes.
		{91, 40, impl.BoxFull}, {91, 50, impl.BoxDeep}, {91, 80, impl.BoxFull}, {92, 40, impl.BoxFull}, {92, 50, impl.BoxDeep}, {10, 80, impl.BoxDeep}, {10, 92, impl.BoxDeep},
		// Circle before deep and full.
		{10, 50, impl.BoxCircle}, {20, 50, impl.BoxCircle}, {50, 50, impl.BoxCircle}, {40, 50, impl.BoxCircle}, {10, 10, impl.BoxCircle}, {92, 92, impl.BoxCircle},
		// Sealed before deep and full.
		{70, 90, impl.BoxSealed}, {91, 90, impl.BoxSealed}, {10, 90, impl.BoxSealed}, {40, 90, impl.BoxSealed}, {90, 90, impl.BoxSealed}, {90, 50, impl.BoxDeep}, {99, 50, impl.BoxBad}, {10, 61, impl.BoxBad}, {61, 61, impl.BoxBad},
	})
}

func TestPutIntoFullBoxes(t *testing.T) {
	// 10 is full by what lies in 20; 20 has room left, and so has 30, which is in no box.
	l := []impl.Thing{parcelIn(1, 400, 20), parcelIn(2, 1, 0), parcelIn(3, 100, 10), boxIn(10, 1, 600, 0), boxIn(20, 100, 900, 10), boxIn(30, 5, 500, 0), boxIn(40, 1, 1, 0), parcelIn(50, 501, 0), parcelIn(51, 500, 0)}
	checkPuts(t, l, [][3]int{
		{2, 20, impl.BoxFull}, {2, 10, impl.BoxFull}, {2, 30, impl.BoxOk}, {2, 40, impl.BoxOk}, {40, 20, impl.BoxFull}, {50, 30, impl.BoxFull}, {51, 30, impl.BoxOk}, {51, 40, impl.BoxFull},
		// From box to box in 10, its weight stays.
		{1, 10, impl.BoxOk}, {1, 20, impl.BoxOk}, {3, 20, impl.BoxOk}, {3, 10, impl.BoxOk}, {20, 10, impl.BoxOk}, {20, 30, impl.BoxOk}, {1, 30, impl.BoxOk}, {10, 30, impl.BoxFull}, {10, 20, impl.BoxCircle},
	})
	heavy := []impl.Thing{parcelIn(1, 599, 0), boxIn(10, 1, 600, 0), boxIn(20, 1, 599, 10), boxIn(30, 2, 599, 0)}
	checkPuts(t, heavy, [][3]int{{1, 20, impl.BoxOk}, {1, 30, impl.BoxOk}, {1, 10, impl.BoxOk}})
	// 20 and what is in it fill 10 to the last gram; 30 weighs one gram more, with what is in it, too.
	for box, want := range map[int]int{20: impl.BoxOk, 30: impl.BoxFull} {
		checkPuts(t, movedTo(movedTo(heavy, 1, box), 20, 0), [][3]int{{box, 10, want}})
	}
}

func TestTakeFrom(t *testing.T) {
	for _, c := range [][3]int{
		{2, 30, impl.BoxOk}, {20, 0, impl.BoxOk}, {50, 0, impl.BoxOk},
		{0, 0, impl.BoxBad}, {5, 0, impl.BoxBad}, {-1, 0, impl.BoxBad}, {greatestInt, 0, impl.BoxBad},
		{3, 0, impl.BoxSealed}, {4, 0, impl.BoxSealed}, {60, 0, impl.BoxSealed}, {1, 0, impl.BoxFree}, {30, 0, impl.BoxFree}, {40, 0, impl.BoxFree}, {70, 0, impl.BoxFree},
	} {
		l, want := someThings(), someThings()
		if c[2] == impl.BoxOk {
			want = movedTo(want, c[0], c[1])
		}
		got, code := impl.TakeFrom(l, c[0])
		checkCall(t, c, l, got, code, want, c[2])
	}
	// Out of one box after the other.
	l := boxLine(impl.MaxDeep)
	for i := impl.MaxDeep - 1; i >= 0; i-- {
		got, code := impl.TakeFrom(l, 1)
		checkCall(t, i, l, got, code, movedTo(l, 1, 10*i), impl.BoxOk)
		l = got
	}
	got, code := impl.TakeFrom(l, 1)
	checkCall(t, "free", l, got, code, l, impl.BoxFree)
	// The outer box is sealed, the inner one not.
	for id, want := range map[int]int{1: impl.BoxSealed, 20: impl.BoxSealed, 10: impl.BoxFree} {
		l := thingsBut(boxLine(2), 10, func(x *impl.Thing) { x.Sealed = true })
		got, code := impl.TakeFrom(l, id)
		checkCall(t, id, l, got, code, l, want)
	}
	// The thing itself is sealed, which does not hold it.
	sealed := thingsBut(boxLine(2), 20, func(x *impl.Thing) { x.Sealed = true })
	got, code = impl.TakeFrom(sealed, 20)
	checkCall(t, "sealed", sealed, got, code, movedTo(sealed, 20, 0), impl.BoxOk)
}

func TestSealBox(t *testing.T) {
	for _, c := range [][2]int{
		{20, impl.BoxOk}, {30, impl.BoxOk}, {40, impl.BoxOk}, {50, impl.BoxOk}, {70, impl.BoxOk},
		{0, impl.BoxBad}, {5, impl.BoxBad}, {1, impl.BoxBad}, {2, impl.BoxBad}, {-1, impl.BoxBad}, {leastInt, impl.BoxBad},
		// What is no box, though a box around it is sealed; and a box in a sealed one.
		{3, impl.BoxBad}, {4, impl.BoxBad}, {60, impl.BoxSealed},
	} {
		for _, sealed := range []bool{true, false} {
			l, want := someThings(), someThings()
			if c[1] == impl.BoxOk {
				want = thingsBut(want, c[0], func(x *impl.Thing) { x.Sealed = sealed })
			}
			got, code := impl.SealBox(l, c[0], sealed)
			checkCall(t, c, l, got, code, want, c[1])
		}
	}
	// A sealed box in a sealed box is opened from the outside in.
	l := thingsBut(someThings(), 60, func(x *impl.Thing) { x.Sealed = true })
	got, code := impl.SealBox(l, 60, false)
	checkCall(t, "inner", l, got, code, l, impl.BoxSealed)
	outer, code := impl.SealBox(l, 50, false)
	checkCall(t, "outer", l, outer, code, thingsBut(l, 50, func(x *impl.Thing) { x.Sealed = false }), impl.BoxOk)
	got, code = impl.SealBox(outer, 60, false)
	checkCall(t, "inner again", outer, got, code, thingsBut(outer, 60, func(x *impl.Thing) { x.Sealed = false }), impl.BoxOk)
}

func TestEmptyBox(t *testing.T) {
	l := someThings()
	for _, c := range []struct {
		id, code int
		want     []impl.Thing
	}{
		{20, impl.BoxOk, movedTo(l, 2, 30)}, {30, impl.BoxOk, movedTo(movedTo(l, 20, 0), 50, 0)}, {70, impl.BoxOk, l},
		{0, impl.BoxBad, l}, {5, impl.BoxBad, l}, {1, impl.BoxBad, l}, {2, impl.BoxBad, l}, {3, impl.BoxBad, l}, {4, impl.BoxBad, l}, {-1, impl.BoxBad, l},
		{40, impl.BoxSealed, l}, {50, impl.BoxSealed, l}, {60, impl.BoxSealed, l},
	} {
		got, code := impl.EmptyBox(l, c.id)
		checkCall(t, c.id, l, got, code, c.want, c.code)
	}
	// Things and boxes with things, out of a box in a box.
	many := []impl.Thing{boxIn(1, 1, 900, 0), boxIn(2, 1, 900, 1), boxIn(3, 1, 900, 2), parcelIn(4, 1, 3), parcelIn(5, 1, 2), sealedIn(6, 1, 900, 2), parcelIn(7, 1, 6), parcelIn(8, 1, 1), parcelIn(9, 1, 0)}
	got, code := impl.EmptyBox(many, 2)
	checkCall(t, "inner", many, got, code, movedTo(movedTo(movedTo(many, 3, 1), 5, 1), 6, 1), impl.BoxOk)
	got, code = impl.EmptyBox(many, 1)
	checkCall(t, "outer", many, got, code, movedTo(movedTo(many, 2, 0), 8, 0), impl.BoxOk)
	got, code = impl.EmptyBox(many, 6)
	checkCall(t, "sealed", many, got, code, many, impl.BoxSealed)
	// A sealed box that is empty, or in an empty one that is sealed.
	empty := []impl.Thing{sealedIn(1, 1, 900, 0), sealedIn(2, 1, 900, 0), boxIn(3, 1, 900, 2)}
	for id := 1; id <= 3; id++ {
		got, code = impl.EmptyBox(empty, id)
		checkCall(t, id, empty, got, code, empty, impl.BoxSealed)
	}
}

func TestPackAll(t *testing.T) {
	l := []impl.Thing{
		parcelIn(1, 500, 0), parcelIn(2, 300, 0), parcelIn(3, 300, 0), parcelIn(4, 700, 0), parcelIn(5, 100, 0),
		boxIn(10, 50, 1000, 0), boxIn(20, 60, 700, 0), boxIn(30, 10, 900, 0), parcelIn(31, 600, 30), sealedIn(40, 20, 90, 0), parcelIn(41, 30, 40),
	}
	if !impl.AreThings(l) {
		t.Fatal(l)
	}
	put := func(pairs ...int) []impl.Thing {
		m := l
		for i := 0; i < len(pairs); i += 2 {
			m = movedTo(m, pairs[i], pairs[i+1])
		}
		return m
	}
	for _, c := range []struct {
		ids, boxes []int
		want       []impl.Thing
		left       []int
	}{
		{nil, nil, l, nil}, {nil, []int{10}, l, nil}, {[]int{1}, nil, l, []int{1}}, {[]int{1}, []int{10}, put(1, 10), nil}, {[]int{1}, []int{20, 10}, put(1, 20), nil},
		// The heaviest first: 4, 1, 2, 3, 5.
		{[]int{1, 2, 3, 4, 5}, []int{10, 20}, put(4, 10, 1, 20, 2, 10, 5, 20), []int{3}}, {[]int{5, 4, 3, 2, 1}, []int{20, 10}, put(4, 20, 1, 10, 2, 10, 5, 10), []int{3}},
		{[]int{1, 2, 3, 4, 5}, []int{10, 20, 30}, put(4, 10, 1, 20, 2, 10, 3, 30, 5, 20), nil},
		{[]int{3, 5, 2, 1, 4}, []int{20}, put(4, 20), []int{1, 2, 3, 5}}, {[]int{1, 3, 5, 2, 4}, []int{}, l, []int{4, 1, 2, 3, 5}},
		// Two of one weight: the lower number first.
		{[]int{3, 2}, []int{30}, put(2, 30), []int{3}}, {[]int{2, 3}, []int{30}, put(2, 30), []int{3}},
		// Numbers that occur twice.
		{[]int{1, 1}, []int{10, 20}, put(1, 10), nil}, {[]int{4, 1, 4, 1}, []int{20}, put(4, 20), []int{1, 1}}, {[]int{4, 5, 4}, []int{30}, put(5, 30), []int{4, 4}}, {[]int{2}, []int{10, 10}, put(2, 10), nil},
		// Numbers that are not there, or no boxes, or sealed.
		{[]int{99, 1, 0, -5, 10000}, []int{10}, put(1, 10), []int{-5, 0, 99, 10000}}, {[]int{1}, []int{99, 0, 2, 1, -1, 40, 20}, put(1, 20), nil}, {[]int{1, 41}, []int{40}, l, []int{1, 41}}, {[]int{41, 2}, []int{10}, put(2, 10), []int{41}},
		{[]int{greatestInt, leastInt, 5}, []int{leastInt, greatestInt}, l, []int{5, leastInt, greatestInt}},
		// Boxes: by their gross weights, and not into themselves. 30 weighs 610, 20 60, 10 50, 40 50.
		{[]int{10, 20, 30}, []int{10, 20, 30}, put(30, 10, 20, 10), []int{10}}, {[]int{30, 1}, []int{20}, put(30, 20), []int{1}}, {[]int{40, 10}, []int{20}, put(10, 20, 40, 20), nil}, {[]int{10}, []int{10}, l, []int{10}},
		{[]int{31}, []int{20}, put(31, 20), nil}, {[]int{30, 31}, []int{20}, put(30, 20, 31, 20), nil},
	} {
		got, left := impl.PackAll(l, c.ids, c.boxes)
		if !slices.Equal(got, c.want) || !slices.Equal(left, c.left) {
			t.Error(c.ids, c.boxes, got, left)
		}
	}
}

// What a box weighs is what it weighed before anything was put into it.
func TestPackAllWeighsFirst(t *testing.T) {
	l := []impl.Thing{parcelIn(1, 500, 0), parcelIn(2, 300, 0), boxIn(3, 100, 2000, 0), boxIn(4, 1, 600, 0)}
	got, left := impl.PackAll(l, []int{1, 2, 3}, []int{3, 4})
	if !slices.Equal(got, movedTo(movedTo(l, 1, 3), 2, 3)) || !slices.Equal(left, []int{3}) {
		t.Error(got, left)
	}
}

func TestPackAllOfManyNumbers(t *testing.T) {
	l := []impl.Thing{parcelIn(1, 1, 0), boxIn(2, 1, 10, 0)}
	for _, c := range []struct {
		ids, boxes int
		taken      bool
	}{{impl.MaxThings, impl.MaxThings, true}, {impl.MaxThings + 1, 1, false}, {1, impl.MaxThings + 1, false}, {impl.MaxThings + 1, impl.MaxThings + 1, false}, {5000, 1, false}, {impl.MaxThings + 1, 0, false}, {0, impl.MaxThings + 1, false}} {
		want := l
		if c.taken {
			want = movedTo(l, 1, 2)
		}
		ids, boxes := slices.Repeat([]int{1}, c.ids), slices.Repeat([]int{2}, c.boxes)
		if got, left := impl.PackAll(l, ids, boxes); !slices.Equal(got, want) || len(left) != 0 {
			t.Error(c, got, left)
		}
	}
	ids := make([]int, impl.MaxThings)
	for i := range ids {
		ids[i] = 1000 - i
	}
	if got, left := impl.PackAll(l, ids, []int{2}); !slices.Equal(got, l) || len(left) != impl.MaxThings || !slices.IsSorted(left) {
		t.Error(got, left)
	}
}

var (
	manifestNumber = regexp.MustCompile(`[0-9]+`)
	manifestBox    = regexp.MustCompile(`n\[(?:[nb](?: [nb])*)?\]`)
)

// wantedPairs reads a manifest from the inside out: it replaces numbers, then boxes that have no brackets inside, until one is left.
func wantedPairs(s string) ([]impl.Pair, bool) {
	var l []impl.Pair
	for _, at := range manifestNumber.FindAllStringIndex(s, -1) {
		n, err := strconv.Atoi(s[at[0]:at[1]])
		if err != nil || n < 1 || n > 9999 || s[at[0]] == '0' {
			return nil, false
		}
		l = append(l, impl.Pair{Id: n, In: bracketsAround(s[:at[0]])})
	}
	form := manifestNumber.ReplaceAllString(s, "n")
	if strings.Contains(s, "n") || strings.Contains(s, "b") || len(l) > 40 {
		return nil, false
	}
	for manifestBox.MatchString(form) {
		form = manifestBox.ReplaceAllString(form, "b")
	}
	return l, form == "n" || form == "b"
}

// bracketsAround looks back from the end of a text for the number before the brackets that are still open.
func bracketsAround(before string) int {
	closed := 0
	for i := len(before) - 1; i >= 0; i-- {
		switch {
		case before[i] == ']':
			closed++
		case before[i] == '[' && closed > 0:
			closed--
		case before[i] == '[':
			start := i
			for start > 0 && before[start-1] >= '0' && before[start-1] <= '9' {
				start--
			}
			n, _ := strconv.Atoi(before[start:i])
			return n
		}
	}
	return 0
}

func checkManifest(t *testing.T, s string) bool {
	t.Helper()
	want, wantOk := wantedPairs(s)
	got, ok := impl.ReadManifest(s)
	if ok != wantOk || ok && !slices.Equal(got, want) || !ok && len(got) != 0 {
		t.Errorf("ReadManifest(%.200q) = %v, %v; want %v, %v", s, got, ok, want, wantOk)
	}
	return ok
}

func pairsOf(numbers ...int) []impl.Pair {
	var l []impl.Pair
	for i := 0; i < len(numbers); i += 2 {
		l = append(l, impl.Pair{Id: numbers[i], In: numbers[i+1]})
	}
	return l
}

// nested is a text of so many numbers, each in the brackets of the one before.
func nested(count int) string {
	return strings.Repeat("7[", count-1) + "7" + strings.Repeat("]", count-1)
}

// inOneBox is a text of so many numbers, all but the first one in its brackets.
func inOneBox(count int) string {
	return "8[" + strings.TrimSuffix(strings.Repeat("9 ", count-1), " ") + "]"
}

func TestReadManifest(t *testing.T) {
	for _, c := range []struct {
		s    string
		want []impl.Pair
	}{
		{"1", pairsOf(1, 0)}, {"9", pairsOf(9, 0)}, {"10", pairsOf(10, 0)}, {"9999", pairsOf(9999, 0)}, {"1[]", pairsOf(1, 0)}, {"9999[9999]", pairsOf(9999, 0, 9999, 9999)}, {"1[1 1[1]]", pairsOf(1, 0, 1, 1, 1, 1, 1, 1)},
		{"3[2]", pairsOf(3, 0, 2, 3)}, {"3[2 1]", pairsOf(3, 0, 2, 3, 1, 3)}, {"3[2[] 1[]]", pairsOf(3, 0, 2, 3, 1, 3)}, {"3[2[1] 4]", pairsOf(3, 0, 2, 3, 1, 2, 4, 3)},
		{"30[20[2] 50[4 60[]]]", pairsOf(30, 0, 20, 30, 2, 20, 50, 30, 4, 50, 60, 50)}, {"1[2[3[4[5[6[7]]]]] 8]", pairsOf(1, 0, 2, 1, 3, 2, 4, 3, 5, 4, 6, 5, 7, 6, 8, 1)},
	} {
		if got, ok := impl.ReadManifest(c.s); !ok || !slices.Equal(got, c.want) {
			t.Error(c.s, got, ok)
		}
		checkManifest(t, c.s)
	}
	for _, s := range []string{nested(2), nested(impl.MaxThings), inOneBox(2), inOneBox(impl.MaxThings)} {
		if got, ok := impl.ReadManifest(s); !ok || len(got) != strings.Count(s, " ")+strings.Count(s, "[")+strings.Count(s, "7]") && len(got) != strings.Count(s, "9")+1 {
			t.Error(s, got, ok)
		}
		checkManifest(t, s)
	}
}

func TestNoManifestIsRead(t *testing.T) {
	for _, s := range []string{
		"", " ", "[", "]", "[]", "[1]", "[[]]", "a", "x[1]", "-1", "+1", "1.", "1,2", "\x001", "1\x00", "\uff11", "1\n", "\n1", "\t1", "1\t", "1\u00a0",
		"0", "00", "01", "0001", "09999", "10000", "10000[1]", "99999", "1000000000", "9223372036854775808", "1[0]", "1[01]", "1[2 03]", "1[10000]", "0[1]", "01[1]", "1[-1]", "1[+1]",
		"1[", "1]", "1[]]", "1[[]", "1[[]]", "1[2", "1[2]]", "1[2[]", "1[2[3]", "1[2[3]]]", "1[2]3]", "1[2[3]4]", "1[2]3", "1[]2", "1[2][3]", "1[][]", "1[2[][]]", "1[2[3][4]]", "1][", "1][2", "1[]]", "1[2] 3]", "1[[2]]", "1[2 [3]]", "1[2 []]", "1[[2] 3]", "1[] []",
		" 1", "1 ", "  1", "1 2", "1 []", "1 [2]", "1[ ]", "1[ 2]", "1[2 ]", "1[2  3]", "1[2   3]", "1[2[ ]]", "1[2[3] ]", "1[2 3 ]", "1[ 2 3]", "1[2[3]  4]", "1[] ", " 1[]", "1[2] ", " 1[2]", "1[2] 3", "1[] 2", "1[2\t3]", "1[2,3]", "1[2\n3]", "1(2)", "1{2}", "1[2}",
		nested(impl.MaxThings + 1), inOneBox(impl.MaxThings + 1), "1[" + nested(impl.MaxThings) + "]",
		strings.Repeat("1[", 100000), strings.Repeat("[", 100000), strings.Repeat("]", 100000), strings.Repeat("9", 100000), strings.Repeat("0", 100000), strings.Repeat("1 ", 100000), "1[" + strings.Repeat("1 ", 100000), "1" + strings.Repeat("]", 100000), strings.Repeat(" ", 100000), nested(50000),
	} {
		if got, ok := impl.ReadManifest(s); ok || len(got) != 0 {
			t.Errorf("ReadManifest(%.200q) = %v, %v", s, got, ok)
		}
	}
}

func TestOnlyWrittenManifestsAreRead(t *testing.T) {
	read := 0
	for _, s := range []string{"3[2[1] 40]", "1", "9999[10[] 999[1 2]]", "1[2[3[4[5]]]]", nested(7), inOneBox(8)} {
		for _, other := range textsBeside(s) {
			if checkManifest(t, other) {
				read++
			}
		}
	}
	r := rand.New(rand.NewSource(51))
	for range 40000 {
		var b strings.Builder
		for range r.Intn(11) {
			b.WriteString([]string{"1", "2", "1", "[", "]", "[", "]", " ", "0", "2] ", "1[", "]]"}[r.Intn(12)])
		}
		if checkManifest(t, b.String()) {
			read++
		}
	}
	if read < 1000 {
		t.Error(read)
	}
}

// thingsAtRandom gives a valid list with gaps between the Ids and boxes of which many are just full.
func thingsAtRandom(r *rand.Rand) []impl.Thing {
	var l []impl.Thing
	id := 0
	for range r.Intn(14) {
		id += 1 + r.Intn(3)
		x := impl.Thing{Id: id, Own: 1 + r.Intn(4)}
		if r.Intn(2) == 0 {
			x.Box, x.Room = true, impl.MaxRoom
		}
		l = append(l, x)
	}
	for range 3 * len(l) {
		x, box := l[r.Intn(len(l))], l[r.Intn(len(l))]
		if put := movedTo(l, x.Id, box.Id); areWantedThings(put) {
			l = put
		}
	}
	loads := wantedLoads(l)
	for i, x := range l {
		if x.Box {
			l[i].Room = max(1, loads[x.Id]) + r.Intn(2)*r.Intn(8)
			l[i].Sealed = r.Intn(6) == 0
		}
	}
	return l
}

// checkPromise checks promise 5 for a call that turned a valid list into another one.
func checkPromise(t *testing.T, what any, before, after []impl.Thing) {
	t.Helper()
	sums := [2]int{}
	for i, l := range [][]impl.Thing{before, after} {
		for _, x := range l {
			sums[i] += x.Own
		}
	}
	if sums[0] != sums[1] || !impl.AreThings(after) || !areWantedThings(after) || len(after) != len(before) {
		t.Error(what, before, after)
		return
	}
	for i, x := range before {
		y := after[i]
		if wantedLock(before, x.Id) && y.In != x.In {
			t.Error(what, before, after, x)
		}
		y.In, y.Sealed = x.In, x.Sealed
		if y != x {
			t.Error(what, before, after, x)
		}
	}
}

// checkAct checks a call against what is wanted, and promise 5.
func checkAct(t *testing.T, what any, l, got []impl.Thing, code int, want []impl.Thing, wantCode int) {
	t.Helper()
	checkCall(t, what, l, got, code, want, wantCode)
	checkPromise(t, what, l, got)
}

func numbersAtRandom(r *rand.Rand, l []impl.Thing) []int {
	ids := make([]int, r.Intn(7))
	for i := range ids {
		ids[i] = r.Intn(30)
		if len(l) > 0 && r.Intn(8) > 0 {
			ids[i] = l[r.Intn(len(l))].Id
		}
	}
	return ids
}

// checkQuestions checks what is known of a thing.
func checkQuestions(t *testing.T, l []impl.Thing, id int) {
	t.Helper()
	if thingBy(l, id) == nil {
		checkNothing(t, l, id)
		return
	}
	over, _ := boxesOver(l, id)
	outer := id
	if len(over) > 0 {
		outer = over[len(over)-1]
	}
	if a, b, c, d := impl.GrossOf(l, id), impl.OuterOf(l, id), impl.DepthOf(l, id), impl.IsLocked(l, id); a != wantedGross(l, id) || b != outer || c != len(over) || d != wantedLock(l, id) {
		t.Error(l, id, a, b, c, d)
	}
	direct, all := wantedInside(l, id)
	if a, b := impl.InsideOf(l, id), impl.AllInside(l, id); !slices.Equal(a, direct) || !slices.Equal(b, all) {
		t.Error(l, id, a, b)
	}
	checkWritten(t, l, id)
}

// checkWritten checks that the manifest of a thing tells of each thing in it where it is, once.
func checkWritten(t *testing.T, l []impl.Thing, id int) {
	t.Helper()
	s := impl.Manifest(l, id)
	pairs, ok := impl.ReadManifest(s)
	wanted, _ := wantedPairs(s)
	_, all := wantedInside(l, id)
	if !ok || !slices.Equal(pairs, wanted) || len(pairs) != len(all)+1 || pairs[0] != (impl.Pair{Id: id}) {
		t.Error(l, id, s, pairs, ok)
		return
	}
	last := map[int]int{}
	for _, p := range pairs[1:] {
		// Ids ascend in each pair of brackets.
		if !slices.Contains(all, p.Id) || thingBy(l, p.Id).In != p.In || p.Id <= last[p.In] {
			t.Error(l, id, s)
		}
		last[p.In] = p.Id
	}
	for _, p := range pairs {
		if !thingBy(l, p.Id).Box == slices.Contains(manifestOpened(s), p.Id) {
			t.Error(l, id, s)
		}
	}
}

// manifestOpened lists the numbers behind which brackets stand.
func manifestOpened(s string) []int {
	var ids []int
	for _, at := range manifestNumber.FindAllStringIndex(s, -1) {
		if strings.HasPrefix(s[at[1]:], "[") {
			n, _ := strconv.Atoi(s[at[0]:at[1]])
			ids = append(ids, n)
		}
	}
	return ids
}

// checkAllActs checks every call with one thing, or a thing and a box, of a list, and counts the codes.
func checkAllActs(t *testing.T, l []impl.Thing, ids []int, codes map[string]int) {
	t.Helper()
	for _, id := range ids {
		checkQuestions(t, l, id)
		for _, box := range ids {
			got, code := impl.PutInto(l, id, box)
			want, wantCode := wantedPut(l, id, box)
			checkAct(t, []int{id, box}, l, got, code, want, wantCode)
			codes[fmt.Sprint("put ", code)]++
		}
		got, code := impl.TakeFrom(l, id)
		want, wantCode := wantedTake(l, id)
		checkAct(t, id, l, got, code, want, wantCode)
		codes[fmt.Sprint("take ", code)]++
		got, code = impl.EmptyBox(l, id)
		want, wantCode = wantedEmpty(l, id)
		checkAct(t, id, l, got, code, want, wantCode)
		codes[fmt.Sprint("empty ", code)]++
		for _, sealed := range []bool{true, false} {
			got, code = impl.SealBox(l, id, sealed)
			want, wantCode = wantedSeal(l, id, sealed)
			checkAct(t, id, l, got, code, want, wantCode)
			codes[fmt.Sprint("seal ", code)]++
		}
	}
}

func checkCodes(t *testing.T, codes map[string]int, wanted ...string) {
	t.Helper()
	for _, code := range wanted {
		if codes[code] == 0 {
			t.Error("never:", code, codes)
		}
	}
}

// Promise 5, by all lists of up to three things of a few kinds, most of which are not valid.
func TestAllSmallLists(t *testing.T) {
	var kinds []impl.Thing
	for in := range 5 {
		kinds = append(kinds, parcelIn(0, 2, in), boxIn(0, 1, 2, in), boxIn(0, 1, 3, in), sealedIn(0, 1, 3, in))
	}
	codes := map[string]int{}
	good, bad := 0, 0
	var each func(l []impl.Thing)
	each = func(l []impl.Thing) {
		valid := areWantedThings(l)
		if impl.AreThings(l) != valid {
			t.Error(l, !valid)
		}
		if valid {
			good++
			checkAllActs(t, l, []int{0, 1, 2, 3, 4}, codes)
		} else {
			bad++
		}
		for _, x := range kinds {
			x.Id = len(l) + 1
			if len(l) < 3 {
				each(append(slices.Clone(l), x))
			}
		}
	}
	each(nil)
	if good < 500 || bad < 500 {
		t.Error(good, bad)
	}
	checkCodes(t, codes, "put 0", "put 1", "put 2", "put 3", "put 5", "take 0", "take 1", "take 2", "take 6", "empty 0", "empty 1", "empty 2", "seal 0", "seal 1", "seal 2")
}

// Promise 5, by random lists that one call after the other changes.
func TestThingsAreKept(t *testing.T) {
	r := rand.New(rand.NewSource(52))
	codes := map[string]int{}
	for range 150 {
		l := thingsAtRandom(r)
		if !impl.AreThings(l) || !areWantedThings(l) {
			t.Fatal(l)
		}
		ids := []int{0, 60}
		for _, x := range l {
			ids = append(ids, x.Id)
		}
		checkAllActs(t, l, ids, codes)
		for range 60 {
			ids, boxes := numbersAtRandom(r, l), numbersAtRandom(r, l)
			got, left := impl.PackAll(l, ids, boxes)
			want, wantLeft := wantedPack(l, ids, boxes)
			checkAct(t, []any{ids, boxes, left}, l, got, 0, want, 0)
			if !slices.Equal(left, wantLeft) {
				t.Error(l, ids, boxes, left, wantLeft)
			}
			codes[fmt.Sprint("left ", len(left) > 0, len(left) < len(ids))]++
			id, other := r.Intn(30), r.Intn(30)
			switch r.Intn(6) {
			case 0:
				l = got
			case 1, 2:
				l, _ = impl.PutInto(l, id, other)
			case 3:
				l, _ = impl.TakeFrom(l, id)
			case 4:
				l, _ = impl.EmptyBox(l, id)
			case 5:
				l, _ = impl.SealBox(l, id, r.Intn(4) == 0)
			}
		}
		checkAllActs(t, l, ids, codes)
	}
	checkCodes(t, codes, "put 0", "put 1", "put 2", "put 3", "put 4", "put 5", "take 0", "take 2", "take 6", "empty 0", "empty 2", "seal 0", "seal 2", "left true true", "left true false", "left false true")
}

// Random changes of one field make lists that are valid, and lists that are not.
func TestChangedLists(t *testing.T) {
	r := rand.New(rand.NewSource(53))
	good, bad := 0, 0
	for range 6000 {
		l := thingsAtRandom(r)
		if len(l) == 0 {
			continue
		}
		x := &l[r.Intn(len(l))]
		switch r.Intn(6) {
		case 0:
			x.Id += r.Intn(5) - 2
		case 1:
			x.Own += r.Intn(5) - 2
		case 2:
			x.Room += r.Intn(3) - 1
		case 3:
			x.In = r.Intn(30) - 1
		case 4:
			x.Box = !x.Box
		case 5:
			x.Sealed = !x.Sealed
		}
		want := areWantedThings(l)
		if impl.AreThings(l) != want {
			t.Error(l, want)
		}
		if want {
			good++
		} else {
			bad++
			checkNothing(t, l, x.Id)
		}
	}
	if good < 1000 || bad < 1000 {
		t.Error(good, bad)
	}
}

func TestBoxResultsAreNewMemory(t *testing.T) {
	l := someThings()
	bad := append(someThings(), parcelIn(1, 1, 0))
	for name, call := range map[string]func(l []impl.Thing, id, box int) []impl.Thing{
		"put":  func(l []impl.Thing, id, box int) []impl.Thing { got, _ := impl.PutInto(l, id, box); return got },
		"take": func(l []impl.Thing, id, _ int) []impl.Thing { got, _ := impl.TakeFrom(l, id); return got },
		"seal": func(l []impl.Thing, id, box int) []impl.Thing {
			got, _ := impl.SealBox(l, id, box == 30)
			return got
		},
		"empty": func(l []impl.Thing, id, _ int) []impl.Thing { got, _ := impl.EmptyBox(l, id); return got },
		"pack": func(l []impl.Thing, id, box int) []impl.Thing {
			got, _ := impl.PackAll(l, []int{id}, []int{box})
			return got
		},
		"pack nothing": func(l []impl.Thing, _, box int) []impl.Thing { got, _ := impl.PackAll(l, nil, []int{box}); return got },
		"pack too many": func(l []impl.Thing, id, box int) []impl.Thing {
			got, _ := impl.PackAll(l, make([]int, 41), []int{box})
			return got
		},
	} {
		for _, list := range [][]impl.Thing{l, bad, deepThings()} {
			before := slices.Clone(list)
			for _, id := range []int{1, 2, 3, 4, 5, 10, 20, 30, 40, 50, 60, 70, 91} {
				for _, box := range []int{1, 5, 20, 30, 40, 50, 60, 70} {
					got := call(list, id, box)
					for i := range got {
						got[i] = impl.Thing{Id: 77}
					}
					got = append(got, impl.Thing{Id: 78})
					if !slices.Equal(list, before) {
						t.Fatal(name, id, box)
					}
				}
			}
		}
	}
	ids := []int{1, 2}
	_, left := impl.PackAll(l, ids, nil)
	left[0] = 77
	impl.InsideOf(l, 30)[0] = 77
	impl.AllInside(l, 30)[0] = 77
	pairs, _ := impl.ReadManifest("3[2]")
	pairs[0].Id = 77
	if a, b := impl.InsideOf(l, 30), impl.AllInside(l, 30); a[0] != 20 || b[0] != 2 || ids[0] != 1 {
		t.Error(a, b, ids)
	}
	if pairs, _ := impl.ReadManifest("3[2]"); pairs[0].Id != 3 {
		t.Error(pairs)
	}
}

func TestBoxArgumentsStay(t *testing.T) {
	r := rand.New(rand.NewSource(54))
	for range 300 {
		l := thingsAtRandom(r)
		if r.Intn(8) == 0 {
			l = append(l, parcelIn(1, 1, 0))
		}
		l, ids, boxes := withSpare(l), withSpare(numbersAtRandom(r, l)), withSpare(numbersAtRandom(r, l))
		whole := func() []any {
			return []any{slices.Clone(l[:cap(l)]), slices.Clone(ids[:cap(ids)]), slices.Clone(boxes[:cap(boxes)])}
		}
		before := whole()
		impl.AreThings(l)
		impl.PackAll(l, ids, boxes)
		for _, id := range append(slices.Clone(ids), 0) {
			impl.FindThing(l, id)
			impl.InsideOf(l, id)
			impl.AllInside(l, id)
			impl.GrossOf(l, id)
			impl.OuterOf(l, id)
			impl.DepthOf(l, id)
			impl.IsLocked(l, id)
			impl.TakeFrom(l, id)
			impl.SealBox(l, id, true)
			impl.SealBox(l, id, false)
			impl.EmptyBox(l, id)
			impl.Manifest(l, id)
			for _, box := range boxes {
				impl.PutInto(l, id, box)
			}
		}
		if after := whole(); !reflect.DeepEqual(after, before) {
			t.Fatal(after, before)
		}
	}
}
