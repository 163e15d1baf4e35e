package tests

import (
	"fmt"
	"math/rand"
	"reflect"
	"slices"
	"strconv"
	"strings"
	"testing"

	"loop.example/g03014/impl"
)

// A centre is written as its belt, its chutes, its inlets, its plan and its time, with ` | ` between them: an item as
// id:dest, the zero Item as a point, a chute as cell/room(items), an inlet as cell(items).
func textOf(c impl.Centre) string {
	var chutes, inlets, plan []string
	for _, h := range c.Chutes {
		chutes = append(chutes, fmt.Sprintf("%d/%d(%s)", h.Cell, h.Room, itemsText(h.Held, ",")))
	}
	for _, n := range c.Inlets {
		inlets = append(inlets, fmt.Sprintf("%d(%s)", n.Cell, itemsText(n.Wait, ",")))
	}
	for _, k := range c.Plan {
		plan = append(plan, strconv.Itoa(k))
	}
	return strings.Join([]string{itemsText(c.Belt, " "), strings.Join(chutes, " "), strings.Join(inlets, " "), strings.Join(plan, " "), strconv.Itoa(c.Now)}, " | ")
}

func itemsText(items []impl.Item, between string) string {
	var texts []string
	for _, x := range items {
		if x == (impl.Item{}) {
			texts = append(texts, ".")
		} else {
			texts = append(texts, fmt.Sprintf("%d:%d", x.Id, x.Dest))
		}
	}
	return strings.Join(texts, between)
}

func numberIn(s string) int {
	n, err := strconv.Atoi(s)
	if err != nil {
		panic(s)
	}
	return n
}

func itemOf(s string) impl.Item {
	if s == "." {
		return impl.Item{}
	}
	id, dest, _ := strings.Cut(s, ":")
	return impl.Item{Id: numberIn(id), Dest: numberIn(dest)}
}

// cutItems splits the text of a chute or an inlet at its brackets.
func cutItems(s string) (string, []impl.Item) {
	before, inside, _ := strings.Cut(strings.TrimSuffix(s, ")"), "(")
	var items []impl.Item
	for x := range strings.SplitSeq(inside, ",") {
		if x != "" {
			items = append(items, itemOf(x))
		}
	}
	return before, items
}

// centreOf reads what textOf writes.
func centreOf(s string) impl.Centre {
	parts := strings.Split(s, "|")
	c := impl.Centre{Now: numberIn(strings.TrimSpace(parts[4]))}
	for _, x := range strings.Fields(parts[0]) {
		c.Belt = append(c.Belt, itemOf(x))
	}
	for _, x := range strings.Fields(parts[1]) {
		before, held := cutItems(x)
		cell, room, _ := strings.Cut(before, "/")
		c.Chutes = append(c.Chutes, impl.Chute{Cell: numberIn(cell), Room: numberIn(room), Held: held})
	}
	for _, x := range strings.Fields(parts[2]) {
		cell, wait := cutItems(x)
		c.Inlets = append(c.Inlets, impl.Inlet{Cell: numberIn(cell), Wait: wait})
	}
	for _, x := range strings.Fields(parts[3]) {
		c.Plan = append(c.Plan, numberIn(x))
	}
	return c
}

// itemsUpTo are count items from an id on, each of the destination 0.
func itemsUpTo(count, from int) []impl.Item {
	var l []impl.Item
	for id := from; id < from+count; id++ {
		l = append(l, impl.Item{Id: id})
	}
	return l
}

func upTo(count int) []int {
	var l []int
	for i := range count {
		l = append(l, i)
	}
	return l
}

// longCentre has a belt with nothing on it, and so many chutes with this room, inlets and elements of the plan.
func longCentre(length, chutes, room, inlets, dests int) impl.Centre {
	c := impl.Centre{Belt: make([]impl.Item, length), Plan: make([]int, dests)}
	for cell := range chutes {
		c.Chutes = append(c.Chutes, impl.Chute{Cell: cell, Room: room})
	}
	for cell := range inlets {
		c.Inlets = append(c.Inlets, impl.Inlet{Cell: cell})
	}
	return c
}

func centreBut(s string, change func(c *impl.Centre)) impl.Centre {
	c := centreOf(s)
	change(&c)
	return c
}

// someCentre has two chutes, the first of which is full, two inlets, one of them at a chute's cell, and three destinations.
const someCentre = "1:0 . 2:1 3:2 . | 1/2(10:0,11:2) 3/3(12:1) | 3(20:1,21:0) 4(22:2) | 0 1 0 | 100"

func goodCentres() []impl.Centre {
	l := []impl.Centre{
		longCentre(2, 1, 1, 1, 1), longCentre(2, 2, 1, 2, 1), longCentre(3, 1, 1, 1, 1), longCentre(impl.MaxBelt-1, 1, 1, 1, 1), longCentre(impl.MaxBelt, 1, 1, 1, 1),
		longCentre(24, impl.MaxChutes, 1, impl.MaxInlets, impl.MaxDests), longCentre(6, 6, 20, 4, 8), longCentre(24, 6, impl.MaxWait, 4, 8),
		centreBut(someCentre, func(c *impl.Centre) { c.Inlets[0].Wait = itemsUpTo(impl.MaxWait, 100) }),
		centreBut(someCentre, func(c *impl.Centre) {
			c.Chutes[0].Room, c.Chutes[0].Held = impl.MaxWait, itemsUpTo(impl.MaxWait, 100)
		}),
		centreBut(someCentre, func(c *impl.Centre) { c.Plan = []int{1, 1, 1, 1, 1, 1, 1, 1}; c.Belt[1] = impl.Item{Id: 4, Dest: 7} }),
	}
	for _, s := range []string{
		someCentre,
		"1:0 2:0 | 0/1(3:0) | 0(4:0) | 0 | 0", "1:0 9999:0 | 1/1() | 1() | 0 | 100000", "9999:0 . | 0/1() | 0() | 0 | 1", ". . | 0/1(1:0) | 0(9999:0) | 0 | 99999",
		". . . | 2/1() 0/2() | 2() 0() | 1 0 | 0", "1:1 . . | 2/1() 0/2() | 2() 0() | 1 0 | 0", ". . | 1/1() | 0() | 0 0 0 | 0", "1:2 . | 1/1() | 0() | 0 0 0 | 0",
		// What is in the first chute goes to the second one now.
		". . . | 0/2(1:0,2:0) 1/1() | 0() | 1 | 0",
	} {
		l = append(l, centreOf(s))
	}
	return l
}

// badCentres are each wrong in one way only, but that a plan without chutes has nowhere to lead to, and a belt without cells has no cell of a chute.
func badCentres() []impl.Centre {
	l := []impl.Centre{
		{}, longCentre(24, 7, 1, 1, 1), longCentre(24, 0, 1, 1, 1), longCentre(24, 0, 1, 1, 0), longCentre(24, 1, 1, 0, 1), longCentre(24, 1, 1, 5, 1), longCentre(24, 1, 1, 1, 0), longCentre(24, 1, 1, 1, 9), longCentre(24, 1, 1, 1, 1000),
		longCentre(0, 1, 1, 1, 1), longCentre(0, 0, 0, 0, 0), longCentre(1, 1, 1, 1, 1), longCentre(25, 1, 1, 1, 1), longCentre(5000, 1, 1, 1, 1), longCentre(24, 24, 1, 1, 1), longCentre(24, 1, 1, 24, 1),
		longCentre(24, 1, 0, 1, 1), longCentre(24, 1, -1, 1, 1), longCentre(24, 1, 21, 1, 1), longCentre(24, 6, greatestInt, 1, 1), longCentre(24, 6, leastInt, 1, 1),
		centreBut(someCentre, func(c *impl.Centre) { c.Inlets[0].Wait = itemsUpTo(21, 100) }), centreBut(someCentre, func(c *impl.Centre) { c.Inlets[1].Wait = itemsUpTo(21, 100) }),
		centreBut(someCentre, func(c *impl.Centre) { c.Chutes[0].Room, c.Chutes[0].Held = 20, itemsUpTo(21, 100) }), centreBut(someCentre, func(c *impl.Centre) { c.Chutes[1].Room, c.Chutes[1].Held = 21, itemsUpTo(21, 100) }),
		centreBut(someCentre, func(c *impl.Centre) { c.Chutes[1].Held = itemsUpTo(4, 100) }), centreBut(someCentre, func(c *impl.Centre) { c.Chutes[1].Room = 0; c.Chutes[1].Held = nil }),
	}
	for _, now := range []int{-1, impl.MaxTime + 1, leastInt, greatestInt} {
		l = append(l, centreBut(someCentre, func(c *impl.Centre) { c.Now = now }))
	}
	for _, cell := range []int{-1, 5, leastInt, greatestInt} {
		l = append(l, centreBut(someCentre, func(c *impl.Centre) { c.Chutes[0].Cell = cell }), centreBut(someCentre, func(c *impl.Centre) { c.Chutes[1].Cell = cell }))
		l = append(l, centreBut(someCentre, func(c *impl.Centre) { c.Inlets[0].Cell = cell }), centreBut(someCentre, func(c *impl.Centre) { c.Inlets[1].Cell = cell }))
	}
	l = append(l, centreBut(someCentre, func(c *impl.Centre) { c.Chutes[1].Cell = 1 }), centreBut(someCentre, func(c *impl.Centre) { c.Inlets[1].Cell = 3 }))
	for _, k := range []int{-1, 2, leastInt, greatestInt} {
		for dest := range 3 {
			l = append(l, centreBut(someCentre, func(c *impl.Centre) { c.Plan[dest] = k }))
		}
	}
	// What is no item, in each of the places.
	for _, s := range []string{"0:1", "-1:0", "10000:0", "-1:-1", "30:-1", "30:3", "30:9", "0:3", "0:-1", "9223372036854775807:0", "30:9223372036854775807", "30:-9223372036854775808", "-9223372036854775808:0"} {
		l = append(l, withItem(0, itemOf(s)), withItem(1, itemOf(s)), withItem(2, itemOf(s)))
	}
	// A zero Item is one only where there are no cells.
	l = append(l, withItem(1, impl.Item{}), withItem(2, impl.Item{}))
	// The same Id twice: one of the belt, of each chute and of each inlet, in each of the places.
	for _, id := range []int{1, 3, 10, 11, 12, 20, 21, 22} {
		for place := range 3 {
			l = append(l, withItem(place, impl.Item{Id: id}), withItem(place, impl.Item{Id: id, Dest: 2}))
		}
	}
	return l
}

// withItem puts an item on the belt of someCentre, into its last chute, or before its last inlet.
func withItem(place int, x impl.Item) impl.Centre {
	return centreBut(someCentre, func(c *impl.Centre) {
		switch place {
		case 0:
			c.Belt[4] = x
		case 1:
			c.Chutes[1].Held = append(c.Chutes[1].Held, x)
		case 2:
			c.Inlets[1].Wait = append(c.Inlets[1].Wait, x)
		}
	})
}

func sameItems(a, b impl.Centre) bool {
	return slices.Equal(a.Belt, b.Belt) &&
		slices.EqualFunc(a.Chutes, b.Chutes, func(x, y impl.Chute) bool {
			return x.Cell == y.Cell && x.Room == y.Room && slices.Equal(x.Held, y.Held)
		}) &&
		slices.EqualFunc(a.Inlets, b.Inlets, func(x, y impl.Inlet) bool { return x.Cell == y.Cell && slices.Equal(x.Wait, y.Wait) })
}

func sameCentre(a, b impl.Centre) bool {
	return sameItems(a, b) && slices.Equal(a.Plan, b.Plan) && a.Now == b.Now
}

// copied is a centre of the test's own.
func copied(c impl.Centre) impl.Centre {
	c.Belt, c.Chutes, c.Inlets, c.Plan = slices.Clone(c.Belt), slices.Clone(c.Chutes), slices.Clone(c.Inlets), slices.Clone(c.Plan)
	for k := range c.Chutes {
		c.Chutes[k].Held = slices.Clone(c.Chutes[k].Held)
	}
	for k := range c.Inlets {
		c.Inlets[k].Wait = slices.Clone(c.Inlets[k].Wait)
	}
	return c
}

// allItems lists also what is no item but has a Dest.
func allItems(c impl.Centre) []impl.Item {
	var l []impl.Item
	for _, x := range c.Belt {
		if x.Id != 0 || x.Dest != 0 {
			l = append(l, x)
		}
	}
	for _, h := range c.Chutes {
		l = append(l, h.Held...)
	}
	for _, n := range c.Inlets {
		l = append(l, n.Wait...)
	}
	return l
}

func isWantedCentre(c impl.Centre) bool {
	if len(c.Belt) < 2 || len(c.Belt) > 24 || len(c.Chutes) < 1 || len(c.Chutes) > 6 || len(c.Inlets) < 1 || len(c.Inlets) > 4 || len(c.Plan) < 1 || len(c.Plan) > 8 || c.Now < 0 || c.Now > 100000 {
		return false
	}
	chutesIn, inletsIn := map[int]int{}, map[int]int{}
	for _, h := range c.Chutes {
		chutesIn[h.Cell]++
		if h.Cell < 0 || h.Cell >= len(c.Belt) || chutesIn[h.Cell] > 1 || h.Room < 1 || h.Room > 20 || len(h.Held) > h.Room {
			return false
		}
	}
	for _, n := range c.Inlets {
		inletsIn[n.Cell]++
		if n.Cell < 0 || n.Cell >= len(c.Belt) || inletsIn[n.Cell] > 1 || len(n.Wait) > 20 {
			return false
		}
	}
	if slices.Min(c.Plan) < 0 || slices.Max(c.Plan) >= len(c.Chutes) {
		return false
	}
	all := allItems(c)
	for i, x := range all {
		if x.Id < 1 || x.Id > 9999 || x.Dest < 0 || x.Dest >= len(c.Plan) || slices.ContainsFunc(all[:i], func(y impl.Item) bool { return x.Id == y.Id }) {
			return false
		}
	}
	return true
}

// wantedRun turns the chutes and the inlets below a belt that stands still, whatever the time is.
func wantedRun(c impl.Centre, ticks int) impl.Centre {
	c = copied(c)
	length := len(c.Belt)
	still := slices.Clone(c.Belt)
	over := func(cell, turned int) *impl.Item { return &still[((cell-turned)%length+length)%length] }
	for turned := 1; turned <= ticks; turned++ {
		for k, h := range c.Chutes {
			x := over(h.Cell, turned)
			if x.Id > 0 && c.Plan[x.Dest] == k && len(h.Held) < h.Room {
				c.Chutes[k].Held = append(h.Held, *x)
				*x = impl.Item{}
			}
		}
		for k, n := range c.Inlets {
			x := over(n.Cell, turned)
			if x.Id == 0 && len(n.Wait) > 0 {
				*x, c.Inlets[k].Wait = n.Wait[0], n.Wait[1:]
			}
		}
	}
	for cell := range length {
		c.Belt[cell] = *over(cell, ticks)
	}
	c.Now += ticks
	return c
}

func isEmpty(c impl.Centre) bool {
	for _, n := range c.Inlets {
		if len(n.Wait) > 0 {
			return false
		}
	}
	return !slices.ContainsFunc(c.Belt, func(x impl.Item) bool { return x.Id != 0 })
}

// wantedStuck says whether nothing falls and nothing enters in a whole turn.
func wantedStuck(c impl.Centre) bool {
	turned := wantedRun(c, len(c.Belt))
	return !isEmpty(c) && sameItems(c, turned)
}

func wantedDrain(c impl.Centre, most int) int {
	for ticks := range most + 1 {
		if isEmpty(wantedRun(c, ticks)) {
			return ticks
		}
	}
	return -1
}

func wantedPlace(c impl.Centre, id int) (int, int) {
	isIt := func(x impl.Item) bool { return x.Id == id && id != 0 }
	for k, n := range c.Inlets {
		if slices.ContainsFunc(n.Wait, isIt) {
			return 3, k
		}
	}
	for k, h := range c.Chutes {
		if slices.ContainsFunc(h.Held, isIt) {
			return 2, k
		}
	}
	if cell := slices.IndexFunc(c.Belt, isIt); cell >= 0 {
		return 1, cell
	}
	return 0, 0
}

func TestBeltConstants(t *testing.T) {
	got := []int{impl.MaxBelt, impl.MaxChutes, impl.MaxInlets, impl.MaxWait, impl.MaxDests, impl.AtNowhere, impl.AtBelt, impl.AtChute, impl.AtInlet}
	if !slices.Equal(got, []int{24, 6, 4, 20, 8, 0, 1, 2, 3}) {
		t.Error(got)
	}
}

func TestIsCentre(t *testing.T) {
	for _, c := range goodCentres() {
		if !impl.IsCentre(c) || !isWantedCentre(c) {
			t.Error(textOf(c))
		}
	}
}

// checkNoCentre asks for everything that the centre would do if it were valid.
func checkNoCentre(t *testing.T, c impl.Centre) {
	t.Helper()
	what := textOf(c)
	if a, b := impl.IsDrained(c), impl.IsStuck(c); a || b {
		t.Error(what, a, b)
	}
	for _, most := range []int{0, 1, 50, 1000} {
		if got := impl.TicksToDrain(c, most); got != -1 {
			t.Error(what, most, got)
		}
		if got := impl.RunCentre(c, most); !sameCentre(got, c) {
			t.Error(what, most, textOf(got))
		}
	}
	if got := impl.TickCentre(c); !sameCentre(got, c) {
		t.Error(what, textOf(got))
	}
	for k := range 2 {
		if got, ok := impl.FeedCentre(c, k, impl.Item{Id: 9000}); ok || !sameCentre(got, c) {
			t.Error(what, textOf(got), ok)
		}
		if got, held := impl.ClearChute(c, k); len(held) != 0 || !sameCentre(got, c) {
			t.Error(what, textOf(got), held)
		}
		if got, ok := impl.SetPlan(c, k, 1-k); ok || !sameCentre(got, c) {
			t.Error(what, textOf(got), ok)
		}
		if got := impl.CellsTo(c, k, 0); got != -1 {
			t.Error(what, got)
		}
	}
	if got := impl.ItemsIn(c); len(got) != 0 {
		t.Error(what, got)
	}
	for _, id := range []int{0, 1, 2, 10, 12, 20, 22, 30, -1, 10000} {
		if at, i := impl.WhereIs(c, id); at != impl.AtNowhere || i != 0 {
			t.Error(what, id, at, i)
		}
	}
}

func TestNothingMovesInABadCentre(t *testing.T) {
	for _, c := range badCentres() {
		if impl.IsCentre(c) || isWantedCentre(c) {
			t.Error(textOf(c))
		}
		checkNoCentre(t, c)
	}
}

func TestNewCentre(t *testing.T) {
	for _, c := range []struct {
		length int
		chutes []int
		room   int
		inlets []int
		plan   []int
		want   string
	}{
		{4, []int{2}, 2, []int{0}, []int{0}, ". . . . | 2/2() | 0() | 0 | 0"},
		{2, []int{1}, 1, []int{1}, []int{0}, ". . | 1/1() | 1() | 0 | 0"},
		{2, []int{1, 0}, impl.MaxWait, []int{0, 1}, []int{1, 0, 1}, ". . | 1/20() 0/20() | 0() 1() | 1 0 1 | 0"},
		{impl.MaxBelt, []int{23, 0}, 3, []int{23}, []int{1}, strings.Repeat(". ", 24) + "| 23/3() 0/3() | 23() | 1 | 0"},
		{6, []int{5, 3, 1, 0, 2, 4}, 1, []int{4, 3, 5, 0}, []int{5, 0, 1, 2, 3, 4, 5, 5}, ". . . . . . | 5/1() 3/1() 1/1() 0/1() 2/1() 4/1() | 4() 3() 5() 0() | 5 0 1 2 3 4 5 5 | 0"},
	} {
		got, ok := impl.NewCentre(c.length, c.chutes, c.room, c.inlets, c.plan)
		if !ok || textOf(got) != c.want || !impl.IsCentre(got) || !impl.IsDrained(got) {
			t.Error(c, textOf(got), ok)
		}
	}
}

func TestNoNewCentre(t *testing.T) {
	one := []int{0}
	for _, c := range []struct {
		length int
		chutes []int
		room   int
		inlets []int
		plan   []int
	}{
		{0, one, 1, one, one}, {1, one, 1, one, one}, {impl.MaxBelt + 1, one, 1, one, one}, {-1, one, 1, one, one}, {leastInt, one, 1, one, one}, {greatestInt, one, 1, one, one}, {0, nil, 0, nil, nil}, {1 << 40, one, 1, one, one},
		{4, nil, 1, one, one}, {4, []int{}, 1, one, nil}, {24, upTo(impl.MaxChutes + 1), 1, one, one}, {24, upTo(24), 1, one, one}, {4, []int{1, 1}, 1, one, one}, {4, []int{1, 2, 1}, 1, one, one}, {4, []int{-1}, 1, one, one}, {4, []int{4}, 1, one, one}, {4, []int{0, 4}, 1, one, one}, {4, []int{leastInt}, 1, one, one}, {4, []int{greatestInt}, 1, one, one},
		{4, one, 0, one, one}, {4, one, -1, one, one}, {4, one, impl.MaxWait + 1, one, one}, {4, one, leastInt, one, one}, {4, one, greatestInt, one, one},
		{4, one, 1, nil, one}, {24, one, 1, upTo(impl.MaxInlets + 1), one}, {4, one, 1, []int{3, 3}, one}, {4, one, 1, []int{3, 2, 3}, one}, {4, one, 1, []int{-1}, one}, {4, one, 1, []int{4}, one}, {4, one, 1, []int{0, greatestInt}, one},
		{4, one, 1, one, nil}, {4, one, 1, one, make([]int, impl.MaxDests+1)}, {4, one, 1, one, make([]int, 5000)}, {4, one, 1, one, []int{-1}}, {4, one, 1, one, []int{1}}, {4, []int{0, 1}, 1, one, []int{0, 1, 2}}, {4, []int{0, 1}, 1, one, []int{0, 1, leastInt}},
	} {
		if got, ok := impl.NewCentre(c.length, c.chutes, c.room, c.inlets, c.plan); ok || !sameCentre(got, impl.Centre{}) {
			t.Error(c, textOf(got), ok)
		}
	}
}

// checkRuns checks one tick after the other: each line is the centre a tick behind the one before.
func checkRuns(t *testing.T, lines ...string) {
	t.Helper()
	first := centreOf(lines[0])
	c := first
	for ticks, want := range lines {
		if !impl.IsCentre(c) || textOf(c) != want {
			t.Error(ticks, textOf(c), "not", want)
		}
		if got := impl.RunCentre(first, ticks); textOf(got) != want {
			t.Error(ticks, textOf(got), "not", want)
		}
		c = impl.TickCentre(c)
	}
}

func TestItemsTurnWithTheBelt(t *testing.T) {
	checkRuns(t,
		"1:0 2:1 . 3:0 | 0/1(9:0) 2/1(8:1) | 1() | 0 1 | 5",
		"3:0 1:0 2:1 . | 0/1(9:0) 2/1(8:1) | 1() | 0 1 | 6",
		". 3:0 1:0 2:1 | 0/1(9:0) 2/1(8:1) | 1() | 0 1 | 7",
		"2:1 . 3:0 1:0 | 0/1(9:0) 2/1(8:1) | 1() | 0 1 | 8",
		"1:0 2:1 . 3:0 | 0/1(9:0) 2/1(8:1) | 1() | 0 1 | 9")
	checkRuns(t,
		"1:0 . | 0/1(2:0) | 0() | 0 | 0",
		". 1:0 | 0/1(2:0) | 0() | 0 | 1",
		"1:0 . | 0/1(2:0) | 0() | 0 | 2")
}

func TestItemsFallIntoTheirChutes(t *testing.T) {
	// The first chutes that the items pass are not their own.
	checkRuns(t,
		"1:1 2:0 . . . | 2/2() 3/2() | 0() | 0 1 | 0",
		". 1:1 . . . | 2/2(2:0) 3/2() | 0() | 0 1 | 1",
		". . 1:1 . . | 2/2(2:0) 3/2() | 0() | 0 1 | 2",
		". . . . . | 2/2(2:0) 3/2(1:1) | 0() | 0 1 | 3",
		". . . . . | 2/2(2:0) 3/2(1:1) | 0() | 0 1 | 4")
	// From the last cell to the first one, and to the end of Held.
	checkRuns(t,
		". . 7:0 | 0/3(9:0,3:0) | 1() | 0 | 0",
		". . . | 0/3(9:0,3:0,7:0) | 1() | 0 | 1")
	// An item that is in the chute's cell falls only after it has moved once around.
	checkRuns(t,
		". 1:0 . | 1/1() | 0() | 0 | 0",
		". . 1:0 | 1/1() | 0() | 0 | 1",
		"1:0 . . | 1/1() | 0() | 0 | 2",
		". . . | 1/1(1:0) | 0() | 0 | 3")
	// What passes its chute while it is full.
	checkRuns(t,
		"1:0 2:0 . | 2/1() | 0() | 0 | 0",
		". 1:0 . | 2/1(2:0) | 0() | 0 | 1",
		". . 1:0 | 2/1(2:0) | 0() | 0 | 2",
		"1:0 . . | 2/1(2:0) | 0() | 0 | 3")
	// Two chutes, and three, in one tick, each with its own item; two destinations of one chute.
	checkRuns(t,
		"1:0 2:1 3:2 4:2 | 2/1() 1/1() 3/2() | 0() | 1 0 2 | 0",
		"4:2 . . . | 2/1(2:1) 1/1(1:0) 3/2(3:2) | 0() | 1 0 2 | 1",
		". 4:2 . . | 2/1(2:1) 1/1(1:0) 3/2(3:2) | 0() | 1 0 2 | 2",
		". . 4:2 . | 2/1(2:1) 1/1(1:0) 3/2(3:2) | 0() | 1 0 2 | 3",
		". . . . | 2/1(2:1) 1/1(1:0) 3/2(3:2,4:2) | 0() | 1 0 2 | 4")
	checkRuns(t,
		"1:0 2:1 . . | 2/2() | 0() | 0 0 | 0",
		". 1:0 . . | 2/2(2:1) | 0() | 0 0 | 1",
		". . . . | 2/2(2:1,1:0) | 0() | 0 0 | 2")
}

func TestItemsEnterFromInlets(t *testing.T) {
	// From the front, in their order.
	checkRuns(t,
		". . . . | 3/1() | 0(5:0,2:0,9:0) | 0 | 0",
		"5:0 . . . | 3/1() | 0(2:0,9:0) | 0 | 1",
		"2:0 5:0 . . | 3/1() | 0(9:0) | 0 | 2",
		"9:0 2:0 5:0 . | 3/1() | 0() | 0 | 3",
		". 9:0 2:0 . | 3/1(5:0) | 0() | 0 | 4")
	// Several inlets in one tick, and one whose cell is taken.
	checkRuns(t,
		". . 4:0 . . | 4/1(9:0) | 2(1:0) 3(2:0) 0(3:0) | 0 | 0",
		"3:0 . 1:0 4:0 . | 4/1(9:0) | 2() 3(2:0) 0() | 0 | 1",
		". 3:0 . 1:0 4:0 | 4/1(9:0) | 2() 3(2:0) 0() | 0 | 2",
		"4:0 . 3:0 2:0 1:0 | 4/1(9:0) | 2() 3() 0() | 0 | 3")
	// The belt moves before: the inlet's cell is empty, then is taken, and the other way.
	checkRuns(t,
		"4:0 . | 0/1(9:0) | 0(1:0) 1(2:0) | 0 | 0",
		"1:0 4:0 | 0/1(9:0) | 0() 1(2:0) | 0 | 1",
		"4:0 1:0 | 0/1(9:0) | 0() 1(2:0) | 0 | 2")
}

func TestChutesComeBeforeInlets(t *testing.T) {
	// What falls makes room in its cell for the inlet there in the same tick; what enters there goes once around.
	checkRuns(t,
		". 1:0 . . | 2/3() | 2(2:0,3:0) | 0 | 0",
		". . 2:0 . | 2/3(1:0) | 2(3:0) | 0 | 1",
		". . 3:0 2:0 | 2/3(1:0) | 2() | 0 | 2",
		"2:0 . . 3:0 | 2/3(1:0) | 2() | 0 | 3",
		"3:0 2:0 . . | 2/3(1:0) | 2() | 0 | 4",
		". 3:0 . . | 2/3(1:0,2:0) | 2() | 0 | 5",
		". . . . | 2/3(1:0,2:0,3:0) | 2() | 0 | 6")
	// Fed to an empty belt.
	checkRuns(t,
		". . . | 1/1() | 1(7:0) | 0 | 0",
		". 7:0 . | 1/1() | 1() | 0 | 1",
		". . 7:0 | 1/1() | 1() | 0 | 2",
		"7:0 . . | 1/1() | 1() | 0 | 3",
		". . . | 1/1(7:0) | 1() | 0 | 4")
	// An inlet at an earlier chute's cell, and one at a later chute's.
	checkRuns(t,
		"1:0 2:1 . . | 1/1() 2/1() | 1(3:1) 2(4:0) | 0 1 | 0",
		". 3:1 4:0 . | 1/1(1:0) 2/1(2:1) | 1() 2() | 0 1 | 1",
		". . 3:1 4:0 | 1/1(1:0) 2/1(2:1) | 1() 2() | 0 1 | 2")
	// Where the chute is full, its cell stays taken.
	checkRuns(t,
		"1:0 . | 1/1(5:0) | 1(2:0) | 0 | 0",
		". 1:0 | 1/1(5:0) | 1(2:0) | 0 | 1",
		"1:0 2:0 | 1/1(5:0) | 1() | 0 | 2")
}

func TestRunCentre(t *testing.T) {
	c := centreOf("1:0 2:1 . . . | 3/2() 1/1(9:1) | 0(5:1,6:0) | 0 1 | 0")
	for _, ticks := range []int{0, 1, 2, 3, 4, 5, 6, 999, 1000} {
		if got := impl.RunCentre(c, ticks); !sameCentre(got, wantedRun(c, ticks)) || got.Now != ticks {
			t.Error(ticks, textOf(got))
		}
	}
	for _, ticks := range []int{-1, 1001, -1000, leastInt, greatestInt, impl.MaxTime} {
		if got := impl.RunCentre(c, ticks); !sameCentre(got, c) {
			t.Error(ticks, textOf(got))
		}
	}
	for _, x := range []struct {
		now, ticks int
		moved      bool
	}{
		{impl.MaxTime, 0, false}, {impl.MaxTime, 1, false}, {impl.MaxTime, 1000, false}, {impl.MaxTime - 1, 1, true}, {impl.MaxTime - 1, 2, false}, {impl.MaxTime - 7, 7, true}, {impl.MaxTime - 7, 8, false}, {impl.MaxTime - 1000, 1000, true}, {impl.MaxTime - 999, 1000, false}, {impl.MaxTime - 7, greatestInt, false},
	} {
		c.Now = x.now
		want := c
		if x.moved {
			want = wantedRun(c, x.ticks)
		}
		if got := impl.RunCentre(c, x.ticks); !sameCentre(got, want) {
			t.Error(x, textOf(got))
		}
	}
	c.Now = impl.MaxTime
	if got := impl.TickCentre(c); !sameCentre(got, c) {
		t.Error(textOf(got))
	}
	c.Now--
	if got := impl.TickCentre(c); !sameCentre(got, wantedRun(c, 1)) || got.Now != impl.MaxTime {
		t.Error(textOf(got))
	}
}

func TestFeedCentre(t *testing.T) {
	c := centreOf(someCentre)
	for _, x := range []struct {
		inlet int
		item  string
		want  string
	}{
		{0, "4:0", "1:0 . 2:1 3:2 . | 1/2(10:0,11:2) 3/3(12:1) | 3(20:1,21:0,4:0) 4(22:2) | 0 1 0 | 100"},
		{1, "9999:2", "1:0 . 2:1 3:2 . | 1/2(10:0,11:2) 3/3(12:1) | 3(20:1,21:0) 4(22:2,9999:2) | 0 1 0 | 100"},
	} {
		if got, ok := impl.FeedCentre(c, x.inlet, itemOf(x.item)); !ok || textOf(got) != x.want {
			t.Error(x, textOf(got), ok)
		}
	}
	for _, x := range []struct {
		inlet int
		item  impl.Item
	}{
		{-1, impl.Item{Id: 4}}, {2, impl.Item{Id: 4}}, {leastInt, impl.Item{Id: 4}}, {greatestInt, impl.Item{Id: 4}}, {0, impl.Item{}}, {0, impl.Item{Dest: 1}}, {0, impl.Item{Id: -1}}, {0, impl.Item{Id: impl.MaxId + 1}}, {0, impl.Item{Id: greatestInt}}, {1, impl.Item{Id: 4, Dest: -1}}, {1, impl.Item{Id: 4, Dest: 3}}, {1, impl.Item{Id: 4, Dest: greatestInt}},
		// On the belt, in a chute, before this inlet and before the other one.
		{0, impl.Item{Id: 1}}, {0, impl.Item{Id: 2, Dest: 1}}, {0, impl.Item{Id: 10}}, {0, impl.Item{Id: 12, Dest: 2}}, {0, impl.Item{Id: 20}}, {0, impl.Item{Id: 21}}, {0, impl.Item{Id: 22}}, {1, impl.Item{Id: 21}}, {1, impl.Item{Id: 22, Dest: 2}},
	} {
		if got, ok := impl.FeedCentre(c, x.inlet, x.item); ok || !sameCentre(got, c) {
			t.Error(x, textOf(got), ok)
		}
	}
	for count := 18; count <= 20; count++ {
		full := centreBut(someCentre, func(c *impl.Centre) { c.Inlets[1].Wait = itemsUpTo(count, 100) })
		got, ok := impl.FeedCentre(full, 1, impl.Item{Id: 4, Dest: 1})
		if ok != (count < impl.MaxWait) || !ok && !sameCentre(got, full) || ok && !slices.Equal(got.Inlets[1].Wait, append(itemsUpTo(count, 100), impl.Item{Id: 4, Dest: 1})) {
			t.Error(count, textOf(got), ok)
		}
		if got, ok := impl.FeedCentre(full, 0, impl.Item{Id: 4}); !ok || len(got.Inlets[0].Wait) != 3 || len(got.Inlets[1].Wait) != count {
			t.Error(count, textOf(got), ok)
		}
	}
}

func TestClearChute(t *testing.T) {
	for _, x := range []struct {
		before string
		chute  int
		after  string
		held   string
	}{
		{someCentre, 0, "1:0 . 2:1 3:2 . | 1/2() 3/3(12:1) | 3(20:1,21:0) 4(22:2) | 0 1 0 | 100", "10:0,11:2"},
		{someCentre, 1, "1:0 . 2:1 3:2 . | 1/2(10:0,11:2) 3/3() | 3(20:1,21:0) 4(22:2) | 0 1 0 | 100", "12:1"},
		{someCentre, 2, someCentre, ""}, {someCentre, -1, someCentre, ""}, {someCentre, leastInt, someCentre, ""}, {someCentre, greatestInt, someCentre, ""},
		{"1:0 . | 0/2() 1/1(2:0) | 0() | 0 | 7", 0, "1:0 . | 0/2() 1/1(2:0) | 0() | 0 | 7", ""},
		{"1:0 . | 0/4(9:0,2:0,7:0,3:0) | 0(8:0) | 0 | 100000", 0, "1:0 . | 0/4() | 0(8:0) | 0 | 100000", "9:0,2:0,7:0,3:0"},
	} {
		got, held := impl.ClearChute(centreOf(x.before), x.chute)
		if textOf(got) != x.after || itemsText(held, ",") != x.held {
			t.Error(x, textOf(got), held)
		}
	}
}

func TestSetPlan(t *testing.T) {
	for _, x := range []struct{ dest, chute int }{{-1, 0}, {3, 0}, {0, -1}, {0, 2}, {3, 2}, {-1, -1}, {leastInt, 0}, {greatestInt, 0}, {0, leastInt}, {0, greatestInt}} {
		if got, ok := impl.SetPlan(centreOf(someCentre), x.dest, x.chute); ok || textOf(got) != someCentre {
			t.Error(x, textOf(got), ok)
		}
	}
	for _, x := range []struct {
		dest, chute int
		plan        []int
	}{{0, 0, []int{0, 1, 0}}, {0, 1, []int{1, 1, 0}}, {1, 0, []int{0, 0, 0}}, {2, 1, []int{0, 1, 1}}, {1, 1, []int{0, 1, 0}}} {
		want := centreBut(someCentre, func(c *impl.Centre) { c.Plan = x.plan })
		if got, ok := impl.SetPlan(centreOf(someCentre), x.dest, x.chute); !ok || !sameCentre(got, want) {
			t.Error(x, textOf(got), ok)
		}
	}
	// What is in the chute stays there; what is on the belt and waits goes to the other one from now on.
	c, ok := impl.SetPlan(centreOf("1:0 . . . | 1/3(8:0,9:0) 3/3() | 0(2:0) | 0 | 0"), 0, 1)
	if !ok {
		t.Error("not planned")
	}
	checkRuns(t, textOf(c),
		"2:0 1:0 . . | 1/3(8:0,9:0) 3/3() | 0() | 1 | 1",
		". 2:0 1:0 . | 1/3(8:0,9:0) 3/3() | 0() | 1 | 2",
		". . 2:0 . | 1/3(8:0,9:0) 3/3(1:0) | 0() | 1 | 3",
		". . . . | 1/3(8:0,9:0) 3/3(1:0,2:0) | 0() | 1 | 4")
}

func TestWhatIsInACentre(t *testing.T) {
	for s, want := range map[string][]int{
		someCentre:                  {1, 2, 3, 10, 11, 12, 20, 21, 22},
		". . | 0/1() | 0() | 0 | 0": nil, "7:0 . | 0/1() | 0() | 0 | 0": {7}, ". . | 0/1(7:0) | 0() | 0 | 0": {7}, ". . | 0/1() | 0(7:0) | 0 | 0": {7},
		"9:0 4:0 | 0/3(8:0,1:0) 1/1(6:0) | 0(9999:0,2:0) 1(3:0) | 0 | 0": {1, 2, 3, 4, 6, 8, 9, 9999},
	} {
		if got := impl.ItemsIn(centreOf(s)); !slices.Equal(got, want) {
			t.Error(s, got)
		}
	}
	c := centreOf(someCentre)
	for id, want := range map[int][2]int{
		1: {impl.AtBelt, 0}, 2: {impl.AtBelt, 2}, 3: {impl.AtBelt, 3}, 10: {impl.AtChute, 0}, 11: {impl.AtChute, 0}, 12: {impl.AtChute, 1}, 20: {impl.AtInlet, 0}, 21: {impl.AtInlet, 0}, 22: {impl.AtInlet, 1},
		0: {}, 4: {}, 9999: {}, -1: {}, 10000: {}, leastInt: {}, greatestInt: {},
	} {
		if at, i := impl.WhereIs(c, id); [2]int{at, i} != want {
			t.Error(id, at, i)
		}
	}
	for _, s := range []string{". 5:0 | 0/1() | 0() | 0 | 0", ". . | 0/1(5:0) | 0() | 0 | 0", ". . | 0/1() | 0(5:0) | 0 | 0"} {
		if at, i := impl.WhereIs(centreOf(s), 0); at != impl.AtNowhere || i != 0 {
			t.Error(s, at, i)
		}
	}
}

// These two functions ask for no range and no order.
func TestCountsOfAnyCentre(t *testing.T) {
	for _, x := range []struct {
		centre     string
		belt, wait int
	}{
		{someCentre, 3, 3}, {". . | 0/1(1:0) | 0() | 0 | 0", 0, 0}, {" | | | | 0", 0, 0}, {"1:0 | | | | -7", 1, 0}, {"1:0 1:0 0:5 -3:9 . 10000:0 | -1/-1(4:4,4:4) | -1(.,.,1:0) -1(0:3,-3:0) | 77 | -1", 4, 5},
	} {
		c := centreOf(x.centre)
		if a, b := impl.CountBelt(c), impl.CountWait(c); a != x.belt || b != x.wait {
			t.Error(x, a, b)
		}
	}
	c := longCentre(5000, 1, 1, 30, 1)
	c.Belt[4999].Id, c.Inlets[29].Wait = leastInt, itemsUpTo(3000, -1500)
	if a, b := impl.CountBelt(c), impl.CountWait(c); a != 1 || b != 3000 {
		t.Error(a, b)
	}
}

func TestCellsTo(t *testing.T) {
	c := centreOf(someCentre)
	for _, x := range []struct{ cell, chute, want int }{
		{1, 0, 5}, {0, 0, 1}, {4, 0, 2}, {3, 0, 3}, {2, 0, 4}, {3, 1, 5}, {2, 1, 1}, {4, 1, 4}, {0, 1, 3}, {1, 1, 2},
		{-1, 0, -1}, {5, 0, -1}, {leastInt, 0, -1}, {greatestInt, 0, -1}, {0, -1, -1}, {0, 2, -1}, {0, leastInt, -1}, {0, greatestInt, -1}, {-1, -1, -1}, {5, 2, -1},
	} {
		if got := impl.CellsTo(c, x.cell, x.chute); got != x.want {
			t.Error(x, got)
		}
	}
	for length := 2; length <= impl.MaxBelt; length++ {
		for chute := range length {
			c := longCentre(length, 1, 1, 1, 1)
			c.Chutes[0].Cell = chute
			for cell := range length {
				c.Belt = make([]impl.Item, length)
				c.Belt[cell] = impl.Item{Id: 1}
				ticks := 1
				for len(wantedRun(c, ticks).Chutes[0].Held) == 0 {
					ticks++
				}
				if got := impl.CellsTo(c, cell, 0); got != ticks {
					t.Error(length, chute, cell, got, ticks)
				}
			}
		}
	}
}

func TestIsDrainedAndIsStuck(t *testing.T) {
	for _, x := range []struct {
		centre         string
		drained, stuck bool
	}{
		{". . | 0/1() | 0() | 0 | 0", true, false}, {". . | 0/1(1:0) | 0() | 0 | 0", true, false}, {". . | 0/2(1:0,2:0) 1/1(3:0) | 0() | 0 | 100000", true, false},
		{"1:0 . | 0/1() | 0() | 0 | 0", false, false}, {". 1:0 | 0/1() | 0() | 0 | 0", false, false}, {". . | 0/1() | 0(1:0) | 0 | 0", false, false}, {". . | 0/1() | 0() 1(1:0) | 0 | 0", false, false},
		// The chute is full, and nothing waits.
		{"1:0 . | 0/1(2:0) | 0() | 0 | 0", false, true}, {". 1:0 | 0/1(2:0) | 0() | 0 | 0", false, true}, {"1:0 3:0 | 0/1(2:0) | 0() | 0 | 100000", false, true}, {"1:0 . | 0/2(2:0,3:0) | 0() | 0 | 0", false, true},
		{"1:0 . | 0/2(2:0) | 0() | 0 | 0", false, false},
		// It is full, and something waits: at a full belt, and at an empty cell.
		{"1:0 3:0 | 0/1(2:0) | 0(4:0) | 0 | 0", false, true}, {"1:0 3:0 | 0/1(2:0) | 0() 1(4:0) | 0 | 0", false, true}, {"1:0 . | 0/1(2:0) | 0(4:0) | 0 | 0", false, false}, {". 1:0 | 0/1(2:0) | 0() 1(4:0) | 0 | 0", false, false}, {". . | 0/1(2:0) | 0(4:0) | 0 | 0", false, false},
		{"1:0 3:0 | 0/2(2:0) | 0(4:0) | 0 | 0", false, false},
		// Two chutes: of one item, of two items, of none.
		{"1:0 . | 0/1(2:0) 1/1() | 0() | 0 1 | 0", false, true}, {"1:1 . | 0/1(2:0) 1/1() | 0() | 0 1 | 0", false, false}, {"1:0 3:1 | 0/1(2:0) 1/1() | 0() | 0 1 | 0", false, false}, {"3:1 1:0 | 0/1(2:0) 1/1() | 0(4:0) | 0 1 | 0", false, false}, {"1:0 3:1 | 0/1(2:0) 1/1(5:0) | 0() | 0 1 | 0", false, true}, {"1:0 3:1 | 0/1(2:0) 1/1(5:0) | 0(6:1) | 0 1 | 0", false, true},
		{"1:0 3:1 | 0/1() 1/1(5:0) | 0() | 1 1 | 0", false, true}, {"1:0 3:1 | 0/1() 1/1(5:0) | 0() | 1 0 | 0", false, false},
	} {
		c := centreOf(x.centre)
		if a, b := impl.IsDrained(c), impl.IsStuck(c); a != x.drained || b != x.stuck || wantedStuck(c) != b {
			t.Error(x, a, b)
		}
	}
}

func TestTicksToDrain(t *testing.T) {
	for _, x := range []struct {
		centre     string
		most, want int
	}{
		{". . | 0/1() | 0() | 0 | 0", 0, 0}, {". . | 0/1(1:0) | 0() | 0 | 0", 1000, 0}, {". . | 0/1() | 0() | 0 | 100000", 0, 0}, {". . | 0/1() | 0() | 0 | 0", -1, -1}, {". . | 0/1() | 0() | 0 | 0", 1001, -1}, {". . | 0/1() | 0() | 0 | 0", leastInt, -1}, {". . | 0/1() | 0() | 0 | 0", greatestInt, -1},
		{"1:0 . | 1/1() | 0() | 0 | 0", 0, -1}, {"1:0 . | 1/1() | 0() | 0 | 0", 1, 1}, {"1:0 . | 1/1() | 0() | 0 | 0", 2, 1}, {"1:0 . | 1/1() | 0() | 0 | 0", 1000, 1}, {"1:0 . | 1/1() | 0() | 0 | 0", 1001, -1}, {"1:0 . | 1/1() | 0() | 0 | 0", -1, -1},
		{". . . | 1/1() | 1(7:0) | 0 | 0", 3, -1}, {". . . | 1/1() | 1(7:0) | 0 | 0", 4, 4}, {". . . | 1/1() | 1(7:0) | 0 | 0", 5, 4},
		// Time does not matter, neither at its end nor beyond.
		{"1:0 . | 1/1() | 0() | 0 | 100000", 1, 1}, {". . . | 1/1() | 1(7:0) | 0 | 99998", 1000, 4}, {". . . | 1/1() | 1(7:0) | 0 | 100000", 3, -1},
		// These are stuck, or will be.
		{"1:0 . | 0/1(2:0) | 0() | 0 | 0", 0, -1}, {"1:0 . | 0/1(2:0) | 0() | 0 | 0", 1000, -1}, {"1:0 3:0 | 0/1() | 0() | 0 | 0", 1000, -1},
	} {
		if got := impl.TicksToDrain(centreOf(x.centre), x.most); got != x.want {
			t.Error(x, got)
		}
	}
	// As much as there may be, but for what the chutes have no room for.
	c := longCentre(24, 6, 20, 4, 6)
	c.Plan = []int{0, 1, 2, 3, 4, 5}
	for id := range 104 {
		x := impl.Item{Id: id + 1, Dest: id % 6}
		if id < 24 {
			c.Belt[id] = x
		} else {
			n := &c.Inlets[id%4]
			n.Wait = append(n.Wait, x)
		}
	}
	want := wantedDrain(c, 1000)
	if want < 50 || impl.TicksToDrain(c, 1000) != want || impl.TicksToDrain(c, want) != want || impl.TicksToDrain(c, want-1) != -1 {
		t.Error(want, impl.TicksToDrain(c, 1000))
	}
}

// itemFor takes an Id that the centre has not yet.
func itemFor(r *rand.Rand, free *[]int, dests int) impl.Item {
	id := (*free)[0]
	*free = (*free)[1:]
	return impl.Item{Id: id, Dest: r.Intn(dests)}
}

// centreAtRandom makes short belts with small chutes, so that much falls and much is full.
func centreAtRandom(r *rand.Rand) impl.Centre {
	length := 2 + r.Intn(7)
	if r.Intn(8) == 0 {
		length = impl.MaxBelt
	}
	c := impl.Centre{Belt: make([]impl.Item, length), Now: r.Intn(5000)}
	var free []int
	for _, id := range r.Perm(200) {
		free = append(free, id+1)
	}
	chutes, dests := 1+r.Intn(min(length, impl.MaxChutes)), 1+r.Intn(impl.MaxDests)
	for range dests {
		c.Plan = append(c.Plan, r.Intn(chutes))
	}
	for _, cell := range r.Perm(length)[:chutes] {
		h := impl.Chute{Cell: cell, Room: 1 + r.Intn(3)}
		for range r.Intn(h.Room + 1) {
			h.Held = append(h.Held, itemFor(r, &free, dests))
		}
		c.Chutes = append(c.Chutes, h)
	}
	for _, cell := range r.Perm(length)[:1+r.Intn(min(length, impl.MaxInlets))] {
		n := impl.Inlet{Cell: cell}
		for range r.Intn(4) {
			n.Wait = append(n.Wait, itemFor(r, &free, dests))
		}
		c.Inlets = append(c.Inlets, n)
	}
	taken := r.Intn(5)
	for cell := range length {
		if r.Intn(4) < taken {
			c.Belt[cell] = itemFor(r, &free, dests)
		}
	}
	return c
}

// checkFallen holds a tick against its words: what is new in a chute was a cell before it, and Plan leads it there.
func checkFallen(t *testing.T, c, after impl.Centre) (fallen, entered int) {
	t.Helper()
	length := len(c.Belt)
	moved := make([]impl.Item, length)
	for cell, x := range c.Belt {
		moved[(cell+1)%length] = x
	}
	for k, h := range c.Chutes {
		x, held := moved[h.Cell], after.Chutes[k].Held
		falls := x.Id != 0 && c.Plan[x.Dest] == k && len(h.Held) < h.Room
		if falls {
			fallen++
			moved[h.Cell] = impl.Item{}
			if len(held) != len(h.Held)+1 || held[len(held)-1] != x || !slices.Equal(held[:len(held)-1], h.Held) {
				t.Error(textOf(c), textOf(after), k)
			}
		} else if !slices.Equal(held, h.Held) {
			t.Error(textOf(c), textOf(after), k)
		}
	}
	for k, n := range c.Inlets {
		wait := after.Inlets[k].Wait
		if moved[n.Cell].Id == 0 && len(n.Wait) > 0 {
			entered++
			moved[n.Cell] = n.Wait[0]
			if !slices.Equal(wait, n.Wait[1:]) {
				t.Error(textOf(c), textOf(after), k)
			}
		} else if !slices.Equal(wait, n.Wait) {
			t.Error(textOf(c), textOf(after), k)
		}
	}
	if !slices.Equal(after.Belt, moved) {
		t.Error(textOf(c), textOf(after))
	}
	return fallen, entered
}

// checkCentre asks for everything that is known of a centre, which has these items.
func checkCentre(t *testing.T, c impl.Centre, ids []int) {
	t.Helper()
	what := textOf(c)
	sorted := slices.Sorted(slices.Values(ids))
	if got := impl.ItemsIn(c); !slices.Equal(got, sorted) || !impl.IsCentre(c) || !isWantedCentre(c) {
		t.Fatal(what, got, sorted)
	}
	belt, wait := 0, 0
	for _, id := range append(sorted, 0, 7777) {
		at, i := impl.WhereIs(c, id)
		if wantAt, wantI := wantedPlace(c, id); at != wantAt || i != wantI {
			t.Error(what, id, at, i)
		}
		switch at {
		case impl.AtBelt:
			belt++
		case impl.AtInlet:
			wait++
		}
	}
	if a, b := impl.CountBelt(c), impl.CountWait(c); a != belt || b != wait {
		t.Error(what, a, b)
	}
	if a, b := impl.IsDrained(c), impl.IsStuck(c); a != isEmpty(c) || b != wantedStuck(c) {
		t.Error(what, a, b)
	}
}

// clearOne empties a chute, or none, and returns what is left in the centre.
func clearOne(t *testing.T, r *rand.Rand, c impl.Centre, ids []int) (impl.Centre, []int) {
	t.Helper()
	k := r.Intn(len(c.Chutes)+2) - 1
	next, held := impl.ClearChute(c, k)
	want, wantHeld := copied(c), []impl.Item{}
	if k >= 0 && k < len(c.Chutes) {
		wantHeld, want.Chutes[k].Held = c.Chutes[k].Held, nil
	}
	if !slices.Equal(held, wantHeld) || !sameCentre(next, want) {
		t.Error(textOf(c), k, textOf(next), held)
	}
	return next, slices.DeleteFunc(ids, func(id int) bool {
		return slices.ContainsFunc(held, func(x impl.Item) bool { return x.Id == id })
	})
}

func planOne(t *testing.T, r *rand.Rand, c impl.Centre) impl.Centre {
	t.Helper()
	dest, k := r.Intn(len(c.Plan)+2)-1, r.Intn(len(c.Chutes)+2)-1
	next, ok := impl.SetPlan(c, dest, k)
	want, wantOk := copied(c), dest >= 0 && dest < len(c.Plan) && k >= 0 && k < len(c.Chutes)
	if wantOk {
		want.Plan[dest] = k
	}
	if ok != wantOk || !sameCentre(next, want) {
		t.Error(textOf(c), dest, k, textOf(next), ok)
	}
	return next
}

// feedOne feeds what may be in the centre already, or be no item of it.
func feedOne(t *testing.T, r *rand.Rand, c impl.Centre, ids []int) (impl.Centre, []int, bool) {
	t.Helper()
	k, x := r.Intn(len(c.Inlets)+1), impl.Item{Id: r.Intn(300), Dest: r.Intn(len(c.Plan)+2) - 1}
	next, ok := impl.FeedCentre(c, k, x)
	want := copied(c)
	if k < len(c.Inlets) {
		want.Inlets[k].Wait = append(want.Inlets[k].Wait, x)
	}
	wantOk := k < len(c.Inlets) && isWantedCentre(want)
	if !wantOk {
		want = c
	}
	if ok != wantOk || !sameCentre(next, want) {
		t.Error(textOf(c), k, x, textOf(next), ok)
	}
	if ok {
		ids = append(ids, x.Id)
	}
	return next, ids, ok
}

// Promise 7: whatever is fed, ticked, planned anew and cleared, each item that was fed and not cleared is there once, and
// what falls into a chute in a tick is what Plan leads there at that tick.
func TestNothingIsLostOrDoubled(t *testing.T) {
	r := rand.New(rand.NewSource(71))
	fallen, entered, cleared, fed, refused, stuck := 0, 0, 0, 0, 0, 0
	for range 300 {
		c := centreAtRandom(r)
		var ids []int
		for _, x := range allItems(c) {
			ids = append(ids, x.Id)
		}
		for range 60 {
			checkCentre(t, c, ids)
			if impl.IsStuck(c) {
				stuck++
			}
			before, count := c, len(ids)
			switch r.Intn(8) {
			case 0:
				c, ids = clearOne(t, r, c, ids)
				cleared += count - len(ids)
			case 1:
				c = planOne(t, r, c)
			case 2, 3:
				var ok bool
				c, ids, ok = feedOne(t, r, c, ids)
				if ok {
					fed++
				} else {
					refused++
				}
			default:
				c = impl.TickCentre(c)
				more, in := checkFallen(t, before, c)
				fallen, entered = fallen+more, entered+in
				if c.Now != before.Now+1 || !slices.Equal(c.Plan, before.Plan) {
					t.Error(textOf(before), textOf(c))
				}
			}
		}
	}
	if fallen < 1000 || entered < 1000 || cleared < 1000 || fed < 1000 || refused < 500 || stuck < 500 {
		t.Error(fallen, entered, cleared, fed, refused, stuck)
	}
}

// Promise 7, by all centres with three cells, two chutes with room for one item, and two inlets with at most one.
func TestAllSmallCentres(t *testing.T) {
	pairs := [][2]int{{0, 1}, {0, 2}, {1, 0}, {1, 2}, {2, 0}, {2, 1}}
	fallen, entered, stuck, drained := 0, 0, 0, 0
	for _, chutes := range pairs {
		for _, inlets := range pairs {
			for plan := range 4 {
				base, ok := impl.NewCentre(3, chutes[:], 1, inlets[:], []int{plan % 2, plan / 2})
				if !ok {
					t.Fatal(chutes, inlets, plan)
				}
				for kind := range 243 * 4 {
					c := smallCentre(base, kind)
					after := impl.TickCentre(c)
					more, in := checkFallen(t, c, after)
					fallen, entered = fallen+more, entered+in
					for _, ticks := range []int{2, 7} {
						if got := impl.RunCentre(c, ticks); !sameCentre(got, wantedRun(c, ticks)) {
							t.Error(textOf(c), ticks, textOf(got))
						}
					}
					if wantedStuck(c) {
						stuck++
					}
					if isEmpty(c) {
						drained++
					}
					if a, b, d := impl.IsDrained(c), impl.IsStuck(c), impl.TicksToDrain(c, 10); a != isEmpty(c) || b != wantedStuck(c) || d != wantedDrain(c, 10) {
						t.Error(textOf(c), a, b, d)
					}
				}
			}
		}
	}
	if fallen < 10000 || entered < 10000 || stuck < 1000 || drained < 100 {
		t.Error(fallen, entered, stuck, drained)
	}
}

// smallCentre fills the cells and the inlets by the digits of a number: with nothing, or an item of one of two destinations.
func smallCentre(base impl.Centre, kind int) impl.Centre {
	c := copied(base)
	for cell := range 3 {
		if kind%3 > 0 {
			c.Belt[cell] = impl.Item{Id: 1 + cell, Dest: kind%3 - 1}
		}
		kind /= 3
	}
	for k := range 2 {
		if kind%3 > 0 {
			c.Inlets[k].Wait = []impl.Item{{Id: 11 + k, Dest: kind%3 - 1}}
		}
		kind /= 3
	}
	for k := range 2 {
		if kind%2 > 0 {
			c.Chutes[k].Held = []impl.Item{{Id: 21 + k, Dest: k}}
		}
		kind /= 2
	}
	return c
}

// Many ticks are as many times one, and what is drained and what is stuck stays so.
func TestRunsOfRandomCentres(t *testing.T) {
	r := rand.New(rand.NewSource(72))
	drains, never := 0, 0
	for range 600 {
		c := centreAtRandom(r)
		one := c
		for ticks := range 40 {
			if got := impl.RunCentre(c, ticks); !sameCentre(got, one) || !sameCentre(got, wantedRun(c, ticks)) {
				t.Fatal(textOf(c), ticks, textOf(got), textOf(one))
			}
			one = impl.TickCentre(one)
		}
		want := wantedDrain(c, 200)
		if want < 0 {
			never++
			if got := impl.TicksToDrain(c, 1000); got != -1 || !impl.IsStuck(impl.RunCentre(c, 1000)) {
				t.Error(textOf(c), got)
			}
			continue
		}
		drains++
		if got := []int{impl.TicksToDrain(c, 1000), impl.TicksToDrain(c, want), impl.TicksToDrain(c, want-1)}; !slices.Equal(got, []int{want, want, -1}) || impl.IsStuck(impl.RunCentre(c, 1000)) {
			t.Error(textOf(c), want, got)
		}
	}
	if drains < 50 || never < 50 {
		t.Error(drains, never)
	}
}

// Random changes of one field make centres that are valid, and centres that are not.
func TestChangedCentres(t *testing.T) {
	r := rand.New(rand.NewSource(73))
	good, bad := 0, 0
	for range 6000 {
		c := centreAtRandom(r)
		h, n, x := &c.Chutes[r.Intn(len(c.Chutes))], &c.Inlets[r.Intn(len(c.Inlets))], &c.Belt[r.Intn(len(c.Belt))]
		switch r.Intn(9) {
		case 0:
			h.Cell += r.Intn(5) - 2
		case 1:
			h.Room += r.Intn(5) - 2
		case 2:
			n.Cell += r.Intn(5) - 2
		case 3:
			x.Id = r.Intn(250) - 10
		case 4:
			x.Dest += r.Intn(5) - 2
		case 5:
			c.Plan[r.Intn(len(c.Plan))] += r.Intn(3) - 1
		case 6:
			c.Now = []int{-1, 0, impl.MaxTime, impl.MaxTime + 1}[r.Intn(4)]
		case 7:
			h.Held = append(h.Held, impl.Item{Id: r.Intn(250)})
		case 8:
			n.Wait = append(n.Wait, impl.Item{Id: r.Intn(250)})
		}
		want := isWantedCentre(c)
		if impl.IsCentre(c) != want {
			t.Error(textOf(c), want)
		}
		if want {
			good++
		} else {
			bad++
			checkNoCentre(t, c)
		}
	}
	if good < 1000 || bad < 1000 {
		t.Error(good, bad)
	}
}

// itemLists are the lists of a centre that have items.
func itemLists(c impl.Centre) [][]impl.Item {
	l := [][]impl.Item{c.Belt}
	for _, h := range c.Chutes {
		l = append(l, h.Held)
	}
	for _, n := range c.Inlets {
		l = append(l, n.Wait)
	}
	return l
}

// scribble writes over all that a centre holds, and over the spare capacity, too.
func scribble(c impl.Centre) {
	for _, l := range itemLists(c) {
		for i := range l[:cap(l)] {
			l[:cap(l)][i] = impl.Item{Id: 77, Dest: 77}
		}
	}
	for k := range c.Chutes[:cap(c.Chutes)] {
		c.Chutes[:cap(c.Chutes)][k] = impl.Chute{Cell: 77}
	}
	for k := range c.Inlets[:cap(c.Inlets)] {
		c.Inlets[:cap(c.Inlets)][k] = impl.Inlet{Cell: 77}
	}
	for i := range c.Plan[:cap(c.Plan)] {
		c.Plan[:cap(c.Plan)][i] = 77
	}
}

// checkOwnLists checks that no list of a centre has memory of another one.
func checkOwnLists(t *testing.T, c impl.Centre) {
	t.Helper()
	lists := itemLists(c)
	for i, l := range lists {
		before := copied(c)
		for k := range l[:cap(l)] {
			l[:cap(l)][k] = impl.Item{Id: 78, Dest: i}
		}
		for k, other := range itemLists(before) {
			if k != i && !slices.Equal(other, lists[k]) {
				t.Error(textOf(before), textOf(c), i, k)
			}
		}
		copy(l, itemLists(before)[i])
	}
}

// centreCalls are all that return a centre: what they do, and what they refuse.
func centreCalls() map[string]func(c impl.Centre) impl.Centre {
	feed := func(c impl.Centre, k int, x impl.Item) impl.Centre { got, _ := impl.FeedCentre(c, k, x); return got }
	empty := func(c impl.Centre, k int) impl.Centre { got, _ := impl.ClearChute(c, k); return got }
	plan := func(c impl.Centre, dest, k int) impl.Centre { got, _ := impl.SetPlan(c, dest, k); return got }
	return map[string]func(c impl.Centre) impl.Centre{
		"tick": impl.TickCentre, "run none": func(c impl.Centre) impl.Centre { return impl.RunCentre(c, 0) }, "run": func(c impl.Centre) impl.Centre { return impl.RunCentre(c, 7) }, "run too far": func(c impl.Centre) impl.Centre { return impl.RunCentre(c, 1001) },
		"feed": func(c impl.Centre) impl.Centre { return feed(c, 0, impl.Item{Id: 9000}) }, "feed twice": func(c impl.Centre) impl.Centre { return feed(c, 0, impl.Item{Id: 1}) }, "feed nowhere": func(c impl.Centre) impl.Centre { return feed(c, 9, impl.Item{Id: 9000}) },
		"clear": func(c impl.Centre) impl.Centre { return empty(c, 0) }, "clear nothing": func(c impl.Centre) impl.Centre { return empty(c, 9) },
		"plan": func(c impl.Centre) impl.Centre { return plan(c, 0, len(c.Chutes)-1) }, "plan nothing": func(c impl.Centre) impl.Centre { return plan(c, 9, 0) },
	}
}

func TestCentresShareNothing(t *testing.T) {
	r := rand.New(rand.NewSource(74))
	for round := range 200 {
		c := centreAtRandom(r)
		if round == 0 {
			c = centreOf(someCentre)
		}
		if r.Intn(8) == 0 {
			c.Now = -1
		}
		before := copied(c)
		for name, call := range centreCalls() {
			got := call(c)
			want := copied(got)
			// Whatever is done with one of them, the other is as it was.
			for _, act := range centreCalls() {
				act(got)
				act(c)
			}
			if !sameCentre(c, before) || !sameCentre(got, want) {
				t.Fatal(name, textOf(before), textOf(c), textOf(want), textOf(got))
			}
			again := call(c)
			checkOwnLists(t, got)
			scribble(got)
			if !sameCentre(c, before) || !sameCentre(again, want) {
				t.Fatal(name, textOf(before), textOf(c))
			}
			again = call(c)
			scribble(c)
			if !sameCentre(again, want) {
				t.Fatal(name, textOf(want), textOf(again))
			}
			c = copied(before)
		}
	}
}

func TestBeltResultsAreNewMemory(t *testing.T) {
	c := centreOf(someCentre)
	got, held := impl.ClearChute(c, 0)
	for i := range held[:cap(held)] {
		held[:cap(held)][i] = impl.Item{Id: 77}
	}
	if textOf(c) != someCentre || len(got.Chutes[0].Held) != 0 {
		t.Error(textOf(c), textOf(got))
	}
	got.Chutes[0].Held = append(got.Chutes[0].Held, impl.Item{Id: 78})
	if held[0].Id != 77 || textOf(c) != someCentre {
		t.Error(held, textOf(c))
	}
	impl.ItemsIn(c)[0] = 77
	if textOf(c) != someCentre || impl.ItemsIn(c)[0] != 1 {
		t.Error(textOf(c))
	}
	chutes, inlets, plan := withSpare([]int{2, 1}), withSpare([]int{0, 2}), withSpare([]int{1, 0})
	made, _ := impl.NewCentre(3, chutes, 1, inlets, plan)
	made.Plan[0] = 77
	_ = append(made.Plan, 78)
	if a, b, c := chutes[:cap(chutes)], inlets[:cap(inlets)], plan[:cap(plan)]; !slices.Equal(a[:4], []int{2, 1, 2, 1}) || !slices.Equal(b[:4], []int{0, 2, 0, 2}) || !slices.Equal(c[:4], []int{1, 0, 1, 0}) {
		t.Error(a, b, c)
	}
	plan[1] = 79
	if made.Plan[1] != 0 {
		t.Error(made.Plan)
	}
}

func TestBeltArgumentsStay(t *testing.T) {
	r := rand.New(rand.NewSource(75))
	for range 300 {
		c := centreAtRandom(r)
		if r.Intn(8) == 0 {
			c.Belt[0] = impl.Item{Dest: 1}
		}
		for k := range c.Chutes {
			c.Chutes[k].Held = withSpare(c.Chutes[k].Held)
		}
		for k := range c.Inlets {
			c.Inlets[k].Wait = withSpare(c.Inlets[k].Wait)
		}
		c.Belt, c.Chutes, c.Inlets, c.Plan = withSpare(c.Belt), withSpare(c.Chutes), withSpare(c.Inlets), withSpare(c.Plan)
		whole := func() []any {
			all := []any{slices.Clone(c.Chutes[:cap(c.Chutes)]), slices.Clone(c.Inlets[:cap(c.Inlets)]), slices.Clone(c.Plan[:cap(c.Plan)])}
			for _, l := range itemLists(c) {
				all = append(all, slices.Clone(l[:cap(l)]))
			}
			return all
		}
		before := whole()
		for _, call := range centreCalls() {
			call(c)
		}
		impl.IsCentre(c)
		impl.ItemsIn(c)
		impl.CountBelt(c)
		impl.CountWait(c)
		impl.IsDrained(c)
		impl.IsStuck(c)
		impl.TicksToDrain(c, 100)
		for i := range 10 {
			impl.WhereIs(c, i)
			impl.CellsTo(c, i, 0)
			impl.ClearChute(c, i)
			impl.FeedCentre(c, i, impl.Item{Id: 9000 + i})
			impl.SetPlan(c, i, 0)
		}
		if after := whole(); !reflect.DeepEqual(after, before) {
			t.Fatal(textOf(c), after, before)
		}
	}
}
