package tests

import (
	"fmt"
	"math/rand"
	"reflect"
	"slices"
	"sort"
	"strings"
	"testing"

	"loop.example/g03014/impl"
)

func chargeOf(order, amount, at int) impl.Line {
	return impl.Line{Order: order, Kind: impl.LineCharge, Amount: amount, At: at}
}

func payOf(order, amount, at int) impl.Line {
	return impl.Line{Order: order, Kind: impl.LinePay, Amount: amount, At: at}
}

func refundOf(order, amount, at int) impl.Line {
	return impl.Line{Order: order, Kind: impl.LineRefund, Amount: amount, At: at}
}

func linesOf(l ...impl.Line) []impl.Line {
	return l
}

// someLines are those of five orders, one behind the other in no order: 3 was paid at once and has got a part back, 1 was paid
// in three parts, 2 in part, 9999 not at all, and 7 has got all back.
func someLines() []impl.Line {
	return linesOf(
		chargeOf(3, 700, 0), chargeOf(1, 300, 0), payOf(3, 700, 5), payOf(1, 100, 5), chargeOf(9999, 100000, 5),
		chargeOf(2, 50, 1440), payOf(1, 199, 1440), payOf(2, 49, 1441), refundOf(3, 1, 2000), payOf(1, 1, 2000),
		chargeOf(7, 1, 100000), payOf(7, 1, 100000), refundOf(7, 1, 100000))
}

func someLinesBut(change func(l []impl.Line)) []impl.Line {
	l := someLines()
	change(l)
	return l
}

// linesUpTo are so many lines: charges of as many orders, at one time.
func linesUpTo(count, at int) []impl.Line {
	l := make([]impl.Line, count)
	for i := range l {
		l[i] = chargeOf(1001+i, 100, at)
	}
	return l
}

func goodLines() [][]impl.Line {
	return [][]impl.Line{
		nil, {}, someLines(), linesUpTo(impl.MaxLines, 0), linesUpTo(impl.MaxLines, impl.MaxTime),
		linesOf(chargeOf(1, 1, 0)), linesOf(chargeOf(5, 7, 3), payOf(5, 7, 3), refundOf(5, 7, 3)),
	}
}

func badFields() []impl.Line {
	l := []impl.Line{{}}
	for _, number := range []int{leastInt, -1, 0, impl.MaxId + 1, greatestInt} {
		l = append(l, chargeOf(number, 100, 0))
	}
	for _, number := range []int{leastInt, -1, 0, 4, 5, greatestInt} {
		l = append(l, impl.Line{Order: 1, Kind: number, Amount: 100})
	}
	for _, number := range []int{leastInt, -1, 0, impl.MaxPrice + 1, greatestInt} {
		l = append(l, chargeOf(1, number, 0))
	}
	for _, number := range []int{leastInt, -1, impl.MaxTime + 1, greatestInt} {
		l = append(l, chargeOf(1, 100, number))
	}
	return l
}

// badLines each break one rule alone.
func badLines() [][]impl.Line {
	l := [][]impl.Line{
		linesUpTo(impl.MaxLines+1, 0),
		linesOf(chargeOf(1, 100, 7), chargeOf(2, 100, 6)),
		linesOf(chargeOf(1, 100, 7), chargeOf(2, 100, 8), chargeOf(3, 100, 7)),
		someLinesBut(func(l []impl.Line) { l[0].At = 1 }), someLinesBut(func(l []impl.Line) { l[12].At-- }),
		// A second charge.
		linesOf(chargeOf(1, 100, 0), chargeOf(1, 100, 0)), linesOf(chargeOf(1, 100, 0), chargeOf(2, 100, 0), chargeOf(1, 1, 5)),
		linesOf(chargeOf(1, 100, 0), payOf(1, 100, 0), chargeOf(1, 100, 0)),
		linesOf(chargeOf(1, 100, 0), payOf(1, 100, 0), refundOf(1, 100, 0), chargeOf(1, 100, 0)),
		// A payment before its charge, or without one.
		linesOf(payOf(1, 100, 0)), linesOf(payOf(1, 100, 0), chargeOf(1, 100, 0)), linesOf(chargeOf(1, 100, 0), payOf(2, 100, 0)),
		// Payments that are more than the charge.
		linesOf(chargeOf(1, 100, 0), payOf(1, 101, 0)), linesOf(chargeOf(1, 100, 0), payOf(1, 99, 0), payOf(1, 2, 0)),
		linesOf(chargeOf(1, 100, 0), payOf(1, 100, 0), payOf(1, 1, 0)),
		linesOf(chargeOf(1, 100, 0), payOf(1, 100, 0), refundOf(1, 50, 0), payOf(1, 1, 0)),
		linesOf(chargeOf(1, 100, 0), chargeOf(2, 500, 0), payOf(1, 50, 0), payOf(2, 400, 0), payOf(1, 51, 0)),
		// A refund before the charge, without payments, before the last one, or with those of another order.
		linesOf(refundOf(1, 100, 0)), linesOf(chargeOf(1, 100, 0), refundOf(1, 100, 0)), linesOf(chargeOf(1, 100, 0), refundOf(1, 1, 0), payOf(1, 100, 0)),
		linesOf(chargeOf(1, 100, 0), payOf(1, 99, 0), refundOf(1, 50, 0)), linesOf(chargeOf(1, 100, 0), payOf(1, 99, 0), refundOf(1, 99, 0), payOf(1, 1, 0)),
		linesOf(chargeOf(1, 100, 0), chargeOf(2, 100, 0), payOf(2, 100, 0), refundOf(1, 50, 0)),
		linesOf(chargeOf(1, 100, 0), payOf(1, 100, 0), refundOf(2, 50, 0)),
		// A second refund, and one that is more than the charge.
		linesOf(chargeOf(1, 100, 0), payOf(1, 100, 0), refundOf(1, 50, 0), refundOf(1, 50, 0)),
		linesOf(chargeOf(1, 100, 0), payOf(1, 100, 0), refundOf(1, 1, 0), refundOf(1, 1, 9)),
		linesOf(chargeOf(1, 100, 0), payOf(1, 100, 0), refundOf(1, 101, 0)),
		linesOf(chargeOf(1, 100, 0), chargeOf(2, 500, 0), payOf(2, 500, 0), payOf(1, 100, 0), refundOf(2, 500, 0), refundOf(1, 101, 0)),
	}
	for _, x := range badFields() {
		l = append(l, linesOf(x), append(linesOf(chargeOf(2, 100, 0)), x), append(linesOf(x), chargeOf(2, 100, impl.MaxTime)))
	}
	for i := range someLines() {
		for _, at := range []int{leastInt, -1, impl.MaxTime + 1, greatestInt} {
			l = append(l, someLinesBut(func(l []impl.Line) { l[i].At = at }))
		}
	}
	return l
}

// purse is what has happened with the money of one order.
type purse struct {
	charges, refunds   int
	charge, paid, back int
}

func isWantedLine(x impl.Line) bool {
	kinds := map[int]bool{impl.LineCharge: true, impl.LinePay: true, impl.LineRefund: true}
	return kinds[x.Kind] && x.Order > 0 && x.Order <= 9999 && x.Amount > 0 && x.Amount <= 100000 && x.At >= 0 && x.At <= 100000
}

// pursesOf goes through the lines once; it returns false if one of them may not stand where it stands.
func pursesOf(l []impl.Line) (map[int]purse, bool) {
	purses, last := map[int]purse{}, 0
	for _, x := range l {
		if !isWantedLine(x) || x.At < last {
			return nil, false
		}
		last = x.At
		p := purses[x.Order]
		switch x.Kind {
		case impl.LineCharge:
			p.charges++
			p.charge = x.Amount
		case impl.LinePay:
			p.paid += x.Amount
		case impl.LineRefund:
			if p.paid != p.charge {
				return nil, false
			}
			p.refunds++
			p.back = x.Amount
		}
		if p.charges != 1 || p.paid > p.charge || p.refunds > 1 || p.back > p.charge {
			return nil, false
		}
		purses[x.Order] = p
	}
	if len(l) > 200 {
		return nil, false
	}
	return purses, true
}

func areWantedLines(l []impl.Line) bool {
	_, ok := pursesOf(l)
	return ok
}

func areWantedPercents(l []int) bool {
	for i, p := range l {
		if p < 0 || p > 100 || i > 0 && p < l[i-1] {
			return false
		}
	}
	return len(l) > 0 && len(l) < 7
}

// wantedRefund goes from day to day, and takes the greatest amount of which a hundred are not more than the percents.
func wantedRefund(charge, due, ended int, percents []int) int {
	if charge < 0 || charge > 100000 || due < 0 || ended < 0 || due > 200000 || ended > 200000 || due >= ended || !areWantedPercents(percents) {
		return 0
	}
	percent := percents[0]
	for _, next := range percents[1:] {
		due += 1440
		if ended <= due {
			break
		}
		percent = next
	}
	return sort.Search(charge+1, func(amount int) bool { return 100*amount > charge*percent }) - 1
}

// answer is a code, if it applies.
type answer struct {
	applies bool
	code    int
}

// wantedAnswer takes the first code that applies; the line stands behind the others if none does.
func wantedAnswer(l []impl.Line, x impl.Line, answers ...answer) ([]impl.Line, int) {
	longer := append(slices.Clone(l), x)
	answers = append(answers, answer{len(l) == impl.MaxLines, impl.MoneyFull}, answer{!areWantedLines(longer), impl.MoneyBad})
	for _, a := range answers {
		if a.applies {
			return l, a.code
		}
	}
	return longer, impl.MoneyOk
}

func wantedCharge(l []impl.Line, order, amount, at int) ([]impl.Line, int) {
	purses, ok := pursesOf(l)
	x := chargeOf(order, amount, at)
	return wantedAnswer(l, x,
		answer{!ok || !isWantedLine(x), impl.MoneyBad},
		answer{purses[order].charges > 0, impl.MoneyTwice})
}

func wantedPay(l []impl.Line, order, amount, at int) ([]impl.Line, int) {
	purses, ok := pursesOf(l)
	p, x := purses[order], payOf(order, amount, at)
	return wantedAnswer(l, x,
		answer{!ok || !isWantedLine(x), impl.MoneyBad},
		answer{p.charges == 0, impl.MoneyNone},
		answer{amount > p.charge-p.paid, impl.MoneyMuch})
}

func wantedGiveBack(l []impl.Line, order, due, ended int, percents []int, at int) ([]impl.Line, int) {
	purses, ok := pursesOf(l)
	p := purses[order]
	refund := wantedRefund(p.charge, due, ended, percents)
	return wantedAnswer(l, refundOf(order, refund, at),
		answer{!ok || !areWantedPercents(percents) || order < 1 || order > 9999 || at < 0 || at > 100000, impl.MoneyBad},
		answer{p.charges == 0 || p.paid != p.charge, impl.MoneyNone},
		answer{p.refunds > 0, impl.MoneyTwice},
		answer{refund == 0, impl.MoneyMuch})
}

func wantedStatement(l []impl.Line, order int) string {
	purses, ok := pursesOf(l)
	if !ok {
		return ""
	}
	text := ""
	for _, x := range l {
		if x.Order == order {
			text += fmt.Sprintf("%d %02d:%02d %s %d\n", x.At/1440, x.At%1440/60, x.At%60, strings.Fields("- charge payment refund")[x.Kind], x.Amount)
		}
	}
	return fmt.Sprintf("%sowed %d\n", text, purses[order].charge-purses[order].paid)
}

func linesText(l []impl.Line) string {
	return fmt.Sprintf("%+v", l)
}

func checkMoney(t *testing.T, what any, got []impl.Line, code int, want []impl.Line, wantCode int) {
	t.Helper()
	if code != wantCode || !slices.Equal(got, want) {
		t.Error(what, code, linesText(got), "not", wantCode, linesText(want))
	}
}

// checkSums compares all that can be asked about an order, and about all.
func checkSums(t *testing.T, l []impl.Line, order int) {
	t.Helper()
	purses, ok := pursesOf(l)
	owed, cash, open := 0, 0, []int{}
	if ok {
		owed = purses[order].charge - purses[order].paid
	}
	for number, p := range purses {
		cash += p.paid - p.back
		if p.charge > p.paid {
			open = append(open, number)
		}
	}
	slices.Sort(open)
	if got := impl.AreLines(l); got != ok {
		t.Error(linesText(l), got)
	}
	if got := impl.OwedFor(l, order); got != owed {
		t.Error(linesText(l), order, "owed", got, owed)
	}
	if got := impl.CashOf(l); got != cash {
		t.Error(linesText(l), "cash", got, cash)
	}
	if got := impl.OpenOrders(l); !slices.Equal(got, open) {
		t.Error(linesText(l), "open", got, open)
	}
	if got, want := impl.Statement(l, order), wantedStatement(l, order); got != want {
		t.Errorf("%s %d: %q, not %q", linesText(l), order, got, want)
	}
	checkLinesOf(t, l, order)
}

func checkLinesOf(t *testing.T, l []impl.Line, order int) {
	t.Helper()
	want := slices.DeleteFunc(slices.Clone(l), func(x impl.Line) bool { return x.Order != order })
	if got := impl.LinesOf(l, order); !slices.Equal(got, want) {
		t.Error(linesText(l), order, linesText(got))
	}
	for kind := -1; kind <= 4; kind++ {
		sum := 0
		for _, x := range want {
			sum += map[bool]int{true: x.Amount}[x.Kind == kind]
		}
		if got := impl.SumOf(l, order, kind); got != sum {
			t.Error(linesText(l), order, kind, got, sum)
		}
	}
}

func TestIsLine(t *testing.T) {
	if impl.MaxLines != 200 || impl.MaxPercents != 6 || impl.MaxId != 9999 || impl.MaxPrice != 100000 || impl.MaxTime != 100000 {
		t.Error("limits")
	}
	for _, order := range []int{1, 2, 5000, 9999} {
		for _, amount := range []int{1, 2, 5000, 100000} {
			for _, at := range []int{0, 1, 5000, 100000} {
				for kind := 1; kind <= 3; kind++ {
					if x := (impl.Line{Order: order, Kind: kind, Amount: amount, At: at}); !impl.IsLine(x) {
						t.Error(x)
					}
				}
			}
		}
	}
	for _, x := range badFields() {
		if impl.IsLine(x) {
			t.Error(x)
		}
	}
}

// Fields with little and great numbers, all together.
func TestIsLineWithAllFields(t *testing.T) {
	numbers := []int{leastInt, -1, 0, 1, 2, 3, 4, 9999, 10000, 100000, 100001, greatestInt}
	for _, order := range numbers {
		for _, kind := range numbers {
			for _, amount := range numbers {
				for _, at := range numbers {
					x := impl.Line{Order: order, Kind: kind, Amount: amount, At: at}
					if got := impl.IsLine(x); got != isWantedLine(x) {
						t.Error(x, got)
					}
				}
			}
		}
	}
}

func TestSumOf(t *testing.T) {
	l := someLines()
	for _, x := range [][3]int{
		{1, impl.LineCharge, 300}, {1, impl.LinePay, 300}, {1, impl.LineRefund, 0},
		{2, impl.LineCharge, 50}, {2, impl.LinePay, 49}, {3, impl.LineRefund, 1}, {9999, impl.LineCharge, 100000}, {9999, impl.LinePay, 0},
		{4, impl.LineCharge, 0}, {0, impl.LineCharge, 0}, {-1, impl.LinePay, 0}, {leastInt, impl.LineCharge, 0}, {greatestInt, impl.LineCharge, 0},
		{1, 0, 0}, {1, 4, 0}, {1, -1, 0}, {1, leastInt, 0}, {1, greatestInt, 0},
	} {
		if got := impl.SumOf(l, x[0], x[1]); got != x[2] {
			t.Error(x, got)
		}
	}
	if impl.SumOf(nil, 1, 1) != 0 {
		t.Error("no lines")
	}
}

// Lines that are not valid have sums, too, and those of no order and no kind.
func TestSumOfAnyLines(t *testing.T) {
	l := linesOf(payOf(1, 5, 9), payOf(1, -7, 3), chargeOf(1, 4, -1), chargeOf(1, 4, -1), refundOf(1, 0, 0),
		impl.Line{Order: 0, Kind: 9, Amount: 8}, impl.Line{Order: 0, Kind: 9, Amount: 8, At: -5}, impl.Line{Order: -3, Kind: 0, Amount: 2},
		impl.Line{Order: leastInt, Kind: greatestInt, Amount: -1}, payOf(2, greatestInt, 0), payOf(2, 2, 0), chargeOf(3, leastInt, 0), chargeOf(3, leastInt, 0))
	for _, x := range [][3]int{
		{1, impl.LinePay, -2}, {1, impl.LineCharge, 8}, {1, impl.LineRefund, 0}, {0, 9, 16}, {-3, 0, 2}, {0, 0, 0}, {-3, 9, 0},
		{leastInt, greatestInt, -1}, {leastInt, 1, 0}, {2, impl.LinePay, leastInt + 1}, {3, impl.LineCharge, 0},
	} {
		if got := impl.SumOf(l, x[0], x[1]); got != x[2] {
			t.Error(x, got)
		}
	}
	if got := impl.SumOf(linesUpTo(1000, 0), 2000, 1); got != 100 {
		t.Error(got)
	}
}

func TestAreLines(t *testing.T) {
	for i, l := range goodLines() {
		if !impl.AreLines(l) || !areWantedLines(l) {
			t.Error(i, linesText(l))
		}
	}
	for i, l := range badLines() {
		if impl.AreLines(l) || areWantedLines(l) {
			t.Error(i, linesText(l))
		}
	}
}

// Each rule about the lines before, at its edge.
func TestAreLinesAtTheEdge(t *testing.T) {
	base := linesOf(chargeOf(1, 100, 5), chargeOf(2, 7, 5))
	paid := append(slices.Clone(base), payOf(1, 60, 5), payOf(1, 40, 6))
	back := append(slices.Clone(paid), refundOf(1, 100, 6))
	for _, x := range []struct {
		before []impl.Line
		next   impl.Line
		want   bool
	}{
		{base, chargeOf(3, 100, 5), true}, {base, chargeOf(3, 100, 4), false}, {base, chargeOf(1, 100, 5), false}, {base, chargeOf(2, 1, 6), false},
		{base, payOf(1, 100, 5), true}, {base, payOf(1, 101, 5), false}, {base, payOf(2, 7, 5), true}, {base, payOf(2, 8, 5), false}, {base, payOf(3, 1, 5), false},
		{base, refundOf(1, 1, 5), false}, {base, refundOf(3, 1, 5), false},
		{paid[:3], payOf(1, 40, 5), true}, {paid[:3], payOf(1, 41, 5), false}, {paid[:3], refundOf(1, 1, 5), false}, {paid[:3], refundOf(1, 60, 5), false},
		{paid, payOf(1, 1, 6), false}, {paid, payOf(2, 1, 6), true}, {paid, payOf(2, 1, 5), false}, {paid, chargeOf(1, 100, 6), false},
		{paid, refundOf(1, 1, 6), true}, {paid, refundOf(1, 100, 6), true}, {paid, refundOf(1, 101, 6), false}, {paid, refundOf(1, 99, 5), false}, {paid, refundOf(2, 7, 6), false},
		{back, refundOf(1, 1, 6), false}, {back, payOf(1, 1, 6), false}, {back, payOf(1, 100, 6), false}, {back, chargeOf(1, 100, 6), false},
		{back, payOf(2, 7, 6), true}, {back, chargeOf(3, 1, impl.MaxTime), true}, {back, chargeOf(3, 1, impl.MaxTime+1), false},
	} {
		if got := impl.AreLines(append(slices.Clone(x.before), x.next)); got != x.want {
			t.Error(linesText(x.before), x.next, got)
		}
	}
}

// Orders that take turns: each has its own charge, payments and refund.
func TestAreLinesInTurns(t *testing.T) {
	var l []impl.Line
	for order := 1; order <= 50; order++ {
		l = append(l, chargeOf(order, order, 0))
	}
	for _, kind := range []int{impl.LinePay, impl.LineRefund} {
		for order := 50; order >= 1; order-- {
			l = append(l, impl.Line{Order: order, Kind: kind, Amount: order, At: 1})
		}
	}
	l = append(l, linesUpTo(50, 1)...)
	if !impl.AreLines(l) || len(l) != impl.MaxLines {
		t.Fatal(len(l))
	}
	for i := range l {
		if got := impl.AreLines(slices.Delete(slices.Clone(l), i, i+1)); got != (i >= 100) {
			t.Error("without", l[i], got)
		}
		more := slices.Clone(l)
		more[i].Amount++
		if got := impl.AreLines(more); got != (i >= 150) {
			t.Error("more", l[i], got)
		}
	}
	for i, x := range l[:199] {
		if impl.AreLines(slices.Insert(slices.Clone(l[:199]), i+1, x)) {
			t.Error("doubled", x)
		}
	}
	if impl.AreLines(append(slices.Clone(l), chargeOf(999, 1, 1))) {
		t.Error("one more")
	}
}

// Promise 11, by all lists of a few kinds of lines that are valid, and all that are not any more with one line or two of them.
func TestAllSmallLines(t *testing.T) {
	var kinds []impl.Line
	for order := 1; order <= 2; order++ {
		for kind := 1; kind <= 3; kind++ {
			for amount := 1; amount <= 2; amount++ {
				kinds = append(kinds, impl.Line{Order: order, Kind: kind, Amount: amount, At: 5})
			}
		}
	}
	good, bad := 0, 0
	var each func(l []impl.Line, spoiled int)
	each = func(l []impl.Line, spoiled int) {
		checkSums(t, l, 1)
		if areWantedLines(l) {
			good++
			checkPurse(t, l)
			checkCalls(t, l, 1, 1, 5)
			checkCalls(t, l, 2, 2, 4)
		} else {
			bad++
			spoiled++
		}
		for _, x := range kinds {
			if spoiled < 2 {
				each(append(slices.Clone(l), x), spoiled)
			}
		}
	}
	each(nil, 0)
	if good < 1000 || bad < 100000 {
		t.Error(good, bad)
	}
}

// checkCalls compares a charge, a payment and a refund with what is wanted.
func checkCalls(t *testing.T, l []impl.Line, order, amount, at int) {
	t.Helper()
	got, code := impl.ChargeOrder(l, order, amount, at)
	want, wantCode := wantedCharge(l, order, amount, at)
	checkMoney(t, fmt.Sprint("charge ", order, amount, at), got, code, want, wantCode)
	got, code = impl.PayOrder(l, order, amount, at)
	want, wantCode = wantedPay(l, order, amount, at)
	checkMoney(t, fmt.Sprint("pay ", order, amount, at), got, code, want, wantCode)
	got, code = impl.RefundOrder(l, order, 10, 11, []int{50}, at)
	want, wantCode = wantedGiveBack(l, order, 10, 11, []int{50}, at)
	checkMoney(t, fmt.Sprint("refund ", order, at), got, code, want, wantCode)
}

// checkPurses asks for each time, and for each number of lines: nothing is charged twice, and nothing given back that was not paid.
func checkPurses(t *testing.T, l []impl.Line) {
	t.Helper()
	if !impl.AreLines(l) {
		t.Error("not valid", linesText(l))
	}
	for count := range len(l) + 1 {
		checkPurse(t, l[:count])
	}
}

func checkPurse(t *testing.T, l []impl.Line) {
	t.Helper()
	charges, paid, back, cash := map[int][]int{}, map[int]int{}, map[int][]int{}, 0
	for i, x := range l {
		switch x.Kind {
		case impl.LineCharge:
			charges[x.Order] = append(charges[x.Order], x.Amount)
		case impl.LinePay:
			paid[x.Order] += x.Amount
			cash += x.Amount
		case impl.LineRefund:
			back[x.Order] = append(back[x.Order], x.Amount)
			cash -= x.Amount
			if owed := impl.OwedFor(l[:i], x.Order); owed != 0 || paid[x.Order] == 0 {
				t.Error("given back before it was paid", x, owed)
			}
		}
	}
	for _, x := range l {
		if len(charges[x.Order]) != 1 {
			t.Fatal("charges", x, charges)
		}
		charge := charges[x.Order][0]
		if paid[x.Order] > charge || len(back[x.Order]) > 1 {
			t.Error("paid or given back too much", x, paid, back)
		}
		if given := back[x.Order]; len(given) == 1 && (given[0] > charge || paid[x.Order] != charge) {
			t.Error("given back too much", x, given)
		}
	}
	if got := impl.CashOf(l); got != cash || got < 0 {
		t.Error(linesText(l), "cash", got, cash)
	}
	if !impl.AreLines(l) {
		t.Error("not valid", linesText(l))
	}
}

// moneyCall is a charge, a payment or a refund for order 1, by its own lines and those of others. The lines may be filled up with
// those of further orders, and spoiled.
type moneyCall struct {
	own, others       []impl.Line
	full              bool
	spoil             func(l []impl.Line) []impl.Line
	order, amount, at int
	due, ended        int
	percents          []int
}

func (c *moneyCall) lines() []impl.Line {
	l := append(slices.Clone(c.others), c.own...)
	if c.full {
		l = filled(l)
	}
	if c.spoil != nil {
		l = c.spoil(l)
	}
	return l
}

// filled has lines of other orders before the given ones, as many as there may be with them.
func filled(l []impl.Line) []impl.Line {
	return append(linesUpTo(impl.MaxLines-len(l), 10), l...)
}

// reason makes a call one that is answered with a code.
type reason struct {
	name string
	code int
	make func(c *moneyCall)
}

func spoiledReason(name string, spoil func(l []impl.Line) []impl.Line) reason {
	return reason{name, impl.MoneyBad, func(c *moneyCall) { c.spoil = spoil }}
}

// generalReasons are those that all three calls have; those of a call stand between them.
func generalReasons(between ...reason) []reason {
	first := []reason{
		spoiledReason("a line that is not valid", func(l []impl.Line) []impl.Line { l[0].Kind = 4; return l }),
		spoiledReason("too many lines", func(l []impl.Line) []impl.Line { return append(filled(l), chargeOf(5000, 1, 10)) }),
		spoiledReason("lines in no order", func(l []impl.Line) []impl.Line { l[len(l)-1].At = 9; return l }),
		spoiledReason("a doubled charge", func(l []impl.Line) []impl.Line { return append(l, l[0]) }),
		{"order 0", impl.MoneyBad, func(c *moneyCall) { c.order = 0 }},
		{"order too great", impl.MoneyBad, func(c *moneyCall) { c.order = impl.MaxId + 1 }},
		{"at -1", impl.MoneyBad, func(c *moneyCall) { c.at = -1 }},
		{"at too great", impl.MoneyBad, func(c *moneyCall) { c.at = impl.MaxTime + 1 }},
		{"least at", impl.MoneyBad, func(c *moneyCall) { c.at = leastInt }},
		{"greatest order", impl.MoneyBad, func(c *moneyCall) { c.order = greatestInt }},
	}
	last := []reason{
		{"full", impl.MoneyFull, func(c *moneyCall) { c.full = true }},
		{"too early", impl.MoneyBad, func(c *moneyCall) { c.at = 9 }},
		{"far too early", impl.MoneyBad, func(c *moneyCall) { c.at = 0 }},
	}
	return append(append(first, between...), last...)
}

func amountReasons() []reason {
	l := []reason{}
	for _, amount := range []int{0, -1, leastInt, impl.MaxPrice + 1, greatestInt} {
		l = append(l, reason{fmt.Sprint("amount ", amount), impl.MoneyBad, func(c *moneyCall) { c.amount = amount }})
	}
	return l
}

// checkReasons tries each reason alone, and each two of them. What belongs to the first one is done last, so that it is never undone.
func checkReasons(t *testing.T, reasons []reason, base func() moneyCall, do, want func(l []impl.Line, c moneyCall) ([]impl.Line, int)) {
	t.Helper()
	c := base()
	got, code := do(c.lines(), c)
	wanted, wantCode := want(c.lines(), c)
	if code != impl.MoneyOk || wantCode != impl.MoneyOk || len(got) != len(c.lines())+1 {
		t.Fatal("base", code, wantCode)
	}
	checkMoney(t, "base", got, code, wanted, wantCode)
	for i, first := range reasons {
		for k := i; k < len(reasons); k++ {
			c := base()
			reasons[k].make(&c)
			if k > i {
				first.make(&c)
			}
			got, code := do(c.lines(), c)
			checkMoney(t, []string{first.name, reasons[k].name}, got, code, c.lines(), first.code)
			if _, wantCode := want(c.lines(), c); wantCode != first.code {
				t.Error(first.name, reasons[k].name, "not by the document", wantCode, first.code)
			}
		}
	}
}

func TestChargeOrderCodes(t *testing.T) {
	base := func() moneyCall {
		return moneyCall{others: linesOf(chargeOf(2, 80, 10), payOf(2, 20, 10)), order: 1, amount: 100, at: 10}
	}
	between := append(amountReasons(),
		reason{"charged already", impl.MoneyTwice, func(c *moneyCall) { c.own = linesOf(chargeOf(1, 30, 10)) }},
		reason{"another order", impl.MoneyTwice, func(c *moneyCall) { c.order = 2 }})
	checkReasons(t, generalReasons(between...), base, func(l []impl.Line, c moneyCall) ([]impl.Line, int) {
		return impl.ChargeOrder(l, c.order, c.amount, c.at)
	}, func(l []impl.Line, c moneyCall) ([]impl.Line, int) {
		return wantedCharge(l, c.order, c.amount, c.at)
	})
}

func TestPayOrderCodes(t *testing.T) {
	base := func() moneyCall {
		return moneyCall{own: linesOf(chargeOf(1, 100, 10), payOf(1, 20, 10)), others: linesOf(chargeOf(2, 500, 10), payOf(2, 1, 10)), order: 1, amount: 80, at: 10}
	}
	between := append(amountReasons(),
		reason{"another order", impl.MoneyNone, func(c *moneyCall) { c.order = 3 }},
		reason{"not charged", impl.MoneyNone, func(c *moneyCall) { c.own = nil }},
		reason{"more than is owed", impl.MoneyMuch, func(c *moneyCall) { c.amount = 81 }},
		reason{"most of all", impl.MoneyMuch, func(c *moneyCall) { c.amount = impl.MaxPrice }},
		reason{"nothing is owed", impl.MoneyMuch, func(c *moneyCall) { c.own = append(c.own, payOf(1, 80, 10)) }})
	checkReasons(t, generalReasons(between...), base, func(l []impl.Line, c moneyCall) ([]impl.Line, int) {
		return impl.PayOrder(l, c.order, c.amount, c.at)
	}, func(l []impl.Line, c moneyCall) ([]impl.Line, int) {
		return wantedPay(l, c.order, c.amount, c.at)
	})
}

func refundCall() moneyCall {
	return moneyCall{own: linesOf(chargeOf(1, 100, 10), payOf(1, 80, 10), payOf(1, 20, 10)), others: linesOf(chargeOf(2, 500, 10), payOf(2, 1, 10)), order: 1, due: 1000, ended: 1001, percents: []int{25, 50}, at: 10}
}

// refundReasons are those with a refund that was given already, or those with an order for which something is owed: no lines that
// are valid have both.
func refundReasons(twice bool) []reason {
	l := []reason{}
	for _, percents := range badPercents() {
		l = append(l, reason{fmt.Sprint("percents ", percents), impl.MoneyBad, func(c *moneyCall) { c.percents = percents }})
	}
	if twice {
		l = append(l, reason{"given already", impl.MoneyTwice, func(c *moneyCall) { c.own = append(c.own, refundOf(1, 1, 10)) }})
	} else {
		l = append(l,
			reason{"another order", impl.MoneyNone, func(c *moneyCall) { c.order = 3 }},
			reason{"an order that owes", impl.MoneyNone, func(c *moneyCall) { c.order = 2 }},
			reason{"not charged", impl.MoneyNone, func(c *moneyCall) { c.own = nil }},
			reason{"something is owed", impl.MoneyNone, func(c *moneyCall) { c.own = linesOf(chargeOf(1, 100, 10), payOf(1, 80, 10), payOf(1, 19, 10)) }},
			reason{"nothing was paid", impl.MoneyNone, func(c *moneyCall) { c.own = linesOf(chargeOf(1, 100, 10)) }})
	}
	return generalReasons(append(l,
		reason{"in time", impl.MoneyMuch, func(c *moneyCall) { c.due, c.ended = 1000, 1000 }},
		reason{"before it was due", impl.MoneyMuch, func(c *moneyCall) { c.due, c.ended = 5, 4 }},
		reason{"due at no time", impl.MoneyMuch, func(c *moneyCall) { c.due = -1 }},
		reason{"ended at no time", impl.MoneyMuch, func(c *moneyCall) { c.ended = 2*impl.MaxTime + 1 }},
		reason{"no percent", impl.MoneyMuch, func(c *moneyCall) { c.percents = []int{0} }},
		reason{"least and greatest times", impl.MoneyMuch, func(c *moneyCall) { c.due, c.ended = leastInt, greatestInt }})...)
}

func TestRefundOrderCodes(t *testing.T) {
	for _, twice := range []bool{false, true} {
		checkReasons(t, refundReasons(twice), refundCall, func(l []impl.Line, c moneyCall) ([]impl.Line, int) {
			return impl.RefundOrder(l, c.order, c.due, c.ended, c.percents, c.at)
		}, func(l []impl.Line, c moneyCall) ([]impl.Line, int) {
			return wantedGiveBack(l, c.order, c.due, c.ended, c.percents, c.at)
		})
	}
}

// A refund is 0 where the percent is, and where so little was charged that the division gives 0.
func TestRefundOrderOfNothing(t *testing.T) {
	little, paid := linesOf(chargeOf(1, 3, 10), payOf(1, 3, 10)), refundCall().own
	for _, x := range []struct {
		l        []impl.Line
		percents []int
		code     int
	}{
		{paid, []int{0}, impl.MoneyMuch}, {paid, []int{0, 100}, impl.MoneyMuch}, {paid, []int{1}, impl.MoneyOk},
		{little, []int{33}, impl.MoneyMuch}, {little, []int{34}, impl.MoneyOk}, {little, []int{100}, impl.MoneyOk},
		{filled(little), []int{33}, impl.MoneyMuch}, {filled(little), []int{34}, impl.MoneyFull},
	} {
		got, code := impl.RefundOrder(x.l, 1, 0, 1, x.percents, 10)
		want, wantCode := wantedGiveBack(x.l, 1, 0, 1, x.percents, 10)
		checkMoney(t, x, got, code, want, wantCode)
		if code != x.code {
			t.Error(x, code)
		}
	}
}

func TestChargeOrder(t *testing.T) {
	l, code := impl.ChargeOrder(nil, 9999, 100000, 100000)
	checkMoney(t, "greatest", l, code, linesOf(chargeOf(9999, 100000, 100000)), impl.MoneyOk)
	l, code = impl.ChargeOrder([]impl.Line{}, 1, 1, 0)
	checkMoney(t, "least", l, code, linesOf(chargeOf(1, 1, 0)), impl.MoneyOk)
	l, code = impl.ChargeOrder(someLines(), 4, 5, 100000)
	checkMoney(t, "last", l, code, append(someLines(), chargeOf(4, 5, 100000)), impl.MoneyOk)
	for _, x := range someLines() {
		l, code = impl.ChargeOrder(someLines(), x.Order, 5, 100000)
		checkMoney(t, x, l, code, someLines(), impl.MoneyTwice)
	}
	l, code = impl.ChargeOrder(linesUpTo(impl.MaxLines-1, 7), 1, 5, 7)
	checkMoney(t, "last line", l, code, append(linesUpTo(impl.MaxLines-1, 7), chargeOf(1, 5, 7)), impl.MoneyOk)
	l, code = impl.ChargeOrder(linesUpTo(impl.MaxLines, 7), 1, 5, 7)
	checkMoney(t, "full", l, code, linesUpTo(impl.MaxLines, 7), impl.MoneyFull)
	l, code = impl.ChargeOrder(linesUpTo(impl.MaxLines, 7), 1, 5, 6)
	checkMoney(t, "full and early", l, code, linesUpTo(impl.MaxLines, 7), impl.MoneyFull)
	l, code = impl.ChargeOrder(linesUpTo(impl.MaxLines, 7), 1001, 5, 7)
	checkMoney(t, "full and twice", l, code, linesUpTo(impl.MaxLines, 7), impl.MoneyTwice)
}

func TestPayOrder(t *testing.T) {
	for _, x := range []struct{ order, amount, at, code int }{
		{2, 1, 100000, impl.MoneyOk}, {2, 2, 100000, impl.MoneyMuch}, {2, 1, 99999, impl.MoneyBad}, {2, 2, 99999, impl.MoneyMuch},
		{9999, 1, 100000, impl.MoneyOk}, {9999, 100000, 100000, impl.MoneyOk}, {9999, 100001, 100000, impl.MoneyBad}, {9999, 0, 100000, impl.MoneyBad},
		{1, 1, 100000, impl.MoneyMuch}, {3, 1, 100000, impl.MoneyMuch}, {7, 1, 0, impl.MoneyMuch}, {4, 1, 100000, impl.MoneyNone}, {4, 1, 0, impl.MoneyNone},
	} {
		l, code := impl.PayOrder(someLines(), x.order, x.amount, x.at)
		want := someLines()
		if x.code == impl.MoneyOk {
			want = append(want, payOf(x.order, x.amount, x.at))
		}
		checkMoney(t, x, l, code, want, x.code)
	}
	full := linesUpTo(impl.MaxLines, 7)
	for _, x := range []struct{ amount, at, code int }{{100, 7, impl.MoneyFull}, {101, 7, impl.MoneyMuch}, {100, 6, impl.MoneyFull}, {101, 6, impl.MoneyMuch}, {0, 7, impl.MoneyBad}} {
		l, code := impl.PayOrder(full, 1001, x.amount, x.at)
		checkMoney(t, x, l, code, full, x.code)
	}
	l, code := impl.PayOrder(full[:199], 1001, 100, 7)
	checkMoney(t, "last line", l, code, append(slices.Clone(full[:199]), payOf(1001, 100, 7)), impl.MoneyOk)
}

func TestRefundOrder(t *testing.T) {
	percents := []int{10, 50, 100}
	for _, x := range []struct{ order, due, ended, at, refund, code int }{
		{1, 500, 501, 100000, 30, impl.MoneyOk}, {1, 500, 1940, 100000, 30, impl.MoneyOk}, {1, 500, 1941, 100000, 150, impl.MoneyOk},
		{1, 0, 200000, 100000, 300, impl.MoneyOk}, {1, 500, 501, 99999, 0, impl.MoneyBad}, {1, 500, 500, 100000, 0, impl.MoneyMuch}, {1, 500, 500, 0, 0, impl.MoneyMuch},
		{2, 500, 501, 100000, 0, impl.MoneyNone}, {9999, 500, 501, 100000, 0, impl.MoneyNone}, {4, 500, 501, 100000, 0, impl.MoneyNone}, {4, 501, 500, 0, 0, impl.MoneyNone},
		{3, 500, 501, 100000, 0, impl.MoneyTwice}, {7, 0, 200000, 100000, 0, impl.MoneyTwice}, {7, 500, 500, 0, 0, impl.MoneyTwice},
		{0, 500, 501, 100000, 0, impl.MoneyBad}, {10000, 500, 501, 100000, 0, impl.MoneyBad}, {1, 500, 501, 100001, 0, impl.MoneyBad}, {1, 500, 501, -1, 0, impl.MoneyBad},
	} {
		l, code := impl.RefundOrder(someLines(), x.order, x.due, x.ended, percents, x.at)
		want := someLines()
		if x.code == impl.MoneyOk {
			want = append(want, refundOf(x.order, x.refund, x.at))
		}
		checkMoney(t, x, l, code, want, x.code)
	}
	l := filled(refundCall().own)
	got, code := impl.RefundOrder(l[1:], 1, 0, 1, percents, 10)
	checkMoney(t, "last line", got, code, append(slices.Clone(l[1:]), refundOf(1, 10, 10)), impl.MoneyOk)
	got, code = impl.RefundOrder(l, 1, 0, 1, percents, 10)
	checkMoney(t, "full", got, code, l, impl.MoneyFull)
}

func badPercents() [][]int {
	return [][]int{
		nil, {}, {0, 0, 0, 0, 0, 0, 0}, {-1}, {101}, {0, 101}, {-1, 0}, {50, 25}, {0, 1, 2, 3, 4, 3}, {100, 0}, {1, 0},
		{leastInt}, {greatestInt}, {0, leastInt}, {leastInt, 100}, {0, greatestInt}, {10, 5, 20}, {10, 101, 20}, {10, -1, 20}, {0, 0, 0, 0, 0, 101},
	}
}

func TestArePercents(t *testing.T) {
	for _, l := range [][]int{{0}, {100}, {50}, {0, 100}, {25, 50}, {30, 30}, {0, 0, 0, 0, 0, 0}, {100, 100, 100, 100, 100, 100}, {0, 1, 2, 3, 4, 100}, {5, 5, 6, 6, 7, 7}} {
		if !impl.ArePercents(l) || !areWantedPercents(l) {
			t.Error(l)
		}
	}
	for _, l := range badPercents() {
		if impl.ArePercents(l) || areWantedPercents(l) {
			t.Error(l)
		}
	}
	if impl.ArePercents(make([]int, 1000)) {
		t.Error("a thousand")
	}
}

func TestRefundFor(t *testing.T) {
	percents := []int{10, 33, 50}
	for _, x := range [][4]int{
		{1000, 2000, 1999, 0}, {1000, 2000, 2000, 0}, {1000, 2000, 2001, 100}, {1000, 2000, 3440, 100}, {1000, 2000, 3441, 330},
		{1000, 2000, 4880, 330}, {1000, 2000, 4881, 500}, {1000, 2000, 6320, 500}, {1000, 2000, 6321, 500}, {1000, 2000, 200000, 500}, {1000, 0, 200000, 500},
		{0, 2000, 4881, 0}, {1, 2000, 4881, 0}, {2, 2000, 4881, 1}, {3, 2000, 4881, 1}, {9, 2000, 2001, 0}, {10, 2000, 2001, 1}, {19, 2000, 2001, 1},
		{3, 2000, 3441, 0}, {4, 2000, 3441, 1}, {100, 2000, 3441, 33}, {303, 2000, 3441, 99}, {304, 2000, 3441, 100},
		{100000, 2000, 2001, 10000}, {100000, 0, 1, 10000}, {100001, 2000, 2001, 0}, {-1, 2000, 2001, 0}, {-1000, 2000, 2001, 0}, {leastInt, 2000, 2001, 0}, {greatestInt, 2000, 2001, 0},
		{1000, 0, 0, 0}, {1000, 199999, 200000, 100}, {1000, 200000, 200000, 0}, {1000, 200000, 200001, 0}, {1000, 199999, 200001, 0}, {1000, 200001, 200002, 0},
		{1000, -1, 0, 0}, {1000, -1, 5, 0}, {1000, -2, -1, 0}, {1000, leastInt, greatestInt, 0}, {1000, greatestInt, leastInt, 0},
		{1000, leastInt, 0, 0}, {1000, 0, greatestInt, 0}, {1000, greatestInt, greatestInt, 0}, {1000, leastInt, leastInt, 0}, {1000, 5, leastInt, 0}, {1000, greatestInt, 5, 0},
	} {
		if got := impl.RefundFor(x[0], x[1], x[2], percents); got != x[3] {
			t.Error(x, got)
		}
		if got := wantedRefund(x[0], x[1], x[2], percents); got != x[3] {
			t.Error(x, got, "by the document")
		}
	}
	for _, l := range badPercents() {
		if got := impl.RefundFor(1000, 2000, 2001, l); got != 0 {
			t.Error(l, got)
		}
	}
}

func TestRefundForByPercents(t *testing.T) {
	for _, x := range []struct {
		percents    []int
		ended, want int
	}{
		{[]int{0}, 1, 0}, {[]int{0}, 200000, 0}, {[]int{100}, 1, 777}, {[]int{100}, 200000, 777}, {[]int{40}, 1441, 310},
		{[]int{0, 0, 0, 0, 0, 100}, 5 * 1440, 0}, {[]int{0, 0, 0, 0, 0, 100}, 5*1440 + 1, 777},
		{[]int{1, 2, 3, 4, 5, 6}, 6 * 1440, 46}, {[]int{1, 2, 3, 4, 5, 6}, 6*1440 + 1, 46}, {[]int{1, 2, 3, 4, 5, 6}, 4*1440 + 1, 38}, {[]int{1, 2, 3, 4, 5, 6}, 4 * 1440, 31},
		{[]int{30, 30}, 1440, 233}, {[]int{30, 30}, 1441, 233},
	} {
		if got := impl.RefundFor(777, 0, x.ended, x.percents); got != x.want {
			t.Error(x, got)
		}
	}
}

// Charges, times and percents at random, and at the turns of the days.
func TestRefundForAnything(t *testing.T) {
	r := rand.New(rand.NewSource(111))
	given := 0
	for range 30000 {
		percents := percentsAtRandom(r)
		charge := []int{r.Intn(100), r.Intn(100001), 99990 + r.Intn(20), r.Intn(5) - 2}[r.Intn(4)]
		due := []int{r.Intn(200001), r.Intn(5) - 2, 199995 + r.Intn(10)}[r.Intn(3)]
		ended := due + []int{r.Intn(8)*1440 + r.Intn(3) - 1, r.Intn(12000) - 2000, 200000 - due + r.Intn(3)}[r.Intn(3)]
		got, want := impl.RefundFor(charge, due, ended, percents), wantedRefund(charge, due, ended, percents)
		if got != want {
			t.Fatal(charge, due, ended, percents, got, want)
		}
		if got > 0 {
			given++
		}
	}
	if given < 5000 {
		t.Error(given)
	}
}

func percentsAtRandom(r *rand.Rand) []int {
	l := make([]int, 1+r.Intn(6))
	for i := range l {
		l[i] = []int{0, 100, r.Intn(101), r.Intn(101)}[r.Intn(4)]
	}
	slices.Sort(l)
	if r.Intn(10) == 0 {
		l[r.Intn(len(l))] = r.Intn(110) - 5
	}
	return l
}

func TestOwedFor(t *testing.T) {
	l := someLines()
	for order, owed := range map[int]int{1: 0, 2: 1, 3: 0, 7: 0, 9999: 100000, 4: 0, 0: 0, -1: 0, 10000: 0, leastInt: 0, greatestInt: 0} {
		if got := impl.OwedFor(l, order); got != owed {
			t.Error(order, got)
		}
	}
	for count, owed := range []int{0, 0, 300, 300, 200, 200, 200, 1, 1, 1, 0, 0, 0, 0} {
		if got := impl.OwedFor(l[:count], 1); got != owed {
			t.Error(count, got)
		}
	}
}

func TestCashOf(t *testing.T) {
	l := someLines()
	for count, cash := range []int{0, 0, 0, 700, 800, 800, 800, 999, 1048, 1047, 1048, 1048, 1049, 1048} {
		if got := impl.CashOf(l[:count]); got != cash {
			t.Error(count, got)
		}
	}
	var most []impl.Line
	for order := 1; order <= 100; order++ {
		most = append(most, chargeOf(order, 100000, 0), payOf(order, 100000, 0))
	}
	if got := impl.CashOf(most); got != 10000000 {
		t.Error(got)
	}
}

func TestOpenOrders(t *testing.T) {
	for _, x := range []struct {
		l    []impl.Line
		want []int
	}{
		{nil, nil}, {someLines(), []int{2, 9999}}, {someLines()[:2], []int{1, 3}}, {someLines()[:6], []int{1, 2, 9999}},
		{linesOf(chargeOf(9, 1, 0), chargeOf(10, 1, 0), chargeOf(2, 1, 0), chargeOf(100, 1, 0), chargeOf(1, 1, 0)), []int{1, 2, 9, 10, 100}},
		{linesOf(chargeOf(9, 5, 0), payOf(9, 4, 0)), []int{9}}, {linesOf(chargeOf(9, 5, 0), payOf(9, 5, 0)), nil},
		{linesOf(chargeOf(9, 5, 0), payOf(9, 2, 0), payOf(9, 2, 0), chargeOf(8, 5, 0), payOf(8, 5, 0), chargeOf(7, 5, 0)), []int{7, 9}},
	} {
		if got := impl.OpenOrders(x.l); !slices.Equal(got, x.want) {
			t.Error(linesText(x.l), got)
		}
	}
	l := linesUpTo(impl.MaxLines, 3)
	slices.Reverse(l)
	if got := impl.OpenOrders(l); len(got) != impl.MaxLines || got[0] != 1001 || got[199] != 1200 || !slices.IsSorted(got) {
		t.Error(got)
	}
}

// Nothing is owed or paid by lines that are not valid, and no order is open.
func TestSumsOfBadLines(t *testing.T) {
	for i, l := range badLines() {
		for _, order := range []int{1, 2, 3, 1001, 0, -1, leastInt, greatestInt} {
			if owed := impl.OwedFor(l, order); owed != 0 {
				t.Error(i, order, "owed", owed)
			}
			if text := impl.Statement(l, order); text != "" {
				t.Errorf("%d %d %q", i, order, text)
			}
			checkLinesOf(t, l, order)
			checkSums(t, l, order)
		}
		if cash, open := impl.CashOf(l), impl.OpenOrders(l); cash != 0 || len(open) != 0 {
			t.Error(i, cash, open)
		}
		checkBadCalls(t, l)
	}
}

func checkBadCalls(t *testing.T, l []impl.Line) {
	t.Helper()
	for _, order := range []int{1, 2, 3, 1001, 1200} {
		got, code := impl.ChargeOrder(l, order, 1, impl.MaxTime)
		checkMoney(t, "charge", got, code, l, impl.MoneyBad)
		got, code = impl.PayOrder(l, order, 1, impl.MaxTime)
		checkMoney(t, "pay", got, code, l, impl.MoneyBad)
		got, code = impl.RefundOrder(l, order, 0, 1, []int{100}, impl.MaxTime)
		checkMoney(t, "refund", got, code, l, impl.MoneyBad)
	}
}

func TestLinesOf(t *testing.T) {
	if got := impl.LinesOf(someLines(), 1); !slices.Equal(got, linesOf(chargeOf(1, 300, 0), payOf(1, 100, 5), payOf(1, 199, 1440), payOf(1, 1, 2000))) {
		t.Error(got)
	}
	l := linesOf(payOf(0, 5, 9), payOf(-1, -7, 3), impl.Line{Kind: 77, At: -4}, payOf(0, 5, 9), chargeOf(greatestInt, leastInt, leastInt))
	for order, want := range map[int][]impl.Line{
		0: {l[0], l[2], l[3]}, -1: {l[1]}, greatestInt: {l[4]}, leastInt: nil, 1: nil,
	} {
		if got := impl.LinesOf(l, order); !slices.Equal(got, want) {
			t.Error(order, got)
		}
	}
	if got := impl.LinesOf(nil, 0); len(got) != 0 {
		t.Error(got)
	}
}

func TestStatement(t *testing.T) {
	l := someLines()
	for order, want := range map[int]string{
		1:    "0 00:00 charge 300\n0 00:05 payment 100\n1 00:00 payment 199\n1 09:20 payment 1\nowed 0\n",
		2:    "1 00:00 charge 50\n1 00:01 payment 49\nowed 1\n",
		3:    "0 00:00 charge 700\n0 00:05 payment 700\n1 09:20 refund 1\nowed 0\n",
		7:    "69 10:40 charge 1\n69 10:40 payment 1\n69 10:40 refund 1\nowed 0\n",
		9999: "0 00:05 charge 100000\nowed 100000\n",
		4:    "owed 0\n", 0: "owed 0\n", -1: "owed 0\n", 10000: "owed 0\n", leastInt: "owed 0\n", greatestInt: "owed 0\n",
	} {
		if got := impl.Statement(l, order); got != want {
			t.Errorf("%d %q", order, got)
		}
	}
	if got := impl.Statement(nil, 1); got != "owed 0\n" {
		t.Errorf("%q", got)
	}
}

// account is a history of charges, payments and refunds that goes on with each step.
type account struct {
	l      []impl.Line
	now    int
	orders int
	codes  map[string]int
}

// amountFor is mostly one that may be paid.
func (a *account) amountFor(r *rand.Rand, order int) int {
	owed := impl.OwedFor(a.l, order)
	return []int{owed, owed, owed + 1, 1, 1 + r.Intn(owed+1), r.Intn(200), 0}[r.Intn(7)]
}

func (a *account) step(t *testing.T, r *rand.Rand) {
	t.Helper()
	order, at := r.Intn(a.orders)+1, a.now
	if r.Intn(20) == 0 {
		at -= r.Intn(100)
	}
	if r.Intn(50) == 0 {
		order = []int{0, -1, 9999, 10000}[r.Intn(4)]
	}
	var got, want []impl.Line
	var code, wantCode int
	act := []string{"charge", "pay", "pay", "refund"}[r.Intn(4)]
	switch act {
	case "charge":
		amount := []int{1 + r.Intn(200), 1 + r.Intn(3), 100000 + r.Intn(2), r.Intn(2)}[r.Intn(4)]
		got, code = impl.ChargeOrder(a.l, order, amount, at)
		want, wantCode = wantedCharge(a.l, order, amount, at)
	case "pay":
		amount := a.amountFor(r, order)
		got, code = impl.PayOrder(a.l, order, amount, at)
		want, wantCode = wantedPay(a.l, order, amount, at)
	case "refund":
		percents, due := percentsAtRandom(r), r.Intn(5000)
		ended := due + r.Intn(10000) - 1000
		got, code = impl.RefundOrder(a.l, order, due, ended, percents, at)
		want, wantCode = wantedGiveBack(a.l, order, due, ended, percents, at)
	}
	checkMoney(t, []any{act, order, at}, got, code, want, wantCode)
	a.l = got
	a.codes[fmt.Sprint(act, " ", code)]++
	if r.Intn(3) == 0 {
		a.now = min(a.now+r.Intn(1000), impl.MaxTime)
	}
}

// Promise 11: nothing is charged twice, and nothing given back that was not paid, in histories at random; some are so long that
// there is no room for further lines.
func TestMoneyHistories(t *testing.T) {
	r := rand.New(rand.NewSource(110))
	codes := map[string]int{}
	for story := range 60 {
		a := account{orders: 1 + r.Intn(12), now: []int{0, r.Intn(100001), impl.MaxTime}[r.Intn(3)], codes: codes}
		steps := 150
		if story%10 == 0 {
			a.orders, steps = 150, 1000
		}
		for range steps {
			a.step(t, r)
			checkPurse(t, a.l)
			checkSums(t, a.l, r.Intn(a.orders)+1)
		}
		for order := range min(a.orders, 12) + 2 {
			checkSums(t, a.l, order)
		}
		checkPurses(t, a.l)
	}
	var wanted []string
	for act, list := range map[string][]int{
		"charge": {impl.MoneyOk, impl.MoneyBad, impl.MoneyTwice, impl.MoneyFull},
		"pay":    {impl.MoneyOk, impl.MoneyBad, impl.MoneyNone, impl.MoneyMuch, impl.MoneyFull},
		"refund": {impl.MoneyOk, impl.MoneyBad, impl.MoneyNone, impl.MoneyTwice, impl.MoneyMuch, impl.MoneyFull},
	} {
		for _, code := range list {
			wanted = append(wanted, fmt.Sprint(act, " ", code))
		}
	}
	checkCodes(t, codes, wanted...)
}

// Lines that are valid, and then changed in one field: they are valid just when the document says so.
func TestChangedLines(t *testing.T) {
	r := rand.New(rand.NewSource(112))
	good, bad := 0, 0
	for range 300 {
		a := account{orders: 1 + r.Intn(5), now: r.Intn(1000), codes: map[string]int{}}
		for range 40 {
			a.step(t, r)
		}
		for range 30 {
			l := slices.Clone(a.l)
			if len(l) == 0 {
				continue
			}
			changeAtRandom(r, reflect.ValueOf(&l[r.Intn(len(l))]).Elem().Field(r.Intn(4)))
			if areWantedLines(l) {
				good++
			} else {
				bad++
			}
			checkSums(t, l, 1+r.Intn(a.orders))
			got, code := impl.PayOrder(l, 1, 1, a.now)
			want, wantCode := wantedPay(l, 1, 1, a.now)
			checkMoney(t, "changed", got, code, want, wantCode)
		}
	}
	if good < 500 || bad < 500 {
		t.Error(good, bad)
	}
}

// Very great and very small numbers in every place.
func TestMoneyOfAnyNumbers(t *testing.T) {
	numbers := []int{leastInt, leastInt + 1, -100001, -1, 0, 1, 2, 3, 9999, 10000, 100000, 100001, 200000, 200001, greatestInt - 1, greatestInt}
	r := rand.New(rand.NewSource(113))
	one := func() int { return numbers[r.Intn(len(numbers))] }
	for range 20000 {
		l := someLines()[:r.Intn(14)]
		for range r.Intn(3) {
			l = append(l, impl.Line{Order: one(), Kind: one(), Amount: one(), At: one()})
		}
		percents := [][]int{{25, 50}, {100}, {one()}, {one(), one()}}[r.Intn(4)]
		order, amount, at, due, ended := one(), one(), one(), one(), one()
		got, code := impl.ChargeOrder(l, order, amount, at)
		want, wantCode := wantedCharge(l, order, amount, at)
		checkMoney(t, []int{order, amount, at}, got, code, want, wantCode)
		got, code = impl.PayOrder(l, order, amount, at)
		want, wantCode = wantedPay(l, order, amount, at)
		checkMoney(t, []int{order, amount, at}, got, code, want, wantCode)
		got, code = impl.RefundOrder(l, order, due, ended, percents, at)
		want, wantCode = wantedGiveBack(l, order, due, ended, percents, at)
		checkMoney(t, []int{order, due, ended, at}, got, code, want, wantCode)
		if got, want := impl.RefundFor(amount, due, ended, percents), wantedRefund(amount, due, ended, percents); got != want {
			t.Error(amount, due, ended, percents, got, want)
		}
		checkSums(t, l, order)
	}
}

// moneyCalls are all calls that return lines, those that refuse something too.
func moneyCalls(l []impl.Line) map[string]func() []impl.Line {
	only := func(l []impl.Line, code int) []impl.Line { return l }
	return map[string]func() []impl.Line{
		"charge":         func() []impl.Line { return only(impl.ChargeOrder(l, 4, 5, impl.MaxTime)) },
		"charge bad":     func() []impl.Line { return only(impl.ChargeOrder(l, 0, 5, impl.MaxTime)) },
		"charge twice":   func() []impl.Line { return only(impl.ChargeOrder(l, 1, 5, impl.MaxTime)) },
		"charge early":   func() []impl.Line { return only(impl.ChargeOrder(l, 4, 5, 0)) },
		"pay":            func() []impl.Line { return only(impl.PayOrder(l, 2, 1, impl.MaxTime)) },
		"pay bad":        func() []impl.Line { return only(impl.PayOrder(l, 2, 0, impl.MaxTime)) },
		"pay none":       func() []impl.Line { return only(impl.PayOrder(l, 4, 1, impl.MaxTime)) },
		"pay much":       func() []impl.Line { return only(impl.PayOrder(l, 2, 2, impl.MaxTime)) },
		"pay early":      func() []impl.Line { return only(impl.PayOrder(l, 2, 1, 0)) },
		"refund":         func() []impl.Line { return only(impl.RefundOrder(l, 1, 0, 1, []int{50}, impl.MaxTime)) },
		"refund bad":     func() []impl.Line { return only(impl.RefundOrder(l, 1, 0, 1, nil, impl.MaxTime)) },
		"refund none":    func() []impl.Line { return only(impl.RefundOrder(l, 2, 0, 1, []int{50}, impl.MaxTime)) },
		"refund twice":   func() []impl.Line { return only(impl.RefundOrder(l, 3, 0, 1, []int{50}, impl.MaxTime)) },
		"refund nothing": func() []impl.Line { return only(impl.RefundOrder(l, 1, 1, 1, []int{50}, impl.MaxTime)) },
		"refund early":   func() []impl.Line { return only(impl.RefundOrder(l, 1, 0, 1, []int{50}, 0)) },
		"lines":          func() []impl.Line { return impl.LinesOf(l, 1) },
	}
}

// scribbled overwrites a list with all that its memory holds.
func scribbled(l []impl.Line) {
	for i := range l[:cap(l)] {
		l[:cap(l)][i] = impl.Line{Order: -1, Kind: -1, Amount: -1, At: -1}
	}
}

func TestMoneyResultsAreNewMemory(t *testing.T) {
	for _, base := range [][]impl.Line{someLines(), linesUpTo(impl.MaxLines, 0), badLines()[1]} {
		l := withSpare(base)
		whole := slices.Clone(l[:cap(l)])
		for name, do := range moneyCalls(l) {
			first, second := do(), do()
			before := slices.Clone(second)
			scribbled(first)
			if !slices.Equal(second, before) || !slices.Equal(l[:cap(l)], whole) || !slices.Equal(do(), before) {
				t.Error(name, linesText(second), linesText(l))
			}
		}
		first, second := impl.OpenOrders(l), impl.OpenOrders(l)
		for i := range first {
			first[i] = -1
		}
		if slices.Contains(second, -1) {
			t.Error(second)
		}
	}
}

func TestMoneyArgumentsStay(t *testing.T) {
	for _, base := range [][]impl.Line{someLines(), linesUpTo(impl.MaxLines-1, 0), linesUpTo(impl.MaxLines, 0), badLines()[1]} {
		l, percents := withSpare(base), withSpare([]int{25, 50})
		whole, allPercents := slices.Clone(l[:cap(l)]), slices.Clone(percents[:cap(percents)])
		for _, do := range moneyCalls(l) {
			do()
		}
		impl.AreLines(l)
		impl.SumOf(l, 1, impl.LinePay)
		impl.OwedFor(l, 1)
		impl.CashOf(l)
		impl.OpenOrders(l)
		impl.Statement(l, 1)
		impl.ArePercents(percents)
		impl.RefundFor(100, 0, 5000, percents)
		impl.RefundOrder(l, 1, 0, 5000, percents, impl.MaxTime)
		if !slices.Equal(l[:cap(l)], whole) || !slices.Equal(percents[:cap(percents)], allPercents) {
			t.Error(linesText(l[:cap(l)]), percents[:cap(percents)])
		}
	}
}
