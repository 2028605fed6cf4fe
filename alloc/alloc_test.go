package alloc_test

import (
	"fmt"
	"math"
	"math/big"
	"math/rand"
	"reflect"
	"slices"
	"strings"
	"testing"
	"unsafe"

	"lombard/alloc"
	"lombard/api"
	"lombard/haircut"
	"lombard/limit"
	"lombard/lots"
)

const (
	// greatest is the most that there is of a lot, and that is needed; dearest is the highest price, unit is that of prices, haircuts and parts.
	greatest = 1 << 50
	dearest  = 1 << 32
	unit     = 1000000
	half     = unit / 2
)

var (
	noQtys   = []int{math.MinInt, -greatest, -1, 0, greatest + 1, 1 << 60, math.MaxInt}
	noPrices = []int{math.MinInt, -1, 0, dearest + 1, math.MaxInt}
	noCuts   = []int{math.MinInt, -1, unit, unit + 1, math.MaxInt}
	noNeeds  = []int{math.MinInt, -greatest, -1, greatest + 1, 1 << 60, math.MaxInt}
	noParts  = []int{math.MinInt, -1, unit + 1, math.MaxInt}
)

// parts are a basket's limits alone.
func parts(issuer, asset int) api.Basket { return api.Basket{Issuer: issuer, Asset: asset} }

// loose is limits of all that is needed.
func loose() api.Basket { return parts(unit, unit) }

// item is so many of an issuer's security, at a price and a haircut.
func item(number string, issuer, qty, price, cut int) haircut.Item {
	return haircut.Item{Lot: api.Lot{ISIN: number, Qty: qty}, Asset: api.Asset{ISIN: number, Issuer: issuer}, Price: price, Cut: cut}
}

// par is an item that covers as much as there is of it.
func par(number string, issuer, qty int) haircut.Item { return item(number, issuer, qty, unit, 0) }

// ending is an item whose security ends on a day.
func ending(x haircut.Item, day int) haircut.Item {
	x.Asset.Maturity = day
	return x
}

// items is a list of them.
func items(l ...haircut.Item) []haircut.Item { return l }

// number is the i-th of rising numbers.
func number(i int) string { return fmt.Sprintf("N%05d", i) }

// row is so many items at par, each of another security and issuer.
func row(n, qty int) []haircut.Item {
	var l []haircut.Item
	for i := range n {
		l = append(l, par(number(i), i, qty))
	}
	return l
}

// lotsOf is the lots of items, as they are.
func lotsOf(l []haircut.Item) []api.Lot {
	var out []api.Lot
	for _, x := range l {
		out = append(out, x.Lot)
	}
	return out
}

// list is lots written as a number, and how many, by turns.
func list(words ...any) []api.Lot {
	var l []api.Lot
	for i := 0; i < len(words); i += 2 {
		l = append(l, api.Lot{ISIN: words[i].(string), Qty: words[i+1].(int)})
	}
	return l
}

// plan is lots, what they cover, and what is lacking.
func plan(cover, short int, words ...any) alloc.Plan {
	return alloc.Plan{Lots: list(words...), Cover: cover, Short: short}
}

// short is something as it is told.
func short(args ...any) string {
	s := fmt.Sprintf("%+v", args)
	return s[:min(len(s), 500)]
}

// wantPlan wants a plan, and an error.
func wantPlan(t *testing.T, got alloc.Plan, e api.Errno, want alloc.Plan, wantE api.Errno) {
	t.Helper()
	if !slices.Equal(got.Lots, want.Lots) || got.Cover != want.Cover || got.Short != want.Short || e != wantE {
		t.Errorf("%s, %d; want %s, %d", short(got), e, short(want), wantE)
	}
}

// wantFill wants what Fill tells, and that Top of nothing tells the same.
func wantFill(t *testing.T, b api.Basket, l []haircut.Item, need int, want alloc.Plan, wantE api.Errno) {
	t.Helper()
	got, e := alloc.Fill(b, l, need)
	wantPlan(t, got, e, want, wantE)
	got, e = alloc.Top(b, nil, l, need)
	wantPlan(t, got, e, want, wantE)
}

// wantKeep wants what Keep tells, and that Top without free ones tells the same.
func wantKeep(t *testing.T, b api.Basket, have []haircut.Item, need int, want alloc.Plan, wantE api.Errno) {
	t.Helper()
	got, e := alloc.Keep(b, have, need)
	wantPlan(t, got, e, want, wantE)
	got, e = alloc.Top(b, have, nil, need)
	wantPlan(t, got, e, want, wantE)
}

// wantTop wants what Top tells.
func wantTop(t *testing.T, b api.Basket, have, free []haircut.Item, need int, want alloc.Plan, wantE api.Errno) {
	t.Helper()
	got, e := alloc.Top(b, have, free, need)
	wantPlan(t, got, e, want, wantE)
}

// wantSpare wants what Spare tells.
func wantSpare(t *testing.T, have []haircut.Item, need int, want []api.Lot, wantE api.Errno) {
	t.Helper()
	if got, e := alloc.Spare(have, need); !slices.Equal(got, want) || e != wantE {
		t.Errorf("Spare(%s, %d) = %s, %d; want %s, %d", short(have), need, short(got), e, short(want), wantE)
	}
}

// wantGood wants what Good tells.
func wantGood(t *testing.T, b api.Basket, l []haircut.Item, need int, want api.Errno) {
	t.Helper()
	if e := alloc.Good(b, l, need); e != want {
		t.Errorf("Good(%s, %s, %d) = %d; want %d", short(b), short(l), need, e, want)
	}
}

// The chapter's example.
func TestExample(t *testing.T) {
	wantFill(t, parts(half, unit), items(par("A", 1, 80), par("B", 2, 80)), 100, plan(100, 0, "A", 50, "B", 50), api.OK)
}

// taker is a call that is given items, and tells only an error.
type taker struct {
	name string
	call func(l []haircut.Item) api.Errno
}

// takers are all lists of items that calls take.
func takers(t *testing.T, b api.Basket, need int) []taker {
	planless := func(p alloc.Plan, e api.Errno) api.Errno {
		t.Helper()
		if e != api.OK && (len(p.Lots) != 0 || p.Cover != 0 || p.Short != 0) {
			t.Errorf("%s beside %d", short(p), e)
		}
		return e
	}
	return []taker{
		{"Fill", func(l []haircut.Item) api.Errno { return planless(alloc.Fill(b, l, need)) }},
		{"Keep", func(l []haircut.Item) api.Errno { return planless(alloc.Keep(b, l, need)) }},
		{"Top have", func(l []haircut.Item) api.Errno { return planless(alloc.Top(b, l, items(par("Z", 1, 1)), need)) }},
		{"Top free", func(l []haircut.Item) api.Errno { return planless(alloc.Top(b, items(par("Z", 1, 1)), l, need)) }},
		{"Spare", func(l []haircut.Item) api.Errno {
			spared, e := alloc.Spare(l, need)
			if e != api.OK && len(spared) != 0 {
				t.Errorf("%s beside %d", short(spared), e)
			}
			return e
		}},
		{"Good", func(l []haircut.Item) api.Errno { return alloc.Good(b, l, need) }},
	}
}

// wantFault wants the same fault of all that take items.
func wantFault(t *testing.T, l []haircut.Item, want api.Errno) {
	t.Helper()
	for _, x := range takers(t, loose(), 100) {
		if e := x.call(l); e != want {
			t.Errorf("%s of %s: %d; want %d", x.name, short(l), e, want)
		}
	}
}

// P18.1 to P18.4: there are 64 items at most, whatever else is wrong with them.
func TestTooMany(t *testing.T) {
	for _, n := range []int{65, 66, 128, 50000} {
		wantFault(t, row(n, 1), api.ErrLimit)
		wantFault(t, row(n, 0), api.ErrLimit)
		wantFault(t, slices.Repeat(row(1, -1), n), api.ErrLimit)
		wantFault(t, make([]haircut.Item, n), api.ErrLimit)
	}
	wantFault(t, row(64, 0), api.ErrArg)
	for _, x := range takers(t, loose(), 64) {
		// Where Top has a 65th one, too, what is needed is covered by 64 of them.
		if e := x.call(row(64, 1)); e != api.OK {
			t.Error(x.name, e)
		}
	}
}

// spoilt are items that may not be, each with what is told of it, in the order in which that is told.
func spoilt(x haircut.Item, other string) map[api.Errno][]haircut.Item {
	m := map[api.Errno][]haircut.Item{}
	put := func(e api.Errno, change func(x *haircut.Item, n int), values ...int) {
		for _, n := range values {
			y := x
			change(&y, n)
			m[e] = append(m[e], y)
			// Beside that the numbers are unlike, and the security was there: it is told first.
			y.Lot.ISIN = "?"
			m[e] = append(m[e], y)
			y.Asset.ISIN = other
			m[e] = append(m[e], y)
		}
	}
	put(api.ErrArg, func(x *haircut.Item, n int) { x.Lot.Qty = n }, noQtys...)
	put(api.ErrArg, func(x *haircut.Item, n int) { x.Price = n }, noPrices...)
	put(api.ErrArg, func(x *haircut.Item, n int) { x.Cut = n }, noCuts...)
	put(api.ErrArg, func(x *haircut.Item, n int) { x.Lot.Qty, x.Price, x.Cut = greatest, dearest, n }, noCuts...)
	put(api.ErrOver, func(x *haircut.Item, n int) { x.Lot.Qty, x.Price = greatest, n }, unit+1, 2*unit, dearest)
	put(api.ErrOver, func(x *haircut.Item, n int) { x.Lot.Qty, x.Price = n, dearest }, 262144000001, greatest)
	// These cover just one too many.
	put(api.ErrOver, func(x *haircut.Item, n int) { x.Lot.Qty, x.Price = n, 5*unit }, (greatest+1)/5)
	put(api.ErrOver, func(x *haircut.Item, n int) { x.Lot.Qty, x.Price, x.Cut = greatest, dearest, n }, 1, half, 999766)
	for _, pair := range [][2]string{{x.Lot.ISIN, "?"}, {"?", x.Asset.ISIN}, {other, x.Asset.ISIN}, {x.Lot.ISIN, other}, {other, other}, {"", x.Asset.ISIN}, {x.Lot.ISIN, ""}, {x.Lot.ISIN, x.Lot.ISIN + " "}} {
		y := x
		y.Lot.ISIN, y.Asset.ISIN = pair[0], pair[1]
		m[api.ErrTwice] = append(m[api.ErrTwice], y)
	}
	return m
}

// P18.1 to P18.4: what is wrong with an item, at each place, and in which order; of several items what is wrong with the first one.
func TestWrongItems(t *testing.T) {
	for _, i := range []int{1, 2, 31, 63} {
		l := row(64, 1)
		all := spoilt(l[i], l[i-1].Asset.ISIN)
		for e, wrong := range all {
			for _, x := range wrong {
				l[i] = x
				wantFault(t, l, e)
				wantFault(t, l[:i+1], e)
			}
		}
		for e := range all {
			for next, after := range all {
				if i+1 < len(l) {
					l[i], l[i+1] = all[e][0], after[0]
					if next == api.ErrTwice {
						l[i+1] = l[0]
					}
					wantFault(t, l, e)
				}
			}
		}
	}
	for i := 1; i < 64; i++ {
		for _, ahead := range []int{0, i / 2, i - 1} {
			l := row(64, 1)
			l[i] = par(number(ahead), i, 1)
			wantFault(t, l, api.ErrTwice)
		}
	}
	// The first item, too; and one whose terms are unlike is the same security.
	for e, wrong := range spoilt(par("A", 1, 1), "?") {
		for _, x := range wrong {
			if x.Lot.ISIN != x.Asset.ISIN || e != api.ErrTwice {
				wantFault(t, items(x), e)
			}
		}
	}
	wantFault(t, items(item("A", 1, 1, unit, 0), item("A", 2, 9, 2*unit, half)), api.ErrTwice)
}

// P18.1 to P18.4: what isn't named isn't looked at: a number, an issuer, a rating, an end or a currency may be any; and 2^50 may be covered.
func TestStrangeItems(t *testing.T) {
	l := items(par("", math.MinInt, 1), par("\xff", -1, 1), par("a", 0, 1), par("A", math.MaxInt, 1), par(strings.Repeat("A", 5000), 7, 1))
	for i := range l {
		l[i].Asset.Rating, l[i].Asset.Maturity, l[i].Asset.Currency = math.MinInt, -i, "?"
	}
	want := plan(5, 0, "", 1, "A", 1, strings.Repeat("A", 5000), 1, "a", 1, "\xff", 1)
	wantFill(t, loose(), l, 5, want, api.OK)
	wantKeep(t, loose(), l, 5, want, api.OK)
	wantSpare(t, l, 0, want.Lots, api.OK)
	wantGood(t, loose(), l, 5, api.OK)
	for _, x := range items(par("A", 1, greatest), item("A", 1, greatest, 1, 0), item("A", 1, greatest, unit, 999999), item("A", 1, 262144000000, dearest, 0), item("A", 1, greatest, 2*unit, half)) {
		l := items(x)
		wantFill(t, loose(), l, greatest, plan(x.Cover(), greatest-x.Cover(), "A", x.Lot.Qty), api.OK)
		wantKeep(t, loose(), l, greatest, plan(x.Cover(), greatest-x.Cover(), "A", x.Lot.Qty), api.OK)
		wantSpare(t, l, 0, lotsOf(l), api.OK)
		wantGood(t, loose(), l, x.Cover(), api.OK)
	}
}

// P18.1, P18.2, P18.4: a need, or a basket's limits, that may not be: told ahead of the items by Fill, Keep and Top, and behind them by Good.
func TestWrongTable(t *testing.T) {
	check := func(b api.Basket, need int) {
		t.Helper()
		for _, l := range [][]haircut.Item{nil, row(3, 5), row(65, 1), slices.Repeat(row(1, 1), 2), items(par("A", 1, 0)), items(item("A", 1, greatest, dearest, 0))} {
			wantFill(t, b, l, need, alloc.Plan{}, api.ErrArg)
			wantKeep(t, b, l, need, alloc.Plan{}, api.ErrArg)
			wantTop(t, b, l, l, need, alloc.Plan{}, api.ErrArg)
		}
		wantGood(t, b, nil, need, api.ErrArg)
		wantGood(t, b, row(3, 5), need, api.ErrArg)
		wantGood(t, b, row(65, 1), need, api.ErrLimit)
		wantGood(t, b, slices.Repeat(row(1, 1), 2), need, api.ErrTwice)
		wantGood(t, b, items(item("A", 1, greatest, dearest, 0)), need, api.ErrOver)
	}
	for _, need := range noNeeds {
		check(loose(), need)
		check(parts(0, 0), need)
	}
	for _, n := range noParts {
		for _, need := range []int{0, 100, greatest} {
			check(parts(n, unit), need)
			check(parts(unit, n), need)
		}
	}
	// The other rules of a basket are all one.
	b := api.Basket{ID: -1, Version: -1, Currency: "?", Rating: -1, Least: 9, Most: 1, Cuts: make([]api.Cut, 999), Issuer: unit, Asset: unit, Barred: []int{1}}
	wantFill(t, b, items(par("A", 1, 9)), 5, plan(5, 0, "A", 5), api.OK)
	wantKeep(t, b, items(par("A", 1, 9)), 5, plan(5, 0, "A", 5), api.OK)
	wantGood(t, b, items(par("A", 1, 5)), 5, api.OK)
}

// P18.1: items are taken as they are ranked, in whichever order they come, till what is needed is covered.
func TestFillRank(t *testing.T) {
	l := items(item("A", 1, 100, unit, 200000), ending(item("B", 2, 100, unit, 100000), 9), ending(item("C", 3, 100, unit, 100000), 8), ending(item("D", 4, 100, unit, 100000), 8), ending(par("E", 5, 100), 99))
	for _, z := range []struct {
		need int
		want alloc.Plan
	}{
		{0, plan(0, 0)}, {1, plan(1, 0, "E", 1)}, {100, plan(100, 0, "E", 100)}, {101, plan(101, 0, "C", 2, "E", 100)}, {190, plan(190, 0, "C", 100, "E", 100)}, {191, plan(191, 0, "C", 100, "D", 2, "E", 100)},
		{280, plan(280, 0, "C", 100, "D", 100, "E", 100)}, {281, plan(281, 0, "B", 2, "C", 100, "D", 100, "E", 100)}, {371, plan(371, 0, "A", 2, "B", 100, "C", 100, "D", 100, "E", 100)},
		{450, plan(450, 0, "A", 100, "B", 100, "C", 100, "D", 100, "E", 100)}, {451, plan(450, 1, "A", 100, "B", 100, "C", 100, "D", 100, "E", 100)}, {greatest, plan(450, greatest-450, "A", 100, "B", 100, "C", 100, "D", 100, "E", 100)},
	} {
		for range 5 {
			l = append(l[1:], l[0])
			wantFill(t, loose(), l, z.need, z.want, api.OK)
		}
	}
	wantFill(t, loose(), nil, 0, plan(0, 0), api.OK)
	wantFill(t, loose(), nil, 7, plan(0, 7), api.OK)
	wantFill(t, loose(), items(), greatest, plan(0, greatest), api.OK)
}

// P18.1: of each item the fewest that cover what is open are taken, and all where these aren't enough.
func TestFillLeast(t *testing.T) {
	wantFill(t, loose(), items(item("A", 1, 5000, 990000, 100000)), 891, plan(891, 0, "A", 1000), api.OK)
	wantFill(t, loose(), items(item("A", 1, 1000, 990000, 100000)), 891, plan(891, 0, "A", 1000), api.OK)
	wantFill(t, loose(), items(item("A", 1, 999, 990000, 100000)), 891, plan(890, 1, "A", 999), api.OK)
	wantFill(t, loose(), items(item("A", 1, 9, half, 0)), 3, plan(3, 0, "A", 6), api.OK)
	wantFill(t, loose(), items(item("A", 1, 5, half, 0)), 3, plan(2, 1, "A", 5), api.OK)
	// What covers more than is open may be taken, if there is room for it.
	wantFill(t, loose(), items(item("A", 1, 9, 3*unit, 0), item("B", 2, 9, 3*unit, 0)), 7, plan(9, 0, "A", 2, "B", 1), api.OK)
	// There is no such quantity at all: all are taken.
	wantFill(t, loose(), items(item("A", 1, greatest, 1, 0)), greatest, plan(1125899906, greatest-1125899906, "A", greatest), api.OK)
	wantFill(t, loose(), items(item("A", 1, 5*unit, 1, 0)), greatest, plan(5, greatest-5, "A", 5*unit), api.OK)
	wantFill(t, loose(), items(par("A", 1, greatest)), greatest, plan(greatest, 0, "A", greatest), api.OK)
	wantFill(t, loose(), items(par("A", 1, greatest-1), par("B", 1, greatest)), greatest, plan(greatest, 0, "A", greatest-1, "B", 1), api.OK)
	// One behind the other: what the first one leaves open is asked of the next.
	wantFill(t, loose(), row(64, 3), 100, alloc.Plan{Lots: append(lotsOf(row(33, 3)), list(number(33), 1)...), Cover: 100}, api.OK)
	wantFill(t, loose(), row(64, 3), 193, alloc.Plan{Lots: lotsOf(row(64, 3)), Cover: 192, Short: 1}, api.OK)
}

// P18.1: no limit is passed: of an issuer, or of a security; of what has room the most are taken that cover no more.
func TestFillLimits(t *testing.T) {
	l := items(par("A", 1, 100), par("B", 1, 100), par("C", 2, 100), par("D", 3, 100))
	for _, z := range []struct {
		b    api.Basket
		want alloc.Plan
	}{
		{parts(unit, unit), plan(100, 0, "A", 100)}, {parts(400000, unit), plan(100, 0, "A", 40, "C", 40, "D", 20)}, {parts(300000, unit), plan(90, 10, "A", 30, "C", 30, "D", 30)},
		{parts(unit, 300000), plan(100, 0, "A", 30, "B", 30, "C", 30, "D", 10)}, {parts(400000, 300000), plan(100, 0, "A", 30, "B", 10, "C", 30, "D", 30)}, {parts(unit, 240000), plan(96, 4, "A", 24, "B", 24, "C", 24, "D", 24)},
		{parts(0, unit), plan(0, 100)}, {parts(unit, 0), plan(0, 100)}, {parts(9999, unit), plan(0, 100)}, {parts(10000, unit), plan(3, 97, "A", 1, "C", 1, "D", 1)},
	} {
		wantFill(t, z.b, l, 100, z.want, api.OK)
	}
	// The most that there is room for, though fewer cover as much; but never more than cover what is open.
	wantFill(t, parts(half, unit), items(item("A", 1, 500, half, 0)), 100, plan(50, 50, "A", 101), api.OK)
	wantFill(t, parts(half, unit), items(item("A", 1, 101, half, 0)), 100, plan(50, 50, "A", 101), api.OK)
	wantFill(t, parts(half, unit), items(item("A", 1, 100, half, 0)), 100, plan(50, 50, "A", 100), api.OK)
	wantFill(t, parts(half, unit), items(par("A", 1, 90), item("B", 2, 500, half, 1)), 100, plan(100, 0, "A", 50, "B", 102), api.OK)
	wantFill(t, parts(half, unit), items(par("A", 1, 90), item("B", 2, 500, 3*unit, 0)), 100, plan(98, 2, "A", 50, "B", 16), api.OK)
	wantFill(t, loose(), items(item("A", 1, 9, 3*unit, 0)), 7, plan(6, 1, "A", 2), api.OK)
	wantFill(t, loose(), items(item("A", 1, 9, 3*unit, 0)), 6, plan(6, 0, "A", 2), api.OK)
}

// P18.1: what covers nothing isn't taken: one of it covers nothing, or there is no room for what would.
func TestFillNothing(t *testing.T) {
	wantFill(t, loose(), items(item("A", 1, 1, half, 0), item("B", 1, 1, unit, 1), par("C", 1, 5)), 100, plan(5, 95, "C", 5), api.OK)
	wantFill(t, loose(), items(item("A", 1, 2, half, 0)), 100, plan(1, 99, "A", 2), api.OK)
	wantFill(t, loose(), items(item("A", 1, 9, 101*unit, 0), item("B", 2, 9, 60*unit, 0)), 100, plan(60, 40, "B", 1), api.OK)
	wantFill(t, loose(), items(par("A", 1, 90), item("B", 1, 9, 11*unit, 0)), 100, plan(90, 10, "A", 90), api.OK)
	// The most that cover nothing would be one of it: that isn't taken either.
	wantFill(t, parts(100000, unit), items(par("A", 1, 90), item("B", 1, 9, half, 1)), 100, plan(10, 90, "A", 10), api.OK)
	wantFill(t, loose(), items(par("A", 1, 9)), 0, plan(0, 0), api.OK)
}

// P18.2: Keep takes all that there is room for, as it is ranked, though more than is needed be covered.
func TestKeep(t *testing.T) {
	wantKeep(t, loose(), nil, 0, plan(0, 0), api.OK)
	wantKeep(t, loose(), nil, 7, plan(0, 7), api.OK)
	wantKeep(t, loose(), items(par("A", 1, 80), par("B", 2, 80)), 100, plan(160, 0, "A", 80, "B", 80), api.OK)
	wantKeep(t, loose(), items(par("B", 2, 80), par("A", 1, 19)), 100, plan(99, 1, "A", 19, "B", 80), api.OK)
	wantKeep(t, loose(), items(par("A", 1, 101), par("B", 2, 80)), 100, plan(180, 0, "A", 100, "B", 80), api.OK)
	wantKeep(t, loose(), row(64, greatest), greatest, alloc.Plan{Lots: lotsOf(row(64, greatest)), Cover: 1 << 56}, api.OK)
	wantKeep(t, loose(), row(64, 1), 1, alloc.Plan{Lots: lotsOf(row(64, 1)), Cover: 64}, api.OK)
	// Nothing is needed: there is no room for anything.
	wantKeep(t, loose(), row(64, 1), 0, plan(0, 0), api.OK)
	// What is ranked first has the issuer's room first.
	l := items(item("A", 1, 50, unit, 200000), ending(par("B", 1, 30), 9), ending(par("C", 1, 30), 8), item("D", 2, 50, unit, 100000))
	for range 4 {
		l = append(l[1:], l[0])
		wantKeep(t, parts(half, unit), l, 100, plan(95, 5, "B", 20, "C", 30, "D", 50), api.OK)
		wantKeep(t, parts(700000, unit), l, 100, plan(115, 0, "A", 13, "B", 30, "C", 30, "D", 50), api.OK)
		wantKeep(t, parts(unit, 250000), l, 100, plan(100, 0, "A", 32, "B", 25, "C", 25, "D", 28), api.OK)
	}
}

// P18.2: of what covers more than there is room for the most are kept that cover no more; what covers nothing isn't kept.
func TestKeepMost(t *testing.T) {
	wantKeep(t, loose(), items(item("A", 1, 500, half, 0)), 100, plan(100, 0, "A", 201), api.OK)
	wantKeep(t, loose(), items(item("A", 1, 201, half, 0)), 100, plan(100, 0, "A", 201), api.OK)
	wantKeep(t, loose(), items(item("A", 1, 200, half, 0)), 100, plan(100, 0, "A", 200), api.OK)
	wantKeep(t, loose(), items(item("A", 1, 500, 3*unit, 0)), 100, plan(99, 1, "A", 33), api.OK)
	wantKeep(t, loose(), items(item("A", 1, 1, half, 0)), 100, plan(0, 100), api.OK)
	wantKeep(t, loose(), items(item("A", 1, 1, 101*unit, 0)), 100, plan(0, 100), api.OK)
	wantKeep(t, loose(), items(par("A", 1, 100), item("B", 1, 500, half, 1)), 100, plan(100, 0, "A", 100), api.OK)
	wantKeep(t, parts(unit, 0), items(item("A", 1, 500, half, 0)), 100, plan(0, 100), api.OK)
	wantKeep(t, loose(), items(item("A", 1, greatest, 1, 0), par("B", 1, greatest)), greatest, plan(greatest, 0, "A", greatest, "B", greatest-1125899906), api.OK)
}

// P18.2: Top fills up with free items what is open of those kept, and takes none of them where nothing is.
func TestTop(t *testing.T) {
	have, free := items(par("A", 1, 30), par("C", 2, 30)), items(par("B", 3, 50), par("D", 1, 50))
	for _, z := range []struct {
		b    api.Basket
		need int
		want alloc.Plan
	}{
		{loose(), 0, plan(0, 0)}, {loose(), 29, plan(58, 0, "A", 29, "C", 29)}, {loose(), 60, plan(60, 0, "A", 30, "C", 30)}, {loose(), 61, plan(61, 0, "A", 30, "B", 1, "C", 30)},
		{loose(), 111, plan(111, 0, "A", 30, "B", 50, "C", 30, "D", 1)}, {loose(), 160, plan(160, 0, "A", 30, "B", 50, "C", 30, "D", 50)}, {loose(), 161, plan(160, 1, "A", 30, "B", 50, "C", 30, "D", 50)},
		{parts(250000, unit), 100, plan(75, 25, "A", 25, "B", 25, "C", 25)}, {parts(350000, unit), 100, plan(100, 0, "A", 30, "B", 35, "C", 30, "D", 5)}, {parts(unit, 200000), 100, plan(80, 20, "A", 20, "B", 20, "C", 20, "D", 20)},
	} {
		wantTop(t, z.b, have, free, z.need, z.want, api.OK)
	}
	// What is kept has its room ahead of free items, though these be ranked ahead.
	wantTop(t, parts(half, unit), items(item("A", 1, 100, unit, 200000)), items(par("B", 1, 100), par("C", 2, 100)), 100, plan(100, 0, "A", 63, "C", 50), api.OK)
	// Of what is kept nothing goes for better ones.
	wantTop(t, loose(), items(item("A", 1, 100, unit, 200000)), items(par("B", 1, 100)), 100, plan(100, 0, "A", 100, "B", 20), api.OK)
	wantTop(t, loose(), nil, nil, 5, plan(0, 5), api.OK)
}

// P18.2: of a security that is kept, and free, both together are reckoned with.
func TestTopSame(t *testing.T) {
	a := func(qty int) []haircut.Item { return items(item("A", 1, qty, half, 0)) }
	for _, z := range []struct {
		have, free, need int
		want             alloc.Plan
	}{
		// The fewest that cover all: apart they would be more.
		{3, 100, 10, plan(10, 0, "A", 20)}, {19, 100, 10, plan(10, 0, "A", 20)}, {20, 100, 10, plan(10, 0, "A", 20)}, {21, 100, 10, plan(10, 0, "A", 21)},
		// What is kept, and what is free, and no more; together they can cover more than apart.
		{3, 1, 10, plan(2, 8, "A", 4)}, {3, 3, 10, plan(3, 7, "A", 6)}, {1, 5, 10, plan(2, 8, "A", 5)}, {9, 11, 10, plan(10, 0, "A", 20)}, {9, 10, 10, plan(9, 1, "A", 19)},
		// What adds nothing isn't taken.
		{2, 1, 10, plan(1, 9, "A", 2)}, {2, 2, 10, plan(2, 8, "A", 4)}, {1, 1, 10, plan(0, 10)}, {1, 2, 10, plan(1, 9, "A", 2)},
	} {
		wantTop(t, loose(), a(z.have), a(z.free), z.need, z.want, api.OK)
	}
	// The room that is left, and what is covered, together: as many as cover no more than both.
	wantTop(t, parts(unit, half), a(3), a(100), 8, plan(4, 4, "A", 9), api.OK)
	wantTop(t, parts(unit, half), a(3), a(6), 8, plan(4, 4, "A", 9), api.OK)
	wantTop(t, parts(unit, half), a(3), a(5), 8, plan(4, 4, "A", 8), api.OK)
	wantTop(t, parts(unit, half), a(8), a(5), 8, plan(4, 4, "A", 8), api.OK)
	wantTop(t, parts(unit, half), a(30), a(50), 8, plan(4, 4, "A", 9), api.OK)
	// Where the issuer's room is used up, nothing is kept or added; where some is left, just that is added.
	wantTop(t, parts(half, unit), append(a(100), par("B", 1, 2)), items(par("B", 1, 5)), 10, plan(5, 5, "A", 11), api.OK)
	wantTop(t, parts(half, unit), append(a(4), par("B", 1, 2)), items(par("B", 1, 5)), 10, plan(5, 5, "A", 4, "B", 3), api.OK)
	// Some of both, by the ranks of those that are free.
	wantTop(t, loose(), items(par("B", 2, 10), par("A", 1, 10)), items(par("C", 3, 10), par("B", 2, 10)), 35, plan(35, 0, "A", 10, "B", 20, "C", 5), api.OK)
	wantTop(t, loose(), row(64, 1), row(64, 2), 180, alloc.Plan{Lots: append(lotsOf(row(58, 3)), lotsOf(row(64, 1))[58:]...), Cover: 180}, api.OK)
	wantTop(t, loose(), items(par("A", 1, 1)), items(par("A", 1, greatest-1)), greatest, plan(greatest, 0, "A", greatest), api.OK)
	wantTop(t, loose(), items(item("A", 1, unit, 1, 0)), items(item("A", 1, greatest-unit, 1, 0)), greatest, plan(1125899906, greatest-1125899906, "A", greatest), api.OK)
}

// P18.2: what is free must be like what is there of it, and both together at most 2^50; the first free item that isn't so is told.
func TestTopClash(t *testing.T) {
	have := items(par("A", 1, 1), par("B", 2, greatest), par("C", 3, 5))
	var unlike []haircut.Item
	for _, change := range []func(x *haircut.Item){
		func(x *haircut.Item) { x.Asset.Issuer++ }, func(x *haircut.Item) { x.Asset.Rating++ }, func(x *haircut.Item) { x.Asset.Maturity++ }, func(x *haircut.Item) { x.Asset.Currency = "EUR" },
		func(x *haircut.Item) { x.Price++ }, func(x *haircut.Item) { x.Price = 1 }, func(x *haircut.Item) { x.Cut++ },
	} {
		x := par("A", 1, 1)
		change(&x)
		unlike = append(unlike, x)
	}
	tooMany := []haircut.Item{par("B", 2, 1), par("B", 2, greatest), par("A", 1, greatest)}
	wantTop(t, loose(), have, items(par("A", 1, greatest-1), par("C", 3, greatest-5)), 5, plan(11, 0, "A", 1, "B", 5, "C", 5), api.OK)
	for _, x := range unlike {
		wantTop(t, loose(), have, items(x), 5, alloc.Plan{}, api.ErrTwice)
		wantTop(t, loose(), have, items(par("D", 1, 1), x), 5, alloc.Plan{}, api.ErrTwice)
		wantTop(t, loose(), have, items(x, par("B", 2, 1)), 5, alloc.Plan{}, api.ErrTwice)
		wantTop(t, loose(), have, items(par("B", 2, 1), x), 5, alloc.Plan{}, api.ErrOver)
		// Of one item: that it is another one is told first.
		wantTop(t, loose(), items(par("A", 1, greatest)), items(x), 5, alloc.Plan{}, api.ErrTwice)
		// Nothing is looked at where it isn't there.
		wantTop(t, loose(), have[1:2], items(x), 5, plan(5, 0, "B", 5), api.OK)
	}
	for _, x := range tooMany {
		wantTop(t, loose(), have, items(x), 5, alloc.Plan{}, api.ErrOver)
		wantTop(t, loose(), have, items(par("D", 1, 1), x), 5, alloc.Plan{}, api.ErrOver)
		// It is told though nothing of it be kept, or taken.
		wantTop(t, loose(), have, items(x), 0, alloc.Plan{}, api.ErrOver)
		wantTop(t, parts(0, 0), have, items(x), 5, alloc.Plan{}, api.ErrOver)
	}
}

// P18.2: what is wrong with what is there comes first, then what is wrong with what is free, and then how they fit together.
func TestTopOrder(t *testing.T) {
	twice := slices.Repeat(items(par("A", 1, 1)), 2)
	over := items(item("B", 1, greatest, 2*unit, 0))
	none := items(par("C", 1, 0))
	for _, z := range []struct {
		l []haircut.Item
		e api.Errno
	}{{twice, api.ErrTwice}, {over, api.ErrOver}, {none, api.ErrArg}, {row(65, 1), api.ErrLimit}} {
		for _, other := range [][]haircut.Item{twice, over, none, row(65, 1), nil, row(3, 1)} {
			wantTop(t, loose(), z.l, other, 5, alloc.Plan{}, z.e)
		}
		wantTop(t, loose(), row(3, 1), z.l, 5, alloc.Plan{}, z.e)
		// An item that doesn't fit comes ahead of one that is wrong.
		wantTop(t, loose(), items(par("X", 1, greatest)), append(items(par("X", 1, 1)), z.l...), 5, alloc.Plan{}, z.e)
		wantTop(t, loose(), items(par("X", 1, greatest)), append(items(par("X", 2, 1)), z.l...), 5, alloc.Plan{}, z.e)
	}
}

// P18.2: a plan has 64 lots at most: of more securities Top tells lots.Of's error.
func TestTopTooMany(t *testing.T) {
	full := row(64, 1)
	other := func(n int) []haircut.Item {
		var l []haircut.Item
		for i := range n {
			l = append(l, par(number(100+i), 1, 1))
		}
		return l
	}
	all := func(n int) alloc.Plan {
		return alloc.Plan{Lots: lotsOf(append(slices.Clone(full[:n]), other(64-n)...)), Cover: 64}
	}
	for _, n := range []int{0, 1, 32, 63, 64} {
		wantTop(t, loose(), full[:n], other(64-n), 64, all(n), api.OK)
		// One more is there, but isn't taken, as nothing is open; but then it is.
		wantTop(t, loose(), full[:n], other(min(65-n, 64)), 64, all(n), api.OK)
		if n > 0 {
			wantTop(t, loose(), full[:n], other(65-n), 65, alloc.Plan{}, api.ErrLimit)
			wantTop(t, loose(), full[:n], other(64), 100, alloc.Plan{}, api.ErrLimit)
		}
	}
	wantTop(t, loose(), full, append(other(1), full[:63]...), 100, alloc.Plan{Lots: append(lotsOf(row(36, 2)), lotsOf(full)[36:]...), Cover: 100}, api.OK)
	wantTop(t, loose(), full, append(other(1), full[:63]...), 128, alloc.Plan{}, api.ErrLimit)
	// 64 are kept, and the 65th one covers nothing.
	wantTop(t, loose(), full, items(item("X", 1, 1, half, 0)), 100, alloc.Plan{Lots: lotsOf(full), Cover: 64, Short: 36}, api.OK)
	// One of the 64 isn't kept: there is a place for another one.
	worse := append(slices.Clone(full[:63]), item("X", 63, 1, half, 1))
	wantTop(t, loose(), worse, other(1), 64, alloc.Plan{Lots: lotsOf(append(slices.Clone(full[:63]), other(1)...)), Cover: 64}, api.OK)
}

// P18.3: from the one ranked last on all goes that isn't needed.
func TestSpare(t *testing.T) {
	have := items(item("A", 1, 100, unit, 200000), ending(par("B", 1, 100), 9), ending(par("C", 2, 100), 8), ending(par("D", 2, 100), 8))
	for _, z := range []struct {
		need int
		want []api.Lot
	}{
		{381, nil}, {greatest, nil}, {math.MaxInt, nil}, {380, nil}, {379, list("A", 1)}, {378, list("A", 2)}, {376, list("A", 5)}, {301, list("A", 98)}, {300, list("A", 100)}, {299, list("A", 100, "B", 1)}, {201, list("A", 100, "B", 99)},
		{200, list("A", 100, "B", 100)}, {199, list("A", 100, "B", 100, "D", 1)}, {100, list("A", 100, "B", 100, "D", 100)}, {1, list("A", 100, "B", 100, "C", 99, "D", 100)},
		{0, lotsOf(have)}, {-1, lotsOf(have)}, {-greatest, lotsOf(have)}, {380 - math.MaxInt, lotsOf(have)},
	} {
		for range 4 {
			have = append(have[1:], have[0])
			wantSpare(t, have, z.need, sorted(z.want), api.OK)
		}
	}
	for _, need := range []int{-5, 0, 5, greatest} {
		wantSpare(t, nil, need, nil, api.OK)
	}
	wantSpare(t, row(64, greatest), 0, lotsOf(row(64, greatest)), api.OK)
	wantSpare(t, row(64, greatest), 1<<56, nil, api.OK)
	wantSpare(t, row(64, greatest), 1<<56-1, list(number(63), 1), api.OK)
}

// sorted is lots by rising numbers.
func sorted(l []api.Lot) []api.Lot {
	l = slices.Clone(l)
	slices.SortFunc(l, func(x, y api.Lot) int { return strings.Compare(x.ISIN, y.ISIN) })
	return l
}

// P18.3: of each item the fewest stay that cover what must be covered by it, though nothing be too much; what is lost by that is reckoned with, not what the others would cover apart.
func TestSpareRounding(t *testing.T) {
	// Three at a half cover as much as two.
	wantSpare(t, items(item("A", 1, 3, half, 0)), 1, list("A", 1), api.OK)
	wantSpare(t, items(item("A", 1, 3, half, 0)), 0, list("A", 3), api.OK)
	wantSpare(t, items(item("A", 1, 3, half, 0)), 2, nil, api.OK)
	wantSpare(t, items(item("A", 1, 3, half, 0), par("B", 1, 4), item("C", 1, 1, half, 0)), 5, list("A", 1, "C", 1), api.OK)
	// 4 at three quarters cover 3, 3 of them 2: the one covers nothing apart, but without it one less is covered.
	wantSpare(t, items(par("A", 1, 5), item("B", 1, 4, 750000, 1)), 6, list("B", 1), api.OK)
	wantSpare(t, items(par("A", 1, 5), ending(item("B", 1, 4, 750000, 0), 1)), 7, list("B", 1), api.OK)
	wantSpare(t, items(par("A", 1, 5), ending(item("B", 1, 4, 750000, 0), 1)), 6, list("B", 2), api.OK)
	// One covers three: what is less than that can't be spared of it, but of the next item.
	wantSpare(t, items(par("A", 1, 5), item("B", 1, 4, 3*unit, 0)), 10, list("A", 1, "B", 2), api.OK)
	wantSpare(t, items(par("A", 1, 5), item("B", 1, 4, 3*unit, 1)), 14, list("A", 2), api.OK)
	wantSpare(t, items(par("A", 1, 5), item("B", 1, 4, 3*unit, 0)), 12, list("A", 2, "B", 1), api.OK)
	wantSpare(t, items(item("A", 1, greatest, 1, 0), item("B", 1, greatest, 1, 0)), 1125899906, list("A", 842624, "B", greatest), api.OK)
}

// P18.3: Margin's error comes behind what is wrong with the items.
func TestSpareOver(t *testing.T) {
	for _, need := range []int{math.MinInt, math.MinInt + 1, -math.MaxInt + 3} {
		for _, l := range [][]haircut.Item{nil, row(1, 1), row(5, 1), row(2, greatest)} {
			total, _ := haircut.Total(l)
			if total > math.MaxInt+need {
				wantSpare(t, l, need, nil, api.ErrOver)
			} else {
				wantSpare(t, l, need, lotsOf(l), api.OK)
			}
		}
		wantSpare(t, row(65, 1), need, nil, api.ErrLimit)
		wantSpare(t, slices.Repeat(row(1, 1), 2), need, nil, api.ErrTwice)
		wantSpare(t, row(1, 0), need, nil, api.ErrArg)
	}
	wantSpare(t, nil, math.MinInt, nil, api.ErrOver)
	wantSpare(t, nil, math.MinInt+1, nil, api.OK)
}

// P18.4: items are good that cover what is needed, and pass no limit; a limit is told ahead of what is lacking.
func TestGood(t *testing.T) {
	l := items(par("A", 1, 40), par("B", 1, 20), item("C", 2, 100, half, 200000))
	for _, z := range []struct {
		b    api.Basket
		need int
		want api.Errno
	}{
		{loose(), 100, api.OK}, {loose(), 101, api.ErrCover}, {loose(), greatest, api.ErrCover}, {loose(), 60, api.OK}, {loose(), 59, api.ErrConc}, {loose(), 0, api.ErrConc},
		{parts(600000, 400000), 100, api.OK}, {parts(599999, unit), 100, api.ErrConc}, {parts(unit, 399999), 100, api.ErrConc}, {parts(590000, unit), 101, api.ErrConc}, {parts(unit, 390000), 101, api.ErrConc}, {parts(600000, 400000), 101, api.ErrCover},
		{parts(0, unit), 100, api.ErrConc}, {parts(unit, 0), 100, api.ErrConc}, {parts(0, 0), greatest, api.ErrConc},
	} {
		wantGood(t, z.b, l, z.need, z.want)
	}
	wantGood(t, parts(0, 0), nil, 0, api.OK)
	wantGood(t, loose(), nil, 1, api.ErrCover)
	wantGood(t, loose(), items(), greatest, api.ErrCover)
	// What covers nothing passes no limit.
	wantGood(t, parts(0, 0), items(item("A", 1, 1, half, 0)), 0, api.OK)
	wantGood(t, parts(0, 0), items(item("A", 1, 1, half, 0)), 1, api.ErrCover)
	wantGood(t, loose(), row(64, greatest), greatest, api.OK)
	wantGood(t, loose(), row(64, greatest), greatest-1, api.ErrConc)
	wantGood(t, parts(15625, 15625), row(64, 1<<44), greatest, api.OK)
	wantGood(t, parts(15624, 15625), row(64, 1<<44), greatest, api.ErrConc)
	wantGood(t, parts(15625, 15624), row(64, 1<<44), greatest, api.ErrConc)
	wantGood(t, parts(15625, 15625), row(63, 1<<44), greatest, api.ErrCover)
	wantGood(t, loose(), items(par("A", 1, greatest), item("B", 2, 1, half, 0)), greatest, api.OK)
}

// whole is a number of any length.
func whole(n int) *big.Int { return big.NewInt(int64(n)) }

// cover is what so many cover, in numbers of any length.
func cover(x haircut.Item, qty int) int {
	n := new(big.Int).Mul(whole(qty), whole(x.Price))
	n.Div(n, whole(unit))
	n.Mul(n, whole(unit-x.Cut))
	return int(n.Div(n, whole(unit)).Int64())
}

// upward is a times b by c, rounded up.
func upward(a *big.Int, b, c int) *big.Int {
	n := new(big.Int).Mul(a, whole(b))
	n.Add(n, whole(c-1))
	return n.Div(n, whole(c))
}

// fewest is how many cover an amount, up to most, by going back from the cover to the worth, and from that to the quantity.
func fewest(x haircut.Item, need, most int) int {
	n := upward(upward(whole(need), unit, unit-x.Cut), unit, x.Price)
	if n.Cmp(whole(most)) > 0 {
		return most
	}
	return int(n.Int64())
}

// within is how many cover no more than an amount, up to most.
func within(x haircut.Item, limit, most int) int {
	// One fewer than cover more, unless most don't.
	if cover(x, most) <= limit {
		return most
	}
	return fewest(x, limit+1, most) - 1
}

// model is the chapter's words once more, by maps.
type model struct {
	need, issuer, asset int
	issuers             map[int]int
	taken, covers       map[string]int
}

// newModel is a model without anything taken.
func newModel(b api.Basket, need int) *model {
	part := func(n int) int {
		p := new(big.Int).Mul(whole(need), whole(n))
		return int(p.Div(p, whole(unit)).Int64())
	}
	return &model{need: need, issuer: part(b.Issuer), asset: part(b.Asset), issuers: map[int]int{}, taken: map[string]int{}, covers: map[string]int{}}
}

// sum is how much is covered.
func (m *model) sum() int {
	sum := 0
	for _, n := range m.covers {
		sum += n
	}
	return sum
}

// room is how much more a security may cover.
func (m *model) room(x haircut.Item) int {
	return min(m.issuer-m.issuers[x.Asset.Issuer], m.asset-m.covers[x.Lot.ISIN])
}

// take takes so many in all, as far as there is room.
func (m *model) take(x haircut.Item, qty int) {
	number := x.Lot.ISIN
	if cover(x, qty)-m.covers[number] > m.room(x) {
		qty = within(x, m.room(x)+m.covers[number], qty)
	}
	if added := cover(x, qty) - m.covers[number]; added > 0 {
		m.issuers[x.Asset.Issuer] += added
		m.covers[number] += added
		m.taken[number] = qty
	}
}

// ahead tells whether an item is ranked ahead of another one.
func ahead(x, y haircut.Item) bool {
	if x.Cut != y.Cut {
		return x.Cut < y.Cut
	}
	if x.Asset.Maturity != y.Asset.Maturity {
		return x.Asset.Maturity < y.Asset.Maturity
	}
	return x.Lot.ISIN < y.Lot.ISIN
}

// inOrder is items as they are ranked: again and again the one that no other is ahead of.
func inOrder(l []haircut.Item) []haircut.Item {
	left, out := slices.Clone(l), items()
	for len(left) > 0 {
		first := 0
		for i := range left {
			if ahead(left[i], left[first]) {
				first = i
			}
		}
		out = append(out, left[first])
		left = slices.Delete(left, first, first+1)
	}
	return out
}

// keep keeps items.
func (m *model) keep(l []haircut.Item) {
	for _, x := range inOrder(l) {
		m.take(x, x.Lot.Qty)
	}
}

// fill takes items till all is covered.
func (m *model) fill(l []haircut.Item) {
	for _, x := range inOrder(l) {
		if open := m.need - m.sum(); open > 0 {
			q0, c0 := m.taken[x.Lot.ISIN], m.covers[x.Lot.ISIN]
			m.take(x, fewest(x, open+c0, q0+x.Lot.Qty))
		}
	}
}

// plan is what a model came to.
func (m *model) plan() (alloc.Plan, api.Errno) {
	if len(m.taken) > 64 {
		return alloc.Plan{}, api.ErrLimit
	}
	var l []api.Lot
	for n, qty := range m.taken {
		l = append(l, api.Lot{ISIN: n, Qty: qty})
	}
	return alloc.Plan{Lots: sorted(l), Cover: m.sum(), Short: max(0, m.need-m.sum())}, api.OK
}

// sparedOf is what can be spared, by the chapter's words.
func sparedOf(have []haircut.Item, need int) []api.Lot {
	excess := -need
	for _, x := range have {
		excess += cover(x, x.Lot.Qty)
	}
	if excess < 0 {
		return nil
	}
	var l []api.Lot
	ranked := inOrder(have)
	for i := len(ranked) - 1; i >= 0; i-- {
		x := ranked[i]
		all := cover(x, x.Lot.Qty)
		n := fewest(x, max(0, all-excess), x.Lot.Qty)
		excess -= all - cover(x, n)
		if n < x.Lot.Qty {
			l = append(l, api.Lot{ISIN: x.Lot.ISIN, Qty: x.Lot.Qty - n})
		}
	}
	return sorted(l)
}

// goodOf is whether items are good, by the chapter's words.
func goodOf(b api.Basket, l []haircut.Item, need int) api.Errno {
	m, sum := newModel(b, need), 0
	for _, x := range l {
		n := cover(x, x.Lot.Qty)
		sum += n
		m.issuers[x.Asset.Issuer] += n
		if n > m.asset {
			return api.ErrConc
		}
	}
	for _, n := range m.issuers {
		if n > m.issuer {
			return api.ErrConc
		}
	}
	if sum < need {
		return api.ErrCover
	}
	return api.OK
}

// anyTerms are securities by chance, each with its terms; scale is how great quantities are.
func anyTerms(r *rand.Rand, scale int) []haircut.Item {
	var l []haircut.Item
	prices := []int{half, unit, 750000, 3 * unit, 333333, 7 * unit, 1 + r.Intn(2*unit)}
	cuts := []int{0, 0, 100000, 20000, half, r.Intn(unit)}
	n := 1 + r.Intn(1<<r.Intn(8))
	for i := range min(n, 100) {
		x := item(number(i), r.Intn(1+n/2), 1+r.Intn(scale), prices[r.Intn(len(prices))], cuts[r.Intn(len(cuts))])
		if r.Intn(30) == 0 {
			x.Price = 1 + r.Intn(1<<r.Intn(33))
		}
		x.Asset.Maturity = r.Intn(3)
		l = append(l, x)
	}
	return l
}

// some is a choice among securities, in any order, each of another quantity; what covers too much is left out.
func some(r *rand.Rand, terms []haircut.Item, scale int) []haircut.Item {
	var l []haircut.Item
	for _, i := range r.Perm(len(terms)) {
		x := terms[i]
		x.Lot.Qty = 1 + r.Intn(scale)
		if r.Intn(4) > 0 && len(l) < 64 && cover(x, x.Lot.Qty) <= greatest {
			l = append(l, x)
		}
	}
	return l
}

// anyCase is a basket, items that are there, and free, and what is needed, by chance.
func anyCase(r *rand.Rand) (api.Basket, []haircut.Item, []haircut.Item, int) {
	scale := 1 + r.Intn(1<<r.Intn(49))
	if r.Intn(2) == 0 {
		scale = 1 + r.Intn(20)
	}
	terms := anyTerms(r, scale)
	have, free := some(r, terms, scale), some(r, terms, scale)
	need := r.Intn(min(greatest, scale*(1+r.Intn(1+len(terms)))) + 1)
	share := []int{unit, half, 300000, 100000, 1 + r.Intn(unit), 0}
	b := parts(share[r.Intn(5)], share[r.Intn(5)])
	if r.Intn(20) == 0 {
		b.Asset = 0
	}
	return b, have, free, need
}

// P18.1 to P18.4: by chance, held against a second reckoning.
func TestChance(t *testing.T) {
	r := rand.New(rand.NewSource(1))
	told := map[api.Errno]int{}
	covered, lacking, spared := 0, 0, 0
	for range 6000 {
		b, have, free, need := anyCase(r)
		m := newModel(b, need)
		m.fill(free)
		want, e := m.plan()
		wantFill(t, b, free, need, want, e)
		m = newModel(b, need)
		m.keep(have)
		want, e = m.plan()
		wantKeep(t, b, have, need, want, e)
		m.fill(free)
		want, e = m.plan()
		wantTop(t, b, have, free, need, want, e)
		told[e]++
		if want.Short > 0 {
			lacking++
		} else if e == api.OK && need > 0 {
			covered++
		}
		low := need - r.Intn(need+1)
		wantSpare(t, have, low, sparedOf(have, low), api.OK)
		if got := sparedOf(have, low); len(got) > 1 && len(got) < len(have) {
			spared++
		}
		e = goodOf(b, have, need)
		wantGood(t, b, have, need, e)
		told[e]++
		if t.Failed() {
			t.Fatal(b, have, free, need)
		}
	}
	if told[api.ErrLimit] < 5 || told[api.ErrConc] < 500 || told[api.ErrCover] < 100 || told[api.OK] < 1000 || covered < 1000 || lacking < 1000 || spared < 200 {
		t.Error(told, covered, lacking, spared)
	}
}

// of is items of lots, with the terms of their securities.
func of(t *testing.T, l []api.Lot, terms []haircut.Item) []haircut.Item {
	t.Helper()
	var out []haircut.Item
	for _, x := range l {
		i := slices.IndexFunc(terms, func(y haircut.Item) bool { return y.Lot.ISIN == x.ISIN })
		if i < 0 {
			t.Fatalf("%v is not among the items", x)
		}
		y := terms[i]
		y.Lot.Qty = x.Qty
		out = append(out, y)
	}
	return out
}

// wantWithin wants lots that are a list, among items that come to so many of each security, and pass no limit.
func wantWithin(t *testing.T, b api.Basket, need int, taken []haircut.Item, among map[string]int) {
	t.Helper()
	if _, e := lots.Check(lotsOf(taken)); e != api.OK {
		t.Errorf("%s: %d", short(taken), e)
	}
	for _, x := range taken {
		if x.Lot.Qty > among[x.Lot.ISIN] {
			t.Errorf("%v of %d", x, among[x.Lot.ISIN])
		}
	}
	if over, e := limit.Over(b, need, taken); e != api.OK || len(over) > 0 {
		t.Errorf("%s of %s: %v, %d", short(taken), short(b), over, e)
	}
}

// wantReasons wants of each item a reason why no more of it was taken: it is taken whole, or covers nothing more, or one more of it would pass a limit, or nothing of it is taken, as one of it covers nothing. Ahead of these items some were taken, and then there were more.
func wantReasons(t *testing.T, b api.Basket, need int, l, terms []haircut.Item, ahead, then []api.Lot) {
	t.Helper()
	m := newModel(b, need)
	for _, x := range of(t, then, terms) {
		m.issuers[x.Asset.Issuer] += cover(x, x.Lot.Qty)
		m.covers[x.Lot.ISIN] = cover(x, x.Lot.Qty)
	}
	for _, x := range l {
		was, is := lots.Qty(ahead, x.Lot.ISIN), lots.Qty(then, x.Lot.ISIN)
		old, now := cover(x, was), cover(x, is)
		whole := is == was+x.Lot.Qty || cover(x, was+x.Lot.Qty) == old
		passes := cover(x, is+1)-now > m.room(x)
		nothing := is == was && cover(x, was+1) == old
		if !whole && !passes && !nothing {
			t.Errorf("%+v: of %d taken it came to %d, of %s needed %d", x, was, is, short(b), need)
		}
	}
}

// wantHolds wants what follows of a plan of items.
func wantHolds(t *testing.T, b api.Basket, need int, p alloc.Plan, e api.Errno, l []haircut.Item) {
	t.Helper()
	if e != api.OK {
		t.Fatal(e)
	}
	among := map[string]int{}
	for _, x := range l {
		among[x.Lot.ISIN] += x.Lot.Qty
	}
	taken := of(t, p.Lots, l)
	wantWithin(t, b, need, taken, among)
	total, e := haircut.Total(taken)
	if e != api.OK || total != p.Cover || p.Short != max(0, need-total) {
		t.Errorf("%s cover %d, %d of %d", short(p), total, e, need)
	}
	if p.Short == 0 {
		wantGood(t, b, taken, need, api.OK)
	}
}

// P18.5: what Fill, Keep and Top take is among the items, within the limits, and covers what is needed, but for Short; where that is lacking no more could be taken.
func TestPlansHold(t *testing.T) {
	r := rand.New(rand.NewSource(2))
	lacking := 0
	for range 4000 {
		b, have, free, need := anyCase(r)
		p, e := alloc.Fill(b, free, need)
		wantHolds(t, b, need, p, e, free)
		if p.Short > 0 {
			wantReasons(t, b, need, free, free, nil, p.Lots)
		}
		kept, e := alloc.Keep(b, have, need)
		wantHolds(t, b, need, kept, e, have)
		wantReasons(t, b, need, have, have, nil, kept.Lots)
		all := slices.Concat(have, free)
		if p, e = alloc.Top(b, have, free, need); e == api.OK {
			wantHolds(t, b, need, p, e, all)
		}
		if p.Short > 0 {
			wantReasons(t, b, need, free, all, kept.Lots, p.Lots)
			lacking++
		}
		if t.Failed() {
			t.Fatal(b, have, free, need)
		}
	}
	if lacking < 500 {
		t.Error(lacking)
	}
}

// P18.5: without what can be spared what is needed is covered yet, and then nothing can be spared, not even one of any item.
func TestSpareHolds(t *testing.T) {
	r := rand.New(rand.NewSource(3))
	left := 0
	for range 4000 {
		_, have, _, need := anyCase(r)
		margin, e := haircut.Margin(have, need)
		if e != api.OK || margin < 0 {
			continue
		}
		spared, e := alloc.Spare(have, need)
		rest, restE := lots.Minus(sorted(lotsOf(have)), spared)
		if e != api.OK || restE != api.OK {
			t.Fatal(have, need, spared, e, restE)
		}
		stay := of(t, rest, have)
		margin, e = haircut.Margin(stay, need)
		if e != api.OK || margin < 0 {
			t.Fatal(have, need, spared, margin, e)
		}
		for i := range stay {
			stay[i].Lot.Qty--
			if margin, e := haircut.Margin(stay, need); e != api.OK || margin >= 0 {
				t.Fatal(have, need, spared, stay[i], margin, e)
			}
			stay[i].Lot.Qty++
			left++
		}
		wantSpare(t, stay, need, nil, api.OK)
	}
	if left < 2000 {
		t.Error(left)
	}
}

// All calls end, and none panics, whatever they are given.
func TestAnyArguments(t *testing.T) {
	r := rand.New(rand.NewSource(4))
	pick := func(l ...int) int { return l[r.Intn(len(l))] }
	any := func() []haircut.Item {
		var l []haircut.Item
		for range r.Intn(pick(4, 4, 70)) {
			x := item(number(r.Intn(pick(3, 1000))), r.Intn(3), pick(append(noQtys, 1, 5, greatest)...), pick(append(noPrices, 1, unit, dearest)...), pick(append(noCuts, 0, half)...))
			if r.Intn(3) > 0 {
				x.Lot.Qty, x.Price, x.Cut = pick(1, 7, greatest), pick(half, unit), 0
			}
			if r.Intn(9) == 0 {
				x.Lot.ISIN = "?"
			}
			l = append(l, x)
		}
		return l
	}
	told := map[api.Errno]int{}
	for range 5000 {
		b := parts(pick(append(noParts, 0, half, unit, unit)...), pick(unit, unit, half, -1))
		have, free, need := any(), any(), pick(append(noNeeds, 0, 1, 5, 100, greatest)...)
		for _, x := range takers(t, b, need) {
			told[x.call(have)]++
		}
		_, e := alloc.Top(b, have, free, need)
		told[e]++
	}
	for e := range told {
		if !slices.Contains([]api.Errno{api.OK, api.ErrArg, api.ErrLimit, api.ErrTwice, api.ErrOver, api.ErrConc, api.ErrCover}, e) {
			t.Error(e)
		}
	}
}

// What is handed in isn't changed, nor is the room behind it; an answer is new, so that spoiling it spoils nothing else.
func TestMemory(t *testing.T) {
	all := items(item("D", 1, 9, unit, 200000), item("B", 2, 9, half, 0), item("A", 1, 9, unit, 100000), par("C", 3, 9), par("E", 1, 9), par("F", 9, 9))
	free := items(par("G", 2, 9), par("F", 9, 9), item("A", 1, 9, unit, 100000))
	b := api.Basket{Issuer: half, Asset: half, Cuts: []api.Cut{{Days: 1}}, Barred: []int{1}}
	wasAll, wasFree, wasB := slices.Clone(all), slices.Clone(free), api.Basket{Issuer: half, Asset: half, Cuts: []api.Cut{{Days: 1}}, Barred: []int{1}}
	spoil := func(l []api.Lot) { clear(l[:cap(l)]) }
	for n := range all {
		l := all[:n]
		want, _ := alloc.Top(b, l, free, 50)
		for _, p := range []func() (alloc.Plan, api.Errno){
			func() (alloc.Plan, api.Errno) { return alloc.Fill(b, l, 50) },
			func() (alloc.Plan, api.Errno) { return alloc.Keep(b, l, 50) },
			func() (alloc.Plan, api.Errno) { return alloc.Top(b, free, l, 50) },
			func() (alloc.Plan, api.Errno) { return alloc.Top(b, l, l, 50) },
		} {
			got, e := p()
			if e != api.OK {
				t.Fatal(e)
			}
			spoil(got.Lots)
		}
		spared, _ := alloc.Spare(l, 5)
		spoil(spared)
		alloc.Good(b, l, 50)
		wantTop(t, b, l, free, 50, want, api.OK)
		if !slices.Equal(all, wasAll) || !slices.Equal(free, wasFree) || !reflect.DeepEqual(b, wasB) {
			t.Fatal(all, free, b)
		}
	}
}

// The texts of an answer lie apart from those handed in, and from each other's.
func TestTexts(t *testing.T) {
	met := map[*byte]bool{}
	meet := func(s string) {
		t.Helper()
		if met[unsafe.StringData(s)] {
			t.Errorf("%q lies where another text does", s)
		}
		met[unsafe.StringData(s)] = true
	}
	own := func(l []haircut.Item) []haircut.Item {
		for i := range l {
			l[i].Lot.ISIN, l[i].Asset.ISIN = strings.Clone(l[i].Lot.ISIN), strings.Clone(l[i].Asset.ISIN)
			meet(l[i].Lot.ISIN)
			meet(l[i].Asset.ISIN)
		}
		return l
	}
	have, free := own(items(par("A", 1, 5), par("B", 2, 5))), own(items(par("B", 2, 5), par("C", 3, 5)))
	for range 2 {
		fill, _ := alloc.Fill(loose(), have, 9)
		keep, _ := alloc.Keep(loose(), have, 9)
		top, _ := alloc.Top(loose(), have, free, 18)
		spared, _ := alloc.Spare(have, 3)
		if len(fill.Lots) != 2 || len(keep.Lots) != 2 || len(top.Lots) != 3 || len(spared) != 2 {
			t.Fatal(fill, keep, top, spared)
		}
		for _, x := range slices.Concat(fill.Lots, keep.Lots, top.Lots, spared) {
			meet(x.ISIN)
		}
	}
}
