package subst_test

import (
	"fmt"
	"maps"
	"math"
	"math/rand"
	"reflect"
	"slices"
	"strings"
	"testing"
	"unsafe"

	"lombard/alloc"
	"lombard/api"
	"lombard/asset"
	"lombard/basket"
	"lombard/haircut"
	"lombard/isin"
	"lombard/limit"
	"lombard/lots"
	"lombard/msg"
	"lombard/subst"
)

const (
	// greatest is the most that there is of a lot, and that is needed; dearest is the highest price, unit is that of prices, haircuts and parts.
	greatest = 1 << 50
	dearest  = 1 << 32
	unit     = 1000000
	half     = unit / 2
)

var (
	noQtys  = []int{math.MinInt, -greatest, -1, 0, greatest + 1, 1 << 60, math.MaxInt}
	noNeeds = []int{math.MinInt, -greatest, -1, greatest + 1, 1 << 60, math.MaxInt}
	noDays  = []int{math.MinInt, -1, 200001, math.MaxInt}
)

// The securities of house: on the day 0 the rules have no haircut of near, 100000 of far and 500000 of late; they take none of the others, though they have a haircut of all up to barred.
var (
	late     = number(10)
	far      = number(20)
	near     = number(30)
	poor     = number(40)
	foreign  = number(50)
	brief    = number(60)
	long     = number(70)
	barred   = number(80)
	uncut    = number(90)
	unpriced = number(91)
	unknown  = number(92)
)

// number is the i-th of rising numbers of securities.
func number(i int) string {
	s, e := isin.Make("XS", fmt.Sprintf("%09d", i))
	if e != api.OK {
		panic(e)
	}
	return s
}

// rules are a basket's, that are within its limits with all of one security.
func rules() api.Basket {
	return api.Basket{ID: 4, Version: 1, Currency: "EUR", Rating: 5, Least: 30, Most: 500, Barred: []int{66}, Issuer: unit, Asset: unit,
		Cuts: []api.Cut{{Days: 100, Rating: 5, Cut: 0}, {Days: 300, Rating: 5, Cut: 100000}, {Days: 500, Rating: 5, Cut: half}, {Days: 1000, Rating: 20, Cut: 900000}}}
}

// halves are the same rules, that take half of what is needed of one issuer.
func halves() api.Basket {
	b := rules()
	b.Issuer = half
	return b
}

// known are the securities of house.
func known() []api.Asset {
	return []api.Asset{
		{ISIN: late, Issuer: 3, Maturity: 400, Currency: "EUR"},
		{ISIN: far, Issuer: 2, Maturity: 200, Currency: "EUR"},
		{ISIN: near, Issuer: 1, Rating: 5, Maturity: 90, Currency: "EUR"},
		{ISIN: poor, Issuer: 4, Rating: 6, Maturity: 90, Currency: "EUR"},
		{ISIN: foreign, Issuer: 5, Maturity: 90, Currency: "USD"},
		{ISIN: brief, Issuer: 6, Maturity: 29, Currency: "EUR"},
		{ISIN: long, Issuer: 7, Maturity: 501, Currency: "EUR"},
		{ISIN: barred, Issuer: 66, Maturity: 90, Currency: "EUR"},
		{ISIN: uncut, Issuer: 8, Maturity: 1001, Currency: "EUR"},
		{ISIN: unpriced, Issuer: 9, Maturity: 1001, Currency: "USD"},
	}
}

// house is a book of the known securities, at par.
func house(t *testing.T) *asset.Book {
	t.Helper()
	k := asset.New()
	for _, a := range known() {
		if e := k.Add(a); e != api.OK {
			t.Fatal(a, e)
		}
		if a.ISIN != unpriced {
			price(t, k, a.ISIN, unit)
		}
	}
	return k
}

// price sets a price.
func price(t *testing.T, k *asset.Book, number string, n int) {
	t.Helper()
	if _, e := k.Set([]api.Price{{ISIN: number, Price: n}}); e != api.OK {
		t.Fatal(number, n, e)
	}
}

// lot is so many of a security.
func lot(number string, qty int) api.Lot { return api.Lot{ISIN: number, Qty: qty} }

// list is lots written as a number, and how many, by turns.
func list(words ...any) []api.Lot {
	var l []api.Lot
	for i := 0; i < len(words); i += 2 {
		l = append(l, lot(words[i].(string), words[i+1].(int)))
	}
	return l
}

// row is so many lots, of as many of rising numbers from one on.
func row(first, n, qty int) []api.Lot {
	var l []api.Lot
	for i := range n {
		l = append(l, lot(number(first+i), qty))
	}
	return l
}

// cover is of the day 0.
func cover(b api.Basket, need int, have []api.Lot) subst.Cover {
	return subst.Cover{Basket: b, Need: need, Have: have}
}

// on is the same cover on another day.
func on(day int, c subst.Cover) subst.Cover {
	c.Day = day
	return c
}

// with is the same cover with other lots.
func with(c subst.Cover, have []api.Lot) subst.Cover {
	c.Have = have
	return c
}

// short is something as it is told.
func short(args ...any) string {
	s := fmt.Sprintf("%+v", args)
	return s[:min(len(s), 500)]
}

// wantBetween wants what Between tells.
func wantBetween(t *testing.T, was, now, to, back []api.Lot, want api.Errno) {
	t.Helper()
	m, e := subst.Between(was, now)
	if !slices.Equal(m.To, to) || !slices.Equal(m.Back, back) || e != want {
		t.Errorf("Between(%s, %s) = %s, %d; want %s, %s, %d", short(was), short(now), short(m), e, short(to), short(back), want)
	}
}

// wantState wants what State tells.
func wantState(t *testing.T, k *asset.Book, c subst.Cover, want api.Errno) {
	t.Helper()
	if e := subst.State(k, c); e != want {
		t.Errorf("State(%s) = %d; want %d", short(c), e, want)
	}
}

// wantSwap wants what Swap tells.
func wantSwap(t *testing.T, k *asset.Book, c subst.Cover, out api.Lot, in, want []api.Lot, wantE api.Errno) {
	t.Helper()
	if l, e := subst.Swap(k, c, out, in); !slices.Equal(l, want) || e != wantE {
		t.Errorf("Swap(%s, %s, %s) = %s, %d; want %s, %d", short(c), short(out), short(in), short(l), e, short(want), wantE)
	}
}

// wantRenew wants what Renew tells.
func wantRenew(t *testing.T, k *asset.Book, c subst.Cover, free, want []api.Lot, lacking int, wantE api.Errno) {
	t.Helper()
	if l, n, e := subst.Renew(k, c, free); !slices.Equal(l, want) || n != lacking || e != wantE {
		t.Errorf("Renew(%s, %s) = %s, %d, %d; want %s, %d, %d", short(c), short(free), short(l), n, e, short(want), lacking, wantE)
	}
}

// wantBest wants what Best tells.
func wantBest(t *testing.T, k *asset.Book, c subst.Cover, free, want []api.Lot, lacking int, wantE api.Errno) {
	t.Helper()
	if l, n, e := subst.Best(k, c, free); !slices.Equal(l, want) || n != lacking || e != wantE {
		t.Errorf("Best(%s, %s) = %s, %d, %d; want %s, %d, %d", short(c), short(free), short(l), n, e, short(want), lacking, wantE)
	}
}

// wrong are lots that are no list, by what is told of them.
func wrong() map[api.Errno][][]api.Lot {
	m := map[api.Errno][][]api.Lot{}
	for _, n := range []int{65, 66, 128, 50000} {
		m[api.ErrLimit] = append(m[api.ErrLimit], slices.Repeat(list(near, 1), n), slices.Repeat(list(near, 0), n))
	}
	m[api.ErrLimit] = append(m[api.ErrLimit], row(1, 65, 1))
	for _, qty := range noQtys {
		for _, i := range []int{0, 1, 31, 63} {
			l := row(1, 64, 1)
			l[i].Qty = qty
			m[api.ErrArg] = append(m[api.ErrArg], l)
		}
		m[api.ErrArg] = append(m[api.ErrArg], list(near, qty), list(near, 1, far, qty))
	}
	for _, i := range []int{1, 31, 63} {
		l := row(1, 64, 1)
		l[i].ISIN = l[i-1].ISIN
		m[api.ErrTwice] = append(m[api.ErrTwice], l)
	}
	m[api.ErrTwice] = append(m[api.ErrTwice], list(near, 1, far, 1), list(near, 1, near, 1), list(far, 1, near, 1, far, 1, late, 0), list(far, 1, far, 1, near, 0))
	return m
}

// wantRefused wants what is wrong with lots told by a call of a list.
func wantRefused(t *testing.T, call func(l []api.Lot, want api.Errno)) {
	t.Helper()
	for e, lists := range wrong() {
		for _, l := range lists {
			call(l, e)
		}
	}
}

// The chapter's example.
func TestExample(t *testing.T) {
	wantBetween(t, list("A", 5, "B", 2), list("A", 3, "C", 4), list("C", 4), list("A", 2, "B", 2), api.OK)
}

// P19.1: To is what there is more of now, Back what there was more of; what stays as it was is in neither.
func TestBetween(t *testing.T) {
	all := row(1, 64, greatest)
	for _, z := range []struct{ was, now, to, back []api.Lot }{
		{nil, nil, nil, nil},
		{nil, list("A", 1), list("A", 1), nil},
		{list("A", 1, "B", 2), list("A", 1, "B", 2), nil, nil},
		{list("A", 1), list("A", 9), list("A", 8), nil},
		{list("A", 1), list("B", 1), list("B", 1), list("A", 1)},
		{list("A", 5, "B", 5, "C", 5), list("A", 6, "B", 4, "C", 5), list("A", 1), list("B", 1)},
		{list("A", 5, "C", 5, "E", 5), list("B", 6, "D", 4, "F", 5), list("B", 6, "D", 4, "F", 5), list("A", 5, "C", 5, "E", 5)},
		{list("", 7, "a", 2, "\xff", 1), list("", 8, "a\x00", 2, "\xff", greatest), list("", 1, "a\x00", 2, "\xff", greatest-1), list("a", 2)},
		{all, nil, nil, all},
		{all, all, nil, nil},
		{all, row(1, 64, 1), nil, row(1, 64, greatest-1)},
		{all, row(65, 64, 1), row(65, 64, 1), all},
		{all, row(33, 64, greatest), row(65, 32, greatest), row(1, 32, greatest)},
	} {
		wantBetween(t, z.was, z.now, z.to, z.back, api.OK)
		wantBetween(t, z.now, z.was, z.back, z.to, api.OK)
	}
	wantBetween(t, []api.Lot{}, []api.Lot{}, nil, nil, api.OK)
}

// P19.1: what is wrong with either list, that of was ahead, and then nothing moves.
func TestBetweenWrong(t *testing.T) {
	wantRefused(t, func(l []api.Lot, want api.Errno) {
		t.Helper()
		for _, other := range [][]api.Lot{nil, list(far, 1, near, 2), row(1, 64, 7)} {
			wantBetween(t, l, other, nil, nil, want)
			wantBetween(t, other, l, nil, nil, want)
		}
		wantBetween(t, l, l, nil, nil, want)
		for _, other := range wrong() {
			wantBetween(t, l, other[0], nil, nil, want)
		}
	})
}

// P19.1: by chance, held against a reckoning by maps.
func TestBetweenChance(t *testing.T) {
	r := rand.New(rand.NewSource(1))
	for range 3000 {
		was, now := anyLots(r, 70, 5), anyLots(r, 70, 5)
		more := map[string]int{}
		for _, x := range now {
			more[x.ISIN] += x.Qty
		}
		for _, x := range was {
			more[x.ISIN] -= x.Qty
		}
		var to, back []api.Lot
		for _, n := range slices.Sorted(maps.Keys(more)) {
			if more[n] > 0 {
				to = append(to, lot(n, more[n]))
			}
			if more[n] < 0 {
				back = append(back, lot(n, -more[n]))
			}
		}
		wantBetween(t, was, now, to, back, api.OK)
	}
}

// P19.2: lots that the basket takes, within its limits, that cover just enough, or just not.
func TestState(t *testing.T) {
	k := house(t)
	for _, z := range []struct {
		have  []api.Lot
		cover int
	}{
		{list(near, 100), 100}, {list(far, 100), 90}, {list(far, 99), 89}, {list(late, 99), 49}, {list(late, 7, far, 20, near, 5), 26}, {list(near, 1), 1}, {list(near, greatest), greatest},
	} {
		wantState(t, k, cover(rules(), z.cover, z.have), api.OK)
		if z.cover < greatest {
			wantState(t, k, cover(rules(), z.cover+1, z.have), api.ErrCover)
			wantState(t, k, cover(rules(), greatest, z.have), api.ErrCover)
		}
	}
	wantState(t, k, cover(rules(), 0, nil), api.OK)
	wantState(t, k, cover(rules(), 0, []api.Lot{}), api.OK)
	wantState(t, k, cover(rules(), 1, nil), api.ErrCover)
	// One of late covers nothing, so that it passes no limit.
	wantState(t, k, cover(rules(), 0, list(late, 1)), api.OK)
	wantState(t, k, cover(rules(), 0, list(late, 2)), api.ErrConc)
}

// P19.2: limits of an issuer, and of a security, are passed ahead of what isn't covered.
func TestStateLimits(t *testing.T) {
	k := house(t)
	wantState(t, k, cover(halves(), 100, list(far, 56, near, 50)), api.OK)
	wantState(t, k, cover(halves(), 101, list(far, 56, near, 50)), api.ErrCover)
	wantState(t, k, cover(halves(), 100, list(far, 56, near, 51)), api.ErrConc)
	wantState(t, k, cover(halves(), 100, list(near, 51)), api.ErrConc)
	wantState(t, k, cover(halves(), 100, list(near, 50)), api.ErrCover)
	b := rules()
	b.Asset = 400000
	wantState(t, k, cover(b, 100, list(late, 40, far, 45, near, 40)), api.OK)
	wantState(t, k, cover(b, 100, list(late, 40, far, 45, near, 41)), api.ErrConc)
	wantState(t, k, cover(b, 100, list(late, 40, far, 46, near, 40)), api.ErrConc)
	wantState(t, k, cover(b, 100, list(late, 39, far, 45, near, 40)), api.ErrCover)
	// Two securities of an issuer go together.
	a := api.Asset{ISIN: number(31), Issuer: 1, Maturity: 90, Currency: "EUR"}
	if e := k.Add(a); e != api.OK {
		t.Fatal(e)
	}
	price(t, k, a.ISIN, unit)
	wantState(t, k, cover(halves(), 100, list(late, 100, near, 25, a.ISIN, 25)), api.OK)
	wantState(t, k, cover(halves(), 100, list(late, 100, near, 25, a.ISIN, 26)), api.ErrConc)
}

// P19.2: it is what is needed that is looked at behind the lots, and a lot that covers too much ahead of it.
func TestStateGood(t *testing.T) {
	k := house(t)
	for _, need := range noNeeds {
		wantState(t, k, cover(rules(), need, nil), api.ErrArg)
		wantState(t, k, cover(rules(), need, list(near, 100)), api.ErrArg)
		wantState(t, k, cover(rules(), need, list(near, 100, poor, 1)), api.ErrFit)
	}
	price(t, k, near, unit+1)
	for _, need := range []int{-1, 0, 1, greatest} {
		wantState(t, k, cover(rules(), need, list(near, greatest)), api.ErrOver)
		wantState(t, k, cover(rules(), need, list(near, greatest, unknown, 1)), api.ErrAsset)
	}
	price(t, k, near, dearest)
	wantState(t, k, cover(rules(), greatest, list(near, 262144000000)), api.OK)
	wantState(t, k, cover(rules(), greatest, list(near, 262144000001)), api.ErrOver)
}

// untaken are securities that the rules take none of on the day 0, with what is told of them.
func untaken() map[string]api.Errno {
	m := map[string]api.Errno{unknown: api.ErrAsset, "": api.ErrAsset, "x": api.ErrAsset, near + "0": api.ErrAsset, unpriced: api.ErrPrice}
	for _, n := range []string{poor, foreign, brief, long, barred, uncut} {
		m[n] = api.ErrFit
	}
	return m
}

// byNumbers puts lots in order.
func byNumbers(l []api.Lot) []api.Lot {
	return slices.SortedFunc(slices.Values(l), func(x, y api.Lot) int { return strings.Compare(x.ISIN, y.ISIN) })
}

// P19.2, P19.3: what is wrong with the first lot that the basket doesn't take is told, ahead of what it comes to.
func TestUntaken(t *testing.T) {
	k := house(t)
	check := func(c subst.Cover, want api.Errno) {
		t.Helper()
		wantState(t, k, c, want)
		for i, x := range c.Have {
			// It comes in for another one that isn't known, either.
			before := byNumbers(append(slices.Delete(slices.Clone(c.Have), i, i+1), lot(number(9), 3)))
			wantSwap(t, k, with(c, before), lot(number(9), 3), list(x.ISIN, x.Qty), nil, want)
			if x.ISIN == near {
				wantSwap(t, k, c, lot(near, 3), list(near, 3), nil, want)
			}
		}
	}
	for n, want := range untaken() {
		for _, need := range []int{0, 5, 100, greatest, -1} {
			check(cover(rules(), need, list(n, 1)), want)
			check(cover(rules(), need, byNumbers(list(n, greatest, near, 100))), want)
			check(cover(rules(), need, byNumbers(list(late, 9, n, 1, near, 9, far, 9))), want)
		}
		for other, e := range untaken() {
			if other > n {
				check(cover(rules(), 5, byNumbers(list(n, 1, other, 1, near, 5))), want)
			}
			if other < n {
				check(cover(rules(), 5, byNumbers(list(n, 1, other, 1, near, 5))), e)
			}
		}
	}
}

// P19.2: there is no haircut, though the rules take it.
func TestStateUncut(t *testing.T) {
	k := house(t)
	b := rules()
	b.Cuts = []api.Cut{{Days: 500, Rating: 4, Cut: 0}}
	a, _ := k.Get(near)
	if !basket.Fits(b, a, 0) {
		t.Fatal("the rules don't take it")
	}
	wantState(t, k, cover(b, 9, list(near, 9)), api.ErrFit)
	wantState(t, k, cover(b, 9, list(far, 9)), api.OK)
	b.Cuts[0].Rating = 5
	wantState(t, k, cover(b, 9, list(near, 9)), api.OK)
}

// P19.2: what the basket takes, and what it covers, hang on the day.
func TestStateDay(t *testing.T) {
	k := house(t)
	for _, z := range []struct {
		day, qty, cover int
		number          string
	}{
		{0, 10, 10, near}, {60, 10, 10, near}, {0, 10, 9, far}, {99, 10, 9, far}, {100, 10, 10, far}, {170, 10, 10, far}, {1, 10, 5, long}, {0, 10, 5, late}, {99, 10, 5, late}, {100, 10, 9, late}, {300, 10, 10, late}, {370, 10, 10, late}, {501, 10, 5, uncut},
	} {
		wantState(t, k, on(z.day, cover(rules(), z.cover, list(z.number, z.qty))), api.OK)
		wantState(t, k, on(z.day, cover(rules(), z.cover+1, list(z.number, z.qty))), api.ErrCover)
	}
	for n, days := range map[string][]int{near: {61, 90, 91, 200000}, far: {171, 200, 201}, late: {371, 401}, long: {0, 472}, uncut: {0, 500, 972}} {
		for _, day := range append(days, noDays...) {
			wantState(t, k, on(day, cover(rules(), 5, list(n, 10))), api.ErrFit)
			wantState(t, k, on(day, cover(rules(), 5, list(n, 10, unknown, 1))), api.ErrFit)
		}
	}
	for _, day := range noDays {
		wantState(t, k, on(day, cover(rules(), 0, nil)), api.OK)
		wantState(t, k, on(day, cover(rules(), 5, nil)), api.ErrCover)
	}
}

// P19.2: what is wrong with the lots that a trade has, ahead of all.
func TestStateWrong(t *testing.T) {
	k := house(t)
	wantRefused(t, func(l []api.Lot, want api.Errno) {
		t.Helper()
		for _, need := range []int{-1, 0, 5, greatest} {
			wantState(t, k, cover(rules(), need, l), want)
			wantState(t, nil, on(-1, cover(rules(), need, l)), want)
		}
	})
}

// Of a book that is nil, or that no call made, no security is known.
func TestNoBook(t *testing.T) {
	for _, k := range []*asset.Book{nil, {}, new(asset.Book), asset.New()} {
		wantState(t, k, cover(rules(), 0, nil), api.OK)
		wantState(t, k, cover(rules(), 5, nil), api.ErrCover)
		wantState(t, k, cover(rules(), 5, list(near, 5)), api.ErrAsset)
		wantSwap(t, k, cover(rules(), 0, list(near, 5)), lot(near, 5), nil, nil, api.OK)
		wantSwap(t, k, cover(rules(), 5, list(near, 5)), lot(near, 5), list(far, 5), nil, api.ErrAsset)
		wantRenew(t, k, cover(rules(), 5, list(near, 5)), list(far, 5), nil, 5, api.OK)
		wantRenew(t, k, cover(rules(), 0, list(near, 5)), list(far, 5), nil, 0, api.OK)
		wantBest(t, k, cover(rules(), 5, list(near, 5)), list(far, 5), nil, 5, api.OK)
		wantBest(t, k, cover(rules(), -1, list(near, 5)), list(far, 5), nil, 0, api.ErrArg)
	}
}

// P19.3: what comes in is put in the place of what goes out, if the trade is covered as well.
func TestSwap(t *testing.T) {
	k := house(t)
	c := cover(rules(), 100, list(late, 20, near, 90))
	for _, z := range []struct {
		out      api.Lot
		in, want []api.Lot
	}{
		{lot(near, 50), list(far, 56), list(late, 20, far, 56, near, 40)},
		{lot(near, 90), list(far, 100), list(late, 20, far, 100)},
		{lot(late, 20), list(far, 12), list(far, 12, near, 90)},
		{lot(late, 20), list(near, 10), list(near, 100)},
		{lot(near, 10), list(late, 20), list(late, 40, near, 80)},
		{lot(near, 10), list(near, 10), c.Have},
		{lot(near, 90), list(near, 90), c.Have},
		{lot(late, 1), list(late, 1), c.Have},
		{lot(near, 1), list(near, 5), list(late, 20, near, 94)},
		// What comes in need not be in order, nor each once.
		{lot(near, 50), list(near, 10, far, 6, near, 30, far, 6), list(late, 20, far, 12, near, 80)},
		{lot(near, 90), slices.Repeat(list(near, 1), 90), c.Have},
	} {
		wantSwap(t, k, c, z.out, z.in, z.want, api.OK)
		wantState(t, k, with(c, z.want), api.OK)
	}
	wantSwap(t, k, c, lot(near, 50), list(far, 55), nil, api.ErrCover)
	wantSwap(t, k, c, lot(near, 1), nil, nil, api.ErrCover)
	wantSwap(t, k, c, lot(near, 1), list(far, 1), nil, api.ErrCover)
	c.Need = 90
	wantSwap(t, k, c, lot(late, 20), nil, list(near, 90), api.OK)
	wantSwap(t, k, c, lot(late, 20), []api.Lot{}, list(near, 90), api.OK)
	wantSwap(t, k, c, lot(near, 10), nil, list(late, 20, near, 80), api.OK)
	wantSwap(t, k, c, lot(near, 11), nil, nil, api.ErrCover)
	// The trade need not be covered ahead; and where nothing is needed nothing may be left.
	wantSwap(t, k, cover(rules(), 100, list(near, 1)), lot(near, 1), list(near, 100), list(near, 100), api.OK)
	wantSwap(t, k, cover(rules(), 9, list(unknown, 1)), lot(unknown, 1), list(near, 9), list(near, 9), api.OK)
	wantSwap(t, k, cover(rules(), 0, list(near, 1)), lot(near, 1), nil, nil, api.OK)
	wantSwap(t, k, cover(rules(), 1, list(near, 1)), lot(near, 1), nil, nil, api.ErrCover)
}

// P19.3: limits are held, by what there would be.
func TestSwapLimits(t *testing.T) {
	k := house(t)
	c := cover(halves(), 100, list(late, 100, near, 50))
	wantSwap(t, k, c, lot(late, 100), list(far, 56), list(far, 56, near, 50), api.OK)
	wantSwap(t, k, c, lot(late, 100), list(far, 57), nil, api.ErrConc)
	wantSwap(t, k, c, lot(late, 2), list(near, 1), nil, api.ErrConc)
	wantSwap(t, k, c, lot(near, 1), list(far, 2), list(late, 100, far, 2, near, 49), api.OK)
	price(t, k, near, unit+1)
	wantSwap(t, k, cover(rules(), greatest, list(near, 5)), lot(near, 5), list(near, greatest), nil, api.ErrOver)
	for _, need := range noNeeds {
		wantSwap(t, k, cover(rules(), need, list(near, 5)), lot(near, 5), list(near, 5), nil, api.ErrArg)
	}
}

// P19.3: the lots that a trade has are looked at ahead of what goes out.
func TestSwapWrong(t *testing.T) {
	k := house(t)
	wantRefused(t, func(l []api.Lot, want api.Errno) {
		t.Helper()
		for _, out := range []api.Lot{{}, lot(near, 1), lot(near, -1), lot("x", 1), l[0]} {
			wantSwap(t, k, cover(rules(), 0, l), out, nil, nil, want)
			wantSwap(t, k, cover(rules(), -1, l), out, list(near, 0), nil, want)
		}
	})
}

// P19.3: what goes out is looked at ahead of what comes in: one, or more, and as many must be there.
func TestSwapOut(t *testing.T) {
	k := house(t)
	c := cover(rules(), 100, list(far, 20, near, 90))
	ins := [][]api.Lot{nil, list(near, 50), list(near, 0), list(near, greatest, near, 1), row(100, 65, 1), list(unknown, 1)}
	for _, in := range ins {
		for _, qty := range []int{0, -1, -90, math.MinInt} {
			for _, n := range []string{near, far, unknown, "", "x"} {
				wantSwap(t, k, c, lot(n, qty), in, nil, api.ErrArg)
			}
		}
		for _, out := range list(near, 91, far, 21, near, greatest, near, greatest+1, near, math.MaxInt, late, 1, unknown, 1, "", 1, near+" ", 1) {
			wantSwap(t, k, c, out, in, nil, api.ErrFunds)
			wantSwap(t, k, with(c, nil), out, in, nil, api.ErrFunds)
		}
	}
}

// P19.3: what comes in is looked at by itself, and then together with what stays.
func TestSwapIn(t *testing.T) {
	k := house(t)
	c := cover(rules(), 100, list(far, 20, near, 90))
	for _, qty := range noQtys {
		for _, in := range [][]api.Lot{list(near, qty), list(near, 50, far, qty), list(unknown, qty), list(unknown, 1, near, qty), list(near, qty, near, greatest, near, greatest)} {
			wantSwap(t, k, c, lot(near, 50), in, nil, api.ErrArg)
		}
	}
	wantSwap(t, k, c, lot(near, 50), row(100, 65, 1), nil, api.ErrLimit)
	wantSwap(t, k, c, lot(near, 50), append(row(100, 65, 1), lot(near, 0)), nil, api.ErrLimit)
	wantSwap(t, k, c, lot(near, 50), list(near, greatest, near, 1), nil, api.ErrOver)
	wantSwap(t, k, c, lot(near, 50), list(unknown, greatest, unknown, 1, near, 0), nil, api.ErrOver)
	// By itself it is too much, ahead of what isn't right together.
	wantSwap(t, k, with(c, list(far, 1, near, greatest)), lot(far, 1), list(near, 1, far, 0), nil, api.ErrArg)
	wantSwap(t, k, with(c, row(100, 64, 1)), lot(number(100), 1), append(row(300, 2, 1), lot(near, 0)), nil, api.ErrArg)
	// Together.
	wantSwap(t, k, with(c, list(far, 1, near, greatest)), lot(far, 1), list(near, 1), nil, api.ErrOver)
	wantSwap(t, k, with(c, list(near, greatest)), lot(near, 1), list(near, 2), nil, api.ErrOver)
	wantSwap(t, k, with(c, list(far, 1, unknown, greatest)), lot(far, 1), list(unknown, 1), nil, api.ErrOver)
	wantSwap(t, k, with(cover(rules(), greatest, nil), list(near, greatest)), lot(near, 1), list(near, 1), list(near, greatest), api.OK)
	wantSwap(t, k, with(c, row(100, 64, 2)), lot(number(100), 1), list(unknown, 1), nil, api.ErrLimit)
	wantSwap(t, k, with(c, row(100, 64, 2)), lot(number(100), 2), row(300, 2, 1), nil, api.ErrLimit)
	wantSwap(t, k, with(c, row(100, 64, 2)), lot(number(100), 2), list(unknown, 1), nil, api.ErrAsset)
	wantSwap(t, k, with(c, row(100, 64, 2)), lot(number(100), 1), list(number(101), 1), nil, api.ErrAsset)
	// As many as there may be can be given for one.
	wantSwap(t, k, with(c, list(near, 100)), lot(near, 100), row(100, 64, 1), nil, api.ErrAsset)
}

// P19.3: 64 lots may be there, before and behind.
func TestSwapMany(t *testing.T) {
	k := asset.New()
	for i := range 64 {
		if e := k.Add(api.Asset{ISIN: number(i), Issuer: i, Maturity: 90, Currency: "EUR"}); e != api.OK {
			t.Fatal(e)
		}
		price(t, k, number(i), unit)
	}
	for i := range 64 {
		all := row(0, 64, 2)
		c := cover(rules(), 128, slices.Delete(slices.Clone(all), i, i+1))
		other := (i + 1) % 64
		c.Have[slices.IndexFunc(c.Have, func(x api.Lot) bool { return x.ISIN == number(other) })].Qty += 2
		wantSwap(t, k, c, lot(number(other), 2), list(number(i), 2), all, api.OK)
		wantSwap(t, k, with(c, all), lot(number(i), 2), list(number(other), 2), c.Have, api.OK)
		wantState(t, k, with(c, all), api.OK)
		wantRenew(t, k, with(c, all), c.Have, all, 0, api.OK)
		wantRenew(t, k, with(c, row(0, i, 2)), row(i, 64-i, 2), all, 0, api.OK)
		wantBest(t, k, with(c, all), all, row(0, 32, 4), 0, api.OK)
	}
}

// P19.4: what the basket takes yet is kept, what is lacking is taken of free lots, as they are ranked, and what isn't needed goes back.
func TestRenew(t *testing.T) {
	k := house(t)
	for _, z := range []struct {
		need             int
		have, free, want []api.Lot
		lacking          int
	}{
		{100, list(near, 60), list(near, 60), list(near, 100), 0},
		{100, list(near, 100), nil, list(near, 100), 0},
		{100, list(near, 130), nil, list(near, 100), 0},
		{100, nil, list(near, 130), list(near, 100), 0},
		{100, list(far, 100), list(near, 50), list(far, 100, near, 10), 0},
		{100, list(near, 50), list(late, 500, far, 100), list(far, 56, near, 50), 0},
		{100, list(near, 50), list(late, 500, far, 20), list(late, 64, far, 20, near, 50), 0},
		// What is there stays, though what is free is ranked ahead of it.
		{100, list(late, 200), list(near, 100), list(late, 200), 0},
		// 201 of it cover no more.
		{100, list(late, 201), list(near, 100), list(late, 200), 0},
		{100, list(late, 300), list(near, 100), list(late, 200), 0},
		// What isn't needed is what is ranked last.
		{100, list(late, 60, far, 50, near, 40), nil, list(late, 30, far, 50, near, 40), 0},
		{60, list(late, 60, far, 50, near, 40), nil, list(far, 23, near, 40), 0},
		{40, list(late, 60, far, 50, near, 40), nil, list(near, 40), 0},
		{1, list(late, 60, far, 50, near, 40), nil, list(near, 1), 0},
		{116, list(late, 60, far, 50, near, 40), nil, list(late, 60, far, 50, near, 40), 1},
		{0, list(late, 60, far, 50, near, 40), list(near, 5), nil, 0},
		{0, nil, nil, nil, 0},
		{7, nil, nil, nil, 7},
		{greatest, nil, nil, nil, greatest},
		{greatest, list(near, greatest), nil, list(near, greatest), 0},
		{greatest, list(near, greatest-1), list(near, 1), list(near, greatest), 0},
		{greatest, list(near, 1), list(near, greatest-1), list(near, greatest), 0},
		// What is lacking, of which nothing goes back: not what covers no more, either.
		{100, list(near, 40), list(far, 20), list(far, 20, near, 40), 42},
		{100, list(late, 41), list(far, 21), list(late, 41, far, 21), 62},
	} {
		wantRenew(t, k, cover(rules(), z.need, z.have), z.free, z.want, z.lacking, api.OK)
		if z.lacking == 0 {
			wantState(t, k, cover(rules(), z.need, z.want), api.OK)
		}
	}
}

// P19.4: what the basket doesn't take is neither kept nor taken, and nothing is wrong with that.
func TestRenewUntaken(t *testing.T) {
	k := house(t)
	for n := range untaken() {
		wantRenew(t, k, cover(rules(), 50, list(n, 500)), list(n, 500), nil, 50, api.OK)
		wantRenew(t, k, cover(rules(), 50, byNumbers(list(n, 500, near, 20))), byNumbers(list(n, 1, near, 20)), list(near, 40), 10, api.OK)
		wantRenew(t, k, cover(rules(), 30, byNumbers(list(n, 500, near, 20))), byNumbers(list(n, 1, near, 20)), list(near, 30), 0, api.OK)
		wantRenew(t, k, cover(rules(), 30, byNumbers(list(n, greatest, near, 20))), byNumbers(list(n, greatest, near, 20)), list(near, 30), 0, api.OK)
		wantBest(t, k, cover(rules(), 30, byNumbers(list(n, 500, near, 20))), byNumbers(list(n, 1, near, 20)), list(near, 30), 0, api.OK)
	}
	price(t, k, foreign, dearest)
	wantRenew(t, k, cover(rules(), 30, list(near, 20, foreign, greatest)), list(foreign, greatest), list(near, 20), 10, api.OK)
}

// P19.4: what is kept, and taken, hangs on the day.
func TestRenewDay(t *testing.T) {
	k := house(t)
	have, free := list(far, 50, near, 60), list(late, 200, far, 50)
	for _, z := range []struct {
		day, lacking int
		want         []api.Lot
	}{
		{0, 0, list(far, 45, near, 60)},
		{60, 0, list(far, 45, near, 60)},
		{61, 0, list(late, 20, far, 100)},
		{100, 0, list(far, 100)},
		{170, 0, list(far, 100)},
		{171, 0, list(late, 112)},
		{300, 0, list(late, 100)},
		{371, 100, nil},
		{-1, 100, nil},
		{200001, 100, nil},
	} {
		wantRenew(t, k, on(z.day, cover(rules(), 100, have)), free, z.want, z.lacking, api.OK)
	}
}

// P19.4: what is above the limits isn't kept, and no more is taken than there is room for.
func TestRenewLimits(t *testing.T) {
	k := house(t)
	wantRenew(t, k, cover(halves(), 100, list(near, 80)), list(far, 80), list(far, 56, near, 50), 0, api.OK)
	wantRenew(t, k, cover(halves(), 100, list(near, 80)), list(near, 80), list(near, 50), 50, api.OK)
	wantRenew(t, k, cover(halves(), 100, list(near, 30)), list(near, 80), list(near, 50), 50, api.OK)
	wantRenew(t, k, cover(halves(), 100, nil), list(late, 80, far, 60, near, 80), list(far, 56, near, 50), 0, api.OK)
	wantRenew(t, k, cover(halves(), 100, list(near, 80)), list(late, 40), list(late, 40, near, 50), 30, api.OK)
	wantRenew(t, k, cover(halves(), 1, list(near, 80)), list(far, 80), nil, 1, api.OK)
	b := rules()
	b.Asset = 300000
	wantRenew(t, k, cover(b, 100, list(near, 80)), list(late, 60, far, 80), list(late, 60, far, 34, near, 30), 10, api.OK)
	b.Asset = 400000
	wantRenew(t, k, cover(b, 100, list(late, 60)), list(far, 80, near, 80), list(late, 60, far, 34, near, 40), 0, api.OK)
	// Best keeps nothing.
	wantBest(t, k, cover(b, 100, list(late, 60)), list(far, 80, near, 80), list(late, 40, far, 45, near, 40), 0, api.OK)
}

// P19.4: what is wrong with the lots that a trade has, then with free ones, ahead of all else; for Best, too.
func TestRenewWrong(t *testing.T) {
	k := house(t)
	wantRefused(t, func(l []api.Lot, want api.Errno) {
		t.Helper()
		for _, need := range []int{0, 100, -1} {
			for _, other := range [][]api.Lot{nil, list(far, 1, near, 2), row(100, 64, greatest)} {
				wantRenew(t, k, cover(rules(), need, l), other, nil, 0, want)
				wantRenew(t, k, cover(rules(), need, other), l, nil, 0, want)
				wantBest(t, k, cover(rules(), need, l), other, nil, 0, want)
				wantBest(t, k, cover(rules(), need, other), l, nil, 0, want)
			}
			for _, other := range wrong() {
				wantRenew(t, k, cover(rules(), need, l), other[0], nil, 0, want)
				wantBest(t, k, cover(rules(), need, l), other[0], nil, 0, want)
			}
		}
	})
}

// P19.4: what alloc.Top has an error of: a need that may not be; what covers too much; both together too many.
func TestRenewTop(t *testing.T) {
	k := house(t)
	for _, need := range noNeeds {
		wantRenew(t, k, cover(rules(), need, list(near, 5)), list(far, 5), nil, 0, api.ErrArg)
		wantRenew(t, k, cover(rules(), need, nil), nil, nil, 0, api.ErrArg)
		wantRenew(t, k, cover(rules(), need, list(near, greatest)), list(near, 1), nil, 0, api.ErrArg)
		wantBest(t, k, cover(rules(), need, list(near, 5)), list(far, 5), nil, 0, api.ErrArg)
		wantBest(t, k, cover(rules(), need, list(near, greatest)), list(near, 1), nil, 0, api.ErrOver)
		wantBest(t, k, cover(rules(), need, list(near, 1)), row(100, 64, 1), nil, 0, api.ErrLimit)
	}
	for _, need := range []int{0, 5, greatest} {
		wantRenew(t, k, cover(rules(), need, list(near, greatest)), list(near, 1), nil, 0, api.ErrOver)
		wantRenew(t, k, cover(rules(), need, list(near, 1)), list(near, greatest), nil, 0, api.ErrOver)
		wantBest(t, k, cover(rules(), need, list(near, greatest)), list(near, 1), nil, 0, api.ErrOver)
		// Of what isn't taken there may be as many in both, but not for Best.
		wantRenew(t, k, cover(rules(), need, list(foreign, greatest)), list(foreign, 1), nil, need, api.OK)
		wantBest(t, k, cover(rules(), need, list(foreign, greatest)), list(foreign, 1), nil, 0, api.ErrOver)
		wantBest(t, k, cover(rules(), need, row(100, 64, 1)), list(unknown, 1), nil, 0, api.ErrLimit)
		wantBest(t, k, cover(rules(), need, row(100, 32, 1)), row(200, 32, 1), nil, need, api.OK)
		wantRenew(t, k, cover(rules(), need, row(100, 64, 1)), row(200, 64, 1), nil, need, api.OK)
	}
	price(t, k, near, unit+1)
	for _, need := range []int{0, 5, greatest} {
		wantRenew(t, k, cover(rules(), need, list(near, greatest)), list(far, 1), nil, 0, api.ErrOver)
		wantRenew(t, k, cover(rules(), need, list(far, 1)), list(near, greatest), nil, 0, api.ErrOver)
		wantBest(t, k, cover(rules(), need, list(near, greatest)), nil, nil, 0, api.ErrOver)
		wantBest(t, k, cover(rules(), need, list(near, 1)), list(near, greatest-1), nil, 0, api.ErrOver)
	}
	// Apart they don't cover too much.
	wantRenew(t, k, cover(rules(), 5, list(near, 5)), list(near, greatest-5000000000), list(near, 5), 0, api.OK)
}

// P19.4: Best takes of all lots those that are ranked first, whether they are there or free.
func TestBest(t *testing.T) {
	k := house(t)
	for _, z := range []struct {
		need             int
		have, free, want []api.Lot
		lacking          int
	}{
		{100, list(late, 200), list(near, 100), list(near, 100), 0},
		{100, list(late, 200), list(far, 10, near, 90), list(late, 2, far, 10, near, 90), 0},
		{100, list(near, 40), list(near, 60), list(near, 100), 0},
		{100, list(near, 40), list(near, 50), list(near, 90), 10},
		{100, list(far, 300), list(near, 40), list(far, 67, near, 40), 0},
		{100, nil, list(far, 300, near, 40), list(far, 67, near, 40), 0},
		{100, list(far, 300, near, 40), nil, list(far, 67, near, 40), 0},
		{100, list(far, 150), list(far, 150), list(far, 112), 0},
		{greatest, list(near, greatest-1), list(near, 1), list(near, greatest), 0},
		{0, list(near, 5), list(near, 5), nil, 0},
		{7, nil, nil, nil, 7},
	} {
		wantBest(t, k, cover(rules(), z.need, z.have), z.free, z.want, z.lacking, api.OK)
	}
	wantBest(t, k, on(61, cover(rules(), 100, list(near, 60))), list(late, 400, far, 100), list(late, 20, far, 100), 0, api.OK)
	wantBest(t, k, cover(halves(), 100, list(near, 100)), list(far, 100), list(far, 56, near, 50), 0, api.OK)
}

// anyLots is a list of up to 64 lots, by chance.
func anyLots(r *rand.Rand, numbers, most int) []api.Lot {
	var l []api.Lot
	part := 1 + r.Intn(4)
	for i := range numbers {
		if r.Intn(4) < part && len(l) < api.MaxLots {
			l = append(l, lot(number(i), 1+r.Intn(most)))
		}
	}
	return l
}

// anyBook is a book of up to so many securities, by chance.
func anyBook(r *rand.Rand, numbers int) *asset.Book {
	k := asset.New()
	for i := range numbers {
		a := api.Asset{ISIN: number(i), Issuer: r.Intn(1 + numbers/2), Rating: r.Intn(6), Maturity: 100 + r.Intn(500), Currency: "EUR"}
		switch r.Intn(60) {
		case 0:
			a.Currency = "USD"
		case 1:
			a.Rating = 20
		case 2:
			a.Issuer = 66
		case 3:
			a.Maturity = r.Intn(1200)
		case 4:
			continue
		}
		if e := k.Add(a); e == api.OK && r.Intn(60) > 0 {
			k.Set([]api.Price{{ISIN: a.ISIN, Price: []int{unit, unit, half, 750000, 3 * unit, 1 + r.Intn(2*unit)}[r.Intn(6)]}})
		}
	}
	return k
}

// anyCase is a book, a cover, and free lots, by chance.
func anyCase(r *rand.Rand) (*asset.Book, subst.Cover, []api.Lot) {
	scale := 1 + r.Intn(1<<(1+r.Intn(40)))
	if r.Intn(2) == 0 {
		scale = 1 + r.Intn(20)
	}
	numbers := 1 + r.Intn(1<<r.Intn(6))
	b := rules()
	share := []int{unit, half, 300000, 100000, 1 + r.Intn(unit)}
	b.Issuer, b.Asset = share[r.Intn(5)], share[r.Intn(5)]
	if r.Intn(3) == 0 {
		b.Issuer, b.Asset = unit, unit
	}
	b.Cuts[r.Intn(3)].Cut = r.Intn(unit)
	need := r.Intn(scale*(1+r.Intn(1+numbers)) + 1)
	c := subst.Cover{Basket: b, Need: need, Have: anyLots(r, numbers, scale), Day: r.Intn(80)}
	return anyBook(r, numbers), c, anyLots(r, numbers, scale)
}

// taken are the items of lots that a basket takes, and what is wrong with the first one that it doesn't.
func taken(k *asset.Book, c subst.Cover, l []api.Lot) ([]haircut.Item, api.Errno) {
	var items []haircut.Item
	first := api.OK
	for _, x := range l {
		item, e := haircut.Find(k, c.Basket, x, c.Day)
		if e == api.OK && basket.Why(c.Basket, item.Asset, c.Day) != basket.Taken {
			e = api.ErrFit
		}
		if e == api.OK {
			items = append(items, item)
		} else if first == api.OK {
			first = e
		}
	}
	return items, first
}

// stateOf is what State tells, by the chapter's words.
func stateOf(k *asset.Book, c subst.Cover) api.Errno {
	items, e := taken(k, c, c.Have)
	if e != api.OK {
		return e
	}
	issuers, covered := map[int]int{}, 0
	limitOf := func(part int) int { return int(float64(c.Need) * float64(part) / unit) }
	for _, x := range items {
		n := x.Cover()
		covered += n
		issuers[x.Asset.Issuer] += n
		if n > limitOf(c.Basket.Asset) || issuers[x.Asset.Issuer] > limitOf(c.Basket.Issuer) {
			e = api.ErrConc
		}
	}
	if e == api.OK && covered < c.Need {
		return api.ErrCover
	}
	return e
}

// together is lots put together, and others taken away, by a map.
func together(plus, minus []api.Lot) []api.Lot {
	all := map[string]int{}
	for _, x := range plus {
		all[x.ISIN] += x.Qty
	}
	for _, x := range minus {
		all[x.ISIN] -= x.Qty
	}
	var l []api.Lot
	for _, n := range slices.Sorted(maps.Keys(all)) {
		if all[n] != 0 {
			l = append(l, lot(n, all[n]))
		}
	}
	return l
}

// renewOf is what Renew tells, by the chapter's words.
func renewOf(t *testing.T, k *asset.Book, c subst.Cover, free []api.Lot) ([]api.Lot, int) {
	t.Helper()
	have, _ := taken(k, c, c.Have)
	more, _ := taken(k, c, free)
	p, e := alloc.Top(c.Basket, have, more, c.Need)
	if e != api.OK {
		t.Fatal(e)
	}
	if p.Short > 0 {
		return p.Lots, p.Short
	}
	items, e := taken(k, c, p.Lots)
	if e != api.OK {
		t.Fatal(e)
	}
	spared, e := alloc.Spare(items, c.Need)
	if e != api.OK {
		t.Fatal(e)
	}
	return together(p.Lots, spared), 0
}

// P19.2 to P19.4: by chance, held against a second reckoning.
func TestChance(t *testing.T) {
	r := rand.New(rand.NewSource(2))
	told := map[api.Errno]int{}
	swapped, lacking, trimmed := 0, 0, 0
	for range 4000 {
		k, c, free := anyCase(r)
		e := stateOf(k, c)
		wantState(t, k, c, e)
		told[e]++
		want, n := renewOf(t, k, c, free)
		wantRenew(t, k, c, free, want, n, api.OK)
		if n > 0 {
			lacking++
		} else if len(want) > 0 {
			// What covers just enough is State's, and Swap's, edge.
			wantState(t, k, with(c, want), stateOf(k, with(c, want)))
			c.Have = want
			trimmed++
		}
		want, n = renewOf(t, k, with(c, nil), together(slices.Concat(c.Have, free), nil))
		wantBest(t, k, c, free, want, n, api.OK)
		if len(c.Have) > 0 {
			out := c.Have[r.Intn(len(c.Have))]
			out.Qty = 1 + r.Intn(out.Qty)
			in := free[:min(len(free), r.Intn(3))]
			now := together(slices.Concat(c.Have, in), []api.Lot{out})
			if e := stateOf(k, with(c, now)); e == api.OK {
				wantSwap(t, k, c, out, in, now, api.OK)
				swapped++
			} else {
				wantSwap(t, k, c, out, in, nil, e)
			}
		}
		if t.Failed() {
			t.Fatal(c, free)
		}
	}
	if told[api.OK] < 20 || told[api.ErrConc] < 500 || told[api.ErrCover] < 200 || told[api.ErrFit] < 100 || told[api.ErrAsset] < 50 || told[api.ErrPrice] < 50 || swapped < 50 || lacking < 500 || trimmed < 500 {
		t.Error(told, swapped, lacking, trimmed)
	}
}

// P19.5: what moves between two lists, to and back, makes the one of the other, and nothing moves both ways.
func TestMovesMake(t *testing.T) {
	r := rand.New(rand.NewSource(3))
	for range 3000 {
		was, now := anyLots(r, 70, 5), anyLots(r, 70, 5)
		m, e := subst.Between(was, now)
		if e != api.OK {
			t.Fatal(e)
		}
		rest, e := lots.Minus(was, m.Back)
		made, plusE := lots.Plus(rest, m.To)
		if e != api.OK || plusE != api.OK || !slices.Equal(made, now) || len(lots.Both(m.To, m.Back)) != 0 {
			t.Fatal(was, now, m, made, e, plusE)
		}
		for _, l := range [][]api.Lot{m.To, m.Back} {
			if _, e := lots.Check(l); e != api.OK {
				t.Fatal(m, e)
			}
		}
	}
}

// P19.5: behind Swap State is OK.
func TestSwapHolds(t *testing.T) {
	r := rand.New(rand.NewSource(4))
	swapped := 0
	for range 4000 {
		k, c, free := anyCase(r)
		l, n, e := subst.Renew(k, c, free)
		if e != api.OK || n > 0 || len(l) == 0 {
			continue
		}
		c.Have = l
		out := l[r.Intn(len(l))]
		out.Qty = 1 + r.Intn(out.Qty)
		if now, e := subst.Swap(k, c, out, free); e == api.OK {
			swapped++
			wantState(t, k, with(c, now), api.OK)
		}
	}
	if swapped < 50 {
		t.Error(swapped)
	}
}

// P19.5: behind Renew that lacks nothing State is OK, and renewed again, with what was left free, nothing changes; where something is lacking what there is passes no limit. What is taken is there, or free.
func TestRenewHolds(t *testing.T) {
	r := rand.New(rand.NewSource(5))
	renewed := 0
	for range 4000 {
		k, c, free := anyCase(r)
		now, n, e := subst.Renew(k, c, free)
		if e != api.OK {
			t.Fatal(e)
		}
		m, e := subst.Between(c.Have, now)
		left, leftE := lots.Minus(free, m.To)
		if e != api.OK || leftE != api.OK {
			t.Fatal(c, free, now, e, leftE)
		}
		items, e := taken(k, c, now)
		over, overE := limit.Over(c.Basket, c.Need, items)
		margin, marginE := haircut.Margin(items, c.Need)
		if e != api.OK || overE != api.OK || marginE != api.OK || len(over) > 0 || n != max(0, -margin) {
			t.Fatal(c, free, now, n, e, over, margin)
		}
		if n > 0 {
			continue
		}
		renewed++
		wantState(t, k, with(c, now), api.OK)
		wantRenew(t, k, with(c, now), left, now, 0, api.OK)
		if all, e := lots.Plus(left, m.Back); e == api.OK {
			wantRenew(t, k, with(c, now), all, now, 0, api.OK)
		}
		wantRenew(t, k, with(c, now), nil, now, 0, api.OK)
	}
	if renewed < 700 {
		t.Error(renewed)
	}
}

// All calls end, and none panics, whatever they are given; they tell only errors that the chapter names.
func TestAnyArguments(t *testing.T) {
	r := rand.New(rand.NewSource(6))
	pick := func(l ...int) int { return l[r.Intn(len(l))] }
	some := func() []api.Lot {
		l := anyLots(r, 70, 4)
		if r.Intn(2) == 0 {
			for i := range l {
				l[i].Qty = pick(append(noQtys, 1, 5, greatest)...)
				l[i].ISIN = number(r.Intn(70))
			}
		}
		return l[:min(len(l), pick(0, 1, 2, 70))]
	}
	told := map[api.Errno]int{}
	for range 5000 {
		k, c, _ := anyCase(r)
		k = []*asset.Book{nil, {}, k, k, k}[r.Intn(5)]
		c.Have = some()
		if r.Intn(3) == 0 {
			c.Need = pick(append(noNeeds, 0, greatest)...)
			c.Day = pick(append(noDays, 0, 200000)...)
		}
		if r.Intn(3) == 0 {
			c.Basket = api.Basket{Currency: "EUR", Rating: pick(-1, 20), Least: pick(-5, 5, math.MinInt), Most: pick(math.MaxInt, 9), Issuer: pick(-1, unit, unit+1), Asset: pick(math.MinInt, unit, math.MaxInt), Cuts: []api.Cut{{Days: math.MaxInt, Rating: math.MaxInt, Cut: pick(math.MinInt, -1, unit, 0)}}}
		}
		free := some()
		out := lot(number(r.Intn(70)), pick(append(noQtys, 1, 2)...))
		m, e := subst.Between(c.Have, free)
		if e != api.OK && (m.To != nil || m.Back != nil) {
			t.Error(m, e)
		}
		told[e]++
		told[subst.State(k, c)]++
		l, e := subst.Swap(k, c, out, free)
		if e != api.OK && l != nil {
			t.Error(l, e)
		}
		told[e]++
		for _, call := range []func(*asset.Book, subst.Cover, []api.Lot) ([]api.Lot, int, api.Errno){subst.Renew, subst.Best} {
			l, n, e := call(k, c, free)
			if e != api.OK && (l != nil || n != 0) {
				t.Error(l, n, e)
			}
			told[e]++
		}
	}
	for e := range told {
		if !slices.Contains([]api.Errno{api.OK, api.ErrArg, api.ErrLimit, api.ErrTwice, api.ErrOver, api.ErrFunds, api.ErrAsset, api.ErrPrice, api.ErrFit, api.ErrConc, api.ErrCover}, e) {
			t.Error(e)
		}
	}
	wantSwap(t, house(t), cover(rules(), 90000, list(near, 9)), lot(near, 9), slices.Repeat(list(far, 1), 100000), list(far, 100000), api.OK)
}

// spoil clears lots, and the room behind them.
func spoil(l []api.Lot) { clear(l[:cap(l)]) }

// What is handed in isn't changed, nor is the room behind it; an answer is new, so that spoiling it spoils nothing else.
func TestMemory(t *testing.T) {
	k := house(t)
	assets, prices := k.All(), k.Prices()
	have, free := list(late, 60, far, 50, near, 40, foreign, 5, unknown, 1), list(late, 10, far, 20, near, 30, poor, 5)
	wasHave, wasFree := slices.Clone(have), slices.Clone(free)
	for n := range have {
		for m := range free {
			c := cover(rules(), 40, have[:n])
			in := free[:m]
			move, e := subst.Between(c.Have, in)
			if e != api.OK {
				t.Fatal(e)
			}
			again, _ := subst.Between(c.Have, in)
			spoil(move.To)
			wantBetween(t, c.Have, in, again.To, move.Back, api.OK)
			spoil(move.Back)
			wantBetween(t, c.Have, in, again.To, again.Back, api.OK)
			subst.State(k, c)
			swapped, _ := subst.Swap(k, c, lot(late, 1), in)
			spoil(swapped)
			renewed, _, _ := subst.Renew(k, c, in)
			spoil(renewed)
			best, _, _ := subst.Best(k, c, in)
			spoil(best)
			c.Need = greatest
			lacking, _, _ := subst.Renew(k, c, in)
			spoil(lacking)
			if !slices.Equal(have, wasHave) || !slices.Equal(free, wasFree) || !reflect.DeepEqual(c.Basket, rules()) || len(c.Have) != n {
				t.Fatal(have, free, c)
			}
		}
	}
	if !slices.Equal(k.All(), assets) || !slices.Equal(k.Prices(), prices) {
		t.Error(k.All(), k.Prices())
	}
}

// The texts of an answer lie apart from those handed in, and from each other's.
func TestTexts(t *testing.T) {
	met := map[*byte]bool{}
	meet := func(l []api.Lot) {
		t.Helper()
		for _, x := range l {
			if met[unsafe.StringData(x.ISIN)] {
				t.Errorf("%q lies where another text does", x.ISIN)
			}
			met[unsafe.StringData(x.ISIN)] = true
		}
	}
	own := func(l []api.Lot) []api.Lot {
		for i := range l {
			l[i].ISIN = strings.Clone(l[i].ISIN)
		}
		meet(l)
		return l
	}
	k := house(t)
	have, free, out := own(list(late, 60, far, 50, near, 40)), own(list(late, 70, far, 20, near, 60)), own(list(far, 10))[0]
	for range 2 {
		m, _ := subst.Between(have, free)
		swapped, _ := subst.Swap(k, cover(rules(), 180, have), out, free)
		renewed, _, _ := subst.Renew(k, cover(rules(), 100, have), free)
		lacking, n, _ := subst.Renew(k, cover(rules(), greatest, have), free)
		best, _, _ := subst.Best(k, cover(rules(), 150, have), free)
		if len(m.To) != 2 || len(m.Back) != 1 || len(swapped) != 3 || len(renewed) != 3 || len(lacking) != 3 || n == 0 || len(best) != 2 {
			t.Fatal(m, swapped, renewed, lacking, n, best)
		}
		for _, l := range [][]api.Lot{m.To, m.Back, swapped, renewed, lacking, best} {
			meet(l)
		}
	}
}

// The rules of these tests are ones that may be.
func TestRules(t *testing.T) {
	r := rand.New(rand.NewSource(7))
	for _, b := range []api.Basket{rules(), halves()} {
		if e := msg.Basket(b); e != api.OK {
			t.Error(b, e)
		}
	}
	for range 500 {
		if _, c, _ := anyCase(r); msg.Basket(c.Basket) != api.OK {
			t.Error(c.Basket)
		}
	}
}
