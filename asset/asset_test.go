package asset_test

import (
	"fmt"
	"maps"
	"math"
	"math/big"
	"math/rand"
	"slices"
	"strings"
	"testing"
	"unsafe"

	"lombard/api"
	"lombard/asset"
	"lombard/isin"
)

const (
	// greatest is the most of a security that a lot has, dearest the highest price.
	greatest = 1 << 50
	dearest  = 1 << 32
	// latest is the last day.
	latest = 200000

	sap   = "DE0007164600"
	apple = "US0378331005"
	glaxo = "GB0002634946"
)

var (
	noAmounts = []int{math.MinInt, -1 << 32, -1, greatest + 1, 1 << 60, math.MaxInt}
	noPrices  = []int{math.MinInt, -dearest, -1, 0, dearest + 1, 1 << 60, math.MaxInt}
	noDays    = []int{math.MinInt, -1 << 32, -1, latest + 1, 1<<32 + 1, math.MaxInt}
	// strangers are texts that are no security's number, though some are like one.
	strangers = []string{"", "x", "US037833100", "US0378331005 ", "us0378331005", "US0378331006", glaxo, "\xff", strings.Repeat("U", 5000)}
)

// security is one that may be.
func security(number string, maturity int) api.Asset {
	return api.Asset{ISIN: number, Issuer: 7, Rating: 3, Maturity: maturity, Currency: "EUR"}
}

// numbers makes so many numbers of securities, of several lands and not in order.
func numbers(t *testing.T, n int) []string {
	t.Helper()
	lands := []string{"XS", "AA", "DE", "ZZ", "US"}
	var l []string
	for i := range n {
		s, e := isin.Make(lands[i%len(lands)], fmt.Sprintf("%X", 7919*(i+1)%10007))
		if e != api.OK {
			t.Fatal(e)
		}
		l = append(l, s)
	}
	return l
}

// add wants that securities become known.
func add(t *testing.T, b *asset.Book, l ...api.Asset) {
	t.Helper()
	for _, a := range l {
		if e := b.Add(a); e != api.OK {
			t.Fatalf("Add(%v) = %d", a, e)
		}
	}
}

// of makes a book of securities.
func of(t *testing.T, l ...api.Asset) *asset.Book {
	t.Helper()
	b := asset.New()
	add(t, b, l...)
	return b
}

// price is a price.
func price(number string, n int) api.Price { return api.Price{ISIN: number, Price: n} }

// lot is a lot.
func lot(number string, n int) api.Lot { return api.Lot{ISIN: number, Qty: n} }

// set wants that prices are set.
func set(t *testing.T, b *asset.Book, l ...api.Price) {
	t.Helper()
	if n, e := b.Set(l); n != len(l) || e != api.OK {
		t.Fatalf("Set(%v) = %d, %d; want %d, 0", l, n, e, len(l))
	}
}

// wantBook wants that a book has just these securities and prices, which are in order.
func wantBook(t *testing.T, b *asset.Book, assets []api.Asset, prices []api.Price) {
	t.Helper()
	if l := b.All(); !slices.Equal(l, assets) {
		t.Errorf("All = %v; want %v", l, assets)
	}
	if l := b.Prices(); !slices.Equal(l, prices) {
		t.Errorf("Prices = %v; want %v", l, prices)
	}
}

// wantNotAdded wants an error of Add, and that nothing has changed.
func wantNotAdded(t *testing.T, b *asset.Book, want api.Errno, a api.Asset) {
	t.Helper()
	assets, prices := b.All(), b.Prices()
	if e := b.Add(a); e != want {
		t.Errorf("Add(%.200q) = %d; want %d", fmt.Sprint(a), e, want)
	}
	wantBook(t, b, assets, prices)
}

// wantNotSet wants an error of Set, with its price's number, and that nothing has changed.
func wantNotSet(t *testing.T, b *asset.Book, at int, want api.Errno, l ...api.Price) {
	t.Helper()
	assets, prices := b.All(), b.Prices()
	if n, e := b.Set(l); n != at || e != want {
		t.Errorf("Set(%.200q) = %d, %d; want %d, %d", fmt.Sprint(l), n, e, at, want)
	}
	wantBook(t, b, assets, prices)
}

// wantWorth wants what Worth, or Value, or Total tells.
func wantWorth(t *testing.T, n int, e api.Errno, want int, wantE api.Errno) {
	t.Helper()
	if n != want || e != wantE {
		t.Errorf("%d, %d; want %d, %d", n, e, want, wantE)
	}
}

// The chapter's example.
func TestExample(t *testing.T) {
	n, e := asset.Worth(1000, 995000)
	wantWorth(t, n, e, 995, api.OK)
	n, e = asset.Worth(1, 995000)
	wantWorth(t, n, e, 0, api.OK)
}

// P13.1: a new book has none, and each New makes another one.
func TestNew(t *testing.T) {
	b, other := asset.New(), asset.New()
	if b == nil || other == nil || b == other {
		t.Fatal(b, other)
	}
	wantBook(t, b, nil, nil)
	if _, ok := b.Get(apple); ok {
		t.Error("a new book knows a security")
	}
	if n, ok := b.Price(apple); n != 0 || ok {
		t.Error(n, ok)
	}
	if l := b.Ending(latest); len(l) != 0 {
		t.Error(l)
	}
	add(t, b, security(apple, 5))
	wantBook(t, other, nil, nil)
}

// P13.1: what is added is told as it is, by its number alone, and has no price.
func TestAdd(t *testing.T) {
	l := []api.Asset{
		{ISIN: sap, Issuer: 9999, Rating: 20, Maturity: latest, Currency: "DKK"},
		{ISIN: glaxo, Issuer: 0, Rating: 0, Maturity: 0, Currency: "JPY"},
		{ISIN: apple, Issuer: 12, Rating: 5, Maturity: 77, Currency: "USD"},
	}
	b := of(t, l[2], l[0], l[1])
	wantBook(t, b, l, nil)
	for _, a := range l {
		if got, ok := b.Get(a.ISIN); got != a || !ok {
			t.Error(got, ok)
		}
		if n, ok := b.Price(a.ISIN); n != 0 || ok {
			t.Error(n, ok)
		}
	}
	b = of(t, l[0], l[2])
	for _, s := range strangers {
		if got, ok := b.Get(s); got != (api.Asset{}) || ok {
			t.Errorf("Get(%.20q) = %v, %v", s, got, ok)
		}
	}
}

// P13.1: what is wrong with a security is told as isin tells it, ahead of whether it is known, and whether there is room.
func TestAddWrong(t *testing.T) {
	full := asset.New()
	for _, s := range numbers(t, 64) {
		add(t, full, security(s, 9))
	}
	known := numbers(t, 1)[0]
	for _, b := range []*asset.Book{asset.New(), of(t, security(sap, 1), security(apple, 1)), full} {
		for _, s := range []string{sap, apple, known} {
			for _, z := range []struct {
				want api.Errno
				a    api.Asset
			}{
				{api.ErrName, api.Asset{ISIN: "x", Maturity: -1}},
				{api.ErrName, api.Asset{ISIN: s[:11], Currency: "EUR"}},
				{api.ErrName, api.Asset{ISIN: s + " ", Currency: "EUR"}},
				{api.ErrName, api.Asset{ISIN: strings.ToLower(s), Currency: "EUR"}},
				{api.ErrCheck, api.Asset{ISIN: s[:11] + string('0'+(s[11]-'0'+1)%10), Currency: "EUR"}},
				{api.ErrCheck, api.Asset{ISIN: s[:11] + string('0'+(s[11]-'0'+9)%10), Issuer: -1}},
				{api.ErrName, api.Asset{ISIN: s}},
				{api.ErrName, api.Asset{ISIN: s, Currency: "eur"}},
				{api.ErrName, api.Asset{ISIN: s, Currency: "XXX", Issuer: -1, Maturity: -1}},
				{api.ErrArg, api.Asset{ISIN: s, Currency: "EUR", Issuer: -1}},
				{api.ErrArg, api.Asset{ISIN: s, Currency: "EUR", Issuer: 10000, Maturity: -1}},
				{api.ErrArg, api.Asset{ISIN: s, Currency: "EUR", Rating: -1}},
				{api.ErrArg, api.Asset{ISIN: s, Currency: "EUR", Rating: 21, Maturity: latest + 1}},
				{api.ErrDay, api.Asset{ISIN: s, Currency: "EUR", Maturity: -1}},
				{api.ErrDay, api.Asset{ISIN: s, Currency: "EUR", Maturity: latest + 1}},
			} {
				wantNotAdded(t, b, z.want, z.a)
				if e := isin.Asset(z.a); e != z.want {
					t.Errorf("isin.Asset(%v) = %d", z.a, e)
				}
			}
		}
	}
	wantNotAdded(t, asset.New(), api.ErrName, api.Asset{})
}

// P13.1: a number is known once, whatever else the security has.
func TestAddTwice(t *testing.T) {
	b := of(t, security(sap, 1), security(apple, 1))
	set(t, b, price(sap, 5))
	for _, s := range []string{sap, apple} {
		wantNotAdded(t, b, api.ErrTwice, security(s, 1))
		wantNotAdded(t, b, api.ErrTwice, security(s, 2))
		wantNotAdded(t, b, api.ErrTwice, api.Asset{ISIN: s, Currency: "USD"})
	}
	add(t, b, security(glaxo, 1))
	wantNotAdded(t, b, api.ErrTwice, security(glaxo, 1))
}

// P13.1: 64 are taken, and no more; which of them is known is told ahead of that.
func TestAddFull(t *testing.T) {
	b := asset.New()
	l := numbers(t, 66)
	for i, s := range l[:64] {
		if n := len(b.All()); n != i {
			t.Fatal(n, i)
		}
		add(t, b, security(s, i))
	}
	wantNotAdded(t, b, api.ErrFull, security(l[64], 1))
	wantNotAdded(t, b, api.ErrFull, security(l[65], 1))
	for _, s := range l[:64] {
		wantNotAdded(t, b, api.ErrTwice, security(s, 1))
	}
	for _, s := range l[64:] {
		if a, ok := b.Get(s); a != (api.Asset{}) || ok {
			t.Error(a, ok)
		}
		wantNotSet(t, b, 0, api.ErrAsset, price(s, 5))
	}
}

// P13.1: all are told by rising numbers, in whichever order they came.
func TestAll(t *testing.T) {
	l := numbers(t, 64)
	rising := slices.Sorted(slices.Values(l))
	for seed := range int64(20) {
		r := rand.New(rand.NewSource(seed))
		r.Shuffle(len(l), func(i, j int) { l[i], l[j] = l[j], l[i] })
		b := asset.New()
		for _, s := range l {
			add(t, b, security(s, slices.Index(rising, s)))
		}
		all := b.All()
		for i, s := range rising {
			if a, ok := b.Get(s); all[i] != security(s, i) || a != all[i] || !ok {
				t.Fatal(i, s, all[i], a, ok)
			}
		}
	}
}

// P13.1: a clone has the same securities and prices, and goes its own way from then on.
func TestClone(t *testing.T) {
	assets := []api.Asset{security(sap, 1), security(apple, 2)}
	prices := []api.Price{price(sap, 5)}
	b := of(t, assets...)
	set(t, b, prices...)
	c := b.Clone()
	d := c.Clone()
	if c == nil || b == c || c == d {
		t.Fatal("a clone is the book itself")
	}
	set(t, b, price(sap, 6), price(apple, 7))
	add(t, c, security(glaxo, 3))
	set(t, c, price(sap, 8))
	wantBook(t, d, assets, prices)
	wantBook(t, b, assets, []api.Price{price(sap, 6), price(apple, 7)})
	wantBook(t, c, []api.Asset{assets[0], security(glaxo, 3), assets[1]}, []api.Price{price(sap, 8)})
	wantNotAdded(t, d, api.ErrTwice, assets[0])
	add(t, d, security(glaxo, 4))
	add(t, b, security(glaxo, 5))
	for want, x := range map[int]*asset.Book{3: c, 4: d, 5: b} {
		if a, ok := x.Get(glaxo); a.Maturity != want || !ok {
			t.Error(a, ok)
		}
	}
	empty := asset.New()
	add(t, empty.Clone(), security(sap, 1))
	wantBook(t, empty, nil, nil)
}

// P13.2: prices are set in order, a later one in the place of an earlier one, and how many there are is told.
func TestSet(t *testing.T) {
	b := of(t, security(apple, 1), security(sap, 2), security(glaxo, 3))
	assets := b.All()
	set(t, b)
	wantBook(t, b, assets, nil)
	set(t, b, price(apple, 1))
	wantBook(t, b, assets, []api.Price{price(apple, 1)})
	set(t, b, price(sap, dearest), price(apple, dearest))
	wantBook(t, b, assets, []api.Price{price(sap, dearest), price(apple, dearest)})
	set(t, b, price(apple, 4), price(glaxo, 5), price(apple, 6), price(glaxo, 7), price(apple, 3))
	wantBook(t, b, assets, []api.Price{price(sap, dearest), price(glaxo, 7), price(apple, 3)})
	set(t, b)
	for _, p := range b.Prices() {
		if n, ok := b.Price(p.ISIN); n != p.Price || !ok {
			t.Error(n, ok, p)
		}
	}
	for _, n := range []int{2, api.Unit, dearest - 1} {
		set(t, b, price(sap, n))
		if got, ok := b.Price(sap); got != n || !ok {
			t.Error(got, ok, n)
		}
	}
	// Far more prices than there are securities may come at once.
	set(t, b, slices.Repeat([]api.Price{price(sap, 8), price(glaxo, 9)}, 5000)...)
	wantBook(t, b, assets, []api.Price{price(sap, 8), price(glaxo, 9), price(apple, 3)})
}

// P13.2: the first price that can't be is told by its number, whatever is behind it, and then none is set.
func TestSetWrong(t *testing.T) {
	b := of(t, security(apple, 1), security(sap, 2))
	set(t, b, price(sap, 7))
	good := []api.Price{price(apple, 1), price(sap, dearest), price(apple, 3)}
	type bad struct {
		price api.Price
		want  api.Errno
	}
	var l []bad
	for _, s := range strangers {
		for _, n := range append([]int{1, dearest}, noPrices...) {
			l = append(l, bad{price(s, n), api.ErrAsset})
		}
	}
	for _, n := range noPrices {
		l = append(l, bad{price(apple, n), api.ErrPrice}, bad{price(sap, n), api.ErrPrice})
	}
	for at := range len(good) + 1 {
		for _, x := range l {
			wantNotSet(t, b, at, x.want, slices.Concat(good[:at], []api.Price{x.price}, good[at:])...)
		}
	}
	for _, x := range l {
		for _, y := range l {
			wantNotSet(t, b, 1, x.want, good[0], x.price, y.price)
		}
	}
	wantNotSet(t, b, 4999, api.ErrPrice, append(slices.Repeat(good[:1], 4999), price(sap, 0))...)
}

// P13.2: of a security that isn't known, or has no price, there is none.
func TestPrice(t *testing.T) {
	b := of(t, security(apple, 1), security(sap, 2))
	set(t, b, price(sap, 7))
	if n, ok := b.Price(sap); n != 7 || !ok {
		t.Error(n, ok)
	}
	for _, s := range append([]string{apple}, strangers...) {
		if n, ok := b.Price(s); n != 0 || ok {
			t.Errorf("Price(%.20q) = %d, %v", s, n, ok)
		}
	}
}

// P13.2: prices rise by their securities' numbers, in whichever order they were set, and a security that comes between doesn't move them.
func TestPrices(t *testing.T) {
	numbers := numbers(t, 64)
	rising := slices.Sorted(slices.Values(numbers))
	r := rand.New(rand.NewSource(1))
	b := asset.New()
	want := map[string]int{}
	for i, s := range numbers {
		add(t, b, security(s, 1))
		if i%3 == 0 {
			continue
		}
		known := numbers[r.Intn(i+1)]
		want[s], want[known] = 100+i, 1000+i
		set(t, b, price(s, 100+i), price(known, 1000+i))
		var l []api.Price
		for _, s := range rising {
			if want[s] != 0 {
				l = append(l, price(s, want[s]))
			}
		}
		if got := b.Prices(); !slices.Equal(got, l) {
			t.Fatalf("Prices = %v; want %v", got, l)
		}
	}
}

// P13.3: qty times price by 1000000, cut down.
func TestWorth(t *testing.T) {
	for _, z := range [][3]int{
		{0, 1, 0}, {0, dearest, 0}, {1, 1, 0}, {1, 999999, 0}, {1, 1000000, 1}, {1, 1999999, 1}, {1, 2000000, 2}, {999999, 1, 0}, {1000000, 1, 1},
		{99, 1010000, 99}, {100, 1010000, 101}, {7, 500000, 3}, {1, dearest, 4294}, {greatest, 1, 1125899906}, {greatest, 1000000, greatest},
		{greatest, 999999, greatest - 1125899907}, {greatest, dearest, 4835703278458516698}, {greatest - 1, dearest, 4835703278458512403},
	} {
		n, e := asset.Worth(z[0], z[1])
		wantWorth(t, n, e, z[2], api.OK)
	}
	r := rand.New(rand.NewSource(2))
	for range 20000 {
		qty, price := r.Intn(1<<r.Intn(51)+1), 1+r.Intn(1<<r.Intn(33))
		exact := new(big.Int).Mul(big.NewInt(int64(qty)), big.NewInt(int64(price)))
		n, e := asset.Worth(qty, price)
		wantWorth(t, n, e, int(exact.Div(exact, big.NewInt(1000000)).Int64()), api.OK)
	}
}

// P13.3: neither an amount nor a price may be below its least, or above its most.
func TestWorthWrong(t *testing.T) {
	for _, price := range append([]int{1, 1000000, dearest}, noPrices...) {
		for _, qty := range noAmounts {
			n, e := asset.Worth(qty, price)
			wantWorth(t, n, e, 0, api.ErrArg)
		}
	}
	for _, price := range noPrices {
		for _, qty := range []int{0, 1, greatest} {
			n, e := asset.Worth(qty, price)
			wantWorth(t, n, e, 0, api.ErrArg)
		}
	}
}

// P13.3: a lot is worth what so many are at the security's price; what isn't known is told ahead of what has no price, and that ahead of a wrong amount.
func TestValue(t *testing.T) {
	b := of(t, security(apple, 1), security(sap, 2))
	set(t, b, price(sap, 995000))
	for _, z := range [][2]int{{0, 0}, {1, 0}, {2, 1}, {1000, 995}, {greatest, 1120270407308410}} {
		n, e := b.Value(lot(sap, z[0]))
		wantWorth(t, n, e, z[1], api.OK)
	}
	for _, qty := range append([]int{0, 1, greatest}, noAmounts...) {
		for _, s := range strangers {
			n, e := b.Value(lot(s, qty))
			wantWorth(t, n, e, 0, api.ErrAsset)
		}
		n, e := b.Value(lot(apple, qty))
		wantWorth(t, n, e, 0, api.ErrPrice)
	}
	for _, qty := range noAmounts {
		n, e := b.Value(lot(sap, qty))
		wantWorth(t, n, e, 0, api.ErrArg)
	}
	set(t, b, price(sap, 2000000))
	n, e := b.Value(lot(sap, 8))
	wantWorth(t, n, e, 16, api.OK)
}

// P13.3: each lot is cut down by itself, and the first error is told.
func TestTotal(t *testing.T) {
	b := of(t, security(apple, 1), security(sap, 2), security(glaxo, 3))
	set(t, b, price(sap, 995000), price(apple, dearest))
	most := lot(apple, greatest)
	for _, z := range []struct {
		l    []api.Lot
		want int
		e    api.Errno
	}{
		{nil, 0, api.OK},
		{[]api.Lot{}, 0, api.OK},
		{[]api.Lot{lot(sap, 0)}, 0, api.OK},
		{[]api.Lot{lot(sap, 1000)}, 995, api.OK},
		{[]api.Lot{lot(sap, 1), lot(sap, 1)}, 0, api.OK},
		{[]api.Lot{lot(sap, 1000), lot(apple, 1), lot(sap, 1), lot(sap, 10)}, 995 + 4294 + 9, api.OK},
		{slices.Repeat([]api.Lot{lot(sap, 2)}, 5000), 5000, api.OK},
		{[]api.Lot{most, lot(sap, 2)}, 4835703278458516699, api.OK},
		{[]api.Lot{lot(apple, -1), lot("x", 1)}, 0, api.ErrArg},
		{[]api.Lot{lot("x", -1), lot(glaxo, 1)}, 0, api.ErrAsset},
		{[]api.Lot{lot(glaxo, -1), lot("x", 1)}, 0, api.ErrPrice},
		{[]api.Lot{lot(sap, 1000), lot(glaxo, 1)}, 0, api.ErrPrice},
		{[]api.Lot{lot(sap, 1000), lot(sap, greatest+1), lot(glaxo, 1)}, 0, api.ErrArg},
		{[]api.Lot{most, most}, 0, api.ErrOver},
		{[]api.Lot{most, most, lot("x", 1)}, 0, api.ErrOver},
		{[]api.Lot{most, lot("x", 1), most}, 0, api.ErrAsset},
		{[]api.Lot{most, lot(sap, 1), lot(glaxo, 0), most}, 0, api.ErrPrice},
		{slices.Repeat([]api.Lot{most}, 5000), 0, api.ErrOver},
	} {
		n, e := b.Total(z.l)
		wantWorth(t, n, e, z.want, z.e)
	}
}

// P13.3: a total may be the greatest number there is, but not 1 above it.
func TestTotalOver(t *testing.T) {
	b := of(t, security(apple, 1), security(sap, 2))
	set(t, b, price(sap, 1000000), price(apple, dearest))
	l := []api.Lot{lot(apple, greatest), lot(apple, greatest/10*9)}
	n, e := b.Total(l)
	if e != api.OK || math.MaxInt-n > 64*greatest {
		t.Fatal(n, e)
	}
	for left := math.MaxInt - n; left > 0; left -= min(left, greatest) {
		l = append(l, lot(sap, min(left, greatest)))
	}
	n, e = b.Total(l)
	wantWorth(t, n, e, math.MaxInt, api.OK)
	n, e = b.Total(append(l, lot(sap, 0)))
	wantWorth(t, n, e, math.MaxInt, api.OK)
	n, e = b.Total(append(l, lot(sap, 1)))
	wantWorth(t, n, e, 0, api.ErrOver)
}

// P13.4: the days from a day up to the end, below 0 behind it; -1 of what is no day.
func TestLeft(t *testing.T) {
	for _, z := range [][3]int{
		{500, 0, 500}, {500, 499, 1}, {500, 500, 0}, {500, 501, -1}, {500, 502, -2}, {500, latest, 500 - latest},
		{0, 0, 0}, {0, 1, -1}, {0, latest, -latest}, {latest, 0, latest}, {latest, latest, 0}, {latest, latest - 1, 1},
		{-5, 3, -8}, {math.MaxInt, latest, math.MaxInt - latest}, {math.MinInt, 0, math.MinInt}, {math.MinInt + latest, latest, math.MinInt},
	} {
		if n := asset.Left(security(sap, z[0]), z[1]); n != z[2] {
			t.Errorf("Left(%d, %d) = %d; want %d", z[0], z[1], n, z[2])
		}
	}
	for _, day := range noDays {
		for _, maturity := range []int{math.MinInt, -1, 0, 500, latest, latest + 5, math.MaxInt} {
			if n := asset.Left(security(sap, maturity), day); n != -1 {
				t.Errorf("Left(%d, %d) = %d", maturity, day, n)
			}
		}
	}
	// It hangs on nothing else that a security has.
	if n := asset.Left(api.Asset{Maturity: 9}, 4); n != 5 {
		t.Error(n)
	}
}

// P13.4: those that end on the day, or ended ahead of it, rise; of what is no day it is all of them.
func TestEnding(t *testing.T) {
	b := of(t, security(apple, 100), security(sap, 500), security(glaxo, 100), security("CH0012221716", 0), security("XS0000000009", latest))
	set(t, b, price(apple, 5))
	all := []string{"CH0012221716", sap, glaxo, apple, "XS0000000009"}
	for _, z := range []struct {
		day  int
		want []string
	}{
		{0, all[:1]}, {1, all[:1]}, {99, all[:1]}, {100, []string{all[0], glaxo, apple}}, {101, []string{all[0], glaxo, apple}},
		{499, []string{all[0], glaxo, apple}}, {500, all[:4]}, {latest - 1, all[:4]}, {latest, all},
	} {
		if l := b.Ending(z.day); !slices.Equal(l, z.want) {
			t.Errorf("Ending(%d) = %v; want %v", z.day, l, z.want)
		}
	}
	for _, day := range noDays {
		if l := b.Ending(day); !slices.Equal(l, all) {
			t.Errorf("Ending(%d) = %v", day, l)
		}
	}
	if l := of(t, security(sap, 7)).Ending(6); len(l) != 0 {
		t.Error(l)
	}
	for _, s := range b.Ending(500) {
		if a, ok := b.Get(s); !ok || asset.Left(a, 500) > 0 {
			t.Error(s, a, ok)
		}
	}
}

// P13.5: two amounts together are worth as much as each, and at most 1 more than both by themselves.
func TestTogether(t *testing.T) {
	worth := func(qty, price int) int {
		n, e := asset.Worth(qty, price)
		if e != api.OK {
			t.Fatalf("Worth(%d, %d): %d", qty, price, e)
		}
		return n
	}
	above := [2]int{}
	try := func(a, b, price int) {
		x, y, both := worth(a, price), worth(b, price), worth(a+b, price)
		if both < max(x, y) || both < x+y || both > x+y+1 {
			t.Fatalf("%d and %d at %d: %d and %d, together %d", a, b, price, x, y, both)
		}
		above[both-x-y]++
	}
	for _, price := range []int{1, 2, 499999, 500000, 500001, 995000, 999999, 1000000, 1000001, 1500000, dearest - 1, dearest} {
		for a := range 40 {
			for b := range 40 {
				try(a, b, price)
			}
			try(a, greatest-a, price)
			try(greatest/2, greatest/2-a, price)
		}
	}
	r := rand.New(rand.NewSource(3))
	for range 20000 {
		try(r.Intn(1<<r.Intn(50)+1), r.Intn(1<<r.Intn(50)+1), 1+r.Intn(1<<r.Intn(33)))
	}
	if above[0] == 0 || above[1] == 0 {
		t.Error(above)
	}
}

// P13.5: of more, and at a higher price, the worth is no less.
func TestMoreIsNoLess(t *testing.T) {
	b := of(t, security(sap, 1))
	r := rand.New(rand.NewSource(4))
	for range 5000 {
		p, least := 1+r.Intn(1<<r.Intn(33)), r.Intn(1<<r.Intn(50)+1)
		set(t, b, price(sap, p))
		last := 0
		for _, more := range []int{0, 1, 2, 3 + r.Intn(1000), 1003 + r.Intn(1<<40), greatest} {
			qty := min(least+more, greatest)
			n, e := b.Value(lot(sap, qty))
			if e != api.OK || n < last {
				t.Fatal(qty, p, n, e, last)
			}
			if dear, e := asset.Worth(qty, min(p+1+r.Intn(1000), dearest)); e != api.OK || dear < n {
				t.Fatal(qty, p, n, dear, e)
			}
			last = n
		}
	}
}

// Of nil, and of what no call made, there is nothing, and the error is ErrNil, ahead of all others; but of no lots there is no error.
func TestNil(t *testing.T) {
	for _, b := range []*asset.Book{nil, {}, new(asset.Book)} {
		for _, a := range []api.Asset{{}, {ISIN: "x"}, security(sap, 1), security(sap, -1)} {
			if e := b.Add(a); e != api.ErrNil {
				t.Error(e)
			}
		}
		for _, l := range [][]api.Price{nil, {}, {price(sap, 1)}, {price("x", 0), price(sap, 1)}, make([]api.Price, 5000)} {
			if n, e := b.Set(l); n != 0 || e != api.ErrNil {
				t.Error(n, e)
			}
		}
		for _, x := range []api.Lot{{}, lot(sap, 1), lot(sap, 0), lot("x", -1)} {
			n, e := b.Value(x)
			wantWorth(t, n, e, 0, api.ErrNil)
			n, e = b.Total([]api.Lot{x, x})
			wantWorth(t, n, e, 0, api.ErrNil)
		}
		for _, l := range [][]api.Lot{nil, {}} {
			n, e := b.Total(l)
			wantWorth(t, n, e, 0, api.OK)
		}
		for _, s := range []string{"", sap} {
			if a, ok := b.Get(s); a != (api.Asset{}) || ok {
				t.Error(a, ok)
			}
			if n, ok := b.Price(s); n != 0 || ok {
				t.Error(n, ok)
			}
		}
		if b.All() != nil || b.Prices() != nil || b.Ending(0) != nil || b.Ending(-1) != nil || b.Ending(latest) != nil || b.Clone() != nil {
			t.Error("there is something")
		}
	}
}

// Lists that are handed in are neither changed nor kept, nor is the room behind them; those that are told are new.
func TestMemory(t *testing.T) {
	assets := []api.Asset{security(sap, 2), security(apple, 1)}
	b := of(t, assets...)
	prices := []api.Price{price(apple, 5), price(sap, 0), price("Z", 9), price("Z", 9)}
	lots := []api.Lot{lot(apple, 1000000), lot(sap, 1), lot("Z", 9), lot("Z", 9)}
	p, l := slices.Clone(prices), slices.Clone(lots)
	set(t, b, prices[:1]...)
	wantNotSet(t, b, 1, api.ErrPrice, prices[:2]...)
	n, e := b.Total(lots[:1])
	wantWorth(t, n, e, 5, api.OK)
	n, e = b.Total(lots[:2])
	wantWorth(t, n, e, 0, api.ErrPrice)
	if !slices.Equal(p, prices) || !slices.Equal(l, lots) {
		t.Error(prices, lots)
	}
	clear(prices)
	clear(lots)
	all, told, ending := b.All(), b.Prices(), b.Ending(5)
	_, _, _ = append(all, api.Asset{}), append(told, api.Price{}), append(ending, "Z")
	clear(all)
	clear(told)
	clear(ending)
	wantBook(t, b, assets, p[:1])
	if l := b.Ending(5); !slices.Equal(l, []string{sap, apple}) {
		t.Error(l)
	}
}

// place is where a text's bytes lie.
func place(s string) *byte { return unsafe.StringData(s) }

// Texts lie apart in arguments and answers, and what becomes of their bytes behind a call is all one to the book.
func TestTexts(t *testing.T) {
	seen := map[*byte]bool{}
	var handed [][]byte
	text := func(s string) string {
		b := []byte(s)
		handed = append(handed, b)
		s = unsafe.String(&b[0], len(b))
		seen[place(s)] = true
		return s
	}
	told := func(what string, b *asset.Book) {
		t.Helper()
		l := b.Ending(5)
		got, _ := b.Get(sap)
		for _, a := range append(b.All(), got) {
			l = append(l, a.ISIN, a.Currency)
		}
		for _, p := range b.Prices() {
			l = append(l, p.ISIN)
		}
		for _, s := range l {
			if s != sap && s != "EUR" || seen[place(s)] {
				t.Errorf("%s: %q, a text that was handed in or out before", what, s)
			}
			seen[place(s)] = true
		}
	}
	known := func() api.Asset {
		return api.Asset{ISIN: text(sap), Issuer: 7, Rating: 3, Maturity: 5, Currency: text("EUR")}
	}
	b := of(t, known())
	told("Add", b)
	wantNotAdded(t, b, api.ErrTwice, known())
	set(t, b, price(text(sap), 5), price(text(sap), 6))
	b.Price(text(sap))
	b.Get(text(sap))
	if _, e := b.Total([]api.Lot{lot(text(sap), 5)}); e != api.OK {
		t.Error(e)
	}
	told("Set", b)
	c := b.Clone()
	told("Clone", c)
	told("what was cloned", b)
	for _, bytes := range handed {
		clear(bytes)
	}
	for _, x := range []*asset.Book{b, c} {
		wantBook(t, x, []api.Asset{security(sap, 5)}, []api.Price{price(sap, 6)})
	}
}

// model is the chapter's words once more.
type model struct {
	assets map[string]api.Asset
	prices map[string]int
}

func (m model) add(a api.Asset) api.Errno {
	if e := isin.Asset(a); e != api.OK {
		return e
	}
	if _, ok := m.assets[a.ISIN]; ok {
		return api.ErrTwice
	}
	if len(m.assets) == 64 {
		return api.ErrFull
	}
	m.assets[a.ISIN] = a
	return api.OK
}

func (m model) set(l []api.Price) (int, api.Errno) {
	next := maps.Clone(m.prices)
	for i, p := range l {
		if _, ok := m.assets[p.ISIN]; !ok {
			return i, api.ErrAsset
		}
		if p.Price < 1 || p.Price > dearest {
			return i, api.ErrPrice
		}
		next[p.ISIN] = p.Price
	}
	maps.Copy(m.prices, next)
	return len(l), api.OK
}

func (m model) total(l []api.Lot) (int, api.Errno) {
	total := new(big.Int)
	for _, x := range l {
		if _, ok := m.assets[x.ISIN]; !ok {
			return 0, api.ErrAsset
		}
		p, ok := m.prices[x.ISIN]
		if !ok {
			return 0, api.ErrPrice
		}
		if x.Qty < 0 || x.Qty > greatest {
			return 0, api.ErrArg
		}
		worth := new(big.Int).Mul(big.NewInt(int64(x.Qty)), big.NewInt(int64(p)))
		if total.Add(total, worth.Div(worth, big.NewInt(1000000))); !total.IsInt64() {
			return 0, api.ErrOver
		}
	}
	return int(total.Int64()), api.OK
}

// wantLike wants that a book has just what the model has.
func (m model) wantLike(t *testing.T, b *asset.Book, day int) {
	t.Helper()
	var assets []api.Asset
	var prices []api.Price
	var ending []string
	for _, s := range slices.Sorted(maps.Keys(m.assets)) {
		a := m.assets[s]
		assets = append(assets, a)
		if n, ok := m.prices[s]; ok {
			prices = append(prices, price(s, n))
		}
		if day < 0 || day > latest || a.Maturity <= day {
			ending = append(ending, s)
		}
	}
	wantBook(t, b, assets, prices)
	if l := b.Ending(day); !slices.Equal(l, ending) {
		t.Errorf("Ending(%d) = %v; want %v", day, l, ending)
	}
}

// oneOf is one of some by chance, now and then a bad one.
func oneOf[T any](r *rand.Rand, good, bad []T) T {
	if r.Intn(30) == 0 {
		return bad[r.Intn(len(bad))]
	}
	return good[r.Intn(len(good))]
}

// All promises once more: calls by chance, held against the model.
func TestChance(t *testing.T) {
	l := numbers(t, 80)
	for seed := range int64(40) {
		r := rand.New(rand.NewSource(seed))
		b, m := asset.New(), model{map[string]api.Asset{}, map[string]int{}}
		pool := l[:[]int{5, 20, 80}[r.Intn(3)]]
		number := func() string { return oneOf(r, pool, strangers) }
		for range 250 {
			a := api.Asset{ISIN: number(), Issuer: r.Intn(10000), Rating: r.Intn(21), Maturity: oneOf(r, []int{r.Intn(40), r.Intn(latest + 1)}, noDays), Currency: oneOf(r, []string{"EUR", "USD"}, []string{"", "EURO"})}
			if e, want := b.Add(a), m.add(a); e != want {
				t.Fatalf("Add(%v) = %d; want %d", a, e, want)
			}
			var prices []api.Price
			var lots []api.Lot
			for range r.Intn(4) {
				prices = append(prices, price(number(), oneOf(r, []int{1 + r.Intn(2*api.Unit), dearest - r.Intn(9)}, noPrices)))
				lots = append(lots, lot(number(), oneOf(r, []int{r.Intn(1000), greatest - r.Intn(9)}, noAmounts)))
			}
			n, e := b.Set(prices)
			want, wantE := m.set(prices)
			wantWorth(t, n, e, want, wantE)
			n, e = b.Total(lots)
			want, wantE = m.total(lots)
			wantWorth(t, n, e, want, wantE)
			m.wantLike(t, b, oneOf(r, []int{r.Intn(40), r.Intn(latest + 1)}, noDays))
			if r.Intn(20) == 0 {
				b = b.Clone()
			}
			if t.Failed() {
				t.Fatal(seed)
			}
		}
		if len(m.assets) < 4 || len(m.prices) == 0 {
			t.Error("hardly anything was done")
		}
	}
}
