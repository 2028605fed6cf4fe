package basket_test

import (
	"maps"
	"math"
	"math/rand"
	"reflect"
	"slices"
	"testing"
	"unsafe"

	"lombard/api"
	"lombard/asset"
	"lombard/basket"
	"lombard/msg"
)

const (
	// latest is the last day, numbers the most that a version may be.
	latest  = 200000
	numbers = 1 << 50
)

var noDays = []int{math.MinInt, -1 << 32, -1, latest + 1, 1<<32 + 1, math.MaxInt}

// rules are some that may be, the first version of a basket.
func rules(id int) api.Basket {
	return api.Basket{
		ID: id, Version: 1, Currency: "EUR", Rating: 5, Least: 30, Most: 500,
		Cuts: []api.Cut{{Days: 100, Rating: 3, Cut: 1000}, {Days: 500, Rating: 5, Cut: 20000}}, Issuer: 200000, Asset: 100000, Barred: []int{2, 8},
	}
}

// version is the same rules as another version.
func version(b api.Basket, n int) api.Basket {
	b.Version = n
	return b
}

// security is one that rules take on the day 10.
func security() api.Asset {
	return api.Asset{ISIN: "US0378331005", Issuer: 7, Rating: 3, Maturity: 200, Currency: "EUR"}
}

// same tells whether rules are alike; nil and empty lists are.
func same(a, b api.Basket) bool {
	if !slices.Equal(a.Cuts, b.Cuts) || !slices.Equal(a.Barred, b.Barred) {
		return false
	}
	a.Cuts, a.Barred, b.Cuts, b.Barred = nil, nil, nil, nil
	return reflect.DeepEqual(a, b)
}

// wantOK wants rules that may be, so that something is promised of them.
func wantOK(t *testing.T, l ...api.Basket) {
	t.Helper()
	for _, b := range l {
		if e := msg.Basket(b); e != api.OK {
			t.Fatalf("msg.Basket(%v) = %d", b, e)
		}
	}
}

// wantWhy wants what Why and Fits tell.
func wantWhy(t *testing.T, b api.Basket, a api.Asset, day, want int) {
	t.Helper()
	wantOK(t, b)
	if n := basket.Why(b, a, day); n != want {
		t.Errorf("Why(%v, %v, %d) = %d; want %d", b, a, day, n, want)
	}
	if basket.Fits(b, a, day) != (want == 0) {
		t.Errorf("Fits(%v, %v, %d) = %v", b, a, day, want != 0)
	}
}

// wantWithin wants what Within tells.
func wantWithin(t *testing.T, a, b api.Basket, want bool) {
	t.Helper()
	wantOK(t, a, b)
	if basket.Within(a, b) != want {
		t.Errorf("Within(%v, %v) = %v", a, b, !want)
	}
}

// put wants that rules become known.
func put(t *testing.T, x *basket.Book, l ...api.Basket) {
	t.Helper()
	for _, b := range l {
		if e := x.Set(b); e != api.OK {
			t.Fatalf("Set(%v) = %d", b, e)
		}
	}
}

// of makes a book of rules.
func of(t *testing.T, l ...api.Basket) *basket.Book {
	t.Helper()
	x := basket.New()
	put(t, x, l...)
	return x
}

// wantBook wants that a book has just these rules, which are in order, whichever call tells them.
func wantBook(t *testing.T, x *basket.Book, want ...api.Basket) {
	t.Helper()
	if l := x.All(); !slices.EqualFunc(l, want, same) {
		t.Fatalf("All = %v; want %v", l, want)
	}
	var ids []int
	newest := map[int]api.Basket{}
	for _, b := range want {
		ids = append(ids, b.ID)
		newest[b.ID] = b
		if got, ok := x.At(b.ID, b.Version); !same(got, b) || !ok {
			t.Errorf("At(%d, %d) = %v, %v", b.ID, b.Version, got, ok)
		}
	}
	if l := x.IDs(); !slices.Equal(l, slices.Compact(ids)) {
		t.Errorf("IDs = %v", l)
	}
	for _, id := range []int{math.MinInt, -1, 0, 1, 2, 3, 4, 5, 9, 63, 64, 65, math.MaxInt} {
		b, known := newest[id]
		if got, ok := x.Get(id); !same(got, b) || ok != known {
			t.Errorf("Get(%d) = %v, %v; want %v, %v", id, got, ok, b, known)
		}
		for _, n := range []int{math.MinInt, -1, 0, b.Version + 1, b.Version + 64, math.MaxInt} {
			if got, ok := x.At(id, n); !same(got, api.Basket{}) || ok {
				t.Errorf("At(%d, %d) = %v, %v", id, n, got, ok)
			}
		}
	}
}

// wantNotSet wants an error of Set, and that nothing has changed.
func wantNotSet(t *testing.T, x *basket.Book, want api.Errno, b api.Basket) {
	t.Helper()
	all := x.All()
	if e := x.Set(b); e != want {
		t.Errorf("Set(%.300v) = %d; want %d", b, e, want)
	}
	wantBook(t, x, all...)
}

// The chapter's example.
func TestExample(t *testing.T) {
	b := api.Basket{ID: 1, Version: 1, Currency: "EUR", Rating: 5, Least: 30, Most: 500, Cuts: []api.Cut{{}}}
	wantWhy(t, b, api.Asset{Currency: "EUR", Rating: 6, Maturity: 100}, 0, basket.Rating)
	wantWhy(t, b, api.Asset{Currency: "EUR", Rating: 5, Maturity: 129}, 100, basket.Short)
	wantWhy(t, b, api.Asset{Currency: "EUR", Rating: 5, Maturity: 130}, 100, basket.Taken)
}

// P14.1: the reasons are these numbers.
func TestReasons(t *testing.T) {
	if l := [6]int{basket.Taken, basket.Currency, basket.Rating, basket.Short, basket.Long, basket.Barred}; l != [6]int{0, 1, 2, 3, 4, 5} {
		t.Error(l)
	}
}

// P14.1: of several reasons the first one is told.
func TestWhyFirst(t *testing.T) {
	b := rules(1)
	for faults := range 1 << 5 {
		has := func(reason int) bool { return faults>>(reason-1)&1 == 1 }
		if has(basket.Short) && has(basket.Long) {
			continue
		}
		a, want := security(), basket.Taken
		if has(basket.Barred) {
			a.Issuer, want = 8, basket.Barred
		}
		if has(basket.Long) {
			a.Maturity, want = 9999, basket.Long
		}
		if has(basket.Short) {
			a.Maturity, want = 11, basket.Short
		}
		if has(basket.Rating) {
			a.Rating, want = 6, basket.Rating
		}
		if has(basket.Currency) {
			a.Currency, want = "USD", basket.Currency
		}
		wantWhy(t, b, a, 10, want)
	}
}

// P14.1: currencies are alike, or not; which of them come first in the alphabet is all one.
func TestWhyCurrency(t *testing.T) {
	b, a := rules(1), security()
	for _, b.Currency = range []string{"EUR", "USD", "CHF", "JPY"} {
		for _, a.Currency = range []string{"EUR", "USD", "CHF", "JPY", "", "EU", "EURO", "eur", "EUR\x00"} {
			want := basket.Currency
			if a.Currency == b.Currency {
				want = basket.Taken
			}
			wantWhy(t, b, a, 10, want)
		}
	}
}

// P14.1: a rating of as much is taken, one above it isn't.
func TestWhyRating(t *testing.T) {
	b, a := rules(1), security()
	for b.Rating = range 21 {
		for _, a.Rating = range []int{math.MinInt, -1, 0, 1, 4, 5, 6, 19, 20, 21, math.MaxInt} {
			want := basket.Taken
			if a.Rating > b.Rating {
				want = basket.Rating
			}
			wantWhy(t, b, a, 10, want)
		}
	}
}

// P14.1: from Least to Most days may be left, both of them included, but never less than 1.
func TestWhyDays(t *testing.T) {
	a := security()
	for _, z := range [][2]int{{0, 0}, {0, 1}, {0, 2}, {0, 500}, {1, 1}, {1, 500}, {2, 2}, {2, 3}, {30, 30}, {30, 500}, {0, latest}, {latest, latest}, {latest - 1, latest}} {
		b := rules(1)
		b.Least, b.Most = z[0], z[1]
		for _, day := range []int{0, 1, 10, 5000, latest - 1, latest} {
			for _, left := range []int{-latest, -2, -1, 0, 1, 2, 3, 4, 29, 30, 31, 499, 500, 501, latest - 2, latest - 1, latest} {
				a.Maturity = day + left
				want := basket.Taken
				switch {
				case left < 1 || left < b.Least:
					want = basket.Short
				case left > b.Most:
					want = basket.Long
				}
				wantWhy(t, b, a, day, want)
			}
		}
	}
}

// P14.1: on what is no day nothing is left of any security.
func TestWhyNoDay(t *testing.T) {
	b, a := rules(1), security()
	for _, b.Least = range []int{0, 1, 30} {
		for _, day := range noDays {
			for _, a.Maturity = range []int{0, 200, latest, latest + 300, day + 100} {
				wantWhy(t, b, a, day, basket.Short)
			}
		}
	}
}

// P14.1: each of the barred issuers is barred, and no other one; a basket may bar none.
func TestWhyBarred(t *testing.T) {
	b, a := rules(1), security()
	var many []int
	for i := range 64 {
		many = append(many, 9999-157*(63-i))
	}
	for _, b.Barred = range [][]int{nil, {}, {0}, {9999}, {7}, {2, 8}, {0, 7, 9999}, many} {
		for _, a.Issuer = range slices.Concat([]int{-1, 0, 1, 2, 6, 7, 8, 9998, 9999, 10000}, many) {
			want := basket.Taken
			for _, n := range b.Barred {
				if n == a.Issuer {
					want = basket.Barred
				}
			}
			wantWhy(t, b, a, 10, want)
		}
	}
}

// P14.1: nothing else of the rules, or of the security, plays a part.
func TestWhyNothingElse(t *testing.T) {
	b, a := rules(1), security()
	b.ID, b.Version, b.Issuer, b.Asset, b.Cuts = 64, numbers, 0, 0, []api.Cut{{}}
	wantWhy(t, b, a, 10, basket.Taken)
	b.Issuer, b.Asset, b.Cuts = api.Unit, api.Unit, slices.Repeat([]api.Cut{{Days: latest, Rating: 20, Cut: 999999}}, 64)
	wantWhy(t, b, a, 10, basket.Taken)
	for _, a.ISIN = range []string{"", "x", "DE0007164600"} {
		wantWhy(t, b, a, 10, basket.Taken)
	}
}

// Rules that may not be, and securities that may not be, are answered, too.
func TestWhyEnds(t *testing.T) {
	strange := []int{math.MinInt, -1, 0, 1, math.MaxInt}
	for _, n := range strange {
		b := api.Basket{ID: n, Version: n, Rating: n, Least: n, Most: n, Issuer: n, Asset: n, Barred: strange}
		for _, m := range strange {
			for _, day := range append([]int{0, latest}, noDays...) {
				a := api.Asset{Issuer: m, Rating: m, Maturity: m}
				if why := basket.Why(b, a, day); why < 0 || why > 5 || basket.Fits(b, a, day) != (why == 0) {
					t.Error(b, a, day, why)
				}
			}
			basket.Within(b, api.Basket{Rating: m, Least: m, Most: m, Barred: []int{m}})
		}
	}
}

// P14.2: rules are within themselves, whatever else they have.
func TestWithinItself(t *testing.T) {
	a, b := rules(1), rules(64)
	wantWithin(t, a, a, true)
	b.Version, b.Issuer, b.Asset, b.Cuts = 9, 0, api.Unit, []api.Cut{{}}
	wantWithin(t, a, b, true)
	wantWithin(t, b, a, true)
	a.Currency = "USD"
	wantWithin(t, a, b, false)
	wantWithin(t, b, a, false)
}

// P14.2: neither a rating nor Most may be above the other one's.
func TestWithinRatingAndMost(t *testing.T) {
	a, b := rules(1), rules(2)
	for a.Rating = range 21 {
		for b.Rating = range 21 {
			wantWithin(t, a, b, a.Rating <= b.Rating)
		}
	}
	a, b = rules(1), rules(2)
	for _, a.Most = range []int{30, 31, 499, 500, 501, latest} {
		for _, b.Most = range []int{30, 31, 499, 500, 501, latest} {
			wantWithin(t, a, b, a.Most <= b.Most)
		}
	}
}

// P14.2: Least may not be below the other one's; 0 is as much as 1.
func TestWithinLeast(t *testing.T) {
	a, b := rules(1), rules(2)
	l := []int{0, 1, 2, 3, 29, 30, 31, 500}
	for i, n := range l {
		for k, m := range l {
			a.Least, b.Least = n, m
			wantWithin(t, a, b, i >= k || i == 0 && k == 1)
		}
	}
	// Rules that take nothing at all are held against others all the same.
	a.Least, a.Most, b.Least, b.Most = 0, 0, 1, 1
	wantWithin(t, a, b, true)
	wantWithin(t, b, a, false)
	b.Least = 2
	b.Most = 2
	wantWithin(t, a, b, false)
}

// P14.2: who is barred by the other one must be barred, and more may be.
func TestWithinBarred(t *testing.T) {
	all := []int{0, 1, 7, 9998, 9999}
	some := func(bits int) []int {
		var l []int
		for i, n := range all {
			if bits>>i&1 == 1 {
				l = append(l, n)
			}
		}
		return l
	}
	a, b := rules(1), rules(2)
	for x := range 1 << len(all) {
		for y := range 1 << len(all) {
			a.Barred, b.Barred = some(x), some(y)
			wantWithin(t, a, b, x&y == y)
		}
	}
	a.Barred, b.Barred = nil, nil
	for i := range 64 {
		a.Barred = append(a.Barred, i*3)
	}
	b.Barred = slices.Clone(a.Barred)
	wantWithin(t, a, b, true)
	b.Barred[63]++
	wantWithin(t, a, b, false)
}

// P14.3: a new book has none, and each New makes another one.
func TestNew(t *testing.T) {
	x, y := basket.New(), basket.New()
	if x == nil || y == nil || x == y {
		t.Fatal(x, y)
	}
	wantBook(t, x)
	if l := x.Takes(security(), 10); len(l) != 0 {
		t.Error(l)
	}
	put(t, x, rules(3))
	wantBook(t, y)
	wantBook(t, x, rules(3))
}

// P14.3: a version is told as it was set, and is the newest one.
func TestSet(t *testing.T) {
	first, other := rules(4), rules(1)
	second := api.Basket{ID: 4, Version: 2, Currency: "EUR", Cuts: []api.Cut{{Days: latest, Rating: 20, Cut: 999999}}, Most: latest, Least: latest, Rating: 20, Issuer: api.Unit, Asset: api.Unit, Barred: []int{0, 9999}}
	third := api.Basket{ID: 4, Version: 3, Currency: "EUR", Cuts: []api.Cut{{}}}
	x := of(t, first)
	wantBook(t, x, first)
	put(t, x, second)
	wantBook(t, x, first, second)
	put(t, x, other)
	wantBook(t, x, other, first, second)
	put(t, x, third, version(other, 2))
	wantBook(t, x, other, version(other, 2), first, second, third)
	// Each basket has a currency of its own.
	other.ID, other.Currency = 2, "JPY"
	put(t, x, other)
	if b, ok := x.Get(2); !same(b, other) || !ok {
		t.Error(b, ok)
	}
}

// wrong is rules each with a fault of their own, and the error that msg tells of it.
func wrong(good api.Basket) map[*api.Basket]api.Errno {
	l := map[*api.Basket]api.Errno{}
	with := func(e api.Errno, change func(b *api.Basket)) {
		b := good
		change(&b)
		l[&b] = e
	}
	for _, n := range []int{math.MinInt, -1, 0, 65, math.MaxInt} {
		with(api.ErrArg, func(b *api.Basket) { b.ID = n })
	}
	for _, n := range []int{math.MinInt, -1, 0, numbers + 1, math.MaxInt} {
		with(api.ErrArg, func(b *api.Basket) { b.Version = n })
	}
	for _, n := range []int{-1, 21} {
		with(api.ErrArg, func(b *api.Basket) { b.Rating = n })
		with(api.ErrArg, func(b *api.Basket) { b.Cuts = []api.Cut{{Rating: n}} })
	}
	for _, n := range []int{-1, api.Unit + 1} {
		with(api.ErrArg, func(b *api.Basket) { b.Issuer = n })
		with(api.ErrArg, func(b *api.Basket) { b.Asset, b.Least = n, -1 })
	}
	with(api.ErrArg, func(b *api.Basket) { b.Cuts = nil })
	with(api.ErrArg, func(b *api.Basket) { b.Cuts = make([]api.Cut, 65) })
	with(api.ErrArg, func(b *api.Basket) { b.Barred = make([]int, 65) })
	with(api.ErrDay, func(b *api.Basket) { b.Least = -1 })
	with(api.ErrDay, func(b *api.Basket) { b.Most = b.Least - 1 })
	with(api.ErrDay, func(b *api.Basket) { b.Most, b.Currency = latest+1, "" })
	for _, s := range []string{"", "eur", "EU", "EURO", "XXX"} {
		with(api.ErrName, func(b *api.Basket) { b.Currency = s })
	}
	with(api.ErrArg, func(b *api.Basket) { b.Cuts = []api.Cut{{}, {Days: latest + 1}} })
	with(api.ErrArg, func(b *api.Basket) { b.Cuts = []api.Cut{{}, {Cut: api.Unit}} })
	for _, x := range [][]int{{-1}, {10000}, {3, 3}, {3, 2}} {
		with(api.ErrArg, func(b *api.Basket) { b.Barred = x })
	}
	return l
}

// P14.3: what is wrong with rules is told as msg tells it, ahead of all else.
func TestSetWrong(t *testing.T) {
	full := basket.New()
	for n := range 64 {
		put(t, full, version(rules(4), n+1))
	}
	books := []*basket.Book{basket.New(), of(t, rules(4)), of(t, rules(9)), full}
	for _, n := range []int{1, 2, 3, 65} {
		for _, currency := range []string{"EUR", "USD"} {
			good := version(rules(4), n)
			good.Currency = currency
			wantOK(t, good)
			for b, e := range wrong(good) {
				if got := msg.Basket(*b); got != e {
					t.Fatalf("msg.Basket(%v) = %d; want %d", b, got, e)
				}
				for _, x := range books {
					wantNotSet(t, x, e, *b)
				}
			}
		}
	}
	wantNotSet(t, basket.New(), api.ErrArg, api.Basket{})
}

// P14.3: the version is one above how many there are of this basket, and no other one.
func TestSetState(t *testing.T) {
	x := of(t, rules(2), version(rules(2), 2), version(rules(2), 3))
	for known := range 5 {
		for _, n := range []int{1, 2, 3, 4, 5, 6, 7, 63, 64, 65, 66, 1<<32 + known + 1, numbers} {
			for _, currency := range []string{"EUR", "USD"} {
				b := version(rules(4), n)
				b.Currency = currency
				if n != known+1 {
					wantNotSet(t, x, api.ErrState, b)
				}
			}
		}
		put(t, x, version(rules(4), known+1))
	}
	wantNotSet(t, x, api.ErrState, rules(2))
	wantNotSet(t, x, api.ErrState, version(rules(3), 4))
	put(t, x, version(rules(2), 4), rules(3))
}

// P14.3: all versions have the first one's currency; that is told behind a wrong version.
func TestSetCurrency(t *testing.T) {
	x := of(t, rules(4))
	for n := 2; n < 5; n++ {
		b := version(rules(4), n)
		for _, b.Currency = range []string{"USD", "CHF", "JPY", "GBP"} {
			wantNotSet(t, x, api.ErrArg, b)
			wantNotSet(t, x, api.ErrState, version(b, n+1))
			wantNotSet(t, x, api.ErrState, version(b, n-1))
		}
		put(t, x, version(rules(4), n))
	}
}

// P14.3: 64 versions of each of 64 baskets are taken, and no more; a wrong currency is told ahead of that.
func TestSetFull(t *testing.T) {
	x := basket.New()
	var want []api.Basket
	for id := range 64 {
		for n := range 64 {
			b := version(rules(id+1), n+1)
			b.Rating = (id + n) % 21
			want = append(want, b)
		}
	}
	for n := range 64 {
		for id := 63; id >= 0; id-- {
			put(t, x, want[64*id+n])
		}
	}
	wantBook(t, x, want...)
	for _, id := range []int{1, 2, 31, 63, 64} {
		b := version(rules(id), 65)
		if e := x.Set(b); e != api.ErrFull {
			t.Error(e)
		}
		if e := x.Set(version(b, 64)); e != api.ErrState {
			t.Error(e)
		}
		if e := x.Set(version(b, 66)); e != api.ErrState {
			t.Error(e)
		}
		b.Currency = "USD"
		if e := x.Set(b); e != api.ErrArg {
			t.Error(e)
		}
	}
	wantBook(t, x, want...)
	// One basket that is full leaves room for others.
	x = of(t, want[:64]...)
	wantNotSet(t, x, api.ErrFull, version(rules(1), 65))
	put(t, x, rules(2))
}

// P14.4: baskets rise, and so do their versions, in whichever order they came.
func TestOrder(t *testing.T) {
	for seed := range int64(20) {
		r := rand.New(rand.NewSource(seed))
		x := basket.New()
		have := map[int]int{}
		for range 200 {
			id := 1 + r.Intn(64)
			have[id]++
			b := version(rules(id), have[id])
			b.Issuer = r.Intn(api.Unit)
			put(t, x, b)
		}
		if l := x.IDs(); !slices.Equal(l, slices.Sorted(maps.Keys(have))) {
			t.Fatal(l)
		}
		all := x.All()
		if len(all) != 200 {
			t.Fatal(len(all))
		}
		for i, b := range all[1:] {
			ahead := all[i]
			if b.ID < ahead.ID || b.ID == ahead.ID && b.Version != ahead.Version+1 || b.ID > ahead.ID && b.Version != 1 {
				t.Fatal(ahead, b)
			}
		}
		if l := x.Takes(security(), 10); !slices.Equal(l, x.IDs()) {
			t.Fatal(l)
		}
	}
}

// P14.4: what the newest version takes is taken, whatever the older ones say.
func TestTakes(t *testing.T) {
	strict, other, none := version(rules(4), 2), rules(9), rules(1)
	strict.Rating, other.Currency, none.Least, none.Most = 2, "USD", 0, 0
	x := of(t, rules(64), rules(4), other, none, rules(3))
	a := security()
	wantTakes := func(day int, want ...int) {
		t.Helper()
		if l := x.Takes(a, day); !slices.Equal(l, want) {
			t.Errorf("Takes(%v, %d) = %v; want %v", a, day, l, want)
		}
	}
	wantTakes(10, 3, 4, 64)
	put(t, x, strict)
	wantTakes(10, 3, 64)
	a.Rating = 2
	wantTakes(10, 3, 4, 64)
	a.Rating = 3
	put(t, x, version(rules(4), 3), version(strict, 4), version(rules(4), 5))
	wantTakes(10, 3, 4, 64)
	wantTakes(170, 3, 4, 64)
	wantTakes(171)
	wantTakes(200)
	for _, day := range noDays {
		wantTakes(day)
	}
	a.Currency = "USD"
	wantTakes(10, 9)
	a.Currency = "CHF"
	wantTakes(10)
	a.Currency, a.Issuer = "EUR", 8
	wantTakes(10)
}

// P14.4: a clone has the same, and goes its own way from then on.
func TestClone(t *testing.T) {
	one, two := rules(4), version(rules(4), 2)
	two.Rating = 2
	x := of(t, one, two, rules(1))
	y := x.Clone()
	z := y.Clone()
	if y == nil || x == y || y == z {
		t.Fatal("a clone is the book itself")
	}
	mine, yours := version(one, 3), version(one, 3)
	mine.Issuer, yours.Issuer = 1, 2
	put(t, x, mine)
	put(t, y, yours, rules(5))
	wantBook(t, x, rules(1), one, two, mine)
	wantBook(t, y, rules(1), one, two, yours, rules(5))
	wantBook(t, z, rules(1), one, two)
	if l := z.Takes(security(), 10); !slices.Equal(l, []int{1}) {
		t.Error(l)
	}
	if l := y.Takes(security(), 10); !slices.Equal(l, []int{1, 4, 5}) {
		t.Error(l)
	}
	usd := version(one, 3)
	usd.Currency = "USD"
	wantNotSet(t, z, api.ErrArg, usd)
	wantNotSet(t, z, api.ErrState, version(one, 4))
	empty := basket.New()
	put(t, empty.Clone(), one)
	wantBook(t, empty)
}

// P14.4: a book and its clone each get a next version of their own, however many there are.
func TestCloneGrows(t *testing.T) {
	x := basket.New()
	for n := range 63 {
		b, other := version(rules(4), n+1), version(rules(4), n+1)
		b.Rating, other.Rating = n%21, 20-n%21
		other.Issuer = n
		y := x.Clone()
		ahead := x.All()
		put(t, x, b)
		put(t, y, other)
		wantBook(t, x, append(slices.Clone(ahead), b)...)
		wantBook(t, y, append(slices.Clone(ahead), other)...)
	}
}

// P14.5: of rules by chance, and their neighbours, what is taken by one within another one is taken by that, too.
func TestWithinTakes(t *testing.T) {
	r := rand.New(rand.NewSource(5))
	some := func() api.Basket {
		b := rules(1 + r.Intn(64))
		b.Currency = []string{"EUR", "EUR", "EUR", "USD"}[r.Intn(4)]
		b.Rating, b.Least = r.Intn(4), r.Intn(4)
		b.Most, b.Barred = b.Least+r.Intn(4), nil
		for n := range 4 {
			if r.Intn(3) == 0 {
				b.Barred = append(b.Barred, n)
			}
		}
		wantOK(t, b)
		return b
	}
	within, taken := 0, 0
	for range 20000 {
		a, b, day := some(), some(), r.Intn(latest+1)
		if !basket.Within(a, b) {
			continue
		}
		within++
		for range 40 {
			s := api.Asset{Issuer: r.Intn(5), Rating: r.Intn(5), Maturity: day + r.Intn(9) - 1, Currency: a.Currency}
			if !basket.Fits(a, s, day) {
				continue
			}
			taken++
			if !basket.Fits(b, s, day) {
				t.Fatal(a, b, s, day)
			}
		}
	}
	if within < 100 || taken < 100 {
		t.Error("hardly anything was held against each other", within, taken)
	}
}

// P14.5: older versions stay as they were, whatever comes behind them, or is refused.
func TestOlderStay(t *testing.T) {
	x := basket.New()
	var want []api.Basket
	for n := range 64 {
		b := version(rules(7), n+1)
		b.Rating, b.Least, b.Most, b.Issuer, b.Asset = n%21, n, 2*n, n*1000, n*100
		b.Cuts = slices.Repeat([]api.Cut{{Days: n, Rating: n % 21, Cut: n}}, n+1)
		b.Barred = []int{n, n + 1}[:n%3%2+1]
		put(t, x, b)
		want = append(want, b)
		wantBook(t, x, want...)
		wantNotSet(t, x, api.ErrState, version(rules(7), n+1))
	}
	wantNotSet(t, x, api.ErrFull, version(rules(7), 65))
}

// Of nil, and of what no call made, there is nothing, and the error is ErrNil, ahead of all others.
func TestNil(t *testing.T) {
	for _, x := range []*basket.Book{nil, {}, new(basket.Book)} {
		for _, b := range []api.Basket{{}, rules(1), version(rules(1), 2), rules(65)} {
			if e := x.Set(b); e != api.ErrNil {
				t.Error(e)
			}
		}
		for _, id := range []int{-1, 0, 1, 64} {
			if b, ok := x.Get(id); !same(b, api.Basket{}) || ok {
				t.Error(b, ok)
			}
			for _, n := range []int{-1, 0, 1} {
				if b, ok := x.At(id, n); !same(b, api.Basket{}) || ok {
					t.Error(b, ok)
				}
			}
		}
		if x.IDs() != nil || x.All() != nil || x.Takes(security(), 10) != nil || x.Takes(api.Asset{}, -1) != nil || x.Clone() != nil {
			t.Error("there is something")
		}
	}
}

// spoil writes over all that rules have in lists, the room behind these included.
func spoil(b api.Basket) {
	for i := range b.Cuts[:cap(b.Cuts)] {
		b.Cuts[:cap(b.Cuts)][i] = api.Cut{Days: 77, Rating: 7, Cut: 777}
	}
	for i := range b.Barred[:cap(b.Barred)] {
		b.Barred[:cap(b.Barred)][i] = 7
	}
}

// Lists that are handed in are neither changed nor kept, nor is the room behind them; those that are told are new.
func TestMemory(t *testing.T) {
	x := basket.New()
	var want []api.Basket
	for n := range 3 {
		cuts := []api.Cut{{Days: 1}, {Days: 2}, {Days: 3}, {Days: 4}}
		barred := []int{1, 2, 3, 4}
		b := version(rules(4), n+1)
		b.Cuts, b.Barred = cuts[:2:3], barred[:2*(n%2)]
		put(t, x, b)
		wantNotSet(t, x, api.ErrState, b)
		basket.Why(b, security(), 10)
		basket.Within(b, b)
		if !slices.Equal(cuts, []api.Cut{{Days: 1}, {Days: 2}, {Days: 3}, {Days: 4}}) || !slices.Equal(barred, []int{1, 2, 3, 4}) {
			t.Error(cuts, barred)
		}
		kept := b
		kept.Cuts, kept.Barred = slices.Clone(b.Cuts), slices.Clone(b.Barred)
		want = append(want, kept)
		spoil(b)
	}
	wantBook(t, x, want...)
	y := x.Clone()
	for _, z := range []*basket.Book{x, y} {
		newest, _ := z.Get(4)
		older, _ := z.At(4, 2)
		spoil(newest)
		if !same(older, want[1]) {
			t.Error(older)
		}
		spoil(older)
		all := z.All()
		for i, b := range all {
			if !same(b, want[i]) {
				t.Error(b)
			}
			spoil(b)
		}
		clear(all[:cap(all)])
		clear(z.IDs())
		clear(z.Takes(security(), 10))
		wantBook(t, x, want...)
		wantBook(t, y, want...)
	}
}

// place is where a text's bytes lie.
func place(s string) *byte { return unsafe.StringData(s) }

// Texts and lists lie apart in arguments and answers, and what becomes of a text's bytes behind a call is all one to the book.
func TestTexts(t *testing.T) {
	seen := map[any]bool{}
	text := []byte("EUR")
	told := func(what string, l ...api.Basket) {
		t.Helper()
		for _, b := range l {
			for _, p := range []any{place(b.Currency), unsafe.SliceData(b.Cuts), unsafe.SliceData(b.Barred)} {
				if seen[p] || b.Currency != "EUR" {
					t.Errorf("%s: %v, memory that was handed in or out before", what, b)
				}
				seen[p] = true
			}
		}
	}
	x := basket.New()
	for n := range 2 {
		b := version(rules(4), n+1)
		b.Currency = unsafe.String(&text[0], len(text))
		seen[place(b.Currency)] = true
		put(t, x, b)
		seen[unsafe.SliceData(b.Cuts)], seen[unsafe.SliceData(b.Barred)] = true, true
	}
	for _, y := range []*basket.Book{x, x.Clone(), x} {
		newest, _ := y.Get(4)
		told("Get", newest)
		first, _ := y.At(4, 1)
		told("At", first)
		told("All", y.All()...)
		told("All", y.All()...)
	}
	clear(text)
	wantBook(t, x, rules(4), version(rules(4), 2))
}

// model is the chapter's words once more.
type model map[int][]api.Basket

func (m model) set(b api.Basket) api.Errno {
	if e := msg.Basket(b); e != api.OK {
		return e
	}
	l := m[b.ID]
	if b.Version != len(l)+1 {
		return api.ErrState
	}
	if len(l) > 0 && l[0].Currency != b.Currency {
		return api.ErrArg
	}
	if len(l) == 64 {
		return api.ErrFull
	}
	m[b.ID] = append(l, b)
	return api.OK
}

func (m model) all() []api.Basket {
	var l []api.Basket
	for id := 1; id <= 64; id++ {
		l = append(l, m[id]...)
	}
	return l
}

// takes tells it by trying each reason by itself.
func takes(b api.Basket, a api.Asset, day int) bool {
	left := asset.Left(a, day)
	for _, bad := range []bool{b.Currency != a.Currency, a.Rating > b.Rating, left < 1, left < b.Least, left > b.Most} {
		if bad {
			return false
		}
	}
	for _, n := range b.Barred {
		if n == a.Issuer {
			return false
		}
	}
	return true
}

func (m model) takes(a api.Asset, day int) []int {
	var l []int
	for id := 1; id <= 64; id++ {
		if n := len(m[id]); n > 0 && takes(m[id][n-1], a, day) {
			l = append(l, id)
		}
	}
	return l
}

// byChance is rules by chance, now and then such as may not be.
func byChance(r *rand.Rand, id, n int) api.Basket {
	b := api.Basket{
		ID: id, Version: n, Currency: []string{"EUR", "EUR", "EUR", "EUR", "EUR", "USD"}[r.Intn(6)], Rating: r.Intn(21), Least: r.Intn(40), Issuer: r.Intn(api.Unit + 1), Asset: r.Intn(api.Unit + 1),
		Cuts: make([]api.Cut, 1+r.Intn(4)),
	}
	b.Most = b.Least + r.Intn(300)
	for i := range b.Cuts {
		b.Cuts[i] = api.Cut{Days: r.Intn(latest + 1), Rating: r.Intn(21), Cut: r.Intn(api.Unit)}
	}
	for n := range 10 {
		if r.Intn(4) == 0 {
			b.Barred = append(b.Barred, n)
		}
	}
	switch r.Intn(40) {
	case 0:
		b.Most = b.Least - 1
	case 1:
		b.Currency = "ABC"
	case 2:
		b.Cuts = nil
	case 3:
		b.Barred = []int{1, 1}
	case 4:
		b.ID = 65 * r.Intn(2)
	case 5:
		b.Version += r.Intn(3) - 1
	}
	return b
}

// All promises once more: calls by chance, held against the model.
func TestChance(t *testing.T) {
	told := map[api.Errno]int{}
	for seed := range int64(30) {
		r := rand.New(rand.NewSource(seed))
		x, m := basket.New(), model{}
		ids := []int{1, 5, 64}[r.Intn(3)]
		for range 300 {
			id := 1 + r.Intn(ids)
			b := byChance(r, id, len(m[id])+1)
			e, want := x.Set(b), m.set(b)
			if told[e]++; e != want {
				t.Fatalf("Set(%v) = %d; want %d", b, e, want)
			}
			a := api.Asset{Issuer: r.Intn(12), Rating: r.Intn(23), Maturity: r.Intn(400), Currency: []string{"EUR", "USD", "ABC"}[r.Intn(3)]}
			day := r.Intn(200) - 1
			if l, want := x.Takes(a, day), m.takes(a, day); !slices.Equal(l, want) {
				t.Fatalf("Takes(%v, %d) = %v; want %v", a, day, l, want)
			}
			if r.Intn(20) == 0 {
				x = x.Clone()
			}
			if r.Intn(10) == 0 {
				wantBook(t, x, m.all()...)
			}
		}
		wantBook(t, x, m.all()...)
	}
	for _, e := range []api.Errno{api.OK, api.ErrArg, api.ErrDay, api.ErrName, api.ErrState, api.ErrFull} {
		if told[e] < 50 {
			t.Errorf("%d was hardly ever told: %v", e, told)
		}
	}
}
