package haircut_test

import (
	"fmt"
	"math"
	"math/big"
	"math/rand"
	"reflect"
	"slices"
	"strings"
	"testing"
	"unsafe"

	"lombard/api"
	"lombard/asset"
	"lombard/haircut"
)

const (
	// greatest is the most of a security that a lot has, dearest the highest price, deepest the greatest haircut.
	greatest = 1 << 50
	dearest  = 1 << 32
	deepest  = 999999
	// unit is that of prices and haircuts, latest the last day.
	unit   = 1000000
	latest = 200000

	sap   = "DE0007164600"
	apple = "US0378331005"
	glaxo = "GB0002634946"
)

var (
	noAmounts = []int{math.MinInt, -1 << 32, -1, greatest + 1, 1 << 60, math.MaxInt}
	noPrices  = []int{math.MinInt, -dearest, -1, 0, dearest + 1, 1 << 60, math.MaxInt}
	noCuts    = []int{math.MinInt, -unit, -1, unit, unit + 1, 1 << 60, math.MaxInt}
	noDays    = []int{math.MinInt, -1 << 32, -1, latest + 1, 1<<32 + 1, math.MaxInt}
	below     = []int{-1, -2, -unit, -greatest, -1 << 62, math.MinInt + 1, math.MinInt}
	// strangers are texts that are no known security's number, though some are like one.
	strangers = []string{"", "x", "US037833100", "US0378331005 ", "us0378331005", "US0378331006", glaxo, "\xff", strings.Repeat("U", 5000)}
)

// whole is a number of any length.
func whole(n int) *big.Int { return big.NewInt(int64(n)) }

// cover is the chapter's words once more, in numbers of any length.
func cover(qty, price, cut int) int {
	n := new(big.Int).Mul(whole(qty), whole(price))
	n.Div(n, whole(unit))
	n.Mul(n, whole(unit-cut))
	return int(n.Div(n, whole(unit)).Int64())
}

// upward is a times b by c, rounded up, of numbers that aren't below 0.
func upward(a *big.Int, b, c int) *big.Int {
	n := new(big.Int).Mul(a, whole(b))
	n.Add(n, whole(c-1))
	return n.Div(n, whole(c))
}

// least is the fewest that cover need, by going back from the cover to the worth, and from that to the quantity; they may be any number.
func least(need *big.Int, price, cut int) *big.Int {
	return upward(upward(need, unit, unit-cut), unit, price)
}

// wantLeast wants what Least tells.
func wantLeast(t *testing.T, need, price, cut, want int, wantOK bool) {
	t.Helper()
	if n, ok := haircut.Least(need, price, cut); n != want || ok != wantOK {
		t.Fatalf("Least(%d, %d, %d) = %d, %v; want %d, %v", need, price, cut, n, ok, want, wantOK)
	}
}

// wantMost wants what Most tells.
func wantMost(t *testing.T, limit, price, cut, qty, want int) {
	t.Helper()
	if n := haircut.Most(limit, price, cut, qty); n != want {
		t.Fatalf("Most(%d, %d, %d, %d) = %d; want %d", limit, price, cut, qty, n, want)
	}
}

// wantCover wants what Cover, or Total, or Margin tells.
func wantCover(t *testing.T, n int, e api.Errno, want int, wantE api.Errno) {
	t.Helper()
	if n != want || e != wantE {
		t.Errorf("%d, %d; want %d, %d", n, e, want, wantE)
	}
}

// The chapter's example.
func TestExample(t *testing.T) {
	n, e := haircut.Cover(1000, 990000, 100000)
	wantCover(t, n, e, 891, api.OK)
	wantLeast(t, 891, 990000, 100000, 1000, true)
}

// ends is a security that is rated so, and ends on a day.
func ends(rating, maturity int) api.Asset { return api.Asset{Rating: rating, Maturity: maturity} }

// wantOf wants what Of tells.
func wantOf(t *testing.T, b api.Basket, a api.Asset, day, want int, wantOK bool) {
	t.Helper()
	if n, ok := haircut.Of(b, a, day); n != want || ok != wantOK {
		t.Errorf("Of(%v, %v, %d) = %d, %v; want %d, %v", b, a, day, n, ok, want, wantOK)
	}
}

// P15.1: the first row is told whose days and rating are both enough, whether or not a later one cuts less, or is narrower.
func TestOf(t *testing.T) {
	b := api.Basket{Cuts: []api.Cut{{Days: 100, Rating: 2, Cut: 10000}, {Days: 50, Rating: 4, Cut: 70000}, {Days: 1000, Rating: 5, Cut: 5}, {Days: 80, Rating: 1, Cut: 3}, {Days: 30, Rating: 20, Cut: 0}, {Days: latest, Rating: 0, Cut: deepest}}}
	for _, z := range []struct {
		rating, left, want int
		ok                 bool
	}{
		{0, 0, 10000, true}, {2, 0, 10000, true}, {0, 80, 10000, true}, {1, 80, 10000, true}, {2, 99, 10000, true}, {2, 100, 10000, true}, {2, 101, 5, true},
		{3, 0, 70000, true}, {3, 50, 70000, true}, {4, 50, 70000, true}, {4, 51, 5, true}, {3, 1000, 5, true}, {5, 50, 5, true}, {5, 1000, 5, true},
		{6, 0, 0, true}, {6, 30, 0, true}, {20, 30, 0, true}, {21, 30, 0, false}, {6, 31, 0, false}, {20, 31, 0, false},
		{0, 1000, 5, true}, {0, 1001, deepest, true}, {0, latest, deepest, true}, {1, 1001, 0, false}, {5, 1001, 0, false}, {-1, 1001, deepest, true},
		{2, -1, 0, false}, {0, -latest, 0, false}, {6, -1, 0, false},
	} {
		for _, day := range []int{0, 1, 777, latest - 1, latest} {
			wantOf(t, b, ends(z.rating, day+z.left), day, z.want, z.ok)
		}
	}
}

// P15.1: a security has a haircut on the day on which it ends, but not behind it, and none on what is no day.
func TestOfDays(t *testing.T) {
	b := api.Basket{Cuts: []api.Cut{{Days: 0, Rating: 20, Cut: 1}, {Days: latest, Rating: 20, Cut: 2}}}
	for day, want := range map[int]int{0: 2, 498: 2, 499: 2, 500: 1} {
		wantOf(t, b, ends(7, 500), day, want, true)
	}
	for _, day := range append([]int{501, 502, 1000, latest}, noDays...) {
		wantOf(t, b, ends(7, 500), day, 0, false)
	}
	for _, day := range noDays {
		for _, maturity := range []int{math.MinInt, -1, 0, latest, math.MaxInt} {
			wantOf(t, b, ends(7, maturity), day, 0, false)
		}
	}
	// Rows that nothing can be within, though days below 0 be in them.
	b = api.Basket{Cuts: []api.Cut{{Days: -1, Rating: 20, Cut: 5}, {Days: math.MinInt, Rating: 20, Cut: 6}}}
	for _, day := range []int{-1, 499, 500, 501, 502} {
		wantOf(t, b, ends(7, 500), day, 0, false)
	}
}

// P15.1: it hangs on the rows alone, whether or not the basket takes the security.
func TestOfRows(t *testing.T) {
	for _, l := range [][]api.Cut{nil, {}, make([]api.Cut, 3)[:0]} {
		wantOf(t, api.Basket{Rating: 20, Most: latest, Cuts: l}, ends(0, 0), 0, 0, false)
	}
	b := api.Basket{ID: -1, Version: 7, Currency: "USD", Rating: 1, Least: 300, Most: 20, Issuer: -5, Asset: unit + 1, Barred: []int{4}, Cuts: []api.Cut{{Days: 100, Rating: 9, Cut: 33}}}
	a := api.Asset{ISIN: "x", Issuer: 4, Rating: 9, Maturity: 100, Currency: "EUR"}
	wantOf(t, b, a, 0, 33, true)
	wantOf(t, b, a, 100, 33, true)
	// A haircut is told as it stands.
	for _, cut := range noCuts {
		b.Cuts[0].Cut = cut
		wantOf(t, b, a, 0, cut, true)
	}
	// The last of many rows is found, too.
	b.Cuts = append(slices.Repeat([]api.Cut{{Days: 99, Rating: 9, Cut: 1}, {Days: 100, Rating: 8, Cut: 2}}, 5000), api.Cut{Days: 100, Rating: 9, Cut: 3})
	if n, ok := haircut.Of(b, a, 0); n != 3 || !ok {
		t.Error(n, ok)
	}
}

// P15.2: what so many are worth is cut down first, then what is left of that.
func TestCover(t *testing.T) {
	for _, z := range [][4]int{
		{0, 1, 0, 0}, {0, dearest, deepest, 0}, {1, 1, 0, 0}, {1, 999999, 0, 0}, {1, unit, 0, 1}, {1, unit, 1, 0}, {1, 1999999, 0, 1}, {1, 1999999, 1, 0}, {1, 2 * unit, 1, 1},
		{999, unit, 333333, 666}, {1000, 990000, 100000, 891}, {999, 990000, 100000, 890}, {3, 500000, 0, 1}, {3, 500000, 100000, 0}, {3, 1500000, 100000, 3},
		{unit, unit, deepest, 1}, {unit - 1, unit, deepest, 0}, {2*unit - 1, unit, deepest, 1}, {100, unit, 500000, 50}, {101, unit, 500000, 50},
		{greatest, unit, 0, greatest}, {greatest, 1, 0, 1125899906}, {greatest, dearest, 0, 4835703278458516698}, {greatest, dearest, deepest, 4835703278458},
		{greatest, dearest, 500000, 2417851639229258349}, {greatest, dearest, 1, 4835698442755238239}, {greatest - 1, dearest, 0, 4835703278458512403},
	} {
		n, e := haircut.Cover(z[0], z[1], z[2])
		wantCover(t, n, e, z[3], api.OK)
	}
	r := rand.New(rand.NewSource(1))
	for range 20000 {
		qty, price, cut := r.Intn(1<<r.Intn(51)+1), 1+r.Intn(1<<r.Intn(33)), r.Intn(unit)
		n, e := haircut.Cover(qty, price, cut)
		wantCover(t, n, e, cover(qty, price, cut), api.OK)
	}
}

// P15.2: no price, no haircut and no quantity may be below its least, or above its most, whatever the others are.
func TestCoverWrong(t *testing.T) {
	prices, cuts, amounts := []int{1, unit, dearest}, []int{0, 5, deepest}, []int{0, 1, greatest}
	for _, price := range append(noPrices, prices...) {
		for _, cut := range append(noCuts, cuts...) {
			for _, qty := range append(noAmounts, amounts...) {
				good := slices.Contains(prices, price) && slices.Contains(cuts, cut) && slices.Contains(amounts, qty)
				n, e := haircut.Cover(qty, price, cut)
				if good {
					wantCover(t, n, e, cover(qty, price, cut), api.OK)
				} else {
					wantCover(t, n, e, 0, api.ErrArg)
				}
			}
		}
	}
}

// P15.3: the fewest that cover what is needed; none, if nothing is.
func TestLeast(t *testing.T) {
	for _, z := range [][4]int{
		{0, 1, 0, 0}, {0, dearest, deepest, 0}, {0, unit, 500000, 0}, {1, unit, 0, 1}, {1, unit, 1, 2}, {1, 999999, 0, 2}, {1, 1, 0, unit}, {2, 1, 0, 2 * unit}, {1, dearest, 0, 1},
		{4294, dearest, 0, 1}, {4295, dearest, 0, 2}, {1000, 500000, 0, 2000}, {1001, 500000, 0, 2002}, {891, 990000, 100000, 1000}, {892, 990000, 100000, 1003},
		{1, unit, deepest, unit}, {2, unit, deepest, 2 * unit}, {1, 1, deepest, unit * unit}, {50, unit, 500000, 100}, {greatest, unit, 0, greatest}, {greatest - 1, unit, 0, greatest - 1},
		{greatest / 2, unit, 500000, greatest}, {1125899906, 1, 0, 1125899906 * unit}, {1125, 1, deepest, 1125 * unit * unit}, {4835703278458516698, dearest, 0, greatest},
	} {
		wantLeast(t, z[0], z[1], z[2], z[3], true)
	}
}

// P15.3: there is no such quantity where the most that there may be cover too little.
func TestLeastNone(t *testing.T) {
	for _, z := range [][3]int{
		{greatest + 1, unit, 0}, {greatest, unit, 1}, {greatest, 999999, 0}, {1125899907, 1, 0}, {1126, 1, deepest}, {4835703278458516699, dearest, 0}, {4835703278458516698, dearest, 1},
		{1 << 62, 1, 0}, {math.MaxInt, dearest, 0}, {math.MaxInt, 1, deepest}, {math.MaxInt - 1, unit, 0},
	} {
		wantLeast(t, z[0], z[1], z[2], 0, false)
	}
	for _, price := range []int{1, 2, 999999, unit, unit + 1, dearest - 1, dearest} {
		for _, cut := range []int{0, 1, 500000, deepest - 1, deepest} {
			most := cover(greatest, price, cut)
			wantLeast(t, most+1, price, cut, 0, false)
			n := least(whole(most), price, cut)
			wantLeast(t, most, price, cut, int(n.Int64()), true)
		}
	}
}

// P15.3: of a price, a haircut or a need that may not be there is none, not even of nothing.
func TestLeastWrong(t *testing.T) {
	for _, need := range []int{0, 1, greatest, math.MaxInt} {
		for _, price := range noPrices {
			for _, cut := range append([]int{0, deepest}, noCuts...) {
				wantLeast(t, need, price, cut, 0, false)
			}
		}
		for _, cut := range noCuts {
			for _, price := range []int{1, unit, dearest} {
				wantLeast(t, need, price, cut, 0, false)
			}
		}
	}
	for _, need := range below {
		for _, price := range append([]int{1, unit, dearest}, noPrices...) {
			for _, cut := range append([]int{0, deepest}, noCuts...) {
				wantLeast(t, need, price, cut, 0, false)
			}
		}
	}
}

// P15.3: the most that cover no more than a limit, up to so many.
func TestMost(t *testing.T) {
	for _, z := range [][5]int{
		{0, 1, 0, 0, 0}, {0, unit, 0, 0, 0}, {0, unit, 0, 5, 0}, {0, unit, 1, 5, 1}, {0, 999999, 0, 5, 1}, {0, 1, 0, greatest, unit - 1}, {0, 1, deepest, greatest, unit*unit - 1}, {0, dearest, 0, greatest, 0},
		{1000, 500000, 0, 5000, 2001}, {1000, 500000, 0, 2002, 2001}, {1000, 500000, 0, 2001, 2001}, {1000, 500000, 0, 2000, 2000}, {1000, 500000, 0, 7, 7}, {1000, 500000, 0, 0, 0},
		{4293, dearest, 0, greatest, 0}, {4294, dearest, 0, greatest, 1}, {8588, dearest, 0, greatest, 1}, {8589, dearest, 0, greatest, 2},
		{891, 990000, 100000, greatest, 1002}, {890, 990000, 100000, greatest, 999}, {greatest, unit, 0, greatest, greatest}, {greatest - 1, unit, 0, greatest, greatest - 1},
		{greatest, unit, 0, greatest - 1, greatest - 1}, {math.MaxInt, dearest, 0, greatest, greatest}, {math.MaxInt, 1, deepest, greatest, greatest}, {math.MaxInt, unit, 0, 0, 0}, {math.MaxInt, dearest, 0, 9, 9},
		{math.MaxInt - 1, dearest, 0, greatest, greatest}, {4835703278458516698, dearest, 0, greatest, greatest}, {4835703278458516697, dearest, 0, greatest, greatest - 1},
	} {
		wantMost(t, z[0], z[1], z[2], z[3], z[4])
	}
}

// P15.3: -1 of a price, a haircut, a limit or a quantity that may not be, whatever the others are.
func TestMostWrong(t *testing.T) {
	limits, prices, cuts, amounts := []int{0, 1, math.MaxInt}, []int{1, unit, dearest}, []int{0, deepest}, []int{0, 1, greatest}
	for _, limit := range append(below, limits...) {
		for _, price := range append(noPrices, prices...) {
			for _, cut := range append(noCuts, cuts...) {
				for _, qty := range append(noAmounts, amounts...) {
					if slices.Contains(limits, limit) && slices.Contains(prices, price) && slices.Contains(cuts, cut) && slices.Contains(amounts, qty) {
						continue
					}
					wantMost(t, limit, price, cut, qty, -1)
				}
			}
		}
	}
}

// P15.3, P15.6: one by one from 0 on, held against all that smaller and greater quantities cover.
func TestOneByOne(t *testing.T) {
	const most = 60
	for _, price := range []int{200000, 333333, 500000, 990000, 999999, unit, 1000001, 1700000, 7 * unit} {
		for _, cut := range []int{0, 1, 100000, 333333, 500000, 900000} {
			var covers []int
			for qty := range most + 1 {
				n, e := haircut.Cover(qty, price, cut)
				wantCover(t, n, e, cover(qty, price, cut), api.OK)
				covers = append(covers, n)
			}
			for amount := range covers[most] + 1 {
				fewest := slices.IndexFunc(covers, func(n int) bool { return n >= amount })
				wantLeast(t, amount, price, cut, fewest, true)
				for _, qty := range []int{0, 1, 2, 17, most - 1, most} {
					want := 0
					for i, n := range covers[:qty+1] {
						if n <= amount {
							want = i
						}
					}
					wantMost(t, amount, price, cut, qty, want)
				}
			}
		}
	}
}

// P15.3: Least and Most by chance, held against a reckoning without halving.
func TestHalving(t *testing.T) {
	r := rand.New(rand.NewSource(2))
	found := 0
	for range 20000 {
		price, cut, amount, qty := 1+r.Intn(1<<r.Intn(33)), r.Intn(unit), r.Intn(1<<r.Intn(63)), r.Intn(1<<r.Intn(51)+1)
		if n := least(whole(amount), price, cut); n.Cmp(whole(greatest)) <= 0 {
			wantLeast(t, amount, price, cut, int(n.Int64()), true)
			found++
		} else {
			wantLeast(t, amount, price, cut, 0, false)
		}
		n := least(new(big.Int).Add(whole(amount), whole(1)), price, cut)
		if n.Sub(n, whole(1)); n.Cmp(whole(qty)) > 0 {
			n.Set(whole(qty))
		}
		wantMost(t, amount, price, cut, qty, int(n.Int64()))
	}
	if found < 5000 {
		t.Error(found)
	}
}

// sure is a cover that has no error.
func sure(t *testing.T, qty, price, cut int) int {
	t.Helper()
	n, e := haircut.Cover(qty, price, cut)
	if e != api.OK {
		t.Fatalf("Cover(%d, %d, %d): %d", qty, price, cut, e)
	}
	return n
}

// P15.6: more covers no less, and a greater haircut covers no more.
func TestMoreCoversNoLess(t *testing.T) {
	r := rand.New(rand.NewSource(3))
	for range 5000 {
		price, cut, fewest := 1+r.Intn(1<<r.Intn(33)), r.Intn(unit), r.Intn(1<<r.Intn(50)+1)
		last := 0
		for _, more := range []int{0, 1, 2, 3 + r.Intn(1000), 1003 + r.Intn(1<<40), greatest} {
			qty := min(fewest+more, greatest)
			n := sure(t, qty, price, cut)
			if n < last {
				t.Fatal(qty, price, cut, n, last)
			}
			last = n
			for _, more := range []int{1, 1 + r.Intn(1000), unit} {
				if less := sure(t, qty, price, min(cut+more, deepest)); less > n {
					t.Fatal(qty, price, cut, more, n, less)
				}
			}
		}
	}
}

// P15.6: what Least tells covers enough, and one fewer doesn't; what Most tells doesn't cover too much, and one more does, if there is as much.
func TestOneFewerOneMore(t *testing.T) {
	r := rand.New(rand.NewSource(4))
	fewer, more := 0, 0
	for range 20000 {
		price, cut, qty := 1+r.Intn(1<<r.Intn(33)), r.Intn(unit), r.Intn(1<<r.Intn(51)+1)
		amount := r.Intn(1 << r.Intn(63))
		if r.Intn(2) == 0 {
			amount = r.Intn(sure(t, qty, price, cut) + 1)
		}
		if n, ok := haircut.Least(amount, price, cut); ok {
			if sure(t, n, price, cut) < amount || n > 0 && sure(t, n-1, price, cut) >= amount {
				t.Fatal(amount, price, cut, n)
			}
			fewer += min(n, 1)
		} else if sure(t, greatest, price, cut) >= amount {
			t.Fatal(amount, price, cut)
		}
		n := haircut.Most(amount, price, cut, qty)
		if n < 0 || n > qty || sure(t, n, price, cut) > amount || n < qty && sure(t, n+1, price, cut) <= amount {
			t.Fatal(amount, price, cut, qty, n)
		}
		more += min(qty-n, 1)
	}
	if fewer < 5000 || more < 5000 {
		t.Error(fewer, more)
	}
}

// item is so many at a price and a haircut.
func item(qty, price, cut int) haircut.Item {
	return haircut.Item{Lot: api.Lot{ISIN: sap, Qty: qty}, Asset: api.Asset{ISIN: sap}, Price: price, Cut: cut}
}

// P15.4: an item covers what its lot, price and haircut say, and nothing, if one of these may not be.
func TestItem(t *testing.T) {
	for _, z := range [][4]int{{1000, 990000, 100000, 891}, {999, unit, 333333, 666}, {0, unit, 0, 0}, {1, 1, deepest, 0}, {greatest, dearest, 0, 4835703278458516698}, {greatest, 1, 0, 1125899906}} {
		if n := item(z[0], z[1], z[2]).Cover(); n != z[3] {
			t.Error(z, n)
		}
	}
	for _, n := range noAmounts {
		if n := item(n, unit, 0).Cover(); n != 0 {
			t.Error(n)
		}
	}
	for _, n := range noPrices {
		if n := item(unit, n, 0).Cover(); n != 0 {
			t.Error(n)
		}
	}
	for _, n := range noCuts {
		if n := item(unit, unit, n).Cover(); n != 0 {
			t.Error(n)
		}
	}
	if n := (haircut.Item{}).Cover(); n != 0 {
		t.Error(n)
	}
	// It hangs on nothing else that an item has.
	x := haircut.Item{Lot: api.Lot{ISIN: "x", Qty: 10}, Asset: api.Asset{ISIN: "y", Issuer: -1, Rating: 99, Maturity: -5}, Price: 2 * unit, Cut: 250000}
	if n := x.Cover(); n != 15 {
		t.Error(n)
	}
}

// full are items that cover the greatest number there is together.
func full(t *testing.T) []haircut.Item {
	t.Helper()
	l := []haircut.Item{item(greatest, dearest, 0), item(greatest/10*9, dearest, 0)}
	left := math.MaxInt
	for _, x := range l {
		left -= x.Cover()
	}
	if left < 0 || left > 500*greatest {
		t.Fatal(left)
	}
	for ; left > 0; left -= min(left, greatest) {
		l = append(l, item(min(left, greatest), unit, 0))
	}
	return l
}

// P15.4: each item is cut down by itself, one that may not be covers nothing, and together they may be the greatest number there is, but no more.
func TestTotal(t *testing.T) {
	most, full := item(greatest, dearest, 0), full(t)
	for _, z := range []struct {
		l    []haircut.Item
		want int
		e    api.Errno
	}{
		{nil, 0, api.OK},
		{[]haircut.Item{}, 0, api.OK},
		{make([]haircut.Item, 3), 0, api.OK},
		{[]haircut.Item{item(1000, 990000, 100000)}, 891, api.OK},
		{[]haircut.Item{item(1, 999999, 0), item(1, 999999, 0)}, 0, api.OK},
		{[]haircut.Item{item(1000, 990000, 100000), item(7, unit, 0), item(100, unit, 500000)}, 948, api.OK},
		{[]haircut.Item{item(5, unit, 0), item(-5, unit, 0), item(5, 0, 0), item(5, unit, unit), item(5, unit, -1), item(6, unit, 0)}, 11, api.OK},
		{slices.Repeat([]haircut.Item{item(2, 500000, 0)}, 5000), 5000, api.OK},
		{[]haircut.Item{most, item(3, unit, 0)}, 4835703278458516701, api.OK},
		{[]haircut.Item{most, most}, 0, api.ErrOver},
		{[]haircut.Item{item(3, unit, 0), most, item(-1, unit, 0), most}, 0, api.ErrOver},
		{[]haircut.Item{most, most, item(-1, unit, 0)}, 0, api.ErrOver},
		{slices.Repeat([]haircut.Item{most}, 4), 0, api.ErrOver},
		{slices.Repeat([]haircut.Item{most}, 5000), 0, api.ErrOver},
		{full, math.MaxInt, api.OK},
		{append(slices.Clone(full), item(1, 999999, 0), item(-1, unit, 0)), math.MaxInt, api.OK},
		{append(slices.Clone(full), item(1, unit, 0)), 0, api.ErrOver},
		{append([]haircut.Item{item(1, unit, 0)}, full...), 0, api.ErrOver},
	} {
		n, e := haircut.Total(z.l)
		wantCover(t, n, e, z.want, z.e)
	}
}

// P15.4: what all cover less what is needed, below 0 where that is more; whatever has no place is told.
func TestMargin(t *testing.T) {
	some, most, full := []haircut.Item{item(100, unit, 0), item(100, unit, 500000)}, item(greatest, dearest, 0), full(t)
	over := []haircut.Item{most, most}
	for _, z := range []struct {
		l          []haircut.Item
		need, want int
		e          api.Errno
	}{
		{nil, 0, 0, api.OK}, {nil, 7, -7, api.OK}, {nil, -7, 7, api.OK}, {nil, math.MaxInt, -math.MaxInt, api.OK}, {nil, -math.MaxInt, math.MaxInt, api.OK}, {nil, math.MinInt, 0, api.ErrOver},
		{some, 160, -10, api.OK}, {some, 150, 0, api.OK}, {some, 149, 1, api.OK}, {some, 0, 150, api.OK}, {some, -5, 155, api.OK},
		{some, math.MaxInt, 150 - math.MaxInt, api.OK}, {some, 150 - math.MaxInt, math.MaxInt, api.OK}, {some, 149 - math.MaxInt, 0, api.ErrOver}, {some, math.MinInt, 0, api.ErrOver},
		{[]haircut.Item{item(-1, unit, 0), some[0]}, 40, 60, api.OK},
		{full, math.MaxInt, 0, api.OK}, {full, 1, math.MaxInt - 1, api.OK}, {full, 0, math.MaxInt, api.OK}, {full, -1, 0, api.ErrOver},
		{over, 0, 0, api.ErrOver}, {over, 1, 0, api.ErrOver}, {over, math.MaxInt, 0, api.ErrOver}, {over, math.MinInt, 0, api.ErrOver},
	} {
		n, e := haircut.Margin(z.l, z.need)
		wantCover(t, n, e, z.want, z.e)
	}
}

// P15.4: items by chance, held against numbers of any length.
func TestTotalChance(t *testing.T) {
	r := rand.New(rand.NewSource(5))
	told := map[api.Errno]int{}
	for range 5000 {
		var l []haircut.Item
		total := new(big.Int)
		for range r.Intn(8) {
			x := item(r.Intn(1<<r.Intn(51)+1), 1+r.Intn(1<<r.Intn(33)), r.Intn(unit))
			switch r.Intn(12) {
			case 0:
				x.Lot.Qty = noAmounts[r.Intn(len(noAmounts))]
			case 1:
				x.Price = noPrices[r.Intn(len(noPrices))]
			case 2:
				x.Cut = noCuts[r.Intn(len(noCuts))]
			case 3, 4:
				x = item(greatest-r.Intn(9), dearest-r.Intn(9), r.Intn(500000))
				total.Add(total, whole(cover(x.Lot.Qty, x.Price, x.Cut)))
			default:
				total.Add(total, whole(cover(x.Lot.Qty, x.Price, x.Cut)))
			}
			l = append(l, x)
		}
		n, e := haircut.Total(l)
		told[e]++
		if !total.IsInt64() {
			wantCover(t, n, e, 0, api.ErrOver)
			continue
		}
		wantCover(t, n, e, int(total.Int64()), api.OK)
		need := r.Intn(1 << r.Intn(63))
		n, e = haircut.Margin(l, need)
		wantCover(t, n, e, int(total.Int64())-need, api.OK)
	}
	if told[api.OK] < 500 || told[api.ErrOver] < 100 {
		t.Error(told)
	}
}

// security is one that may be.
func security(number string, maturity int) api.Asset {
	return api.Asset{ISIN: number, Issuer: 7, Rating: 3, Maturity: maturity, Currency: "EUR"}
}

// bookOf makes a book of securities, and sets prices.
func bookOf(t *testing.T, l []api.Asset, prices ...api.Price) *asset.Book {
	t.Helper()
	k := asset.New()
	for _, a := range l {
		if e := k.Add(a); e != api.OK {
			t.Fatalf("Add(%v) = %d", a, e)
		}
	}
	if _, e := k.Set(prices); e != api.OK {
		t.Fatalf("Set(%v) = %d", prices, e)
	}
	return k
}

// rules take securities rated up to 3 that end within 500 days, at two haircuts.
func rules() api.Basket {
	return api.Basket{ID: 1, Version: 1, Currency: "EUR", Rating: 3, Most: 500, Cuts: []api.Cut{{Days: 100, Rating: 3, Cut: 10000}, {Days: 500, Rating: 3, Cut: 20000}}}
}

// wantFind wants what Find tells, and that it changes nothing.
func wantFind(t *testing.T, k *asset.Book, b api.Basket, l api.Lot, day int, want haircut.Item, wantE api.Errno) {
	t.Helper()
	assets, prices, cuts := k.All(), k.Prices(), slices.Clone(b.Cuts)
	if x, e := haircut.Find(k, b, l, day); x != want || e != wantE {
		t.Errorf("Find(%.200s) = %v, %d; want %v, %d", fmt.Sprint(b, l, day), x, e, want, wantE)
	}
	if !slices.Equal(assets, k.All()) || !slices.Equal(prices, k.Prices()) || !slices.Equal(cuts, b.Cuts) {
		t.Error("something has changed")
	}
}

// P15.5: the lot as it is, the security as the book knows it, its price, and its haircut on the day.
func TestFind(t *testing.T) {
	one, other := security(sap, 300), security(apple, 700)
	k := bookOf(t, []api.Asset{other, one}, api.Price{ISIN: sap, Price: 990000}, api.Price{ISIN: apple, Price: dearest})
	for _, qty := range []int{0, 1, 1000, greatest - 1, greatest} {
		l := api.Lot{ISIN: sap, Qty: qty}
		wantFind(t, k, rules(), l, 0, haircut.Item{Lot: l, Asset: one, Price: 990000, Cut: 20000}, api.OK)
		wantFind(t, k, rules(), l, 199, haircut.Item{Lot: l, Asset: one, Price: 990000, Cut: 20000}, api.OK)
		wantFind(t, k, rules(), l, 200, haircut.Item{Lot: l, Asset: one, Price: 990000, Cut: 10000}, api.OK)
		wantFind(t, k, rules(), l, 300, haircut.Item{Lot: l, Asset: one, Price: 990000, Cut: 10000}, api.OK)
		l.ISIN = apple
		wantFind(t, k, rules(), l, 200, haircut.Item{Lot: l, Asset: other, Price: dearest, Cut: 20000}, api.OK)
	}
	// The newest price holds.
	if _, e := k.Set([]api.Price{{ISIN: sap, Price: 5}}); e != api.OK {
		t.Fatal(e)
	}
	l := api.Lot{ISIN: sap, Qty: 8}
	wantFind(t, k, rules(), l, 0, haircut.Item{Lot: l, Asset: one, Price: 5, Cut: 20000}, api.OK)
	// Whether the basket takes the security beside that is not asked, nor is a haircut of 0 none.
	b := api.Basket{Currency: "USD", Least: 400, Barred: []int{7}, Cuts: []api.Cut{{Days: 300, Rating: 3}}}
	wantFind(t, k, b, l, 0, haircut.Item{Lot: l, Asset: one, Price: 5}, api.OK)
}

// P15.5: what is wrong is told, and of several faults the first one: not known, without a price, without a haircut, a wrong quantity.
func TestFindWrong(t *testing.T) {
	k := bookOf(t, []api.Asset{security(sap, 300), security(apple, 300)}, api.Price{ISIN: sap, Price: 990000})
	narrow, empty := rules(), api.Basket{}
	narrow.Cuts = []api.Cut{{Days: 299, Rating: 20}, {Days: latest, Rating: 2}}
	none := haircut.Item{}
	for _, qty := range append([]int{0, 1, greatest}, noAmounts...) {
		for _, b := range []api.Basket{rules(), narrow, empty} {
			for _, day := range []int{0, 300, 301, -1} {
				for _, s := range strangers {
					wantFind(t, k, b, api.Lot{ISIN: s, Qty: qty}, day, none, api.ErrAsset)
				}
				wantFind(t, k, b, api.Lot{ISIN: apple, Qty: qty}, day, none, api.ErrPrice)
			}
		}
		l := api.Lot{ISIN: sap, Qty: qty}
		wantFind(t, k, narrow, l, 0, none, api.ErrFit)
		wantFind(t, k, empty, l, 0, none, api.ErrFit)
		for _, day := range append([]int{301, 302, latest}, noDays...) {
			wantFind(t, k, rules(), l, day, none, api.ErrFit)
		}
		if qty < 0 || qty > greatest {
			wantFind(t, k, rules(), l, 0, none, api.ErrArg)
			wantFind(t, k, rules(), l, 300, none, api.ErrArg)
		}
	}
	wantFind(t, k, narrow, api.Lot{ISIN: sap, Qty: 1}, 1, haircut.Item{Lot: api.Lot{ISIN: sap, Qty: 1}, Asset: security(sap, 300), Price: 990000}, api.OK)
}

// P15.5: a book without securities knows none, nor does nil, or one that no call made.
func TestFindNil(t *testing.T) {
	for _, k := range []*asset.Book{nil, {}, new(asset.Book), asset.New()} {
		for _, l := range []api.Lot{{}, {ISIN: sap, Qty: 1}, {ISIN: sap, Qty: -1}, {ISIN: "x", Qty: greatest + 1}} {
			wantFind(t, k, rules(), l, 0, haircut.Item{}, api.ErrAsset)
			wantFind(t, k, api.Basket{}, l, -1, haircut.Item{}, api.ErrAsset)
		}
	}
}

// P15.4, P15.5: what was found covers what the book says that it is worth, less the haircut.
func TestFoundCover(t *testing.T) {
	k := bookOf(t, []api.Asset{security(sap, 300), security(apple, 90)}, api.Price{ISIN: sap, Price: 990000}, api.Price{ISIN: apple, Price: 3 * unit})
	var l []haircut.Item
	want := 0
	for _, lot := range []api.Lot{{ISIN: sap, Qty: 1000}, {ISIN: apple, Qty: 77}} {
		x, e := haircut.Find(k, rules(), lot, 0)
		if e != api.OK {
			t.Fatal(e)
		}
		value, e := k.Value(lot)
		if n := value * (unit - x.Cut) / unit; e != api.OK || n != x.Cover() {
			t.Error(n, e, x.Cover())
		}
		want += x.Cover()
		l = append(l, x)
	}
	n, e := haircut.Total(l)
	wantCover(t, n, e, want, api.OK)
	if want != 970+228 {
		t.Error(want)
	}
}

// Lists that are handed in are not changed, nor is the room behind them.
func TestMemory(t *testing.T) {
	items := []haircut.Item{item(5, unit, 0), item(-1, unit, 0), item(greatest, dearest, 0), item(greatest, dearest, 0), item(9, 9, 9)}
	b := rules()
	b.Cuts, b.Barred = append(b.Cuts, api.Cut{Days: 9}), []int{1, 2, 3}
	l, x := slices.Clone(items), b
	x.Cuts, x.Barred = slices.Clone(b.Cuts), slices.Clone(b.Barred)
	for n := range len(items) {
		haircut.Total(items[:n])
		haircut.Margin(items[:n], 5)
	}
	haircut.Of(api.Basket{Cuts: b.Cuts[:1], Barred: b.Barred[:1]}, security(sap, 300), 0)
	haircut.Of(b, security(sap, 300), 0)
	haircut.Of(b, security(sap, 999), 0)
	haircut.Find(bookOf(t, []api.Asset{security(sap, 300)}, api.Price{ISIN: sap, Price: 1}), b, api.Lot{ISIN: sap, Qty: 1}, 0)
	if !slices.Equal(l, items) || !reflect.DeepEqual(x, b) {
		t.Error(items, b)
	}
}

// Texts of an item lie apart from those that were handed in, from the book's, and from each other; what becomes of the lot's bytes behind a call is all one to it.
func TestTexts(t *testing.T) {
	k := bookOf(t, []api.Asset{security(sap, 300)}, api.Price{ISIN: sap, Price: 990000})
	seen := map[*byte]bool{}
	var found []haircut.Item
	for range 3 {
		bytes := []byte(sap)
		lot := api.Lot{ISIN: unsafe.String(&bytes[0], len(bytes)), Qty: 5}
		seen[&bytes[0]] = true
		x, e := haircut.Find(k, rules(), lot, 0)
		if e != api.OK {
			t.Fatal(e)
		}
		for _, s := range []string{x.Lot.ISIN, x.Asset.ISIN, x.Asset.Currency} {
			if seen[unsafe.StringData(s)] {
				t.Errorf("%q, a text that was handed in or out before", s)
			}
			seen[unsafe.StringData(s)] = true
		}
		found = append(found, x)
		clear(bytes)
	}
	for _, x := range found {
		if want := (haircut.Item{Lot: api.Lot{ISIN: sap, Qty: 5}, Asset: security(sap, 300), Price: 990000, Cut: 20000}); x != want {
			t.Error(x)
		}
	}
}
