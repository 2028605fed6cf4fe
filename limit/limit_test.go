package limit_test

import (
	"fmt"
	"math"
	"math/big"
	"math/rand"
	"reflect"
	"slices"
	"strings"
	"testing"
	"unsafe"

	"lombard/api"
	"lombard/haircut"
	"lombard/limit"
)

const (
	// most is the greatest amount that may be needed, unit is all of it in millionths, dearest the highest price.
	most    = 1 << 50
	unit    = 1000000
	dearest = 1 << 32
)

var (
	noAmounts = []int{math.MinInt, -1 << 32, -1, most + 1, 1 << 60, math.MaxInt}
	noParts   = []int{math.MinInt, -unit, -1, unit + 1, 1 << 32, math.MaxInt}
	below     = []int{-1, -2, -unit, -most, math.MinInt + 1, math.MinInt}
)

// parts are a basket's limits alone.
func parts(issuer, asset int) api.Basket { return api.Basket{Issuer: issuer, Asset: asset} }

// of is a security of an issuer.
func of(number string, issuer int) api.Asset { return api.Asset{ISIN: number, Issuer: issuer} }

// table makes a table that may be.
func table(t *testing.T, b api.Basket, need int) *limit.Table {
	t.Helper()
	x, e := limit.New(b, need)
	if e != api.OK || x == nil {
		t.Fatalf("New(%v, %d) = %v, %d", b, need, x, e)
	}
	return x
}

// issuer is how much of an issuer's limit is used.
func issuer(n, cover, limits int) limit.Use {
	return limit.Use{Issuer: n, Cover: cover, Limit: limits}
}

// security is how much of a security's limit is used.
func security(number string, cover, limits int) limit.Use {
	return limit.Use{Issuer: -1, ISIN: number, Cover: cover, Limit: limits}
}

// want wants an error.
func want(t *testing.T, e, wantE api.Errno) {
	t.Helper()
	if e != wantE {
		t.Errorf("%d; want %d", e, wantE)
	}
}

// wantUses wants uses.
func wantUses(t *testing.T, l []limit.Use, want ...limit.Use) {
	t.Helper()
	if !slices.Equal(l, want) {
		t.Errorf("%v; want %v", l, want)
	}
}

// wantRoom wants room for a security.
func wantRoom(t *testing.T, x *limit.Table, a api.Asset, want int) {
	t.Helper()
	if n := x.Room(a); n != want {
		t.Errorf("Room(%v) = %d; want %d", a, n, want)
	}
}

// wantSums wants what Sum and Open tell.
func wantSums(t *testing.T, x *limit.Table, sum, open int) {
	t.Helper()
	if x.Sum() != sum || x.Open() != open {
		t.Errorf("%d, %d; want %d, %d", x.Sum(), x.Open(), sum, open)
	}
}

// The chapter's example.
func TestExample(t *testing.T) {
	x := table(t, parts(400000, 300000), 1000)
	wantRoom(t, x, of("A", 1), 300)
	wantRoom(t, x, of("B", 1), 300)
	want(t, x.Add(of("A", 1), 300), api.OK)
	wantRoom(t, x, of("B", 1), 100)
}

// P16.1: an amount, and parts, from nothing to all are taken, those beside aren't; the other rules of the basket are all one.
func TestNew(t *testing.T) {
	for _, need := range []int{0, 1, 1000, most - 1, most} {
		for _, b := range []api.Basket{parts(0, 0), parts(unit, 0), parts(0, unit), parts(unit, unit), {ID: -1, Version: -1, Rating: -5, Least: 9, Most: 1, Cuts: make([]api.Cut, 999)}} {
			x := table(t, b, need)
			wantSums(t, x, 0, need)
			wantUses(t, x.Uses())
		}
	}
	wrong := func(b api.Basket, need int) {
		t.Helper()
		if x, e := limit.New(b, need); x != nil || e != api.ErrArg {
			t.Errorf("New(%v, %d) = %v, %d", b, need, x, e)
		}
	}
	for _, need := range noAmounts {
		wrong(parts(unit, unit), need)
		wrong(parts(0, 0), need)
	}
	for _, n := range noParts {
		for _, need := range []int{0, 1000, most, -1} {
			wrong(parts(n, unit), need)
			wrong(parts(0, n), need)
			wrong(parts(n, n), need)
		}
	}
}

// P16.1: limits are parts of what is needed, cut down to whole numbers, and the lesser one holds.
func TestRoom(t *testing.T) {
	for _, z := range [][4]int{
		{1001, 500000, unit, 500}, {1001, unit, 500000, 500}, {1001, 999999, 999999, 1000}, {1000, 400000, 300000, 300}, {1000, 300000, 400000, 300},
		{1, 999999, unit, 0}, {1, unit, unit, 1}, {999999, 1, unit, 0}, {1000000, 1, unit, 1}, {1000000, unit, 1, 1}, {1999999, 2, 1, 1},
		{1000, 0, unit, 0}, {1000, unit, 0, 0}, {0, unit, unit, 0}, {7, 142857, unit, 0}, {7, 142858, unit, 1},
		{most, unit, unit, most}, {most, 999999, unit, 1125898780942717}, {most, unit, 1, 1125899906}, {most - 1, 500000, 500001, 1<<49 - 1},
	} {
		x := table(t, parts(z[1], z[2]), z[0])
		for _, a := range []api.Asset{{}, of("A", 1), of("B", -1), of("", math.MinInt), {ISIN: "C", Issuer: 9, Rating: 99, Maturity: -1, Currency: "?"}} {
			wantRoom(t, x, a, z[3])
		}
	}
}

// P16.1: what is left of a limit is told, of the issuer or of the security; it doesn't fall below 0.
func TestRoomLeft(t *testing.T) {
	x := table(t, parts(500000, 300000), 1001)
	for _, z := range []struct {
		a     api.Asset
		cover int
	}{{of("A", 1), 200}, {of("B", 1), 150}, {of("C", 2), 300}} {
		want(t, x.Add(z.a, z.cover), api.OK)
	}
	for _, z := range []struct {
		a    api.Asset
		want int
	}{
		{of("A", 1), 100}, {of("B", 1), 150}, {of("D", 1), 150}, {of("C", 2), 0}, {of("D", 2), 200}, {of("D", 3), 300}, {of("a", 3), 300},
		// A security is known by its number, whoever is told to have issued it.
		{of("A", 3), 100}, {of("C", 3), 0}, {of("B", 2), 150}, {of("A", 2), 100},
	} {
		wantRoom(t, x, z.a, z.want)
	}
	want(t, x.Add(of("B", 1), 150), api.OK)
	wantRoom(t, x, of("A", 1), 0)
	wantRoom(t, x, of("D", 1), 0)
	wantRoom(t, x, of("D", 2), 200)
	wantSums(t, x, 800, 201)
}

// P16.1: Open tells what isn't covered, and 0 where more is covered than is needed.
func TestSums(t *testing.T) {
	x := table(t, parts(unit, 600000), 1000)
	wantSums(t, x, 0, 1000)
	for i, z := range [][2]int{{400, 600}, {999, 1}, {1000, 0}, {1001, 0}, {1600, 0}} {
		cover := z[0] - x.Sum()
		want(t, x.Add(of(fmt.Sprint(i), i), cover), api.OK)
		wantSums(t, x, z[0], z[1])
	}
	want(t, x.Take(of("0", 0), 400), api.OK)
	wantSums(t, x, 1200, 0)
	want(t, x.Take(of("1", 1), 500), api.OK)
	wantSums(t, x, 700, 300)
	x = table(t, parts(unit, unit), 0)
	want(t, x.Add(of("A", 1), 0), api.OK)
	wantSums(t, x, 0, 0)
}

// P16.1: what thousands of issuers cover has no place in 64 bits; even then nothing is open.
func TestGreatSums(t *testing.T) {
	x := table(t, parts(unit, unit), most)
	wanted := new(big.Int)
	for i := range 1 << 14 {
		want(t, x.Add(of(fmt.Sprint(i), i), most), api.OK)
		wanted.Add(wanted, big.NewInt(most))
		if i%1000 != 0 && (i < 8189 || i > 8195) {
			continue
		}
		if !wanted.IsInt64() {
			wantSums(t, x, math.MaxInt, 0)
		} else {
			wantSums(t, x, int(wanted.Int64()), 0)
		}
	}
	for i := range 1<<14 - 1 {
		want(t, x.Take(of(fmt.Sprint(i), i), most), api.OK)
	}
	wantSums(t, x, most, 0)
}

// P16.2: Add takes covers up to the room, and changes nothing with an error.
func TestAdd(t *testing.T) {
	x := table(t, parts(500000, 300000), 1001)
	for _, z := range []struct {
		a     api.Asset
		cover int
		e     api.Errno
	}{
		{of("A", 1), 301, api.ErrConc}, {of("A", 1), math.MaxInt, api.ErrConc}, {of("A", 1), 1, api.OK}, {of("A", 1), 300, api.ErrConc}, {of("A", 1), 299, api.OK},
		{of("A", 1), 1, api.ErrConc}, {of("A", 2), 1, api.ErrConc}, {of("A", 1), 0, api.OK}, {of("A", 1), -1, api.ErrArg},
		{of("B", 1), 201, api.ErrConc}, {of("B", 1), 200, api.OK}, {of("B", 1), 1, api.ErrConc}, {of("C", 1), 1, api.ErrConc}, {of("C", 1), 0, api.OK},
		{of("B", 2), 101, api.ErrConc}, {of("B", 2), 100, api.OK}, {of("C", 2), 301, api.ErrConc}, {of("C", 2), 300, api.OK}, {of("D", 2), 100, api.OK}, {of("D", 2), 1, api.ErrConc},
	} {
		before, sum := x.Uses(), x.Sum()
		e := x.Add(z.a, z.cover)
		want(t, e, z.e)
		if e != api.OK {
			wantUses(t, x.Uses(), before...)
			wantSums(t, x, sum, max(0, 1001-sum))
		} else {
			wantSums(t, x, sum+z.cover, max(0, 1001-sum-z.cover))
		}
	}
	wantUses(t, x.Uses(), issuer(1, 500, 500), issuer(2, 500, 500), security("A", 300, 300), security("B", 300, 300), security("C", 300, 300), security("D", 100, 300))
	x = table(t, parts(unit, unit), most)
	want(t, x.Add(of("A", 1), most+1), api.ErrConc)
	want(t, x.Add(of("A", 1), most), api.OK)
	want(t, x.Add(of("A", 1), 1), api.ErrConc)
}

// P16.2: nothing is added below 0, whether or not there is room.
func TestBelow(t *testing.T) {
	for _, x := range []*limit.Table{table(t, parts(unit, unit), 1000), table(t, parts(0, 0), 0)} {
		if x.Open() > 0 {
			want(t, x.Add(of("A", 1), 500), api.OK)
		}
		before := x.Uses()
		for _, n := range below {
			for _, a := range []api.Asset{of("A", 1), of("B", 1), of("B", 2), {}} {
				want(t, x.Add(a, n), api.ErrArg)
				want(t, x.Take(a, n), api.ErrArg)
			}
		}
		wantUses(t, x.Uses(), before...)
	}
}

// P16.2: Take takes away what both the security and its issuer cover, and changes nothing with an error.
func TestTake(t *testing.T) {
	x := table(t, parts(unit, unit), 1000)
	want(t, x.Add(of("A", 1), 300), api.OK)
	want(t, x.Add(of("B", 1), 200), api.OK)
	want(t, x.Add(of("C", 2), 100), api.OK)
	for _, z := range []struct {
		a     api.Asset
		cover int
		e     api.Errno
	}{
		// The issuer covers enough, but the security doesn't; the other way round; neither does.
		{of("B", 1), 201, api.ErrFunds}, {of("C", 1), 101, api.ErrFunds}, {of("A", 2), 101, api.ErrFunds}, {of("D", 1), 1, api.ErrFunds}, {of("A", 3), 1, api.ErrFunds}, {of("D", 3), 1, api.ErrFunds},
		{of("A", 1), math.MaxInt, api.ErrFunds}, {of("A", 1), 0, api.OK}, {of("D", 3), 0, api.OK}, {of("A", 1), -1, api.ErrArg}, {of("D", 3), -1, api.ErrArg},
		{of("B", 1), 150, api.OK}, {of("B", 1), 51, api.ErrFunds}, {of("B", 1), 50, api.OK}, {of("B", 1), 1, api.ErrFunds},
		{of("C", 2), 100, api.OK}, {of("C", 2), 1, api.ErrFunds}, {of("A", 1), 301, api.ErrFunds}, {of("A", 1), 299, api.OK},
	} {
		before, sum := x.Uses(), x.Sum()
		e := x.Take(z.a, z.cover)
		want(t, e, z.e)
		if e != api.OK {
			wantUses(t, x.Uses(), before...)
			wantSums(t, x, sum, 1000-sum)
		} else {
			wantSums(t, x, sum-z.cover, 1000-sum+z.cover)
		}
	}
	wantUses(t, x.Uses(), issuer(1, 1, 1000), security("A", 1, 1000))
	wantRoom(t, x, of("B", 1), 999)
	wantRoom(t, x, of("B", 2), 1000)
	want(t, x.Take(of("A", 1), 1), api.OK)
	wantUses(t, x.Uses())
	wantRoom(t, x, of("A", 1), 1000)
}

// P16.3: issuers by rising numbers, then securities by their bytes; those that cover nothing are left out.
func TestUses(t *testing.T) {
	x := table(t, parts(unit, 900000), 1001)
	wantUses(t, x.Uses())
	for _, a := range []api.Asset{of("B", 20), of("b", 3), of("AA", 3), of("A", -7), of("\xff", 100), of("é", 20), of("", -1), of("A\x00", math.MaxInt), of("Z", math.MinInt), of("10", 0), of("9", 0)} {
		want(t, x.Add(a, 2), api.OK)
	}
	want(t, x.Add(of("B", 20), 5), api.OK)
	want(t, x.Add(of("N", 8), 0), api.OK)
	want(t, x.Add(of("G", 8), 4), api.OK)
	want(t, x.Take(of("G", 8), 4), api.OK)
	want(t, x.Take(of("H", 9), 0), api.OK)
	wantUses(t, x.Uses(),
		issuer(math.MinInt, 2, 1001), issuer(-7, 2, 1001), issuer(-1, 2, 1001), issuer(0, 4, 1001), issuer(3, 4, 1001), issuer(20, 9, 1001), issuer(100, 2, 1001), issuer(math.MaxInt, 2, 1001),
		security("", 2, 900), security("10", 2, 900), security("9", 2, 900), security("A", 2, 900), security("A\x00", 2, 900), security("AA", 2, 900), security("B", 7, 900), security("Z", 2, 900), security("b", 2, 900), security("é", 2, 900), security("\xff", 2, 900))
	// A security of two issuers: each of them covers its own.
	x = table(t, parts(unit, unit), 100)
	want(t, x.Add(of("A", 2), 30), api.OK)
	want(t, x.Add(of("A", 1), 20), api.OK)
	wantUses(t, x.Uses(), issuer(1, 20, 100), issuer(2, 30, 100), security("A", 50, 100))
	want(t, x.Take(of("A", 1), 21), api.ErrFunds)
	want(t, x.Take(of("A", 1), 20), api.OK)
	wantUses(t, x.Uses(), issuer(2, 30, 100), security("A", 30, 100))
}

// Of nil, and of a table that no call made, every error is ErrNil, and there is nothing.
func TestNil(t *testing.T) {
	for _, x := range []*limit.Table{nil, {}, new(limit.Table)} {
		for _, a := range []api.Asset{{}, of("A", 1)} {
			for _, n := range []int{math.MinInt, -1, 0, 1, math.MaxInt} {
				want(t, x.Add(a, n), api.ErrNil)
				want(t, x.Take(a, n), api.ErrNil)
			}
			wantRoom(t, x, a, 0)
		}
		wantSums(t, x, 0, 0)
		wantUses(t, x.Uses())
	}
}

// item is so many of a security at par, without a haircut.
func item(number string, issuer, qty int) haircut.Item {
	return haircut.Item{Lot: api.Lot{Qty: qty}, Asset: of(number, issuer), Price: unit}
}

// wantOver wants what Over tells.
func wantOver(t *testing.T, b api.Basket, need int, l []haircut.Item, wantE api.Errno, want ...limit.Use) {
	t.Helper()
	got, e := limit.Over(b, need, l)
	if !slices.Equal(got, want) || e != wantE {
		t.Errorf("Over(%v, %d, %.200s) = %v, %d; want %v, %d", b, need, fmt.Sprint(l), got, e, want, wantE)
	}
}

// P16.4: limits that are passed are told, in the order of Uses; those that are just reached aren't.
func TestOver(t *testing.T) {
	b := parts(500000, 300000)
	wantOver(t, b, 1000, nil, api.OK)
	wantOver(t, b, 1000, []haircut.Item{item("A", 1, 300), item("B", 1, 200), item("C", 2, 300)}, api.OK)
	wantOver(t, b, 1000, []haircut.Item{item("A", 1, 301)}, api.OK, security("A", 301, 300))
	wantOver(t, b, 1000, []haircut.Item{item("B", 1, 300), item("A", 1, 201)}, api.OK, issuer(1, 501, 500))
	wantOver(t, b, 1000, []haircut.Item{item("D", 4, 900), item("C", 3, 300), item("A", 1, 400), item("B", 1, 101), item("E", 4, 1)}, api.OK,
		issuer(1, 501, 500), issuer(4, 901, 500), security("A", 400, 300), security("D", 900, 300))
	// Items of one security are put together, by the number that the asset has.
	l := []haircut.Item{item("A", 1, 200), item("B", 2, 200), item("A", 3, 101)}
	for i := range l {
		l[i].Lot.ISIN = "L"
	}
	wantOver(t, b, 1000, l, api.OK, security("A", 301, 300))
	// Covers count, not quantities, and what may not be covers nothing.
	dear, cut := item("A", 1, 150), item("B", 2, 600)
	dear.Price, cut.Cut = 2*unit+7000, 500000
	wantOver(t, b, 1000, []haircut.Item{dear, cut}, api.OK, security("A", 301, 300))
	dear.Cut = unit
	wantOver(t, b, 1000, []haircut.Item{dear, cut, item("C", 3, -5), item("D", 4, most+1), {}}, api.OK)
	// Limits of nothing.
	wantOver(t, b, 0, []haircut.Item{item("A", 1, 1), item("B", 2, 0)}, api.OK, issuer(1, 1, 0), security("A", 1, 0))
	wantOver(t, parts(0, unit), most, []haircut.Item{item("A", 1, 1)}, api.OK, issuer(1, 1, 0))
	wantOver(t, parts(unit, 0), most, []haircut.Item{item("A", 1, 1)}, api.OK, security("A", 1, 0))
}

// P16.4: the limits of an amount, of items and of covers; of several faults the first one is told.
func TestOverWrong(t *testing.T) {
	above := item("A", 1, most)
	above.Price = unit + 1
	full := slices.Repeat([]haircut.Item{item("A", 1, most)}, 64)
	wantOver(t, parts(unit, unit), most, full, api.OK, issuer(1, 64*most, most), security("A", 64*most, most))
	for _, l := range [][]haircut.Item{nil, full, append(slices.Clone(full), above), {above}} {
		for _, need := range noAmounts {
			wantOver(t, parts(unit, unit), need, l, api.ErrArg)
		}
		for _, n := range noParts {
			wantOver(t, parts(n, 0), 1000, l, api.ErrArg)
			wantOver(t, parts(0, n), 1000, l, api.ErrArg)
		}
	}
	for _, l := range [][]haircut.Item{append(slices.Clone(full), above), make([]haircut.Item, 65), make([]haircut.Item, 70000)} {
		wantOver(t, parts(unit, unit), most, l, api.ErrLimit)
	}
	greatest := item("A", 1, most)
	greatest.Price = dearest
	for _, x := range []haircut.Item{above, greatest} {
		wantOver(t, parts(unit, unit), most, []haircut.Item{x}, api.ErrOver)
		wantOver(t, parts(0, 0), 0, append(slices.Clone(full[:63]), x), api.ErrOver)
		wantOver(t, parts(0, 0), 0, append([]haircut.Item{x}, full[:63]...), api.ErrOver)
		// With so great a haircut it isn't too much.
		x.Cut = unit - 1
		if x.Cover() <= most {
			wantOver(t, parts(unit, unit), most, []haircut.Item{x}, api.OK)
		}
	}
}

// wantGreatest wants what Greatest tells.
func wantGreatest(t *testing.T, l []haircut.Item, issuer, part int, wantE api.Errno) {
	t.Helper()
	if n, m, e := limit.Greatest(l); n != issuer || m != part || e != wantE {
		t.Errorf("Greatest(%.200s) = %d, %d, %d; want %d, %d, %d", fmt.Sprint(l), n, m, e, issuer, part, wantE)
	}
}

// P16.4: the issuer whose items cover most together, of several the least number, and its part, cut down.
func TestGreatest(t *testing.T) {
	wantGreatest(t, []haircut.Item{item("A", 1, 400), item("B", 2, 600)}, 2, 600000, api.OK)
	wantGreatest(t, []haircut.Item{item("A", 1, 300), item("B", 2, 500), item("C", 1, 300)}, 1, 545454, api.OK)
	wantGreatest(t, []haircut.Item{item("A", 9, 5)}, 9, unit, api.OK)
	wantGreatest(t, []haircut.Item{item("A", 0, 5), item("A", 0, 7)}, 0, unit, api.OK)
	wantGreatest(t, []haircut.Item{item("A", 3, 1), item("B", 1, 1), item("C", 2, 1)}, 1, 333333, api.OK)
	wantGreatest(t, []haircut.Item{item("A", 20, 2), item("B", 3, 1), item("C", 100, 2), item("D", 3, 1)}, 3, 333333, api.OK)
	wantGreatest(t, []haircut.Item{item("A", 5, 2), item("B", -5, 2), item("C", math.MinInt, 1), item("D", -4, 2)}, -5, 285714, api.OK)
	// An issuer that covers nothing is not the greatest one, even if its number is the least.
	wantGreatest(t, []haircut.Item{item("A", 1, 0), item("B", 2, -1), item("C", 7, 1)}, 7, unit, api.OK)
	// Covers count, not quantities.
	cut := item("A", 1, 1000)
	cut.Cut = 900000
	wantGreatest(t, []haircut.Item{cut, item("B", 2, 101)}, 2, 502487, api.OK)
	// There may be many, and great ones.
	wantGreatest(t, append(slices.Repeat([]haircut.Item{item("A", 6, 1)}, 1000), item("B", 2, 999)), 6, 500250, api.OK)
	wantGreatest(t, append(slices.Repeat([]haircut.Item{item("A", 6, most)}, 8191), item("B", 2, most-1)), 6, 999877, api.OK)
	wantGreatest(t, slices.Repeat([]haircut.Item{item("A", 6, most)}, 8191), 6, unit, api.OK)
}

// P16.4: what Total tells is told; of nothing there is no greatest one.
func TestGreatestWrong(t *testing.T) {
	wantGreatest(t, nil, 0, 0, api.ErrNone)
	wantGreatest(t, []haircut.Item{}, 0, 0, api.ErrNone)
	wantGreatest(t, []haircut.Item{{}, item("A", 5, 0), item("B", 6, -1), item("C", 7, most+1)}, 0, 0, api.ErrNone)
	great := item("A", 3, most)
	great.Price = dearest
	wantGreatest(t, []haircut.Item{great}, 3, unit, api.OK)
	wantGreatest(t, []haircut.Item{great, great}, 0, 0, api.ErrOver)
	wantGreatest(t, []haircut.Item{{}, great, item("B", 2, 1), great}, 0, 0, api.ErrOver)
	wantGreatest(t, slices.Repeat([]haircut.Item{item("A", 6, most)}, 8192), 0, 0, api.ErrOver)
	// One that covers almost all there may be together, beside one of an amount.
	wantGreatest(t, []haircut.Item{great, item("B", 2, most)}, 3, 999767, api.OK)
}

// model is a table once more: all that was added and not taken again, one by one, in lists.
type model struct {
	need, issuerLimit, assetLimit int
	rows                          []haircut.Item
}

// covers tells what an issuer, and a security, cover.
func (m *model) covers(a api.Asset) (int, int) {
	byIssuer, byAsset := 0, 0
	for _, x := range m.rows {
		if x.Asset.Issuer == a.Issuer {
			byIssuer += x.Lot.Qty
		}
		if x.Asset.ISIN == a.ISIN {
			byAsset += x.Lot.Qty
		}
	}
	return byIssuer, byAsset
}

// add adds a cover, or takes one, if it can.
func (m *model) add(a api.Asset, cover int) api.Errno {
	byIssuer, byAsset := m.covers(a)
	switch {
	case cover > 0 && (byIssuer+cover > m.issuerLimit || byAsset+cover > m.assetLimit):
		return api.ErrConc
	case byIssuer+cover < 0 || byAsset+cover < 0:
		return api.ErrFunds
	}
	m.rows = append(m.rows, item(a.ISIN, a.Issuer, cover))
	return api.OK
}

// uses tells all uses among so many issuers and securities.
func (m *model) uses(issuers, assets int) []limit.Use {
	var l []limit.Use
	for i := range issuers {
		if n, _ := m.covers(of("?", i)); n > 0 {
			l = append(l, issuer(i, n, m.issuerLimit))
		}
	}
	for i := range assets {
		if _, n := m.covers(of(number(i), -1)); n > 0 {
			l = append(l, security(number(i), n, m.assetLimit))
		}
	}
	return l
}

// number is that of a security, by rising places.
func number(i int) string { return string(rune('A' + i)) }

// P16.1 to P16.3, P16.5: covers that are added and taken by chance, held against lists; no limit is ever passed.
func TestChance(t *testing.T) {
	r := rand.New(rand.NewSource(1))
	told := map[api.Errno]int{}
	for range 300 {
		need, b := r.Intn(1<<r.Intn(51)+1), parts(r.Intn(unit+1), r.Intn(unit+1))
		m := model{need: need, issuerLimit: need * (b.Issuer / 1000) / 1000, assetLimit: need * (b.Asset / 1000) / 1000}
		b.Issuer, b.Asset = b.Issuer/1000*1000, b.Asset/1000*1000
		x := table(t, b, need)
		for range 60 {
			a := of(number(r.Intn(5)), r.Intn(4))
			cover := r.Intn(need/3 + 2)
			call, sign := x.Add, 1
			if r.Intn(3) == 0 {
				call, sign = x.Take, -1
			}
			got := call(a, cover)
			want(t, got, m.add(a, sign*cover))
			told[got]++
			byIssuer, byAsset := m.covers(a)
			wantRoom(t, x, a, min(m.issuerLimit-byIssuer, m.assetLimit-byAsset))
		}
		uses := m.uses(4, 5)
		wantUses(t, x.Uses(), uses...)
		sum := 0
		for _, u := range uses {
			if u.ISIN == "" {
				sum += u.Cover
			}
			if u.Cover > u.Limit {
				t.Error(u)
			}
		}
		wantSums(t, x, sum, max(0, need-sum))
	}
	if told[api.OK] < 3000 || told[api.ErrConc] < 1000 || told[api.ErrFunds] < 500 {
		t.Error(told)
	}
}

// P16.5: of what was added Over tells nothing; with one more of any of it, it tells what is passed.
func TestAddedIsNotOver(t *testing.T) {
	r := rand.New(rand.NewSource(2))
	passed := 0
	for range 2000 {
		need, b := r.Intn(1<<r.Intn(51)+1), parts(r.Intn(unit+1), r.Intn(unit+1))
		x := table(t, b, need)
		var l []haircut.Item
		for range r.Intn(64) {
			a := of(number(r.Intn(26)), r.Intn(6))
			cover := x.Room(a)
			if r.Intn(2) == 0 {
				cover = r.Intn(need + 1)
			}
			if x.Add(a, cover) == api.OK {
				l = append(l, item(a.ISIN, a.Issuer, cover))
			}
		}
		wantOver(t, b, need, l, api.OK)
		for i := range l {
			e := x.Add(l[i].Asset, 1)
			l[i].Lot.Qty++
			over, _ := limit.Over(b, need, l)
			if (e == api.ErrConc) != (len(over) > 0) {
				t.Fatal(need, b, l[i], e, over)
			}
			passed += min(len(over), 1)
			l[i].Lot.Qty--
			if e == api.OK {
				want(t, x.Take(l[i].Asset, 1), api.OK)
			}
		}
	}
	if passed < 1000 {
		t.Error(passed)
	}
}

// P16.5: what is added, and then taken, in any order, leaves what was.
func TestAddedAndTaken(t *testing.T) {
	r := rand.New(rand.NewSource(3))
	for range 500 {
		x := table(t, parts(700000, 300000), r.Intn(1<<r.Intn(51)+1))
		type step struct {
			a     api.Asset
			cover int
		}
		add := func(n int) []step {
			var done []step
			for range n {
				s := step{of(number(r.Intn(8)), r.Intn(3)), 0}
				s.cover = r.Intn(x.Room(s.a) + 1)
				want(t, x.Add(s.a, s.cover), api.OK)
				done = append(done, s)
			}
			return done
		}
		add(r.Intn(5))
		uses, sum, open := x.Uses(), x.Sum(), x.Open()
		done := add(10)
		r.Shuffle(len(done), func(i, j int) { done[i], done[j] = done[j], done[i] })
		for _, s := range done {
			want(t, x.Take(s.a, s.cover), api.OK)
		}
		wantUses(t, x.Uses(), uses...)
		wantSums(t, x, sum, open)
	}
}

// Tables stand apart from each other, and from what the basket becomes behind New.
func TestApart(t *testing.T) {
	b := parts(unit, 500000)
	x, y := table(t, b, 100), table(t, b, 100)
	b.Issuer, b.Asset = 0, 0
	want(t, x.Add(of("A", 1), 50), api.OK)
	wantUses(t, y.Uses())
	wantRoom(t, y, of("A", 1), 50)
	want(t, y.Add(of("A", 1), 20), api.OK)
	wantUses(t, x.Uses(), issuer(1, 50, 100), security("A", 50, 50))
}

// Lists that are handed in are not changed, nor is the room behind them; those that are told are new ones.
func TestMemory(t *testing.T) {
	items := []haircut.Item{item("B", 2, 50), item("A", 1, 90), item("A", 1, -1), item("C", 3, 5), item("D", 0, most)}
	b := parts(100000, 100000)
	b.Cuts, b.Barred = []api.Cut{{Days: 5}, {Days: 6}}, []int{1, 2, 3}
	l, c := slices.Clone(items), b
	c.Cuts, c.Barred = slices.Clone(b.Cuts), slices.Clone(b.Barred)
	x := table(t, b, 1000)
	for n := range items {
		limit.Over(b, 100, items[:n])
		limit.Greatest(items[:n])
		x.Add(items[n].Asset, items[n].Lot.Qty)
	}
	if !slices.Equal(l, items) || !reflect.DeepEqual(b, c) {
		t.Error(items, b)
	}
	uses := x.Uses()
	told := slices.Clone(uses)
	clear(uses[:cap(uses)])
	wantUses(t, x.Uses(), told...)
	over, _ := limit.Over(b, 100, items[:2])
	told = slices.Clone(over)
	clear(over)
	wantOver(t, b, 100, items[:2], api.OK, told...)
}

// loose is a text over bytes that can be spoilt behind a call.
func loose(s string) ([]byte, string) {
	bytes := []byte(s)
	return bytes, unsafe.String(&bytes[0], len(bytes))
}

// Texts that were handed in may become anything: neither a table nor an answer hangs on their bytes, whether they were new to it or not.
func TestTexts(t *testing.T) {
	number := strings.Repeat("US0378331005", 3)
	x := table(t, parts(unit, unit), 1000)
	for range 4 {
		bytes, s := loose(number)
		want(t, x.Add(of(s, 1), 10), api.OK)
		clear(bytes)
		bytes, s = loose(number)
		want(t, x.Take(of(s, 1), 3), api.OK)
		clear(bytes)
	}
	wantUses(t, x.Uses(), issuer(1, 28, 1000), security(number, 28, 1000))
	wantRoom(t, x, of(number, 1), 972)
	bytes, s := loose(number)
	over, e := limit.Over(parts(unit, 0), 9, []haircut.Item{item(s, 1, 5)})
	clear(bytes)
	want(t, e, api.OK)
	wantUses(t, over, security(number, 5, 0))
	seen := map[*byte]bool{}
	for range 3 {
		for _, u := range x.Uses() {
			if u.ISIN == "" {
				continue
			}
			if p := unsafe.StringData(u.ISIN); seen[p] {
				t.Error("a text that was told before")
			} else {
				seen[p] = true
			}
		}
	}
	if len(seen) != 3 {
		t.Error(len(seen))
	}
}

// What is told doesn't hang on the order in which things came, but for what the chapter says.
func TestOrder(t *testing.T) {
	r := rand.New(rand.NewSource(4))
	var l []haircut.Item
	for i := range 40 {
		l = append(l, item(number(i%20), i%7, 1+i%3))
	}
	over, e := limit.Over(parts(100000, 30000), 90, l)
	want(t, e, api.OK)
	n, part, e := limit.Greatest(l)
	want(t, e, api.OK)
	for range 50 {
		r.Shuffle(len(l), func(i, j int) { l[i], l[j] = l[j], l[i] })
		wantOver(t, parts(100000, 30000), 90, l, api.OK, over...)
		wantGreatest(t, l, n, part, api.OK)
	}
	if len(over) < 5 {
		t.Error(over)
	}
}
