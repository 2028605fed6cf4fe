package lots_test

import (
	"fmt"
	"maps"
	"math"
	"math/rand"
	"reflect"
	"slices"
	"strings"
	"testing"
	"unsafe"

	"lombard/api"
	"lombard/asset"
	"lombard/basket"
	"lombard/haircut"
	"lombard/lots"
)

const (
	// greatest is the most that a lot has, unit is that of prices.
	greatest = 1 << 50
	unit     = 1000000

	apple = "US0378331005"
	sap   = "DE0007164600"
	glaxo = "GB0002634946"
)

var (
	noQtys = []int{math.MinInt, -greatest, -1, 0, greatest + 1, 1 << 60, math.MaxInt}
	noDays = []int{math.MinInt, -1, 200001, math.MaxInt}
)

// lot is so many of a security.
func lot(number string, qty int) api.Lot { return api.Lot{ISIN: number, Qty: qty} }

// list is lots written as a number, and how many, by turns.
func list(words ...any) []api.Lot {
	var l []api.Lot
	for i := 0; i < len(words); i += 2 {
		l = append(l, lot(words[i].(string), words[i+1].(int)))
	}
	return l
}

// number is the i-th of rising numbers.
func number(i int) string { return fmt.Sprintf("N%05d", i) }

// row is so many securities, each as often.
func row(n, qty int) []api.Lot {
	var l []api.Lot
	for i := range n {
		l = append(l, lot(number(i), qty))
	}
	return l
}

// short is an argument as it is told.
func short(args ...any) string {
	s := fmt.Sprint(args...)
	return s[:min(len(s), 300)]
}

// wantLots wants lots, and an error.
func wantLots(t *testing.T, got []api.Lot, e api.Errno, want []api.Lot, wantE api.Errno) {
	t.Helper()
	if !slices.Equal(got, want) || e != wantE {
		t.Errorf("%s, %d; want %s, %d", short(got), e, short(want), wantE)
	}
}

// wantCheck wants what Check tells.
func wantCheck(t *testing.T, l []api.Lot, want int, wantE api.Errno) {
	t.Helper()
	if n, e := lots.Check(l); n != want || e != wantE {
		t.Errorf("Check(%s) = %d, %d; want %d, %d", short(l), n, e, want, wantE)
	}
}

// wantMerge wants what Merge tells.
func wantMerge(t *testing.T, l, want []api.Lot, wantE api.Errno) {
	t.Helper()
	got, e := lots.Merge(l)
	wantLots(t, got, e, want, wantE)
}

// wantPlus wants what Plus tells.
func wantPlus(t *testing.T, a, b, want []api.Lot, wantE api.Errno) {
	t.Helper()
	got, e := lots.Plus(a, b)
	wantLots(t, got, e, want, wantE)
}

// wantMinus wants what Minus tells, and that Has tells the same.
func wantMinus(t *testing.T, a, b, want []api.Lot, wantE api.Errno) {
	t.Helper()
	got, e := lots.Minus(a, b)
	wantLots(t, got, e, want, wantE)
	if has := lots.Has(a, b); has != (wantE == api.OK) {
		t.Errorf("Has(%s, %s) = %v", short(a), short(b), has)
	}
}

// wantBoth wants what Both tells, from either side.
func wantBoth(t *testing.T, a, b, want []api.Lot) {
	t.Helper()
	wantLots(t, lots.Both(a, b), api.OK, want, api.OK)
	wantLots(t, lots.Both(b, a), api.OK, want, api.OK)
}

// The chapter's example.
func TestExample(t *testing.T) {
	wantPlus(t, list("A", 5, "B", 2), list("A", 1, "C", 4), list("A", 6, "B", 2, "C", 4), api.OK)
	wantMinus(t, list("A", 6, "B", 2, "C", 4), list("B", 2), list("A", 6, "C", 4), api.OK)
}

// P17.1: up to 64 lots, each of 1 to 2^50, by rising bytes of their numbers; texts that are no security's number are taken, too.
func TestCheck(t *testing.T) {
	wantCheck(t, nil, 0, api.OK)
	wantCheck(t, []api.Lot{}, 0, api.OK)
	wantCheck(t, list(sap, 1), 1, api.OK)
	wantCheck(t, list("", greatest), 1, api.OK)
	wantCheck(t, list(sap, 1, glaxo, greatest, apple, 7), 3, api.OK)
	wantCheck(t, list("", 1, "\x00", 1, "1", 1, "10", 1, "9", 1, "A", 1, "A\x00", 1, "AA", 1, "B", 1, "a", 1, "é", 1, "\xff", 1), 12, api.OK)
	for n := range 65 {
		wantCheck(t, row(n, greatest), n, api.OK)
	}
	for _, n := range []int{65, 66, 128, 70000} {
		wantCheck(t, row(n, 1), 0, api.ErrLimit)
	}
}

// P17.1: the first lot that is wrong is told, and of what is wrong with it the quantity first; that there are too many lots comes ahead of all.
func TestCheckWrong(t *testing.T) {
	for _, qty := range noQtys {
		for i := range 64 {
			l := row(64, 1)
			l[i].Qty = qty
			wantCheck(t, l, i, api.ErrArg)
			// A number that doesn't rise is told behind it, even of the same lot, but ahead of what is behind.
			l[63].ISIN = l[0].ISIN
			wantCheck(t, l, i, api.ErrArg)
			if i > 0 {
				l[i].ISIN = l[i-1].ISIN
				wantCheck(t, l, i, api.ErrArg)
			}
			if i > 1 {
				l[i-1].ISIN = l[i-2].ISIN
				wantCheck(t, l, i-1, api.ErrTwice)
			}
		}
		wantCheck(t, append(row(64, 1), lot("Z", qty)), 0, api.ErrLimit)
		wantCheck(t, slices.Repeat(list("A", qty), 65), 0, api.ErrLimit)
		wantCheck(t, slices.Repeat(list("A", qty), 64), 0, api.ErrArg)
	}
	for i := 1; i < 64; i++ {
		for _, ahead := range []int{1, i} {
			l := row(64, 1)
			l[i].ISIN = l[i-ahead].ISIN
			wantCheck(t, l, i, api.ErrTwice)
		}
	}
	for _, pair := range [][2]string{{"B", "A"}, {"a", "A"}, {"AA", "A"}, {"9", "10"}, {"A", ""}, {"", ""}, {"\xff", "é"}, {sap, sap}, {apple, sap}} {
		wantCheck(t, list(pair[0], 1, pair[1], 1), 1, api.ErrTwice)
		wantCheck(t, list(pair[0], 1, pair[1], 1, "", 0), 1, api.ErrTwice)
	}
	wantCheck(t, slices.Repeat(list("A", 1), 65), 0, api.ErrLimit)
}

// P17.1: lots in any order become a list, those of one security put together.
func TestMerge(t *testing.T) {
	wantMerge(t, nil, nil, api.OK)
	wantMerge(t, []api.Lot{}, nil, api.OK)
	wantMerge(t, list("B", 3, "A", 1, "B", 4), list("A", 1, "B", 7), api.OK)
	wantMerge(t, list("A", 1), list("A", 1), api.OK)
	wantMerge(t, list("C", 1, "B", 2, "A", 3), list("A", 3, "B", 2, "C", 1), api.OK)
	wantMerge(t, list("\xff", 1, "é", 1, "a", 1, "B", 1, "AA", 1, "A", 1, "9", 1, "10", 1, "", 1, "", 1), list("", 2, "10", 1, "9", 1, "A", 1, "AA", 1, "B", 1, "a", 1, "é", 1, "\xff", 1), api.OK)
	// As much as there may be of each, and as many as there may be.
	wantMerge(t, list("A", greatest-1, "B", greatest, "A", 1), list("A", greatest, "B", greatest), api.OK)
	full := row(64, greatest)
	slices.Reverse(full)
	wantMerge(t, full, row(64, greatest), api.OK)
	wantMerge(t, slices.Repeat(row(64, 3), 1000), row(64, 3000), api.OK)
	wantMerge(t, slices.Repeat(list("A", 1<<40), 1024), list("A", greatest), api.OK)
}

// P17.1: the first lot that can't be put to those ahead of it tells the error.
func TestMergeWrong(t *testing.T) {
	for _, qty := range noQtys {
		wantMerge(t, list("A", qty), nil, api.ErrArg)
		wantMerge(t, list("A", 5, "B", 2, "A", qty), nil, api.ErrArg)
		wantMerge(t, list("A", qty, "A", -qty), nil, api.ErrArg)
		// Of one lot: it is told ahead of the others.
		wantMerge(t, append(row(64, 1), lot("Z", qty)), nil, api.ErrArg)
		wantMerge(t, list("A", greatest, "A", qty), nil, api.ErrArg)
		// Of several lots: that of the first one.
		wantMerge(t, append(row(65, 1), lot("A", qty)), nil, api.ErrLimit)
		wantMerge(t, list("A", greatest, "A", 1, "B", qty), nil, api.ErrOver)
	}
	for i := range 64 {
		wantMerge(t, append(row(64, 1), lot(number(i), 1), lot("Z", 1)), nil, api.ErrLimit)
		wantMerge(t, append(row(64, 1), lot(number(i), greatest)), nil, api.ErrOver)
		wantMerge(t, append(row(64, 1), lot(number(i), greatest), lot("Z", 1)), nil, api.ErrOver)
		wantMerge(t, append(row(64, 1), lot("Z", 1), lot(number(i), greatest)), nil, api.ErrLimit)
		sum := row(64, 1)
		sum[i].Qty = greatest
		wantMerge(t, append(row(64, 1), lot(number(i), greatest-1)), sum, api.OK)
	}
	for _, z := range []string{"", "A", "N00031x", "Z"} {
		wantMerge(t, append(row(64, 1), lot(z, 1)), nil, api.ErrLimit)
		wantMerge(t, append(row(64, 1), lot(z, greatest)), nil, api.ErrLimit)
	}
	wantMerge(t, row(70000, 1), nil, api.ErrLimit)
	wantMerge(t, list("A", greatest, "A", greatest), nil, api.ErrOver)
	wantMerge(t, list("A", 1, "B", greatest, "A", greatest), nil, api.ErrOver)
	wantMerge(t, append(slices.Repeat(list("A", 1<<40), 1024), lot("A", 1)), nil, api.ErrOver)
	wantMerge(t, slices.Repeat(list("A", greatest), 70000), nil, api.ErrOver)
}

// merged is the chapter's words of Merge once more, by maps.
func merged(l []api.Lot) ([]api.Lot, api.Errno) {
	sums := map[string]int{}
	for _, x := range l {
		if x.Qty < 1 || x.Qty > greatest {
			return nil, api.ErrArg
		}
		sums[x.ISIN] += x.Qty
		if len(sums) > 64 {
			return nil, api.ErrLimit
		}
		if sums[x.ISIN] > greatest {
			return nil, api.ErrOver
		}
	}
	return listed(sums), api.OK
}

// listed is a list of what is above 0.
func listed(sums map[string]int) []api.Lot {
	var l []api.Lot
	for _, n := range slices.Sorted(maps.Keys(sums)) {
		if sums[n] > 0 {
			l = append(l, lot(n, sums[n]))
		}
	}
	return l
}

// anyLots is lots by chance, in any order, now and then one that may not be.
func anyLots(r *rand.Rand, most, numbers int) []api.Lot {
	var l []api.Lot
	for range r.Intn(most + 1) {
		qty := 1 + r.Intn(1<<r.Intn(51))
		if r.Intn(500) == 0 {
			qty = noQtys[r.Intn(len(noQtys))]
		}
		l = append(l, lot(number(r.Intn(numbers)), qty))
	}
	return l
}

// anyList is a list by chance.
func anyList(r *rand.Rand, most, numbers int) []api.Lot {
	sums := map[string]int{}
	for range r.Intn(most + 1) {
		sums[number(r.Intn(numbers))] = 1 + r.Intn(1<<r.Intn(51))
	}
	return listed(sums)
}

// P17.1: lots by chance, held against a second reckoning; what Merge makes, Check takes, and merged again it stays.
func TestMergeChance(t *testing.T) {
	r := rand.New(rand.NewSource(1))
	told := map[api.Errno]int{}
	for range 5000 {
		l := anyLots(r, 150, 1+r.Intn(150))
		want, wantE := merged(l)
		wantMerge(t, l, want, wantE)
		told[wantE]++
		if wantE == api.OK {
			wantCheck(t, want, len(want), api.OK)
			wantMerge(t, want, want, api.OK)
		}
	}
	if told[api.OK] < 1000 || told[api.ErrArg] < 100 || told[api.ErrLimit] < 100 || told[api.ErrOver] < 100 {
		t.Error(told)
	}
}

// P17.2: how many there are of a security, and 0 of one that isn't there.
func TestQty(t *testing.T) {
	l := list("", 3, "A", 5, "AB", greatest, "B", 1, "é", 7)
	for _, x := range l {
		if n := lots.Qty(l, x.ISIN); n != x.Qty {
			t.Error(x, n)
		}
	}
	for _, z := range []string{"a", "ABC", "A ", "\x00", "\xff", "BB", "e", apple, strings.Repeat("A", 5000)} {
		if n := lots.Qty(l, z); n != 0 {
			t.Error(z, n)
		}
	}
	for _, z := range []string{"", "A"} {
		if n := lots.Qty(nil, z) + lots.Qty([]api.Lot{}, z); n != 0 {
			t.Error(z, n)
		}
	}
	full := row(64, 1)
	for i := range full {
		full[i].Qty += i
	}
	for i := range full {
		if n := lots.Qty(full, number(i)); n != i+1 {
			t.Error(i, n)
		}
	}
}

// P17.2: Plus puts two lists together, with Merge's errors, those of a ahead of those of b.
func TestPlus(t *testing.T) {
	wantPlus(t, nil, nil, nil, api.OK)
	wantPlus(t, list("A", 1), nil, list("A", 1), api.OK)
	wantPlus(t, nil, list("A", 1), list("A", 1), api.OK)
	wantPlus(t, list("B", 1), list("A", 2, "B", 3, "C", 4), list("A", 2, "B", 4, "C", 4), api.OK)
	wantPlus(t, list("A", greatest-1), list("A", 1), list("A", greatest), api.OK)
	wantPlus(t, list("A", greatest), list("A", 1), nil, api.ErrOver)
	wantPlus(t, list("A", 1), list("A", greatest), nil, api.ErrOver)
	wantPlus(t, row(64, 1), row(64, 2), row(64, 3), api.OK)
	wantPlus(t, row(64, 1), nil, row(64, 1), api.OK)
	wantPlus(t, row(64, 1), list("Z", 1), nil, api.ErrLimit)
	wantPlus(t, list("Z", 1), row(64, 1), nil, api.ErrLimit)
	wantPlus(t, row(32, 1), row(64, 1)[32:], row(64, 1), api.OK)
	wantPlus(t, row(33, 1), row(65, 1)[33:], nil, api.ErrLimit)
	// Lot by lot: what comes first is told.
	over := list(number(3), greatest, "Z", 1)
	wantPlus(t, row(64, 1), over, nil, api.ErrOver)
	wantPlus(t, row(64, 1), list("A", 1, number(3), greatest), nil, api.ErrLimit)
	for _, qty := range noQtys {
		wantPlus(t, list("A", 1), list("A", qty), nil, api.ErrArg)
		wantPlus(t, list("A", qty), list("A", 1), nil, api.ErrArg)
		wantPlus(t, list("A", qty), nil, nil, api.ErrArg)
		wantPlus(t, nil, list("A", qty), nil, api.ErrArg)
		wantPlus(t, list("A", greatest), list("A", 1, "B", qty), nil, api.ErrOver)
		wantPlus(t, list("A", greatest, "B", qty), list("A", 1), nil, api.ErrArg)
	}
	// As Merge of both, whatever they are.
	wantPlus(t, list("C", 1, "A", 2, "C", 3), list("B", 4, "A", 5), list("A", 7, "B", 4, "C", 4), api.OK)
}

// P17.2: Minus takes away what is there, to the last one, and leaves the others as they were.
func TestMinus(t *testing.T) {
	a := list("A", 5, "B", 2, "C", greatest)
	wantMinus(t, nil, nil, nil, api.OK)
	wantMinus(t, a, nil, a, api.OK)
	wantMinus(t, a, a, nil, api.OK)
	wantMinus(t, a, list("A", 5), list("B", 2, "C", greatest), api.OK)
	wantMinus(t, a, list("A", 4), list("A", 1, "B", 2, "C", greatest), api.OK)
	wantMinus(t, a, list("B", 1, "C", greatest), list("A", 5, "B", 1), api.OK)
	wantMinus(t, a, list("A", 1, "B", 1, "C", 1), list("A", 4, "B", 1, "C", greatest-1), api.OK)
	wantMinus(t, row(64, 2), row(64, 1), row(64, 1), api.OK)
	wantMinus(t, row(64, 2), row(64, 2), nil, api.OK)
	wantMinus(t, row(64, 2), row(63, 2), row(64, 2)[63:], api.OK)
}

// P17.2: what isn't there, or not in such a number, can't be taken away, and then nothing is told.
func TestMinusLacking(t *testing.T) {
	a := list("A", 5, "C", 2)
	for _, b := range [][]api.Lot{
		list("A", 6), list("C", 3), list("A", greatest), list("A", math.MaxInt), list("B", 1), list("", 1), list("D", 1), list("a", 1), list("A ", 1),
		list("A", 5, "C", 3), list("A", 6, "C", 2), list("A", 1, "B", 1), list("A", 1, "B", 1, "C", 1), list("A", 1, "C", 1, "D", 1), row(64, 1), row(65, 1),
	} {
		wantMinus(t, a, b, nil, api.ErrFunds)
		wantMinus(t, nil, b, nil, api.ErrFunds)
		wantMinus(t, []api.Lot{}, b, nil, api.ErrFunds)
	}
	for i := range 64 {
		b := row(64, 2)
		b[i].Qty = 3
		wantMinus(t, row(64, 2), b, nil, api.ErrFunds)
		b = row(64, 2)
		b[i].ISIN += "x"
		wantMinus(t, row(64, 2), b, nil, api.ErrFunds)
	}
}

// P17.2: of what is in both lists the lesser number.
func TestBoth(t *testing.T) {
	wantBoth(t, nil, nil, nil)
	wantBoth(t, nil, list("A", 1), nil)
	wantBoth(t, list("A", 5, "B", 2), list("A", 1, "C", 4), list("A", 1))
	wantBoth(t, list("A", 5, "C", 2), list("B", 5, "D", 2), nil)
	wantBoth(t, list("A", 5, "B", 2, "C", 7), list("A", 4, "B", 3, "C", 7), list("A", 4, "B", 2, "C", 7))
	wantBoth(t, list("", 1, "A", greatest), list("", greatest, "A", 1), list("", 1, "A", 1))
	wantBoth(t, list("A", 1, "Z", 1), list("Z", 2), list("Z", 1))
	wantBoth(t, row(64, 9), row(64, 8), row(64, 8))
	wantBoth(t, row(64, 9), row(64, 9)[60:], row(64, 9)[60:])
}

// sums is how many there are of each security.
func sums(l []api.Lot) map[string]int {
	m := map[string]int{}
	for _, x := range l {
		m[x.ISIN] += x.Qty
	}
	return m
}

// P17.2: lists by chance, held against a second reckoning by all numbers.
func TestListsChance(t *testing.T) {
	r := rand.New(rand.NewSource(2))
	lacking := 0
	for range 5000 {
		numbers := 1 + r.Intn(90)
		a, b := anyList(r, 64, numbers), anyList(r, 1+r.Intn(64), numbers)
		if r.Intn(2) == 0 {
			b = lots.Both(a, b)
		}
		sumA, sumB := sums(a), sums(b)
		rest, both, e := map[string]int{}, map[string]int{}, api.OK
		for i := range numbers {
			n := number(i)
			rest[n], both[n] = sumA[n]-sumB[n], min(sumA[n], sumB[n])
			if rest[n] < 0 {
				e = api.ErrFunds
			}
			if lots.Qty(a, n) != sumA[n] {
				t.Error(a, n)
			}
		}
		want := listed(rest)
		if e != api.OK {
			want = nil
			lacking++
		}
		wantMinus(t, a, b, want, e)
		wantBoth(t, a, b, listed(both))
		want, e = merged(slices.Concat(a, b))
		wantPlus(t, a, b, want, e)
	}
	if lacking < 1000 || lacking > 4000 {
		t.Error(lacking)
	}
}

// P17.5: what is added, and taken away, leaves what was; what is taken away, and added, too.
func TestAddedAndTaken(t *testing.T) {
	r := rand.New(rand.NewSource(3))
	done := 0
	for range 5000 {
		a, b := anyList(r, 40, 80), anyList(r, 40, 80)
		if sum, e := lots.Plus(a, b); e == api.OK {
			done++
			wantCheck(t, sum, len(sum), api.OK)
			wantMinus(t, sum, b, a, api.OK)
			wantMinus(t, sum, a, b, api.OK)
			wantPlus(t, b, a, sum, api.OK)
		}
		both := lots.Both(a, b)
		wantCheck(t, both, len(both), api.OK)
		rest, e := lots.Minus(a, both)
		if e != api.OK {
			t.Fatal(a, both, e)
		}
		wantCheck(t, rest, len(rest), api.OK)
		wantPlus(t, rest, both, a, api.OK)
		wantBoth(t, rest, nil, nil)
	}
	if done < 1000 {
		t.Error(done)
	}
}

// item is one of a lot with a haircut, and an end; its quantity tells it from those alike.
func item(number string, cut, maturity, qty int) haircut.Item {
	return haircut.Item{Lot: lot(number, qty), Asset: api.Asset{Maturity: maturity}, Cut: cut}
}

// wantRank wants what Rank tells, and that Worst tells the last one.
func wantRank(t *testing.T, l []haircut.Item, want ...haircut.Item) {
	t.Helper()
	if got := lots.Rank(l); !slices.Equal(got, want) {
		t.Errorf("Rank(%s) = %s; want %s", short(l), short(got), short(want))
	}
	var last haircut.Item
	if len(want) > 0 {
		last = want[len(want)-1]
	}
	if x, ok := lots.Worst(l); x != last || ok != (len(want) > 0) {
		t.Errorf("Worst(%s) = %v, %v; want %v", short(l), x, ok, last)
	}
}

// wantEither wants ranked items to stay so, and to become so from their last one on.
func wantEither(t *testing.T, ranked []haircut.Item) {
	t.Helper()
	back := slices.Clone(ranked)
	slices.Reverse(back)
	wantRank(t, ranked, ranked...)
	wantRank(t, back, ranked...)
}

// P17.3: the haircut counts first, then the end, then the lot's number; each is held against the others by all its bits.
func TestRank(t *testing.T) {
	wantRank(t, nil)
	wantRank(t, []haircut.Item{})
	wantRank(t, []haircut.Item{{}}, haircut.Item{})
	a, b := item("B", 1, 9, 0), item("A", 2, 8, 0)
	wantRank(t, []haircut.Item{a, b}, a, b)
	wantRank(t, []haircut.Item{b, a}, a, b)
	c := item("C", 1, 8, 0)
	wantRank(t, []haircut.Item{a, b, c}, c, a, b)
	d := item("A", 1, 9, 0)
	wantRank(t, []haircut.Item{a, b, c, d}, c, d, a, b)
	var cuts, ends []haircut.Item
	for i, n := range []int{math.MinInt, math.MinInt + 1, -unit, -1, 0, 1, 9, 10, unit, math.MaxInt - 1, math.MaxInt} {
		cuts = append(cuts, item(number(99-i), n, 99-i, 99-i))
		ends = append(ends, item(number(99-i), 7, n, 99-i))
	}
	wantEither(t, cuts)
	wantEither(t, ends)
	var numbers []haircut.Item
	for _, s := range []string{"", "\x00", "10", "9", "A", "A\x00", "AA", "B", "a", "é", "\xff"} {
		numbers = append(numbers, item(s, 5, 5, 5))
	}
	wantEither(t, numbers)
}

// P17.3: nothing else counts: what is alike stays as it was, and the last one of all alike is the worst.
func TestRankAlike(t *testing.T) {
	x := haircut.Item{Lot: lot("A", 9), Asset: api.Asset{ISIN: "Z", Issuer: 9, Rating: 9, Maturity: 5, Currency: "USD"}, Price: 9, Cut: 5}
	y := haircut.Item{Lot: lot("A", 1), Asset: api.Asset{ISIN: "B", Issuer: 1, Rating: 1, Maturity: 5, Currency: "EUR"}, Price: 1, Cut: 5}
	wantRank(t, []haircut.Item{x, y}, x, y)
	wantRank(t, []haircut.Item{y, x}, y, x)
	wantRank(t, []haircut.Item{x, y, x}, x, y, x)
	// It goes by the lot's number, not by the asset's.
	y.Lot.ISIN = "B"
	y.Asset.ISIN, x.Asset.ISIN = "A", "B"
	wantRank(t, []haircut.Item{y, x}, x, y)
	var l []haircut.Item
	for i := range 1000 {
		l = append(l, item("A", 5, 5, i))
	}
	wantRank(t, l, l...)
	var mixed, want []haircut.Item
	for i := range 3000 {
		mixed = append(mixed, item("A", i%3, 5, i))
	}
	for cut := range 3 {
		for i := range 1000 {
			want = append(want, item("A", cut, 5, 3*i+cut))
		}
	}
	wantRank(t, mixed, want...)
}

// P17.3: items by chance: the same ones, none ahead of one that should be ahead of it.
func TestRankChance(t *testing.T) {
	r := rand.New(rand.NewSource(4))
	for range 500 {
		var l []haircut.Item
		for i := range r.Intn(100) {
			l = append(l, item(number(r.Intn(4)), r.Intn(4), r.Intn(4), i))
		}
		// The quantity is the place that each had: by it all are told apart, and those alike put in order.
		want := slices.Clone(l)
		for i := range want {
			for j := i; j > 0; j-- {
				a, b := want[j-1], want[j]
				behind := a.Cut > b.Cut || a.Cut == b.Cut && (a.Asset.Maturity > b.Asset.Maturity || a.Asset.Maturity == b.Asset.Maturity && a.Lot.ISIN > b.Lot.ISIN)
				if !behind {
					break
				}
				want[j-1], want[j] = b, a
			}
		}
		wantRank(t, l, want...)
	}
}

// wantOf wants what Of tells.
func wantOf(t *testing.T, l []haircut.Item, want []api.Lot, wantE api.Errno) {
	t.Helper()
	got, e := lots.Of(l)
	wantLots(t, got, e, want, wantE)
}

// items is an item of each lot; what else it is doesn't count.
func items(l []api.Lot) []haircut.Item {
	var out []haircut.Item
	for i, x := range l {
		out = append(out, haircut.Item{Lot: x, Asset: api.Asset{ISIN: "X", Maturity: -i}, Cut: -i})
	}
	return out
}

// P17.3: the lots of items, as Merge has them, with its errors.
func TestOf(t *testing.T) {
	wantOf(t, nil, nil, api.OK)
	wantOf(t, items(list("B", 3, "A", 1, "B", 4)), list("A", 1, "B", 7), api.OK)
	wantOf(t, items(row(64, greatest)), row(64, greatest), api.OK)
	wantOf(t, items(row(65, 1)), nil, api.ErrLimit)
	wantOf(t, items(list("A", greatest, "A", 1)), nil, api.ErrOver)
	wantOf(t, []haircut.Item{{}}, nil, api.ErrArg)
	for _, qty := range noQtys {
		wantOf(t, items(list("A", 1, "B", qty)), nil, api.ErrArg)
		wantOf(t, items(list("A", greatest, "A", 1, "B", qty)), nil, api.ErrOver)
	}
	r := rand.New(rand.NewSource(5))
	for range 2000 {
		l := anyLots(r, 90, 1+r.Intn(150))
		want, wantE := merged(l)
		wantOf(t, items(l), want, wantE)
	}
}

// rules take securities in EUR rated up to 5 with 30 to 500 days left, but for the issuer 66, at two haircuts; of those rated 5 they tell a haircut for up to 100 days alone.
func rules() api.Basket {
	return api.Basket{ID: 4, Version: 1, Currency: "EUR", Rating: 5, Least: 30, Most: 500, Barred: []int{66}, Issuer: unit, Asset: unit,
		Cuts: []api.Cut{{Days: 100, Rating: 5, Cut: 20000}, {Days: 500, Rating: 4, Cut: 10000}}}
}

// bookOf makes a book of securities with prices.
func bookOf(t *testing.T, l ...api.Asset) *asset.Book {
	t.Helper()
	k := asset.New()
	for i, a := range l {
		if e := k.Add(a); e != api.OK {
			t.Fatal(a, e)
		}
		if _, e := k.Set([]api.Price{{ISIN: a.ISIN, Price: unit + i}}); e != api.OK {
			t.Fatal(a, e)
		}
	}
	return k
}

// bond and note are securities that the rules take: bond up to the day 170 (at 10000 up to the day 99), note up to the day 60.
var (
	bond = api.Asset{ISIN: sap, Issuer: 3, Rating: 2, Maturity: 200, Currency: "EUR"}
	note = api.Asset{ISIN: glaxo, Issuer: 4, Rating: 5, Maturity: 90, Currency: "EUR"}
)

// wantEligible wants what Eligible tells, and that it changes nothing.
func wantEligible(t *testing.T, k *asset.Book, b api.Basket, l []api.Lot, day int, want []haircut.Item, wantOthers []api.Lot) {
	t.Helper()
	assets, prices, was := k.All(), k.Prices(), slices.Clone(l)
	got, others := lots.Eligible(k, b, l, day)
	if !slices.Equal(got, want) || !slices.Equal(others, wantOthers) {
		t.Errorf("Eligible(%s) = %s, %s; want %s, %s", short(b, l, day), short(got), short(others), short(want), short(wantOthers))
	}
	if !slices.Equal(assets, k.All()) || !slices.Equal(prices, k.Prices()) || !slices.Equal(l, was) {
		t.Error("something has changed")
	}
}

// P17.4: those that the basket takes, ranked, each as Find tells it; and all others as they were.
func TestEligible(t *testing.T) {
	k := bookOf(t, bond, note)
	one := func(qty int) haircut.Item {
		return haircut.Item{Lot: lot(sap, qty), Asset: bond, Price: unit, Cut: 10000}
	}
	two := func(qty int) haircut.Item {
		return haircut.Item{Lot: lot(glaxo, qty), Asset: note, Price: unit + 1, Cut: 20000}
	}
	wantEligible(t, k, rules(), nil, 0, nil, nil)
	wantEligible(t, k, rules(), []api.Lot{}, 0, nil, nil)
	wantEligible(t, k, rules(), list(glaxo, 5, sap, 7), 0, []haircut.Item{one(7), two(5)}, nil)
	wantEligible(t, k, rules(), list(sap, 7, glaxo, 5), 0, []haircut.Item{one(7), two(5)}, nil)
	wantEligible(t, k, rules(), list(apple, 2), 0, nil, list(apple, 2))
	wantEligible(t, k, rules(), list("x", 9, glaxo, 5, apple, 2, sap, 7, "", 1), 0, []haircut.Item{one(7), two(5)}, list("x", 9, apple, 2, "", 1))
	// Lots need not be a list: what is alike stays in order, on both sides, and none is put together.
	wantEligible(t, k, rules(), list(glaxo, 5, "x", 3, sap, 7, sap, greatest, "x", 1, glaxo, 1, sap, 0), 0,
		[]haircut.Item{one(7), one(greatest), one(0), two(5), two(1)}, list("x", 3, "x", 1))
	l := slices.Repeat(list(glaxo, 1, "x", 2, sap, 3), 5000)
	wantEligible(t, k, rules(), l, 0, slices.Concat(slices.Repeat([]haircut.Item{one(3)}, 5000), slices.Repeat([]haircut.Item{two(1)}, 5000)), slices.Repeat(list("x", 2), 5000))
}

// P17.4: of alike haircuts what ends first is ahead, and then the lesser number.
func TestEligibleRank(t *testing.T) {
	late, same := note, note
	late.ISIN, late.Maturity = sap, 91
	same.ISIN = apple
	k := bookOf(t, late, note, same)
	l := list(apple, 1, sap, 1, glaxo, 1)
	got, others := lots.Eligible(k, rules(), l, 0)
	if len(got) != 3 || got[0].Lot.ISIN != glaxo || got[1].Lot.ISIN != apple || got[2].Lot.ISIN != sap || len(others) != 0 {
		t.Error(got, others)
	}
}

// P17.4: what Find has an error of is none that the basket takes: not known, without a price, without a haircut, a quantity that may not be.
func TestEligibleFind(t *testing.T) {
	k := bookOf(t, bond)
	if e := k.Add(note); e != api.OK {
		t.Fatal(e)
	}
	wantEligible(t, k, rules(), list(glaxo, 5), 0, nil, list(glaxo, 5))
	for _, qty := range noQtys {
		if qty != 0 {
			wantEligible(t, k, rules(), list(sap, qty, "x", qty), 0, nil, list(sap, qty, "x", qty))
		}
	}
	// Fits is true of it, but there is no haircut.
	unlike := bond
	unlike.Rating = 5
	k = bookOf(t, unlike)
	if !basket.Fits(rules(), unlike, 99) {
		t.Fatal("the rules don't take it")
	}
	wantEligible(t, k, rules(), list(sap, 5), 99, nil, list(sap, 5))
	wantEligible(t, k, rules(), list(sap, 5), 100, []haircut.Item{{Lot: lot(sap, 5), Asset: unlike, Price: unit, Cut: 20000}}, nil)
	for _, none := range []*asset.Book{nil, {}, new(asset.Book), asset.New()} {
		wantEligible(t, none, rules(), list(sap, 5, "x", -1, "", 0), 0, nil, list(sap, 5, "x", -1, "", 0))
		wantEligible(t, none, rules(), nil, 0, nil, nil)
	}
}

// P17.4: what Fits is false of isn't taken, though Find has a haircut of it: by currency, rating, days left, issuer.
func TestEligibleFits(t *testing.T) {
	l := list(sap, 5)
	check := func(b api.Basket, a api.Asset, day int, fits bool) {
		t.Helper()
		k := bookOf(t, a)
		x, e := haircut.Find(k, b, l[0], day)
		if e != api.OK || basket.Fits(b, a, day) != fits {
			t.Fatal(b, a, day, e)
		}
		if fits {
			wantEligible(t, k, b, l, day, []haircut.Item{x}, nil)
		} else {
			wantEligible(t, k, b, l, day, nil, l)
		}
	}
	check(rules(), bond, 0, true)
	a := bond
	a.Currency = "USD"
	check(rules(), a, 0, false)
	a = bond
	a.Issuer = 66
	check(rules(), a, 0, false)
	a.Issuer = 65
	check(rules(), a, 0, true)
	b := rules()
	b.Rating = 1
	check(b, bond, 0, false)
	b.Rating = 2
	check(b, bond, 0, true)
	check(rules(), bond, 170, true)
	check(rules(), bond, 171, false)
	check(rules(), bond, 200, false)
	b = rules()
	b.Least = 0
	check(b, bond, 199, true)
	check(b, bond, 200, false)
	b.Most = 150
	check(b, bond, 50, true)
	check(b, bond, 49, false)
	k := bookOf(t, bond)
	for _, day := range append([]int{201, 200000}, noDays...) {
		wantEligible(t, k, rules(), l, day, nil, l)
	}
}

// P17.4, P17.5: lots by chance: those taken are the ranked items that Find and Fits take, those not are the others in order, and all are all lots together.
func TestEligibleChance(t *testing.T) {
	r := rand.New(rand.NewSource(6))
	numbers := []string{sap, glaxo, apple, "x", ""}
	taken := 0
	for range 3000 {
		k := asset.New()
		for _, n := range numbers[:3] {
			a := api.Asset{ISIN: n, Issuer: 65 + r.Intn(3), Rating: r.Intn(7), Maturity: r.Intn(700), Currency: []string{"EUR", "EUR", "USD"}[r.Intn(3)]}
			if r.Intn(8) > 0 && k.Add(a) == api.OK && r.Intn(8) > 0 {
				k.Set([]api.Price{{ISIN: n, Price: 1 + r.Intn(2*unit)}})
			}
		}
		var l []api.Lot
		for range r.Intn(12) {
			l = append(l, lot(numbers[r.Intn(5)], []int{1, 0, -1, greatest, 5, 9}[r.Intn(6)]))
		}
		day := r.Intn(300)
		var want []haircut.Item
		var others, all []api.Lot
		for _, x := range l {
			if y, e := haircut.Find(k, rules(), x, day); e == api.OK && basket.Fits(rules(), y.Asset, day) {
				want = append(want, y)
			} else {
				others = append(others, x)
			}
		}
		wantEligible(t, k, rules(), l, day, lots.Rank(want), others)
		items, rest := lots.Eligible(k, rules(), l, day)
		for _, x := range items {
			all = append(all, x.Lot)
		}
		taken += len(all)
		all = append(all, rest...)
		byAll := func(a, b api.Lot) int {
			if n := strings.Compare(a.ISIN, b.ISIN); n != 0 {
				return n
			}
			return a.Qty - b.Qty
		}
		slices.SortFunc(all, byAll)
		sorted := slices.Clone(l)
		slices.SortFunc(sorted, byAll)
		if !slices.Equal(all, sorted) {
			t.Fatal(l, items, rest)
		}
	}
	if taken < 1000 {
		t.Error(taken)
	}
}

// All calls end, and none panics, whatever lots they are given.
func TestAnyArguments(t *testing.T) {
	r := rand.New(rand.NewSource(7))
	some := func() []api.Lot {
		l := anyLots(r, 70, 4)
		for i := range l {
			if r.Intn(3) == 0 {
				l[i].Qty = noQtys[r.Intn(len(noQtys))]
			}
		}
		return l
	}
	for range 2000 {
		a, b := some(), some()
		lots.Check(a)
		lots.Qty(a, number(0))
		lots.Plus(a, b)
		_, e := lots.Minus(a, b)
		if lots.Has(a, b) != (e == api.OK) || e != api.OK && e != api.ErrFunds {
			t.Error(a, b, e)
		}
		lots.Both(a, b)
		lots.Rank(items(a))
		lots.Of(items(a))
		lots.Worst(items(a))
		lots.Eligible(nil, api.Basket{}, a, r.Int())
	}
	many := row(100000, 1)
	wantMinus(t, many, many, nil, api.OK)
	wantBoth(t, many, many, many)
}

// spoil clears lots, and the room behind them.
func spoil(l []api.Lot) { clear(l[:cap(l)]) }

// What is handed in isn't changed, nor is the room behind it; an answer is new, so that spoiling it spoils nothing else.
func TestMemory(t *testing.T) {
	all := list("A", 5, "B", 2, "C", 4, "D", 1, "E", 9, "F", 3)
	ranked := items(slices.Repeat(all, 2))
	wasAll, wasRanked := slices.Clone(all), slices.Clone(ranked)
	k := bookOf(t, bond, note)
	b := rules()
	wasB := rules()
	given := list(glaxo, 5, "x", 2, sap, 1)
	for n := range len(all) {
		l := all[:n]
		for _, other := range [][]api.Lot{nil, l, all[:1], all[1:3], list("A", 1)} {
			for _, pair := range [][2][]api.Lot{{l, other}, {other, l}} {
				sum, _ := lots.Plus(pair[0], pair[1])
				rest, _ := lots.Minus(pair[0], pair[1])
				spoil(sum)
				spoil(rest)
				spoil(lots.Both(pair[0], pair[1]))
			}
		}
		merged, _ := lots.Merge(l)
		spoil(merged)
		of, _ := lots.Of(ranked[:n])
		spoil(of)
		r := lots.Rank(ranked[:n])
		clear(r[:cap(r)])
		lots.Worst(ranked[:n])
		lots.Check(l)
		lots.Qty(l, "B")
		lots.Has(l, l)
	}
	taken, others := lots.Eligible(k, b, given, 0)
	clear(taken[:cap(taken)])
	spoil(others)
	if !slices.Equal(all, wasAll) || !slices.Equal(ranked, wasRanked) || !reflect.DeepEqual(b, wasB) || !slices.Equal(given, list(glaxo, 5, "x", 2, sap, 1)) {
		t.Error(all, ranked, b, given)
	}
	wantEligible(t, k, b, list(glaxo, 5), 0, []haircut.Item{{Lot: lot(glaxo, 5), Asset: note, Price: unit + 1, Cut: 20000}}, nil)
}

// texts keeps where the bytes of texts lie: each one may be met once.
type texts map[*byte]bool

// meet meets texts.
func (m texts) meet(t *testing.T, l ...string) {
	t.Helper()
	for _, s := range l {
		if m[unsafe.StringData(s)] {
			t.Errorf("%q lies where another text does", s)
		}
		m[unsafe.StringData(s)] = true
	}
}

// lots meets the texts of lots.
func (m texts) lots(t *testing.T, l []api.Lot) {
	t.Helper()
	for _, x := range l {
		m.meet(t, x.ISIN)
	}
}

// items meets the texts of items.
func (m texts) items(t *testing.T, l ...haircut.Item) {
	t.Helper()
	for _, x := range l {
		m.meet(t, x.Lot.ISIN, x.Asset.ISIN, x.Asset.Currency)
	}
}

// The texts of an answer lie apart from those handed in, and from each other's.
func TestTexts(t *testing.T) {
	own := func(l []api.Lot) []api.Lot {
		for i := range l {
			l[i].ISIN = strings.Clone(l[i].ISIN)
		}
		return l
	}
	k := bookOf(t, bond, note)
	a, b := own(list(sap, 5, glaxo, 6, apple, 7)), own(list(sap, 1, apple, 7))
	m := texts{}
	m.lots(t, a)
	m.lots(t, b)
	for range 2 {
		plus, _ := lots.Plus(a, b)
		minus, _ := lots.Minus(a, b)
		merged, _ := lots.Merge(slices.Concat(a, a))
		both := lots.Both(a, b)
		taken, others := lots.Eligible(k, rules(), a, 0)
		of, _ := lots.Of(taken)
		worst, ok := lots.Worst(taken)
		if len(plus) != 3 || len(minus) != 2 || len(merged) != 3 || len(both) != 2 || len(taken) != 2 || len(others) != 1 || len(of) != 2 || !ok {
			t.Fatal(plus, minus, merged, both, taken, others, of, ok)
		}
		for _, l := range [][]api.Lot{plus, minus, merged, both, others, of} {
			m.lots(t, l)
		}
		m.items(t, taken...)
		m.items(t, lots.Rank(taken)...)
		m.items(t, worst)
	}
}
