package ledger_test

import (
	"fmt"
	"math"
	"math/big"
	"math/rand"
	"slices"
	"strings"
	"testing"
	"unsafe"

	"lombard/api"
	"lombard/ledger"
)

// most is what an account has at most; the world's has at least that with a - ahead.
const most = 1 << 56

// greatest is the greatest amount of an entry, and the last book.
const greatest = 1 << 50

// longest is a thing as long as may be, by bytes (20 signs of two bytes each).
var longest = strings.Repeat("é", 20)

// acc is an account.
func acc(owner, book int, thing string) ledger.Account {
	return ledger.Account{Owner: owner, Book: book, Thing: thing}
}

// eur is an owner's account of EUR.
func eur(owner, book int) ledger.Account { return acc(owner, book, "EUR") }

// entry is an entry.
func entry(from, to ledger.Account, n int) ledger.Entry {
	return ledger.Entry{From: from, To: to, Amount: n}
}

// bal is a balance.
func bal(a ledger.Account, n int) ledger.Balance { return ledger.Balance{Account: a, Amount: n} }

// show is the beginning of what there is, for a test to tell.
func show(v any) string {
	s := strings.ToValidUTF8(fmt.Sprint(v), "?")
	return s[:min(len(s), 300)]
}

// of makes a ledger of balances that must be taken.
func of(t *testing.T, l ...ledger.Balance) *ledger.Ledger {
	t.Helper()
	x, e := ledger.Of(l)
	if x == nil || e != api.OK {
		t.Fatalf("Of(%s) = %v, %d", show(l), x != nil, e)
	}
	return x
}

// wantNone wants an error of Of, and no ledger beside it.
func wantNone(t *testing.T, e api.Errno, l ...ledger.Balance) {
	t.Helper()
	if x, got := ledger.Of(l); x != nil || got != e {
		t.Errorf("Of(%s) = %v, %d; want %d", show(l), x != nil, got, e)
	}
}

// post wants that entries are done.
func post(t *testing.T, x *ledger.Ledger, l ...ledger.Entry) {
	t.Helper()
	if n, e := x.Post(l); n != len(l) || e != api.OK {
		t.Fatalf("Post(%s) = %d, %d; want %d, 0", show(l), n, e, len(l))
	}
}

// wantStop wants that entries can't be done for that one's error, and that nothing was.
func wantStop(t *testing.T, x *ledger.Ledger, at int, e api.Errno, l ...ledger.Entry) {
	t.Helper()
	ahead := x.All()
	if n, got := x.Post(l); n != at || got != e {
		t.Errorf("Post(%s) = %d, %d; want %d, %d", show(l), n, got, at, e)
	}
	wantAll(t, x, ahead...)
}

// wantAll wants that accounts have that, and all others nothing.
func wantAll(t *testing.T, x *ledger.Ledger, l ...ledger.Balance) {
	t.Helper()
	if got := x.All(); !slices.Equal(got, l) {
		t.Errorf("All = %s; want %s", show(got), show(l))
	}
	for _, b := range l {
		if n := x.Balance(b.Account); n != b.Amount {
			t.Errorf("Balance(%s) = %d; want %d", show(b.Account), n, b.Amount)
		}
	}
}

// fault is an account that is wrong, and why.
type fault struct {
	account ledger.Account
	want    api.Errno
}

// faults are accounts that are wrong; where both errors apply, the owner's is told.
func faults() []fault {
	var l []fault
	none := []string{"", strings.Repeat("x", 41), longest + "x", strings.Repeat("x", 5000)}
	for _, owner := range []int{math.MinInt, -1 << 32, -1, 65, 1 << 32, math.MaxInt} {
		l = append(l, fault{acc(owner, 0, "EUR"), api.ErrOwner}, fault{acc(owner, greatest+1, "EUR"), api.ErrOwner})
		for _, thing := range none {
			l = append(l, fault{acc(owner, 1, thing), api.ErrOwner})
		}
	}
	for _, book := range []int{math.MinInt, -1, greatest + 1, math.MaxInt} {
		for _, owner := range []int{0, 1, 64} {
			l = append(l, fault{acc(owner, book, "EUR"), api.ErrOwner}, fault{acc(owner, book, ""), api.ErrOwner})
		}
	}
	for _, thing := range none {
		for _, owner := range []int{0, 1, 64} {
			l = append(l, fault{acc(owner, 0, thing), api.ErrAsset}, fault{acc(owner, greatest, thing), api.ErrAsset})
		}
	}
	return l
}

// edges are accounts that are just right.
func edges() []ledger.Account {
	var l []ledger.Account
	for _, thing := range []string{"\x00", "A", " ", "\xff", longest, strings.Repeat("x", 40)} {
		for _, owner := range []int{0, 1, 32, 33, 64} {
			for _, book := range []int{0, 1, 5, 1 << 32, greatest} {
				l = append(l, acc(owner, book, thing))
			}
		}
	}
	return l
}

// The chapter's example.
func TestExample(t *testing.T) {
	x := ledger.New()
	post(t, x, entry(eur(0, 0), eur(1, 0), 5))
	post(t, x, entry(eur(1, 0), eur(2, 0), 3))
	wantAll(t, x, bal(eur(0, 0), -5), bal(eur(1, 0), 2), bal(eur(2, 0), 3))
	if n := x.Out("EUR"); n != 5 {
		t.Error(n)
	}
	wantStop(t, x, 0, api.ErrFunds, entry(eur(1, 0), eur(2, 0), 3))
}

// P11.1: a new ledger has nothing, and each New makes another one.
func TestNew(t *testing.T) {
	x, other := ledger.New(), ledger.New()
	if ledger.World != 0 || x == nil || other == nil {
		t.Fatal(ledger.World, x, other)
	}
	wantAll(t, x)
	if l := x.Things(); len(l) != 0 {
		t.Error(l)
	}
	for _, a := range edges() {
		if x.Balance(a) != 0 || x.Held(a.Owner, a.Thing) != 0 || x.Out(a.Thing) != 0 {
			t.Error(a)
		}
	}
	post(t, x, entry(eur(0, 0), eur(1, 0), 5))
	wantAll(t, other)
}

// P11.1: a ledger of balances has these, and tells them in order.
func TestOf(t *testing.T) {
	wantAll(t, of(t))
	if x, e := ledger.Of([]ledger.Balance{}); x == nil || e != api.OK {
		t.Error(x, e)
	}
	l := []ledger.Balance{
		bal(eur(0, 0), -7), bal(eur(0, 3), 2), bal(eur(1, 2), 4), bal(eur(64, greatest), 1),
		bal(acc(0, 0, "USD"), most), bal(acc(0, 1, "USD"), -most), bal(acc(0, greatest, "USD"), -most), bal(acc(64, 0, "USD"), most),
		bal(acc(0, 9, longest), -1), bal(acc(3, 9, longest), 1),
	}
	x := of(t, l...)
	wantAll(t, x, l...)
	if x.Balance(eur(1, 1)) != 0 || x.Balance(eur(2, 2)) != 0 || x.Balance(acc(1, 2, "eur")) != 0 {
		t.Error("what isn't in the list has something")
	}
	wantAll(t, of(t, x.All()...), l...)
	post(t, x, entry(eur(1, 2), eur(2, 2), 4))
	if x.Balance(eur(1, 2)) != 0 || x.Balance(eur(2, 2)) != 4 {
		t.Error(x.All())
	}
}

// P11.1: each account that is right may have the least and the most.
func TestOfEdges(t *testing.T) {
	for _, a := range edges() {
		b := acc(0, 7, a.Thing)
		for _, n := range []int{1, 2, most - 1, most} {
			l := []ledger.Balance{bal(b, -n), bal(a, n)}
			if a.Owner == 0 && a.Book < b.Book {
				slices.Reverse(l)
			}
			wantAll(t, of(t, l...), l...)
		}
	}
}

// P11.1: what is wrong with an account is told ahead of what is wrong with its amount, and that ahead of its place.
func TestOfWrong(t *testing.T) {
	behind := bal(acc(64, greatest, "\xff"), 1)
	for _, f := range faults() {
		for _, n := range []int{math.MinInt, -5, 0, 5, most + 1} {
			wantNone(t, f.want, bal(f.account, n))
			wantNone(t, f.want, behind, bal(f.account, n))
		}
	}
	for _, a := range edges() {
		amounts := []int{math.MinInt, -most - 1, 0, most + 1, 1 << 57, math.MaxInt}
		if a.Owner != 0 {
			amounts = append(amounts, -most, -1)
		}
		for _, n := range amounts {
			wantNone(t, api.ErrArg, bal(a, n))
			wantNone(t, api.ErrArg, behind, bal(a, n))
			wantNone(t, api.ErrArg, bal(a, n), bal(a, n))
		}
	}
}

// P11.1: the first balance that is wrong is told, whatever is wrong with later ones, and sums behind all.
func TestOfFirst(t *testing.T) {
	good := bal(eur(5, 5), 9)
	wrong := []struct {
		balance ledger.Balance
		want    api.Errno
	}{
		{bal(acc(65, 0, "EUR"), 1), api.ErrOwner},
		{bal(acc(6, 0, ""), 1), api.ErrAsset},
		{bal(eur(6, 0), 0), api.ErrArg},
		{bal(eur(6, 0), -1), api.ErrArg},
		{bal(eur(4, 6), 1), api.ErrTwice},
	}
	for _, x := range wrong {
		for _, y := range wrong {
			wantNone(t, x.want, good, x.balance, y.balance)
			wantNone(t, x.want, good, bal(eur(5, 6), 1), x.balance, y.balance, good)
		}
	}
	// Those of the first thing are not 0 together, but that is told at the end.
	wantNone(t, api.ErrArg, bal(eur(1, 1), 3), bal(acc(0, 0, "USD"), -1), bal(acc(1, 0, "USD"), 0))
}

// P11.1: accounts rise by things, as texts, then by owners, then by books.
func TestOfOrder(t *testing.T) {
	var l []ledger.Account
	for _, thing := range []string{"\x00", "10", "9", "A", "A\x00", "AA", "AB", "B", "a", "é", "\xff"} {
		for _, owner := range []int{0, 1, 2, 10, 64} {
			for _, book := range []int{0, 1, 9, 10, 1 << 40} {
				l = append(l, acc(owner, book, thing))
			}
		}
	}
	for i, a := range l {
		for j, b := range l {
			want := api.ErrTwice
			if i < j {
				want = api.ErrFunds
			}
			wantNone(t, want, bal(a, 1), bal(b, 1))
		}
	}
	// Only the one ahead counts: what stands between two is held against both.
	wantNone(t, api.ErrTwice, bal(eur(0, 0), -2), bal(eur(1, 0), 1), bal(eur(1, 0), 1))
	wantNone(t, api.ErrTwice, bal(eur(0, 0), -2), bal(eur(2, 0), 1), bal(eur(1, 0), 1))
	// All tells them so, in whatever order they came to what they have.
	x := ledger.New()
	for _, i := range rand.New(rand.NewSource(1)).Perm(len(l)) {
		if l[i].Owner != 0 {
			post(t, x, entry(acc(0, 0, l[i].Thing), l[i], 1))
		}
	}
	var all []ledger.Balance
	for _, a := range l {
		switch {
		case a.Owner != 0:
			all = append(all, bal(a, 1))
		case a.Book == 0:
			all = append(all, bal(a, -20))
		}
	}
	wantAll(t, x, all...)
}

// P11.1: of each thing by itself the amounts must be 0 together.
func TestOfFunds(t *testing.T) {
	usd := func(owner int) ledger.Account { return acc(owner, 0, "USD") }
	wantNone(t, api.ErrFunds, bal(eur(0, 0), -5))
	wantNone(t, api.ErrFunds, bal(eur(1, 0), 5))
	wantNone(t, api.ErrFunds, bal(eur(0, 0), -5), bal(eur(1, 0), 4))
	wantNone(t, api.ErrFunds, bal(eur(0, 0), -5), bal(eur(1, 0), 6))
	wantNone(t, api.ErrFunds, bal(eur(0, 0), -5), bal(usd(1), 5))
	wantNone(t, api.ErrFunds, bal(eur(0, 0), -5), bal(eur(1, 0), 4), bal(usd(0), -5), bal(usd(1), 6))
	wantNone(t, api.ErrFunds, bal(eur(0, 0), -5), bal(eur(1, 0), 5), bal(usd(1), 6))
	wantNone(t, api.ErrFunds, bal(eur(0, 0), -5), bal(usd(0), -5), bal(usd(1), 5))
	of(t, bal(eur(0, 0), -5), bal(eur(1, 0), 5), bal(usd(0), -6), bal(usd(1), 6))
	of(t, bal(eur(0, 0), -5), bal(eur(0, 1), 5))
}

// P11.1: amounts that come to 0 only where numbers wrap round do not come to 0.
func TestOfGreatSums(t *testing.T) {
	books := func(owner, n, amount int) []ledger.Balance {
		var l []ledger.Balance
		for i := range n {
			l = append(l, bal(eur(owner, i), amount))
		}
		return l
	}
	for _, n := range []int{127, 128, 129, 255, 256, 257, 512, 1024} {
		wantNone(t, api.ErrFunds, books(0, n, -most)...)
		wantNone(t, api.ErrFunds, books(0, n, most)...)
		wantNone(t, api.ErrFunds, books(1, n, most)...)
		wantNone(t, api.ErrFunds, slices.Concat(books(0, n, -most), books(3, n-1, most), books(4, 1, most-1))...)
		l := slices.Concat(books(0, n, -most), books(3, n-1, most), books(4, 1, most-1), books(5, 1, 1))
		wantAll(t, of(t, l...), l...)
	}
	wantNone(t, api.ErrFunds, slices.Concat(books(0, 1<<16, -most), books(1, 1<<15, most))...)
	wantNone(t, api.ErrFunds, slices.Concat(books(2, 255, most), books(3, 2, most/2))...)
	// Each low and high half by itself.
	for _, n := range []int{1, 1 << 31, 1<<32 - 1, 1 << 32, 1<<32 + 1, 1 << 33, 1<<56 - 1} {
		wantNone(t, api.ErrFunds, bal(eur(0, 0), -n), bal(eur(1, 0), n+1))
		wantNone(t, api.ErrFunds, bal(eur(0, 0), n))
		wantNone(t, api.ErrFunds, bal(eur(0, 0), -n))
		if n > 1 {
			of(t, bal(eur(0, 0), -n), bal(eur(1, 0), n-1), bal(eur(2, 0), 1))
		}
	}
}

// P11.2: entries are done one behind the other, each with what those ahead left.
func TestPost(t *testing.T) {
	x := ledger.New()
	post(t, x)
	wantAll(t, x)
	if n, e := x.Post([]ledger.Entry{}); n != 0 || e != api.OK {
		t.Error(n, e)
	}
	post(t, x, entry(eur(0, 0), eur(1, 1), 100), entry(eur(1, 1), eur(2, 1), 40), entry(eur(1, 1), eur(1, 2), 60))
	wantAll(t, x, bal(eur(0, 0), -100), bal(eur(1, 2), 60), bal(eur(2, 1), 40))
	post(t, x, entry(eur(2, 1), eur(3, 0), 40), entry(eur(3, 0), eur(2, 1), 40))
	post(t, x, entry(acc(0, 5, "X"), acc(2, 1, "X"), 7))
	wantAll(t, x, bal(eur(0, 0), -100), bal(eur(1, 2), 60), bal(eur(2, 1), 40), bal(acc(0, 5, "X"), -7), bal(acc(2, 1, "X"), 7))
	// Back to the world, into another book of it, and between its books.
	post(t, x, entry(eur(2, 1), eur(0, 8), 40))
	wantAll(t, x, bal(eur(0, 0), -100), bal(eur(0, 8), 40), bal(eur(1, 2), 60), bal(acc(0, 5, "X"), -7), bal(acc(2, 1, "X"), 7))
	post(t, x, entry(eur(0, 8), eur(0, 0), 50), entry(acc(2, 1, "X"), acc(0, 5, "X"), 7))
	wantAll(t, x, bal(eur(0, 0), -50), bal(eur(0, 8), -10), bal(eur(1, 2), 60))
}

// P11.2: what one entry brings, a later one may take on, but not an earlier one.
func TestPostTurns(t *testing.T) {
	in, on, back := entry(eur(0, 0), eur(1, 0), 5), entry(eur(1, 0), eur(2, 0), 5), entry(eur(2, 0), eur(0, 0), 5)
	post(t, ledger.New(), in, on, back)
	for _, z := range []struct {
		at int
		l  []ledger.Entry
	}{{0, []ledger.Entry{on, in, back}}, {1, []ledger.Entry{in, back, on}}, {3, []ledger.Entry{in, on, back, back}}, {2, []ledger.Entry{in, on, on, back}}} {
		x := ledger.New()
		wantStop(t, x, z.at, api.ErrFunds, z.l...)
		wantAll(t, x)
	}
}

// P11.2: 4096 entries are taken, more are not, whatever they are.
func TestPostLimit(t *testing.T) {
	x := ledger.New()
	l := slices.Repeat([]ledger.Entry{entry(eur(0, 0), eur(1, 0), 1)}, 4096)
	post(t, x, l...)
	wantAll(t, x, bal(eur(0, 0), -4096), bal(eur(1, 0), 4096))
	wantStop(t, x, 0, api.ErrLimit, append(l, l[0])...)
	wantStop(t, x, 0, api.ErrLimit, make([]ledger.Entry, 4097)...)
	wantStop(t, x, 0, api.ErrLimit, make([]ledger.Entry, 1<<16)...)
	wantStop(t, x, 0, api.ErrArg, make([]ledger.Entry, 4096)...)
	l[4095] = entry(eur(1, 0), eur(0, 0), greatest)
	wantStop(t, x, 4095, api.ErrFunds, l...)
}

// P11.2: amounts from 1 to 2^50, of all accounts that are right.
func TestPostEdges(t *testing.T) {
	for _, a := range edges() {
		from := acc(0, 7, a.Thing)
		for _, n := range []int{1, 2, greatest - 1, greatest} {
			x := ledger.New()
			post(t, x, entry(from, a, n))
			if x.Balance(a) != n || x.Balance(from) != -n {
				t.Error(a, n, x.All())
			}
			post(t, x, entry(a, from, n))
			wantAll(t, x)
		}
		for _, n := range []int{math.MinInt, -greatest, -1, 0, greatest + 1, most, math.MaxInt} {
			wantStop(t, ledger.New(), 0, api.ErrArg, entry(from, a, n))
			wantStop(t, ledger.New(), 0, api.ErrArg, entry(a, acc(65, 0, ""), n))
			wantStop(t, ledger.New(), 0, api.ErrArg, entry(acc(65, 0, ""), a, n))
		}
	}
}

// P11.2: what is wrong with From is told ahead of what is wrong with To, that ahead of things that are unlike, and that ahead of what they have.
func TestPostWrong(t *testing.T) {
	x := of(t, bal(eur(0, 0), -most), bal(eur(1, 0), most))
	for _, f := range faults() {
		wantStop(t, x, 0, f.want, entry(f.account, eur(1, 0), 1))
		wantStop(t, x, 0, f.want, entry(eur(1, 0), f.account, 1))
		wantStop(t, x, 0, f.want, entry(eur(2, 0), f.account, 1))
		wantStop(t, x, 0, f.want, entry(eur(0, 0), f.account, 1))
		wantStop(t, x, 0, f.want, entry(f.account, f.account, 1))
		for _, g := range faults() {
			wantStop(t, x, 0, f.want, entry(f.account, g.account, 1))
		}
	}
	for _, from := range []ledger.Account{eur(0, 0), eur(0, 1), eur(1, 0), eur(2, 0)} {
		for _, thing := range []string{"eur", "EU", "EURO", "EUR\x00", "USD", longest} {
			wantStop(t, x, 0, api.ErrAsset, entry(from, acc(1, 0, thing), 1))
			wantStop(t, x, 0, api.ErrAsset, entry(from, acc(from.Owner, from.Book, thing), 1))
		}
	}
	// Of one that has nothing to one that has the most: that it lacks it is told first.
	wantStop(t, x, 0, api.ErrFunds, entry(eur(2, 0), eur(1, 0), 1))
}

// P11.2: none but the world gives more than it has, in that book, of that thing.
func TestPostFunds(t *testing.T) {
	x := of(t, bal(eur(0, 0), -20), bal(eur(1, 0), 9), bal(eur(1, 1), 8), bal(eur(64, 0), 3), bal(acc(0, 0, "X"), -50), bal(acc(1, 0, "X"), 50))
	wantStop(t, x, 0, api.ErrFunds, entry(eur(1, 0), eur(2, 0), 10))
	wantStop(t, x, 0, api.ErrFunds, entry(eur(1, 2), eur(2, 0), 1))
	wantStop(t, x, 0, api.ErrFunds, entry(eur(64, 0), eur(0, 0), 4))
	wantStop(t, x, 0, api.ErrFunds, entry(eur(64, 0), eur(64, 0), 4))
	wantStop(t, x, 0, api.ErrFunds, entry(eur(3, 0), eur(3, 0), 1))
	wantStop(t, x, 0, api.ErrFunds, entry(eur(1, 0), eur(2, 0), greatest))
	wantStop(t, x, 1, api.ErrFunds, entry(eur(1, 0), eur(2, 0), 5), entry(eur(1, 0), eur(2, 0), 5))
	post(t, x, entry(eur(1, 0), eur(2, 0), 9), entry(eur(0, 3), eur(2, 0), 1))
	wantAll(t, x, bal(eur(0, 0), -20), bal(eur(0, 3), -1), bal(eur(1, 1), 8), bal(eur(2, 0), 10), bal(eur(64, 0), 3), bal(acc(0, 0, "X"), -50), bal(acc(1, 0, "X"), 50))
}

// P11.2: no account has more than the most, and the world's no less than that with a - ahead.
func TestPostOver(t *testing.T) {
	x := of(t, bal(eur(0, 0), -most+1), bal(eur(1, 0), most-1))
	wantStop(t, x, 0, api.ErrOver, entry(eur(0, 0), eur(2, 0), 2))
	wantStop(t, x, 0, api.ErrOver, entry(eur(0, 1), eur(1, 0), 2))
	wantStop(t, x, 1, api.ErrOver, entry(eur(0, 0), eur(2, 0), 1), entry(eur(0, 0), eur(2, 0), 1))
	post(t, x, entry(eur(0, 0), eur(1, 0), 1))
	wantAll(t, x, bal(eur(0, 0), -most), bal(eur(1, 0), most))
	wantStop(t, x, 0, api.ErrOver, entry(eur(0, 0), eur(2, 0), 1))
	wantStop(t, x, 0, api.ErrOver, entry(eur(0, 1), eur(1, 0), 1))
	wantStop(t, x, 0, api.ErrOver, entry(eur(0, 0), eur(2, 0), greatest))
	// The world's own books, one far below 0, one as far above it.
	x = of(t, bal(eur(0, 0), -most), bal(eur(0, 1), most))
	wantStop(t, x, 0, api.ErrOver, entry(eur(0, 0), eur(0, 2), 1))
	wantStop(t, x, 0, api.ErrOver, entry(eur(0, 2), eur(0, 1), 1))
	post(t, x, entry(eur(0, 1), eur(0, 0), 1))
	wantAll(t, x, bal(eur(0, 0), -most+1), bal(eur(0, 1), most-1))
	// 64 entries of the greatest amount come to the most.
	x = ledger.New()
	l := slices.Repeat([]ledger.Entry{entry(eur(0, 0), eur(1, 0), greatest)}, 65)
	wantStop(t, x, 64, api.ErrOver, l...)
	l[64] = entry(eur(0, 1), eur(1, 0), 1)
	wantStop(t, x, 64, api.ErrOver, l...)
	post(t, x, l[:64]...)
	wantAll(t, x, bal(eur(0, 0), -most), bal(eur(1, 0), most))
}

// P11.2: what goes from an account to itself is taken ahead of being given: so it needs the amount, and leaves it as it is.
func TestPostSelf(t *testing.T) {
	x := of(t, bal(eur(0, 0), -most), bal(eur(0, 1), most), bal(eur(0, 2), -most+1), bal(eur(1, 0), most-1))
	ahead := x.All()
	post(t, x, entry(eur(0, 1), eur(0, 1), greatest), entry(eur(0, 1), eur(0, 1), 1))
	post(t, x, entry(eur(1, 0), eur(1, 0), greatest), entry(eur(1, 0), eur(1, 0), 2))
	post(t, x, entry(eur(0, 2), eur(0, 2), 1), entry(eur(0, 9), eur(0, 9), greatest))
	wantAll(t, x, ahead...)
	wantStop(t, x, 0, api.ErrOver, entry(eur(0, 0), eur(0, 0), 1))
	wantStop(t, x, 0, api.ErrOver, entry(eur(0, 2), eur(0, 2), 2))
	wantStop(t, x, 0, api.ErrFunds, entry(eur(2, 0), eur(2, 0), 1))
	x = of(t, bal(eur(0, 0), -5), bal(eur(1, 0), 5))
	post(t, x, entry(eur(1, 0), eur(1, 0), 5))
	wantStop(t, x, 0, api.ErrFunds, entry(eur(1, 0), eur(1, 0), 6))
	wantAll(t, x, bal(eur(0, 0), -5), bal(eur(1, 0), 5))
}

// P11.2: the first entry that can't be done is told by its number, and nothing of those ahead of it is done.
func TestPostNothing(t *testing.T) {
	good := []ledger.Entry{
		entry(eur(0, 0), eur(1, 0), 10), entry(eur(1, 0), eur(2, 0), 10), entry(eur(2, 0), eur(2, 0), 4), entry(eur(2, 0), eur(1, 3), 10),
		entry(acc(0, 1, "X"), acc(1, 0, "X"), 7), entry(acc(1, 0, "X"), acc(0, 1, "X"), 7), entry(eur(3, 0), eur(0, 2), 6), entry(eur(0, 5), eur(1, 3), 1),
	}
	bad := []struct {
		entry ledger.Entry
		want  api.Errno
	}{
		{entry(eur(0, 0), eur(1, 0), 0), api.ErrArg},
		{entry(eur(0, 0), eur(-1, 0), 1), api.ErrOwner},
		{entry(acc(0, 0, ""), eur(1, 0), 1), api.ErrAsset},
		{entry(eur(0, 0), acc(1, 0, "X"), 1), api.ErrAsset},
		{entry(eur(9, 0), eur(1, 0), 1), api.ErrFunds},
		{entry(eur(0, 7), eur(0, 6), 1), api.ErrOver},
		{entry(eur(0, 6), eur(4, 0), 1), api.ErrOver},
	}
	x := of(t, bal(eur(0, 0), -8), bal(eur(0, 7), -most), bal(eur(3, 0), 8), bal(eur(4, 0), most))
	for at := range len(good) + 1 {
		for _, b := range bad {
			for _, c := range bad {
				wantStop(t, x, at, b.want, slices.Concat(good[:at], []ledger.Entry{b.entry, c.entry}, good[at:])...)
			}
		}
	}
	post(t, x, good...)
	wantAll(t, x, bal(eur(0, 0), -18), bal(eur(0, 2), 6), bal(eur(0, 5), -1), bal(eur(0, 7), -most), bal(eur(1, 3), 11), bal(eur(3, 0), 2), bal(eur(4, 0), most))
}

// P11.3: what an account has, and what all books of an owner have together.
func TestHeld(t *testing.T) {
	x := of(t, bal(eur(0, 0), -100), bal(eur(0, 4), 30), bal(eur(1, 0), 1), bal(eur(1, 1), 20), bal(eur(1, greatest), 40), bal(eur(10, 0), 9),
		bal(acc(0, 1, "EURO"), -5), bal(acc(1, 0, "EURO"), 5))
	for _, z := range []struct {
		owner int
		thing string
		want  int
	}{
		{0, "EUR", -70}, {1, "EUR", 61}, {10, "EUR", 9}, {2, "EUR", 0}, {64, "EUR", 0}, {0, "EURO", -5}, {1, "EURO", 5}, {10, "EURO", 0},
		{1, "", 0}, {1, "EU", 0}, {1, "eur", 0}, {1, strings.Repeat("EUR", 20), 0}, {-1, "EUR", 0}, {65, "EUR", 0}, {math.MinInt, "EUR", 0}, {math.MaxInt, "EUR", 0},
	} {
		if n := x.Held(z.owner, z.thing); n != z.want {
			t.Errorf("Held(%d, %.20q) = %d; want %d", z.owner, z.thing, n, z.want)
		}
	}
	for thing, want := range map[string]int{"EUR": 70, "EURO": 5, "": 0, "E": 0, "eur": 0, longest: 0, longest + "x": 0} {
		if n := x.Out(thing); n != want {
			t.Errorf("Out(%q) = %d; want %d", thing, n, want)
		}
	}
	for _, f := range faults() {
		if n := x.Balance(f.account); n != 0 {
			t.Errorf("Balance(%s) = %d", show(f.account), n)
		}
	}
	// The world's books have something, but together nothing: none of it is out.
	x = of(t, bal(eur(0, 0), -3), bal(eur(0, 1), 3))
	if x.Held(0, "EUR") != 0 || x.Out("EUR") != 0 || len(x.Things()) != 1 {
		t.Error(x.All())
	}
}

// P11.3: what of an owner is as great as a number can tell, and just beyond that, where it wraps round.
func TestHeldGreat(t *testing.T) {
	var l []ledger.Balance
	for i := range 128 {
		l = append(l, bal(eur(0, i), -most))
	}
	for i := range 128 {
		l = append(l, bal(eur(1, i), most))
	}
	x := of(t, l...)
	if x.Held(0, "EUR") != math.MinInt || x.Held(1, "EUR") != math.MinInt || x.Out("EUR") != x.Held(1, "EUR") {
		t.Error(x.Held(0, "EUR"), x.Held(1, "EUR"), x.Out("EUR"))
	}
	post(t, x, entry(eur(1, 0), eur(2, 0), 1))
	if x.Held(1, "EUR") != math.MaxInt || x.Held(2, "EUR") != 1 {
		t.Error(x.Held(1, "EUR"))
	}
	post(t, x, entry(eur(2, 0), eur(0, 0), 1))
	if x.Held(0, "EUR") != -math.MaxInt || x.Out("EUR") != math.MaxInt {
		t.Error(x.Held(0, "EUR"), x.Out("EUR"))
	}
}

// P11.3: things rise as texts, each told once, while some account has something of it.
func TestThings(t *testing.T) {
	x := ledger.New()
	things := []string{"b", "a", "\xff", "AB", "é", "A", "10", "9", longest, "\x00"}
	for i, thing := range things {
		post(t, x, entry(acc(0, i, thing), acc(1+i%3, i, thing), 2+i), entry(acc(1+i%3, i, thing), acc(5, 5, thing), 1))
	}
	slices.Sort(things)
	if l := x.Things(); !slices.Equal(l, things) {
		t.Errorf("Things = %q; want %q", l, things)
	}
	for _, b := range x.All() {
		if b.Account.Owner != 0 && b.Account.Thing != "AB" {
			post(t, x, entry(b.Account, acc(0, 99, b.Account.Thing), b.Amount))
		}
	}
	// The world's books still have something of each.
	if l := x.Things(); !slices.Equal(l, things) {
		t.Errorf("Things = %q; want %q", l, things)
	}
	for _, b := range x.All() {
		if b.Account.Owner == 0 && b.Amount > 0 {
			for _, c := range x.All() {
				if c.Account.Thing == b.Account.Thing && c.Amount < 0 {
					post(t, x, entry(b.Account, c.Account, b.Amount))
				}
			}
		}
	}
	if l := x.Things(); !slices.Equal(l, []string{"AB"}) {
		t.Errorf("Things = %q", l)
	}
}

// P11.3: a clone has the same, and goes its own way from then on.
func TestClone(t *testing.T) {
	l := []ledger.Balance{bal(eur(0, 0), -5), bal(eur(1, 0), 5), bal(acc(0, 1, "X"), -most), bal(acc(2, 0, "X"), most)}
	x := of(t, l...)
	y := x.Clone()
	z := y.Clone()
	if x == y || y == z {
		t.Fatal("a clone is the ledger itself")
	}
	post(t, y, entry(eur(1, 0), eur(2, 0), 5))
	post(t, x, entry(acc(2, 0, "X"), acc(0, 1, "X"), 3))
	wantAll(t, z, l...)
	wantAll(t, y, bal(eur(0, 0), -5), bal(eur(2, 0), 5), l[2], l[3])
	wantAll(t, x, l[0], l[1], bal(acc(0, 1, "X"), -most+3), bal(acc(2, 0, "X"), most-3))
	empty := ledger.New().Clone()
	post(t, empty, entry(eur(0, 0), eur(1, 0), 1))
	wantAll(t, empty, bal(eur(0, 0), -1), bal(eur(1, 0), 1))
}

// Of nil, and of what no call made, there is nothing, and the error is ErrNil, ahead of all others.
func TestNil(t *testing.T) {
	for _, x := range []*ledger.Ledger{nil, {}, new(ledger.Ledger)} {
		for _, l := range [][]ledger.Entry{nil, {}, {entry(eur(0, 0), eur(1, 0), 1)}, make([]ledger.Entry, 3), make([]ledger.Entry, 4097)} {
			if n, e := x.Post(l); n != 0 || e != api.ErrNil {
				t.Error(n, e)
			}
		}
		if x.Balance(eur(0, 0)) != 0 || x.Balance(ledger.Account{}) != 0 || x.Held(0, "EUR") != 0 || x.Held(-1, "") != 0 || x.Out("EUR") != 0 {
			t.Error("there is something")
		}
		if x.All() != nil || x.Things() != nil || x.Clone() != nil {
			t.Error("there is something")
		}
	}
}

// Neither lists nor texts that are handed in are changed or kept, and each answer is new memory.
func TestMemory(t *testing.T) {
	room := make([]ledger.Balance, 4)
	copy(room, []ledger.Balance{bal(eur(0, 0), -5), bal(eur(1, 0), 5), bal(eur(9, 9), 9)})
	was := slices.Clone(room)
	x := of(t, room[:2]...)
	if !slices.Equal(room, was) {
		t.Error(room)
	}
	room[0], room[1] = bal(eur(7, 7), 7), bal(eur(7, 8), 7)
	wantAll(t, x, was[:2]...)

	entries := make([]ledger.Entry, 4)
	copy(entries, []ledger.Entry{entry(eur(1, 0), eur(2, 0), 1), entry(eur(1, 0), eur(2, 0), 1), entry(eur(2, 0), eur(3, 0), 5), entry(eur(8, 0), eur(9, 0), 5)})
	done := slices.Clone(entries)
	post(t, x, entries[:2]...)
	wantStop(t, x, 2, api.ErrFunds, entries[:3]...)
	if !slices.Equal(entries, done) {
		t.Error(entries)
	}
	clear(entries)
	l := []ledger.Balance{bal(eur(0, 0), -5), bal(eur(1, 0), 3), bal(eur(2, 0), 2)}
	wantAll(t, x, l...)

	all, things := x.All(), x.Things()
	clear(all)
	clear(things)
	_, _ = append(all, bal(eur(9, 9), 9)), append(things, "Z")
	wantAll(t, x, l...)
	if s := x.Things(); !slices.Equal(s, []string{"EUR"}) {
		t.Error(s)
	}
}

// place is where a text's bytes lie.
func place(s string) *byte { return unsafe.StringData(s) }

// A thing's text lies apart in arguments, ledgers and answers, however often its account is stored anew.
func TestTexts(t *testing.T) {
	seen := map[*byte]bool{}
	fresh := func(what string, l ...string) {
		t.Helper()
		for _, s := range l {
			if seen[place(s)] {
				t.Errorf("%s: a text that was handed in or out before", what)
			}
			seen[place(s)] = true
		}
	}
	text := func() string {
		s := strings.Clone("XS0000000001")
		seen[place(s)] = true
		return s
	}
	told := func(what string, x *ledger.Ledger) {
		t.Helper()
		for _, b := range x.All() {
			fresh(what+", All", b.Account.Thing)
		}
		fresh(what+", Things", x.Things()...)
	}
	x := of(t, bal(acc(0, 0, text()), -9), bal(acc(1, 0, text()), 9))
	told("Of", x)
	post(t, x, entry(acc(0, 0, text()), acc(1, 0, text()), 3), entry(acc(1, 0, text()), acc(2, 0, text()), 3))
	told("Post", x)
	wantStop(t, x, 1, api.ErrFunds, entry(acc(1, 0, text()), acc(2, 0, text()), 9), entry(acc(1, 0, text()), acc(2, 0, text()), 9))
	told("Post that is not done", x)
	told("Clone", x.Clone())
	told("again", x)
}

// A thing's text is kept by none of its bytes: what becomes of them behind a call is all one to the ledger.
func TestTextsNotKept(t *testing.T) {
	var handed [][]byte
	text := func() string {
		b := []byte("XS0000000001")
		handed = append(handed, b)
		return unsafe.String(&b[0], len(b))
	}
	x := of(t, bal(acc(0, 0, text()), -9), bal(acc(1, 0, text()), 9))
	post(t, x, entry(acc(0, 0, text()), acc(1, 0, text()), 3), entry(acc(1, 0, text()), acc(2, 0, text()), 4))
	if n, e := x.Post([]ledger.Entry{entry(acc(1, 0, text()), acc(3, 0, text()), 8), entry(acc(1, 0, text()), acc(2, 0, text()), 8)}); n != 1 || e != api.ErrFunds {
		t.Error(n, e)
	}
	for _, b := range handed {
		clear(b)
	}
	wantAll(t, x, bal(acc(0, 0, "XS0000000001"), -12), bal(acc(1, 0, "XS0000000001"), 8), bal(acc(2, 0, "XS0000000001"), 4))
}

// model is the chapter's words once more: all accounts, those with nothing too, in a list, with numbers of any size.
type model struct {
	accounts []ledger.Account
	has      []*big.Int
}

// find is an account's place.
func (m *model) find(a ledger.Account) int {
	if i := slices.Index(m.accounts, a); i >= 0 {
		return i
	}
	m.accounts, m.has = append(m.accounts, a), append(m.has, new(big.Int))
	return len(m.accounts) - 1
}

// copied is the same once more.
func (m *model) copied() *model {
	y := &model{accounts: slices.Clone(m.accounts)}
	for _, n := range m.has {
		y.has = append(y.has, new(big.Int).Set(n))
	}
	return y
}

// wrong tells what is wrong with an account.
func wrong(a ledger.Account) api.Errno {
	if a.Owner < 0 || a.Owner > 64 || a.Book < 0 || a.Book > 1<<50 {
		return api.ErrOwner
	}
	if len(a.Thing) < 1 || len(a.Thing) > 40 {
		return api.ErrAsset
	}
	return api.OK
}

// do does one entry, or tells why not.
func (m *model) do(y ledger.Entry) api.Errno {
	if y.Amount < 1 || y.Amount > 1<<50 {
		return api.ErrArg
	}
	for _, a := range []ledger.Account{y.From, y.To} {
		if e := wrong(a); e != api.OK {
			return e
		}
	}
	if y.From.Thing != y.To.Thing {
		return api.ErrAsset
	}
	amount := big.NewInt(int64(y.Amount))
	from, to := m.find(y.From), m.find(y.To)
	if m.has[from].Cmp(amount) < 0 && y.From.Owner != 0 {
		return api.ErrFunds
	}
	m.has[from].Sub(m.has[from], amount)
	if m.has[from].Cmp(big.NewInt(-1<<56)) < 0 {
		return api.ErrOver
	}
	m.has[to].Add(m.has[to], amount)
	if m.has[to].Cmp(big.NewInt(1<<56)) > 0 {
		return api.ErrOver
	}
	return api.OK
}

// post does entries on a copy, and tells what becomes of the model.
func (m *model) post(l []ledger.Entry) (*model, int, api.Errno) {
	if len(l) > 4096 {
		return m, 0, api.ErrLimit
	}
	y := m.copied()
	for i := range l {
		if e := y.do(l[i]); e != api.OK {
			return m, i, e
		}
	}
	return y, len(l), api.OK
}

// ahead tells whether an account is ahead of another one.
func ahead(a, b ledger.Account) bool {
	if a.Thing != b.Thing {
		return a.Thing < b.Thing
	}
	if a.Owner != b.Owner {
		return a.Owner < b.Owner
	}
	return a.Book < b.Book
}

// all tells all accounts that have something, each put ahead of the first one that it is ahead of.
func (m *model) all() []ledger.Balance {
	var l []ledger.Balance
	for i, a := range m.accounts {
		if m.has[i].Sign() == 0 {
			continue
		}
		at := 0
		for at < len(l) && ahead(l[at].Account, a) {
			at++
		}
		l = slices.Insert(l, at, bal(a, int(m.has[i].Int64())))
	}
	return l
}

// chanceAccount is an account, now and then a wrong one.
func chanceAccount(r *rand.Rand) ledger.Account {
	owners, books, things := []int{0, 0, 1, 2, 3, 64}, []int{0, 0, 1, greatest}, []string{"EUR", "EUR", "EUR", "X"}
	if r.Intn(60) == 0 {
		owners, books, things = []int{-1, 0, 65}, []int{-1, 0, greatest + 1}, []string{"", "EUR", longest, longest + "x"}
	}
	return acc(owners[r.Intn(len(owners))], books[r.Intn(len(books))], things[r.Intn(len(things))])
}

// chanceEntry is an entry, mostly of one thing, and of amounts that lie near what accounts may have, or are small.
func chanceEntry(r *rand.Rand) ledger.Entry {
	amounts := []int{1, 1, 2, 3, 1 + r.Intn(20), 1 + r.Intn(20), greatest, greatest, greatest - 1}
	if r.Intn(60) == 0 {
		amounts = []int{0, -1, greatest + 1, math.MinInt}
	}
	y := entry(chanceAccount(r), chanceAccount(r), amounts[r.Intn(len(amounts))])
	if r.Intn(8) != 0 {
		y.To.Thing = y.From.Thing
	}
	return y
}

// nearEdges are balances at, and near, what accounts may have.
var nearEdges = []ledger.Balance{
	bal(eur(0, 0), -most+2), bal(eur(0, 1), -most), bal(eur(0, greatest), most-1), bal(eur(1, 0), most-20), bal(eur(2, 1), 19),
}

// wantEven wants P11.4 of a ledger: of each thing all have 0 together, none but the world has less than 0, and what is out is what all others have.
func wantEven(t *testing.T, x *ledger.Ledger) {
	t.Helper()
	sums := map[string]int{}
	for _, b := range x.All() {
		sums[b.Account.Thing] += b.Amount
		if b.Amount == 0 || b.Amount < 0 && b.Account.Owner != ledger.World || b.Amount > most || b.Amount < -most {
			t.Error(b)
		}
	}
	for _, thing := range x.Things() {
		others := 0
		for owner := 1; owner <= 64; owner++ {
			others += x.Held(owner, thing)
		}
		if sums[thing] != 0 || x.Out(thing) != others || x.Out(thing) != -x.Held(ledger.World, thing) {
			t.Error(thing, sums[thing], x.Out(thing), others)
		}
	}
	if len(sums) != len(x.Things()) {
		t.Error(sums, x.Things())
	}
}

// wantBack wants that entries that were done, turned about and posted from the last to the first, take back what they did.
func wantBack(t *testing.T, x *ledger.Ledger, l []ledger.Entry, was []ledger.Balance) {
	t.Helper()
	y := x.Clone()
	var about []ledger.Entry
	for _, z := range slices.Backward(l) {
		about = append(about, entry(z.To, z.From, z.Amount))
	}
	post(t, y, about...)
	wantAll(t, y, was...)
}

// P11.1 to P11.4: entries by chance, held against the chapter's words.
func TestChance(t *testing.T) {
	taken, errs := 0, map[api.Errno]int{}
	for seed := range 60 {
		r := rand.New(rand.NewSource(int64(seed)))
		x, m := ledger.New(), &model{}
		if seed%3 == 0 {
			for _, b := range nearEdges {
				m.has[m.find(b.Account)].SetInt64(int64(b.Amount))
			}
			x = of(t, nearEdges...)
		}
		for range 150 {
			l := make([]ledger.Entry, r.Intn(7))
			for i := range l {
				l[i] = chanceEntry(r)
			}
			was := x.All()
			next, n, e := m.post(l)
			if got, err := x.Post(l); got != n || err != e {
				t.Fatalf("Post(%s) = %d, %d; want %d, %d", show(l), got, err, n, e)
			}
			m = next
			errs[e]++
			wantAll(t, x, m.all()...)
			wantEven(t, x)
			wantAll(t, of(t, x.All()...), x.All()...)
			if e == api.OK {
				taken += len(l)
				wantBack(t, x, l, was)
			}
		}
	}
	if taken < 1000 {
		t.Error("too few entries were done", taken)
	}
	for _, e := range []api.Errno{api.ErrArg, api.ErrOwner, api.ErrAsset, api.ErrFunds, api.ErrOver} {
		if errs[e] < 20 {
			t.Error("too few errors", e, errs[e])
		}
	}
}

// P11.4: entries at the edges are taken back, too.
func TestBack(t *testing.T) {
	was := []ledger.Balance{bal(eur(0, 0), -most+greatest), bal(eur(0, 1), -1), bal(eur(1, 0), most-greatest), bal(eur(2, 0), 1), bal(acc(0, 0, "X"), -3), bal(acc(1, 0, "X"), 3)}
	x := of(t, was...)
	l := []ledger.Entry{
		entry(eur(0, 0), eur(1, 0), greatest), entry(eur(1, 0), eur(1, 0), greatest), entry(eur(1, 0), eur(2, 0), greatest),
		entry(eur(2, 0), eur(0, 0), greatest), entry(eur(0, 0), eur(0, 1), greatest), entry(eur(0, 1), eur(0, 1), 5), entry(acc(1, 0, "X"), acc(0, 0, "X"), 3), entry(eur(2, 0), eur(1, 0), 1),
	}
	post(t, x, l...)
	wantEven(t, x)
	wantBack(t, x, l, was)
}

// What a ledger answers hangs on the calls on it alone: the same ones come to the same, in whatever order a map is gone through.
func TestSame(t *testing.T) {
	var first []ledger.Balance
	for i := range 20 {
		r := rand.New(rand.NewSource(7))
		x := ledger.New()
		for range 200 {
			post(t, x, entry(eur(0, r.Intn(9)), eur(1+r.Intn(60), r.Intn(9)), 1+r.Intn(99)))
		}
		if i == 0 {
			first = x.All()
		}
		wantAll(t, x, first...)
	}
}
