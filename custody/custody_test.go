package custody_test

import (
	"fmt"
	"maps"
	"math"
	"math/rand"
	"slices"
	"strings"
	"testing"
	"unsafe"

	"lombard/api"
	"lombard/custody"
	"lombard/ledger"
)

const (
	// most is what an account has at most; the world's has at least that with a - ahead.
	most = 1 << 56
	// greatest is the most that is brought, or moved by one line.
	greatest = 1 << 50
	// sec is a security; its name has more than three bytes.
	sec = "US0378331005"
)

// longest is a thing as long as may be, by bytes (20 signs of two bytes each).
var longest = strings.Repeat("é", 20)

// noMembers and noBooks are numbers of none.
var (
	noMembers = []int{math.MinInt, -1 << 32, -1, 0, 33, 64, 65, 1<<32 + 1, math.MaxInt}
	noBooks   = []int{math.MinInt, -1, 0, 5, 6, 1<<32 + 1, greatest, math.MaxInt}
)

// acc is an account.
func acc(owner, book int, thing string) ledger.Account {
	return ledger.Account{Owner: owner, Book: book, Thing: thing}
}

// bal is a balance.
func bal(owner, book int, thing string, n int) ledger.Balance {
	return ledger.Balance{Account: acc(owner, book, thing), Amount: n}
}

// line is a line.
func line(from, book, to, into int, thing string, n int) custody.Line {
	return custody.Line{From: from, Book: book, To: to, Into: into, Thing: thing, Qty: n}
}

// lot is a lot.
func lot(thing string, n int) api.Lot { return api.Lot{ISIN: thing, Qty: n} }

// show is the beginning of what there is, for a test to tell.
func show(v any) string {
	s := strings.ToValidUTF8(fmt.Sprint(v), "?")
	return s[:min(len(s), 300)]
}

// of makes books of balances that must be taken.
func of(t *testing.T, l ...ledger.Balance) *custody.Custody {
	t.Helper()
	c, e := custody.Of(l)
	if c == nil || e != api.OK {
		t.Fatalf("Of(%s) = %v, %d", show(l), c != nil, e)
	}
	return c
}

// wantNone wants an error of Of, and no books beside it.
func wantNone(t *testing.T, e api.Errno, l ...ledger.Balance) {
	t.Helper()
	if c, got := custody.Of(l); c != nil || got != e {
		t.Errorf("Of(%s) = %v, %d; want %d", show(l), c != nil, got, e)
	}
}

// wantAll wants that books have that, and all others nothing.
func wantAll(t *testing.T, c *custody.Custody, l ...ledger.Balance) {
	t.Helper()
	if got := c.All(); !slices.Equal(got, l) {
		t.Errorf("All = %s; want %s", show(got), show(l))
	}
}

// bring wants that something is brought.
func bring(t *testing.T, c *custody.Custody, member int, thing string, n int) {
	t.Helper()
	if e := c.Bring(member, thing, n); e != api.OK {
		t.Fatalf("Bring(%d, %.50q, %d) = %d", member, thing, n, e)
	}
}

// wantNotBrought wants an error of Bring, and that nothing was brought.
func wantNotBrought(t *testing.T, c *custody.Custody, e api.Errno, member int, thing string, n int) {
	t.Helper()
	was := c.All()
	if got := c.Bring(member, thing, n); got != e {
		t.Errorf("Bring(%d, %.50q, %d) = %d; want %d", member, thing, n, got, e)
	}
	wantAll(t, c, was...)
}

// move wants that lines are done.
func move(t *testing.T, c *custody.Custody, l ...custody.Line) {
	t.Helper()
	if n, e := c.Move(l); n != len(l) || e != api.OK {
		t.Fatalf("Move(%s) = %d, %d; want %d, 0", show(l), n, e, len(l))
	}
}

// wantStop wants that a call tells that number and error, and that nothing was done.
func wantStop(t *testing.T, c *custody.Custody, at int, e api.Errno, call func() (int, api.Errno)) {
	t.Helper()
	was := c.All()
	if n, got := call(); n != at || got != e {
		t.Errorf("%d, %d; want %d, %d", n, got, at, e)
	}
	wantAll(t, c, was...)
}

// wantStay wants that lines can't be done for that one's error, and that nothing was.
func wantStay(t *testing.T, c *custody.Custody, at int, e api.Errno, l ...custody.Line) {
	t.Helper()
	wantStop(t, c, at, e, func() (int, api.Errno) { return c.Move(l) })
}

// The chapter's example, and the fifth one of the whole: both, or neither.
func TestExample(t *testing.T) {
	c := custody.New()
	bring(t, c, 1, "X1234", 9)
	bring(t, c, 2, "EUR", 50)
	lots := []api.Lot{lot("X1234", 9)}
	wantStop(t, c, 1, api.ErrFunds, func() (int, api.Errno) { return c.Trade(1, 2, lots, "EUR", 51) })
	wantStop(t, c, 0, api.ErrFunds, func() (int, api.Errno) { return c.Trade(1, 2, []api.Lot{lot("X1234", 10)}, "EUR", 50) })
	if n, e := c.Trade(1, 2, lots, "EUR", 50); n != 2 || e != api.OK {
		t.Error(n, e)
	}
	wantAll(t, c, bal(0, 0, "EUR", -50), bal(1, 1, "EUR", 50), bal(0, 0, "X1234", -9), bal(2, 1, "X1234", 9))
	wantStop(t, c, 0, api.ErrFunds, func() (int, api.Errno) { return c.Trade(1, 2, lots, "EUR", 50) })
}

// P12.1: new books have nothing, and each New makes others.
func TestNew(t *testing.T) {
	if custody.Own != 1 || custody.Received != 2 || custody.Pledged != 3 || custody.Margin != 4 {
		t.Error("the books are numbered otherwise")
	}
	c, other := custody.New(), custody.New()
	if c == nil || other == nil {
		t.Fatal(c, other)
	}
	wantAll(t, c)
	if len(c.Things()) != 0 || c.Out("EUR") != 0 || c.Position(1, "EUR") != (custody.Position{}) || len(c.Lots(1, 1)) != 0 {
		t.Error("new books have something")
	}
	bring(t, c, 1, "EUR", 5)
	wantAll(t, other)
}

// P12.1: books of balances have these, and tell them in order; each member's four books, and the world's book 0, may be among them.
func TestOf(t *testing.T) {
	wantAll(t, of(t))
	if c, e := custody.Of([]ledger.Balance{}); c == nil || e != api.OK {
		t.Error(c, e)
	}
	l := []ledger.Balance{bal(0, 0, "EUR", -32*10)}
	for member := 1; member <= 32; member++ {
		for book := 1; book <= 4; book++ {
			l = append(l, bal(member, book, "EUR", book))
		}
	}
	l = append(l, bal(0, 0, sec, -most), bal(32, 4, sec, most), bal(0, 0, longest, -1), bal(1, 2, longest, 1))
	c := of(t, l...)
	wantAll(t, c, l...)
	wantAll(t, of(t, c.All()...), l...)
	for member := 1; member <= 32; member++ {
		if p := c.Position(member, "EUR"); p != (custody.Position{Own: 1, Received: 2, Pledged: 3, Margin: 4}) {
			t.Error(member, p)
		}
	}
	move(t, c, line(32, 4, 1, 1, sec, 5))
	bring(t, c, 1, sec, -5)
	if c.Out(sec) != most-5 {
		t.Error(c.Out(sec))
	}
}

// strays are accounts that are neither a member's nor the world's; the ledger takes some of them.
func strays() []ledger.Account {
	var l []ledger.Account
	for _, owner := range noMembers {
		for book := 0; book <= 5; book++ {
			if owner != 0 || book != 0 {
				l = append(l, acc(owner, book, "EUR"))
			}
		}
	}
	for _, book := range noBooks {
		for _, owner := range []int{1, 2, 31, 32} {
			l = append(l, acc(owner, book, "EUR"))
		}
		if book != 0 {
			l = append(l, acc(0, book, "EUR"))
		}
	}
	return l
}

// P12.1: an account that is neither a member's nor the world's is told, wherever it is, ahead of all that the ledger tells.
func TestOfOwner(t *testing.T) {
	for _, a := range strays() {
		for _, thing := range []string{"EUR", "", longest + "x"} {
			a.Thing = thing
			for _, n := range []int{-5, 0, 5, most + 1} {
				b := ledger.Balance{Account: a, Amount: n}
				wantNone(t, api.ErrOwner, b)
				wantNone(t, api.ErrOwner, bal(0, 0, "A", -1), bal(1, 1, "A", 1), b)
				wantNone(t, api.ErrOwner, bal(1, 1, "", 1), b)
				wantNone(t, api.ErrOwner, bal(1, 1, "A", 0), b)
				wantNone(t, api.ErrOwner, bal(1, 1, "A", 1), bal(1, 1, "A", 1), b)
				wantNone(t, api.ErrOwner, b, bal(1, 1, "A", 0))
			}
		}
	}
	// The ledger would take these.
	if _, e := ledger.Of([]ledger.Balance{bal(0, 0, "EUR", -2), bal(33, 1, "EUR", 1), bal(64, 5, "EUR", 1)}); e != api.OK {
		t.Error(e)
	}
	wantNone(t, api.ErrOwner, bal(0, 0, "EUR", -1), bal(33, 1, "EUR", 1))
	wantNone(t, api.ErrOwner, bal(0, 0, "EUR", -1), bal(1, 0, "EUR", 1))
	wantNone(t, api.ErrOwner, bal(0, 0, "EUR", -1), bal(1, 5, "EUR", 1))
	wantNone(t, api.ErrOwner, bal(0, 1, "EUR", -1), bal(1, 1, "EUR", 1))
}

// P12.1: else the ledger's error is told.
func TestOfWrong(t *testing.T) {
	world := bal(0, 0, "EUR", -5)
	for _, z := range []struct {
		want api.Errno
		l    []ledger.Balance
	}{
		{api.ErrAsset, []ledger.Balance{bal(1, 1, "", 1)}},
		{api.ErrAsset, []ledger.Balance{world, bal(1, 1, "EUR", 5), bal(32, 4, longest+"x", 1)}},
		{api.ErrAsset, []ledger.Balance{bal(0, 0, "", 0)}},
		{api.ErrArg, []ledger.Balance{world, bal(1, 1, "EUR", 0)}},
		{api.ErrArg, []ledger.Balance{world, bal(1, 1, "EUR", -1)}},
		{api.ErrArg, []ledger.Balance{world, bal(1, 1, "EUR", most+1)}},
		{api.ErrArg, []ledger.Balance{bal(0, 0, "EUR", -most-1)}},
		{api.ErrArg, []ledger.Balance{bal(0, 0, "EUR", math.MinInt)}},
		{api.ErrTwice, []ledger.Balance{world, bal(1, 1, "EUR", 1), bal(1, 1, "EUR", 4)}},
		{api.ErrTwice, []ledger.Balance{world, bal(1, 2, "EUR", 1), bal(1, 1, "EUR", 4)}},
		{api.ErrTwice, []ledger.Balance{bal(1, 1, "EUR", 5), world}},
		{api.ErrFunds, []ledger.Balance{world}},
		{api.ErrFunds, []ledger.Balance{bal(1, 1, "EUR", 5)}},
		{api.ErrFunds, []ledger.Balance{world, bal(1, 1, "EUR", 4)}},
		{api.ErrFunds, []ledger.Balance{world, bal(1, 1, sec, 5)}},
	} {
		wantNone(t, z.want, z.l...)
	}
}

// P12.1: a clone has the same, and goes its own way from then on.
func TestClone(t *testing.T) {
	l := []ledger.Balance{bal(0, 0, "EUR", -5), bal(1, 1, "EUR", 5), bal(0, 0, sec, -7), bal(2, 3, sec, 7)}
	c := of(t, l...)
	d := c.Clone()
	f := d.Clone()
	if c == d || d == f {
		t.Fatal("a clone is the books themselves")
	}
	bring(t, c, 1, "EUR", -5)
	move(t, d, line(2, 3, 1, 2, sec, 7))
	wantAll(t, f, l...)
	wantAll(t, c, l[2], l[3])
	wantAll(t, d, l[0], l[1], l[2], bal(1, 2, sec, 7))
	empty := custody.New()
	bring(t, empty.Clone(), 1, "EUR", 1)
	wantAll(t, empty)
}

// P12.2: what is brought comes from the world into the Own book, and below 0 goes back there.
func TestBring(t *testing.T) {
	for _, member := range []int{1, 2, 31, 32} {
		for _, thing := range []string{"EUR", "X", sec, longest, "\x00"} {
			for _, n := range []int{1, 2, greatest - 1, greatest} {
				c := custody.New()
				bring(t, c, member, thing, n)
				wantAll(t, c, bal(0, 0, thing, -n), bal(member, 1, thing, n))
				if n < greatest {
					wantNotBrought(t, c, api.ErrFunds, member, thing, -n-1)
				}
				bring(t, c, member, thing, -n)
				wantAll(t, c)
			}
		}
	}
	c := of(t, bal(0, 0, "EUR", -10), bal(1, 1, "EUR", 4), bal(1, 2, "EUR", 6))
	bring(t, c, 1, "EUR", -3)
	bring(t, c, 2, "EUR", 8)
	wantAll(t, c, bal(0, 0, "EUR", -15), bal(1, 1, "EUR", 1), bal(1, 2, "EUR", 6), bal(2, 1, "EUR", 8))
}

// P12.2: only what the Own book of that member has of that thing can go back.
func TestBringFunds(t *testing.T) {
	c := of(t, bal(0, 0, "EUR", -100), bal(1, 1, "EUR", 4), bal(1, 2, "EUR", 20), bal(1, 3, "EUR", 30), bal(1, 4, "EUR", 40), bal(2, 1, "EUR", 6),
		bal(0, 0, sec, -50), bal(1, 1, sec, 50))
	wantNotBrought(t, c, api.ErrFunds, 1, "EUR", -5)
	wantNotBrought(t, c, api.ErrFunds, 3, "EUR", -1)
	wantNotBrought(t, c, api.ErrFunds, 2, sec, -1)
	wantNotBrought(t, c, api.ErrFunds, 1, "eur", -1)
	wantNotBrought(t, c, api.ErrFunds, 1, "EUR", -greatest)
	bring(t, c, 1, "EUR", -4)
	wantNotBrought(t, c, api.ErrFunds, 1, "EUR", -1)
}

// P12.2: who is no member is told ahead of what is wrong with qty, that ahead of what is wrong with the thing.
func TestBringWrong(t *testing.T) {
	c := of(t, bal(0, 0, "EUR", -5), bal(1, 1, "EUR", 5))
	amounts := []int{math.MinInt, math.MinInt + 1, -most, -greatest - 1, 0, greatest + 1, most, math.MaxInt}
	for _, thing := range []string{"EUR", "", longest + "x", strings.Repeat("x", 5000)} {
		for _, n := range append(amounts, 1, -1) {
			for _, member := range noMembers {
				wantNotBrought(t, c, api.ErrOwner, member, thing, n)
			}
		}
		for _, n := range amounts {
			wantNotBrought(t, c, api.ErrArg, 1, thing, n)
			wantNotBrought(t, c, api.ErrArg, 32, thing, n)
		}
		if thing != "EUR" {
			for _, n := range []int{-greatest, -1, 1, greatest} {
				wantNotBrought(t, c, api.ErrAsset, 1, thing, n)
			}
		}
	}
}

// P12.2: no more than the most can come from the world.
func TestBringOver(t *testing.T) {
	c := custody.New()
	for i := range 64 {
		bring(t, c, 1+i%32, "EUR", greatest)
	}
	wantNotBrought(t, c, api.ErrOver, 1, "EUR", 1)
	wantNotBrought(t, c, api.ErrOver, 32, "EUR", greatest)
	bring(t, c, 2, "EUR", -1)
	bring(t, c, 1, "EUR", 1)
	wantNotBrought(t, c, api.ErrOver, 2, "EUR", 1)
	if c.Out("EUR") != most {
		t.Error(c.Out("EUR"))
	}
	bring(t, c, 2, "USD", 1)
}

// P12.3: so much of a thing goes from each book of a member into each book of it, or of another one.
func TestMove(t *testing.T) {
	if n, e := custody.New().Move(nil); n != 0 || e != api.OK {
		t.Error(n, e)
	}
	for _, from := range []int{1, 2, 32} {
		for _, to := range []int{1, 2, 32} {
			for book := 1; book <= 4; book++ {
				for into := 1; into <= 4; into++ {
					c := of(t, bal(0, 0, sec, -9), bal(from, book, sec, 9))
					move(t, c, line(from, book, to, into, sec, 9))
					wantAll(t, c, bal(0, 0, sec, -9), bal(to, into, sec, 9))
					wantStay(t, c, 0, api.ErrFunds, line(to, into, from, book, sec, 10))
				}
			}
		}
	}
}

// P12.3: lines are done one behind the other, each with what those ahead left, and how many there are is told.
func TestMoveTurns(t *testing.T) {
	start := []ledger.Balance{bal(0, 0, "EUR", -9), bal(1, 1, "EUR", 9), bal(0, 0, sec, -5), bal(2, 3, sec, 5)}
	c := of(t, start...)
	move(t, c)
	wantAll(t, c, start...)
	there, on := line(1, 1, 2, 2, "EUR", 9), line(2, 2, 3, 4, "EUR", 6)
	wantStay(t, c, 0, api.ErrFunds, on, there)
	wantStay(t, c, 2, api.ErrFunds, there, on, on)
	wantStay(t, c, 3, api.ErrFunds, there, on, line(2, 3, 1, 1, sec, 5), line(2, 3, 1, 1, sec, 1))
	move(t, c, there, on, line(2, 3, 1, 1, sec, 5))
	wantAll(t, c, start[0], bal(2, 2, "EUR", 3), bal(3, 4, "EUR", 6), start[2], bal(1, 1, sec, 5))
}

// strayLines are lines whose one end is no member's book; what else is wrong with them comes behind that.
func strayLines() []custody.Line {
	var l []custody.Line
	for _, n := range noMembers {
		l = append(l, line(n, 1, 2, 1, "EUR", 1), line(1, 1, n, 1, "EUR", 1), line(n, 0, n, 0, "", 0))
	}
	for _, n := range noBooks {
		l = append(l, line(1, n, 2, 1, "EUR", 1), line(1, 1, 2, n, "EUR", 1), line(1, n, 2, n, longest+"x", -1))
	}
	// The world's book is no member's: nothing is moved out of it, or into it.
	return append(l, line(0, 0, 1, 1, "EUR", 1), line(1, 1, 0, 0, "EUR", 1))
}

// P12.3: the first line with an end that is no member's book is told, ahead of whatever the ledger tells of lines ahead of it, or of how many there are.
func TestMoveOwner(t *testing.T) {
	c := of(t, bal(0, 0, "EUR", -9), bal(1, 1, "EUR", 9))
	good, poor, wrong := line(1, 1, 2, 1, "EUR", 1), line(3, 1, 2, 1, "EUR", 1), line(1, 1, 2, 1, "", 0)
	many := slices.Repeat([]custody.Line{good}, 4097)
	for _, x := range strayLines() {
		for _, y := range strayLines() {
			wantStay(t, c, 0, api.ErrOwner, x, y)
		}
		wantStay(t, c, 1, api.ErrOwner, good, x, good)
		wantStay(t, c, 1, api.ErrOwner, poor, x)
		wantStay(t, c, 2, api.ErrOwner, wrong, good, x, x, poor)
		wantStay(t, c, 4097, api.ErrOwner, append(many, x)...)
	}
}

// P12.3: else the ledger's error is told, with its line's number, and nothing is done.
func TestMoveWrong(t *testing.T) {
	c := of(t, bal(0, 0, "EUR", -most), bal(1, 1, "EUR", most), bal(0, 0, sec, -9), bal(1, 3, sec, 9))
	good := []custody.Line{line(1, 1, 2, 2, "EUR", 5), line(2, 2, 1, 4, "EUR", 5), line(1, 3, 32, 1, sec, 9), line(1, 1, 1, 1, "EUR", 7)}
	bad := []struct {
		line custody.Line
		want api.Errno
	}{
		{line(1, 1, 2, 1, "EUR", 0), api.ErrArg},
		{line(1, 1, 2, 1, "EUR", -1), api.ErrArg},
		{line(1, 1, 2, 1, "EUR", math.MinInt), api.ErrArg},
		{line(1, 1, 2, 1, "EUR", greatest+1), api.ErrArg},
		{line(1, 1, 2, 1, "", 0), api.ErrArg},
		{line(1, 1, 2, 1, "", 1), api.ErrAsset},
		{line(1, 1, 2, 1, longest+"x", 1), api.ErrAsset},
		{line(1, 2, 2, 1, "EUR", 1), api.ErrFunds},
		{line(9, 1, 1, 1, "EUR", 1), api.ErrFunds},
		{line(9, 1, 9, 1, "EUR", 1), api.ErrFunds},
		{line(1, 3, 2, 1, sec, 10), api.ErrFunds},
		{line(1, 1, 2, 1, "USD", 1), api.ErrFunds},
	}
	for at := range len(good) + 1 {
		for _, x := range bad {
			for _, y := range bad {
				wantStay(t, c, at, x.want, slices.Concat(good[:at], []custody.Line{x.line, y.line}, good[at:])...)
			}
		}
	}
	move(t, c, good...)
	wantAll(t, c, bal(0, 0, "EUR", -most), bal(1, 1, "EUR", most-5), bal(1, 4, "EUR", 5), bal(0, 0, sec, -9), bal(32, 1, sec, 9))
}

// P12.3: 4096 lines are taken, more are not, if each end is a member's book.
func TestMoveLimit(t *testing.T) {
	c := of(t, bal(0, 0, "EUR", -4100), bal(1, 1, "EUR", 4100))
	l := slices.Repeat([]custody.Line{line(1, 1, 2, 1, "EUR", 1)}, 4097)
	wantStay(t, c, 0, api.ErrLimit, l...)
	l[0].Thing = ""
	wantStay(t, c, 0, api.ErrLimit, l...)
	wantStay(t, c, 0, api.ErrOwner, make([]custody.Line, 5000)...)
	move(t, c, l[1:]...)
	wantAll(t, c, bal(0, 0, "EUR", -4100), bal(1, 1, "EUR", 4), bal(2, 1, "EUR", 4096))
}

// P12.3: each lot goes from one book of a member into another one of it.
func TestShift(t *testing.T) {
	for _, member := range []int{1, 32} {
		for from := 1; from <= 4; from++ {
			for to := 1; to <= 4; to++ {
				c := of(t, bal(0, 0, "EUR", -3), bal(member, from, "EUR", 3), bal(0, 0, sec, -9), bal(member, from, sec, 9))
				lots := []api.Lot{lot(sec, 4), lot("EUR", 3), lot(sec, 5)}
				if n, e := c.Shift(member, from, to, lots); n != 3 || e != api.OK {
					t.Error(member, from, to, n, e)
				}
				wantAll(t, c, bal(0, 0, "EUR", -3), bal(member, to, "EUR", 3), bal(0, 0, sec, -9), bal(member, to, sec, 9))
				// What goes into the book that it comes from is still there for the next lot.
				if from != to {
					wantStop(t, c, 3, api.ErrFunds, func() (int, api.Errno) { return c.Shift(member, to, from, append(lots, lot(sec, 1))) })
				}
			}
		}
	}
}

// P12.3: a Shift that can't be done tells as Move does which lot, and why.
func TestShiftWrong(t *testing.T) {
	c := of(t, bal(0, 0, sec, -9), bal(1, 1, sec, 9))
	shift := func(at int, want api.Errno, member, from, to int, lots ...api.Lot) {
		t.Helper()
		wantStop(t, c, at, want, func() (int, api.Errno) { return c.Shift(member, from, to, lots) })
	}
	for _, n := range noMembers {
		shift(0, api.ErrOwner, n, 1, 2, lot(sec, 1))
		shift(0, api.ErrOwner, n, 1, 2, lot("", 0), lot(sec, 1))
		// Of no lots there is no line that could be wrong.
		shift(0, api.OK, n, 1, 2)
	}
	for _, n := range noBooks {
		shift(0, api.ErrOwner, 1, n, 2, lot(sec, 1))
		shift(0, api.ErrOwner, 1, 1, n, lot(sec, 1))
		shift(0, api.ErrOwner, 1, n, n, lot("", 0))
		shift(0, api.OK, 1, n, n)
	}
	shift(0, api.OK, 1, 1, 2)
	shift(1, api.ErrArg, 1, 1, 2, lot(sec, 1), lot(sec, 0))
	shift(1, api.ErrArg, 1, 1, 2, lot(sec, 1), lot(sec, -1), lot("", 1))
	shift(2, api.ErrAsset, 1, 1, 2, lot(sec, 1), lot(sec, 1), lot("", 1))
	shift(0, api.ErrFunds, 1, 2, 1, lot(sec, 1))
	shift(0, api.ErrFunds, 2, 1, 2, lot(sec, 1))
	shift(1, api.ErrFunds, 1, 1, 2, lot(sec, 5), lot(sec, 5))
	shift(0, api.ErrLimit, 1, 1, 2, slices.Repeat([]api.Lot{lot(sec, 1)}, 4097)...)
	shift(9, api.ErrFunds, 1, 1, 2, slices.Repeat([]api.Lot{lot(sec, 1)}, 4096)...)
}

// P12.3: lots go from the seller's Own book into the buyer's, and then the cash the other way.
func TestTrade(t *testing.T) {
	c := of(t, bal(0, 0, "EUR", -50), bal(32, 1, "EUR", 50), bal(0, 0, sec, -9), bal(1, 1, sec, 9), bal(0, 0, "X1234", -7), bal(1, 1, "X1234", 7))
	if n, e := c.Trade(1, 32, []api.Lot{lot(sec, 4), lot("X1234", 7), lot(sec, 1)}, "EUR", 30); n != 4 || e != api.OK {
		t.Error(n, e)
	}
	wantAll(t, c, bal(0, 0, "EUR", -50), bal(1, 1, "EUR", 30), bal(32, 1, "EUR", 20),
		bal(0, 0, sec, -9), bal(1, 1, sec, 4), bal(32, 1, sec, 5), bal(0, 0, "X1234", -7), bal(32, 1, "X1234", 7))
	// Without lots the cash alone goes.
	if n, e := c.Trade(32, 1, nil, "EUR", 30); n != 1 || e != api.OK {
		t.Error(n, e)
	}
	if c.Position(32, "EUR").Own != 50 || c.Position(1, "EUR").Own != 0 {
		t.Error(c.All())
	}
	// The cash comes behind the lots: what these bring may pay, but not the other way round.
	c = of(t, bal(0, 0, "EUR", -5), bal(1, 1, "EUR", 5))
	if n, e := c.Trade(1, 2, []api.Lot{lot("EUR", 5)}, "EUR", 5); n != 2 || e != api.OK {
		t.Error(n, e)
	}
	wantAll(t, c, bal(0, 0, "EUR", -5), bal(1, 1, "EUR", 5))
	wantStop(t, c, 0, api.ErrFunds, func() (int, api.Errno) { return c.Trade(2, 1, []api.Lot{lot("EUR", 5)}, "EUR", 5) })
	// Who trades with itself must have all of it, and keeps it.
	if n, e := c.Trade(1, 1, []api.Lot{lot("EUR", 5)}, "EUR", 5); n != 2 || e != api.OK {
		t.Error(n, e)
	}
	wantAll(t, c, bal(0, 0, "EUR", -5), bal(1, 1, "EUR", 5))
}

// P12.3: a Trade that can't be done tells as Move does which lot, or, behind them, the cash, and why.
func TestTradeWrong(t *testing.T) {
	c := of(t, bal(0, 0, "EUR", -50), bal(2, 1, "EUR", 10), bal(2, 2, "EUR", 40), bal(0, 0, sec, -19), bal(1, 1, sec, 9), bal(1, 3, sec, 10))
	trade := func(at int, want api.Errno, seller, buyer int, currency string, cash int, lots ...api.Lot) {
		t.Helper()
		wantStop(t, c, at, want, func() (int, api.Errno) { return c.Trade(seller, buyer, lots, currency, cash) })
	}
	for _, n := range noMembers {
		trade(0, api.ErrOwner, n, 2, "EUR", 1, lot(sec, 1))
		trade(0, api.ErrOwner, 1, n, "EUR", 1, lot(sec, 1))
		trade(0, api.ErrOwner, n, n, "", 0, lot("", 0))
		trade(0, api.ErrOwner, n, 2, "EUR", 1)
		trade(0, api.ErrOwner, 1, n, "EUR", 1)
	}
	trade(0, api.ErrFunds, 1, 2, "EUR", 1, lot(sec, 10))
	trade(1, api.ErrFunds, 1, 2, "EUR", 1, lot(sec, 5), lot(sec, 5))
	trade(1, api.ErrFunds, 1, 2, "EUR", 11, lot(sec, 9))
	trade(2, api.ErrFunds, 1, 2, "EUR", 11, lot(sec, 1), lot(sec, 1))
	trade(1, api.ErrFunds, 1, 2, "USD", 1, lot(sec, 9))
	trade(0, api.ErrFunds, 2, 1, "EUR", 1)
	trade(1, api.ErrArg, 1, 2, "EUR", 0, lot(sec, 9))
	trade(1, api.ErrArg, 1, 2, "EUR", -1, lot(sec, 9))
	trade(1, api.ErrArg, 1, 2, "EUR", math.MinInt, lot(sec, 9))
	trade(1, api.ErrArg, 1, 2, "", greatest+1, lot(sec, 9))
	trade(0, api.ErrArg, 1, 2, "EUR", 0)
	trade(1, api.ErrAsset, 1, 2, "", 1, lot(sec, 9))
	trade(1, api.ErrAsset, 1, 2, longest+"x", 1, lot(sec, 9))
	trade(0, api.ErrArg, 1, 2, "", 0, lot(sec, 0))
	trade(0, api.ErrAsset, 1, 2, "", 0, lot("", 1))
	trade(0, api.ErrLimit, 1, 2, "EUR", 1, slices.Repeat([]api.Lot{lot(sec, 1)}, 4096)...)
	trade(9, api.ErrFunds, 1, 2, "EUR", 1, slices.Repeat([]api.Lot{lot(sec, 1)}, 4095)...)
}

// P12.4: what a member has of a thing in each book, and together.
func TestPosition(t *testing.T) {
	c := of(t, bal(0, 0, "EUR", -111), bal(1, 1, "EUR", 1), bal(1, 2, "EUR", 20), bal(1, 3, "EUR", 30), bal(1, 4, "EUR", 40), bal(2, 3, "EUR", 20),
		bal(0, 0, "EURO", -7), bal(1, 4, "EURO", 7))
	for _, z := range []struct {
		member int
		thing  string
		want   custody.Position
		all    int
	}{
		{1, "EUR", custody.Position{Own: 1, Received: 20, Pledged: 30, Margin: 40}, 91},
		{2, "EUR", custody.Position{Pledged: 20}, 20},
		{1, "EURO", custody.Position{Margin: 7}, 7},
		{2, "EURO", custody.Position{}, 0},
		{3, "EUR", custody.Position{}, 0},
		{1, "", custody.Position{}, 0},
		{1, "eur", custody.Position{}, 0},
		{1, strings.Repeat("EUR", 20), custody.Position{}, 0},
	} {
		if p := c.Position(z.member, z.thing); p != z.want || p.All() != z.all {
			t.Errorf("Position(%d, %.20q) = %v, in all %d; want %v, %d", z.member, z.thing, p, p.All(), z.want, z.all)
		}
	}
	for _, n := range noMembers {
		if p := c.Position(n, "EUR"); p != (custody.Position{}) {
			t.Error(n, p)
		}
	}
	for i, p := range []custody.Position{{Own: 1}, {Received: 2}, {Pledged: 3}, {Margin: 4}} {
		if p.All() != i+1 {
			t.Error(p, p.All())
		}
	}
	if (custody.Position{}).All() != 0 || (custody.Position{Own: 5, Received: -7, Pledged: 11, Margin: most}).All() != most+9 {
		t.Error("All of a position")
	}
}

// P12.4: things rise as texts, each told once, while something of it is out; Out is what came from the world.
func TestThings(t *testing.T) {
	c := custody.New()
	things := []string{"b", "a", "\xff", "AB", "é", sec, "10", "9", longest, "\x00"}
	for i, thing := range things {
		bring(t, c, 1+i, thing, 3+i)
		move(t, c, line(1+i, 1, 32, 2, thing, 2))
		bring(t, c, 31, thing, 1)
		if n := c.Out(thing); n != 4+i {
			t.Errorf("Out(%q) = %d; want %d", thing, n, 4+i)
		}
	}
	for _, thing := range []string{"", "A", "EUR", "ab", longest + "x"} {
		if n := c.Out(thing); n != 0 {
			t.Errorf("Out(%q) = %d", thing, n)
		}
	}
	for i, thing := range things {
		rest := slices.Sorted(slices.Values(things[i:]))
		if l := c.Things(); !slices.Equal(l, rest) {
			t.Errorf("Things = %q; want %q", l, rest)
		}
		move(t, c, line(32, 2, 1+i, 1, thing, 2), line(31, 1, 1+i, 1, thing, 1))
		bring(t, c, 1+i, thing, -4-i)
	}
	if l := c.Things(); len(l) != 0 {
		t.Error(l)
	}
}

// P12.4: what a book has of things with more than three bytes, in order of these.
func TestLots(t *testing.T) {
	c := custody.New()
	// By bytes, not signs: "éé" has four of them.
	long := []string{"\x00\x00\x00\x00", "EURO", "XS00", sec, "éé", longest, "\xff\xff\xff\xff", "EUR ", "a b c"}
	for i, thing := range slices.Concat(long, []string{"EUR", "X", "é", "éx", "\xff\xff\xff", "USD", "\x00"}) {
		for member := 1; member <= 3; member++ {
			bring(t, c, member, thing, 1000)
			move(t, c, line(member, 1, member, 2, thing, 10*member+i+1))
		}
	}
	var order, own []api.Lot
	for _, thing := range slices.Sorted(slices.Values(long)) {
		i := slices.Index(long, thing)
		order, own = append(order, lot(thing, 20+i+1)), append(own, lot(thing, 980-i-1))
	}
	if l := c.Lots(2, custody.Received); !slices.Equal(l, order) {
		t.Errorf("Lots = %v; want %v", l, order)
	}
	if l := c.Lots(2, custody.Own); !slices.Equal(l, own) {
		t.Errorf("Lots = %v; want %v", l, own)
	}
	for _, z := range [][2]int{{2, 3}, {2, 4}, {4, 1}, {32, 2}} {
		if l := c.Lots(z[0], z[1]); len(l) != 0 {
			t.Error(z, l)
		}
	}
	// The world is no member, and its book no member's.
	for book := range 6 {
		for _, n := range noMembers {
			if l := c.Lots(n, book); len(l) != 0 {
				t.Error(n, book, l)
			}
		}
	}
	for _, n := range noBooks {
		if l := c.Lots(1, n); len(l) != 0 {
			t.Error(n, l)
		}
	}
	bring(t, c, 2, sec, -1000+20+4)
	if slices.ContainsFunc(c.Lots(2, custody.Own), func(x api.Lot) bool { return x.ISIN == sec }) {
		t.Error("a lot of 0")
	}
}

// Of nil, and of what no call made, there is nothing, and the error is ErrNil, ahead of all others.
func TestNil(t *testing.T) {
	for _, c := range []*custody.Custody{nil, {}, new(custody.Custody)} {
		for _, member := range []int{1, 0, 33} {
			if e := c.Bring(member, "EUR", 1); e != api.ErrNil {
				t.Error(e)
			}
			if n, e := c.Move([]custody.Line{line(1, 1, 2, 1, "EUR", 1), line(member, 1, 2, 9, "", 0)}); n != 0 || e != api.ErrNil {
				t.Error(n, e)
			}
			for _, lots := range [][]api.Lot{nil, {lot(sec, 1)}, make([]api.Lot, 5000)} {
				if n, e := c.Shift(member, 1, 2, lots); n != 0 || e != api.ErrNil {
					t.Error(n, e)
				}
				if n, e := c.Trade(member, 2, lots, "EUR", 0); n != 0 || e != api.ErrNil {
					t.Error(n, e)
				}
			}
			if c.Position(member, "EUR") != (custody.Position{}) || len(c.Lots(member, 1)) != 0 {
				t.Error("there is something")
			}
		}
		if n, e := c.Move(nil); n != 0 || e != api.ErrNil {
			t.Error(n, e)
		}
		if e := c.Bring(1, "", math.MinInt); e != api.ErrNil {
			t.Error(e)
		}
		if c.Out("EUR") != 0 || c.Out("") != 0 || c.Lots(0, 0) != nil || c.Things() != nil || c.All() != nil || c.Clone() != nil {
			t.Error("there is something")
		}
	}
}

// Lists that are handed in are neither changed nor kept, nor is the room behind them.
func TestMemoryIn(t *testing.T) {
	balances := []ledger.Balance{bal(0, 0, "EUR", -5), bal(1, 1, "EUR", 5), bal(9, 9, "Z", 9)}
	lines := []custody.Line{line(1, 1, 2, 1, "EUR", 1), line(1, 1, 2, 1, "EUR", 9), line(9, 9, 9, 9, "Z", 9)}
	lots := []api.Lot{lot("EUR", 1), lot("EUR", 1), lot("Z", 9), lot("Z", 9)}
	b, l, s := slices.Clone(balances), slices.Clone(lines), slices.Clone(lots)
	c := of(t, balances[:2]...)
	if !slices.Equal(b, balances) {
		t.Error(balances)
	}
	clear(balances)
	move(t, c, lines[:1]...)
	wantStay(t, c, 1, api.ErrFunds, lines[:2]...)
	if !slices.Equal(l, lines) {
		t.Error(lines)
	}
	if n, e := c.Shift(1, 1, 2, lots[:2]); n != 2 || e != api.OK {
		t.Error(n, e)
	}
	if n, e := c.Trade(1, 2, lots[:2], "EUR", 1); n != 3 || e != api.OK {
		t.Error(n, e)
	}
	wantStop(t, c, 0, api.ErrFunds, func() (int, api.Errno) { return c.Trade(3, 2, lots[:2], "EUR", 1) })
	if !slices.Equal(s, lots) {
		t.Error(lots)
	}
	clear(lines)
	clear(lots)
	wantAll(t, c, bal(0, 0, "EUR", -5), bal(1, 1, "EUR", 1), bal(1, 2, "EUR", 2), bal(2, 1, "EUR", 2))
}

// Each list that is told is new.
func TestMemoryOut(t *testing.T) {
	c := of(t, bal(0, 0, sec, -5), bal(1, 1, sec, 5))
	all, things, lots := c.All(), c.Things(), c.Lots(1, 1)
	_, _, _ = append(all, bal(9, 9, "Z", 9)), append(things, "Z"), append(lots, lot("Z", 9))
	clear(all)
	clear(things)
	clear(lots)
	wantAll(t, c, bal(0, 0, sec, -5), bal(1, 1, sec, 5))
	if l := c.Things(); !slices.Equal(l, []string{sec}) {
		t.Error(l)
	}
	if l := c.Lots(1, 1); !slices.Equal(l, []api.Lot{lot(sec, 5)}) {
		t.Error(l)
	}
}

// place is where a text's bytes lie.
func place(s string) *byte { return unsafe.StringData(s) }

// A thing's text lies apart in arguments and answers, and what becomes of its bytes behind a call is all one to the books.
func TestTexts(t *testing.T) {
	seen := map[*byte]bool{}
	var handed [][]byte
	text := func() string {
		b := []byte(sec)
		handed = append(handed, b)
		s := unsafe.String(&b[0], len(b))
		seen[place(s)] = true
		return s
	}
	told := func(what string, c *custody.Custody) {
		t.Helper()
		l := c.Things()
		for _, b := range c.All() {
			l = append(l, b.Account.Thing)
		}
		for book := 1; book <= 4; book++ {
			for _, x := range slices.Concat(c.Lots(1, book), c.Lots(2, book)) {
				l = append(l, x.ISIN)
			}
		}
		for _, s := range l {
			if s != sec || seen[place(s)] {
				t.Errorf("%s: %q, a text that was handed in or out before", what, s)
			}
			seen[place(s)] = true
		}
	}
	c := of(t, bal(0, 0, text(), -9), bal(1, 1, text(), 9))
	told("Of", c)
	bring(t, c, 2, text(), 9)
	move(t, c, line(2, 1, 1, 1, text(), 3))
	if n, e := c.Shift(1, 1, 3, []api.Lot{lot(text(), 2)}); n != 1 || e != api.OK {
		t.Error(n, e)
	}
	if n, e := c.Trade(1, 2, []api.Lot{lot(text(), 2)}, text(), 1); n != 2 || e != api.OK {
		t.Error(n, e)
	}
	told("what was moved", c)
	wantStay(t, c, 1, api.ErrFunds, line(1, 1, 2, 4, text(), 3), line(1, 2, 1, 1, text(), 3))
	c.Position(1, text())
	c.Out(text())
	told("what stayed", c)
	told("Clone", c.Clone())
	for _, b := range handed {
		clear(b)
	}
	wantAll(t, c, bal(0, 0, sec, -18), bal(1, 1, sec, 9), bal(1, 3, sec, 2), bal(2, 1, sec, 7))
}

// model is the chapters' words once more: what each account has, the world's book too.
type model map[ledger.Account]int

// do does one entry, or tells why not.
func (m model) do(from, to ledger.Account, n int) api.Errno {
	switch {
	case n < 1 || n > greatest:
		return api.ErrArg
	case len(from.Thing) < 1 || len(from.Thing) > 40:
		return api.ErrAsset
	case from.Owner != 0 && m[from] < n:
		return api.ErrFunds
	}
	m[from] -= n
	m[to] += n
	if m[from] < -most || m[to] > most {
		return api.ErrOver
	}
	return api.OK
}

// bring brings something, and tells what becomes of the model.
func (m model) bring(member int, thing string, n int) (model, api.Errno) {
	if member < 1 || member > 32 {
		return m, api.ErrOwner
	}
	y := maps.Clone(m)
	e := api.OK
	if n < 0 {
		e = y.do(acc(member, 1, thing), acc(0, 0, thing), -n)
	} else {
		e = y.do(acc(0, 0, thing), acc(member, 1, thing), n)
	}
	if e != api.OK {
		return m, e
	}
	return y, e
}

// move does lines, and tells what becomes of the model.
func (m model) move(l []custody.Line) (model, int, api.Errno) {
	for i, x := range l {
		for _, n := range []int{x.From, x.To} {
			if n < 1 || n > 32 {
				return m, i, api.ErrOwner
			}
		}
		for _, n := range []int{x.Book, x.Into} {
			if n < 1 || n > 4 {
				return m, i, api.ErrOwner
			}
		}
	}
	y := maps.Clone(m)
	for i, x := range l {
		if e := y.do(acc(x.From, x.Book, x.Thing), acc(x.To, x.Into, x.Thing), x.Qty); e != api.OK {
			return m, i, e
		}
	}
	return y, len(l), api.OK
}

// Numbers, things and amounts by chance; now and then wrong ones.
func oneOf[T any](r *rand.Rand, good, bad []T) T {
	if r.Intn(40) == 0 {
		return bad[r.Intn(len(bad))]
	}
	return good[r.Intn(len(good))]
}

func chanceMember(r *rand.Rand) int { return oneOf(r, []int{1, 2, 3, 32}, noMembers) }

func chanceBook(r *rand.Rand) int { return oneOf(r, []int{1, 1, 1, 2, 3, 4}, noBooks) }

func chanceThing(r *rand.Rand) string {
	return oneOf(r, []string{"EUR", "EUR", "USD", sec, sec, "X1234", longest}, []string{"", longest + "x"})
}

func chanceQty(r *rand.Rand) int {
	return oneOf(r, []int{1, 1 + r.Intn(4), 1 + r.Intn(30)}, []int{0, -1, math.MinInt, greatest, greatest + 1})
}

// step does the same by chance with books and the model, and wants that both tell the same.
func step(t *testing.T, r *rand.Rand, c *custody.Custody, m model) model {
	t.Helper()
	var l []custody.Line
	var lots []api.Lot
	for range r.Intn(5) {
		l = append(l, line(chanceMember(r), chanceBook(r), chanceMember(r), chanceBook(r), chanceThing(r), chanceQty(r)))
		lots = append(lots, lot(chanceThing(r), chanceQty(r)))
	}
	a, b, from, to, thing, qty := chanceMember(r), chanceMember(r), chanceBook(r), chanceBook(r), chanceThing(r), chanceQty(r)
	n, want, e, wantE := 0, 0, api.OK, api.OK
	switch r.Intn(5) {
	case 0, 1:
		if qty = 10 * qty; r.Intn(4) == 0 {
			qty = -qty
		}
		e = c.Bring(a, thing, qty)
		m, wantE = m.bring(a, thing, qty)
	case 2:
		n, e = c.Move(l)
		m, want, wantE = m.move(l)
	case 3:
		n, e = c.Shift(a, from, to, lots)
		l = nil
		for _, x := range lots {
			l = append(l, line(a, from, a, to, x.ISIN, x.Qty))
		}
		m, want, wantE = m.move(l)
	case 4:
		n, e = c.Trade(a, b, lots, thing, qty)
		l = nil
		for _, x := range lots {
			l = append(l, line(a, 1, b, 1, x.ISIN, x.Qty))
		}
		m, want, wantE = m.move(append(l, line(b, 1, a, 1, thing, qty)))
	}
	if n != want || e != wantE {
		t.Fatalf("%d, %d; want %d, %d", n, e, want, wantE)
	}
	return m
}

// wantLike wants that books have just what the model has.
func wantLike(t *testing.T, c *custody.Custody, m model) {
	t.Helper()
	some := 0
	for a, n := range m {
		if n != 0 {
			some++
		}
		if a.Owner == 0 && c.Out(a.Thing) != -n {
			t.Fatalf("Out(%q) = %d; want %d", a.Thing, c.Out(a.Thing), -n)
		}
	}
	all := c.All()
	for _, b := range all {
		if b.Amount == 0 || m[b.Account] != b.Amount {
			t.Fatalf("%v; want %d", b, m[b.Account])
		}
	}
	if some != len(all) {
		t.Fatalf("%d accounts; want %d", len(all), some)
	}
}

// wantWhole wants P12.5 of books: each member's All is the ledger's Held, its lots lie in its books, and what came from outside is what all have.
func wantWhole(t *testing.T, c *custody.Custody) {
	t.Helper()
	x, e := ledger.Of(c.All())
	if e != api.OK {
		t.Fatal(e)
	}
	for _, thing := range c.Things() {
		together := 0
		for member := 1; member <= 32; member++ {
			p := c.Position(member, thing)
			if p.All() != x.Held(member, thing) || min(p.Own, p.Received, p.Pledged, p.Margin) < 0 {
				t.Fatal(member, thing, p)
			}
			together += p.All()
			lots := 0
			for book := 1; book <= 4; book++ {
				for _, y := range c.Lots(member, book) {
					if y.ISIN == thing {
						lots += y.Qty
					}
				}
			}
			if len(thing) > 3 && lots != p.All() || len(thing) <= 3 && lots != 0 {
				t.Fatal(member, thing, p, lots)
			}
		}
		if together != c.Out(thing) || together != x.Out(thing) {
			t.Fatal(thing, together, c.Out(thing))
		}
	}
}

// P12.5, and all the others once more: calls by chance, held against the model.
func TestChance(t *testing.T) {
	for seed := range int64(60) {
		r := rand.New(rand.NewSource(seed))
		c, m := custody.New(), model{}
		done := 0
		for range 150 {
			was := len(c.All())
			m = step(t, r, c, m)
			wantLike(t, c, m)
			if len(c.All()) != was {
				done++
			}
			if r.Intn(20) == 0 {
				wantWhole(t, c)
				c = of(t, c.Clone().All()...)
			}
		}
		wantWhole(t, c)
		if done < 5 {
			t.Error("hardly anything was done")
		}
	}
}

// P12.5: the most that may be, all of it with one member, or in many books, stays a whole.
func TestGreat(t *testing.T) {
	l := []ledger.Balance{bal(0, 0, sec, -most)}
	for member := 1; member <= 32; member++ {
		for book := 1; book <= 4; book++ {
			l = append(l, bal(member, book, sec, most/128))
		}
	}
	c := of(t, l...)
	wantWhole(t, c)
	for _, b := range l[1:] {
		for n := b.Amount; n > 0; n -= greatest {
			move(t, c, line(b.Account.Owner, b.Account.Book, 7, 3, sec, min(n, greatest)))
		}
	}
	wantAll(t, c, bal(0, 0, sec, -most), bal(7, 3, sec, most))
	wantWhole(t, c)
	// More than that can't be in members' books.
	l[1].Amount++
	wantNone(t, api.ErrFunds, l...)
	l[0].Amount--
	wantNone(t, api.ErrArg, l...)
}
