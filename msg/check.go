package msg

import (
	"lombard/api"
	"lombard/calendar"
	"lombard/isin"
	"lombard/name"
)

// The greatest issuer, and the greatest haircut: the whole of a security is never cut off.
const (
	maxIssuer = 9999
	maxCut    = api.Unit - 1
)

func within(n, least, most int) bool { return n >= least && n <= most }

func member(n int) bool { return within(n, 1, api.MaxMembers) }

func amount(n int) bool { return within(n, 1, api.MaxAmount) }

// number tells whether n may be that of a quote, a trade, a version.
func number(n int) bool { return within(n, 1, api.MaxAmount) }

// change tells whether n is an amount, or one with a - ahead of it. (The least int is its own negative, and so no change.)
func change(n int) bool { return amount(n) || amount(-n) }

func rate(n int) bool { return within(n, -api.MaxRate, api.MaxRate) }

func rating(n int) bool { return within(n, 0, api.MaxRating) }

func (m Join) check() api.Errno {
	if !member(m.Member) {
		return api.ErrArg
	}
	_, e := name.Check(m.Name)
	return e
}

func (m List) check() api.Errno { return isin.Asset(m.Asset) }

func (m Rules) check() api.Errno { return Basket(m.Basket) }

// Basket tells what is wrong with a basket's rules.
func Basket(b api.Basket) api.Errno {
	switch {
	case !within(b.ID, 1, api.MaxList) || !number(b.Version) || !rating(b.Rating):
		return api.ErrArg
	case !within(b.Issuer, 0, api.Unit) || !within(b.Asset, 0, api.Unit):
		return api.ErrArg
	case !within(len(b.Cuts), 1, api.MaxList) || len(b.Barred) > api.MaxList:
		return api.ErrArg
	case b.Least < 0 || b.Most < b.Least || b.Most > api.MaxDay:
		return api.ErrDay
	case !isin.Currency(b.Currency):
		return api.ErrName
	case !cuts(b.Cuts) || !barred(b.Barred):
		return api.ErrArg
	}
	return api.OK
}

// cuts tells whether haircuts may be.
func cuts(l []api.Cut) bool {
	for _, c := range l {
		if !within(c.Days, 0, api.MaxDay) || !rating(c.Rating) || !within(c.Cut, 0, maxCut) {
			return false
		}
	}
	return true
}

// barred tells whether issuers may be, and rise.
func barred(l []int) bool {
	for i, n := range l {
		if !within(n, 0, maxIssuer) || i > 0 && n <= l[i-1] {
			return false
		}
	}
	return true
}

func (m Prices) check() api.Errno {
	if !within(len(m.L), 1, api.MaxList) {
		return api.ErrLimit
	}
	for i, p := range m.L {
		if e := isin.Check(p.ISIN); e != api.OK {
			return e
		}
		if !within(p.Price, 1, api.MaxPrice) || i > 0 && p.ISIN <= m.L[i-1].ISIN {
			return api.ErrPrice
		}
	}
	return api.OK
}

// day tells what is wrong with a day.
func day(n int) api.Errno {
	if !calendar.Good(n) {
		return api.ErrDay
	}
	return api.OK
}

func (m Roll) check() api.Errno { return day(m.Day) }

func (m Cash) check() api.Errno {
	switch {
	case !isin.Currency(m.Currency):
		return api.ErrName
	case !member(m.Member) || !change(m.Amount):
		return api.ErrArg
	}
	return api.OK
}

func (m Move) check() api.Errno {
	if !member(m.Member) || !change(m.Qty) {
		return api.ErrArg
	}
	return isin.Check(m.ISIN)
}

func (m Offer) check() api.Errno {
	q := m.Quote
	switch {
	case !member(q.Member) || !number(q.ID) || q.Side != api.Lend && q.Side != api.Borrow:
		return api.ErrArg
	case !within(q.Basket, 1, api.MaxList) || !amount(q.Amount) || !rate(q.Rate):
		return api.ErrArg
	case !calendar.Good(q.Start) || !ends(q.Start, q.End):
		return api.ErrDay
	}
	return api.OK
}

// ends tells whether what starts on a day may end on another one; 0: it is open.
func ends(start, end int) bool {
	return end == 0 || calendar.Good(end) && within(end-start, 1, api.MaxDays)
}

func (m Cancel) check() api.Errno {
	if !member(m.Member) || !number(m.Quote) {
		return api.ErrArg
	}
	return api.OK
}

func (m Notice) check() api.Errno {
	if !member(m.Member) || !number(m.Trade) {
		return api.ErrArg
	}
	return day(m.Day)
}

func (m Swap) check() api.Errno {
	if !member(m.Member) || !number(m.Trade) || len(m.In) > api.MaxList {
		return api.ErrArg
	}
	if e := lot(m.Out); e != api.OK {
		return e
	}
	for _, l := range m.In {
		if e := lot(l); e != api.OK {
			return e
		}
	}
	return api.OK
}

// lot tells what is wrong with a lot.
func lot(l api.Lot) api.Errno {
	if !amount(l.Qty) {
		return api.ErrArg
	}
	return isin.Check(l.ISIN)
}

func (m Settle) check() api.Errno {
	if !member(m.Member) {
		return api.ErrArg
	}
	return day(m.Day)
}

func (m Default) check() api.Errno {
	if !member(m.Member) {
		return api.ErrArg
	}
	return api.OK
}

func (m Bound) check() api.Errno {
	if !member(m.Member) || !within(m.Amount, 0, api.MaxAmount) {
		return api.ErrArg
	}
	return api.OK
}

func (m Reset) check() api.Errno {
	if !number(m.Trade) || !rate(m.Rate) {
		return api.ErrArg
	}
	return day(m.Day)
}
