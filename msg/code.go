package msg

import (
	"lombard/api"
	"lombard/wire"
)

// How many bytes a name may take (each sign up to four), and how many the number of a security, or a currency.
const (
	nameBytes = 4 * api.MaxName
	codeBytes = 12
)

// encoder writes the parts of messages.
type encoder struct{ wire.Writer }

// ints writes numbers one behind the other, without how many they are.
func (w *encoder) ints(l ...int) {
	for _, n := range l {
		w.Int(n)
	}
}

func (w *encoder) lot(l api.Lot) {
	w.Text(l.ISIN)
	w.Int(l.Qty)
}

func (m Join) write(w *encoder) {
	w.Int(m.Member)
	w.Text(m.Name)
}

func (m List) write(w *encoder) {
	w.Text(m.Asset.ISIN)
	w.ints(m.Asset.Issuer, m.Asset.Rating, m.Asset.Maturity)
	w.Text(m.Asset.Currency)
}

func (m Rules) write(w *encoder) {
	b := m.Basket
	w.ints(b.ID, b.Version, b.Rating, b.Least, b.Most, b.Issuer, b.Asset)
	w.Text(b.Currency)
	w.Uint(uint64(len(b.Cuts)))
	for _, c := range b.Cuts {
		w.ints(c.Days, c.Rating, c.Cut)
	}
	w.Ints(b.Barred)
}

func (m Prices) write(w *encoder) {
	w.Uint(uint64(len(m.L)))
	for _, p := range m.L {
		w.Text(p.ISIN)
		w.Int(p.Price)
	}
}

func (m Roll) write(w *encoder) { w.Int(m.Day) }

func (m Cash) write(w *encoder) {
	w.ints(m.Member, m.Amount)
	w.Text(m.Currency)
}

func (m Move) write(w *encoder) {
	w.ints(m.Member, m.Qty)
	w.Text(m.ISIN)
}

func (m Offer) write(w *encoder) {
	q := m.Quote
	w.ints(q.ID, q.Member, q.Side, q.Basket, q.Amount, q.Rate, q.Start, q.End)
}

func (m Cancel) write(w *encoder) { w.ints(m.Member, m.Quote) }

func (m Notice) write(w *encoder) { w.ints(m.Member, m.Trade, m.Day) }

func (m Swap) write(w *encoder) {
	w.ints(m.Member, m.Trade)
	w.lot(m.Out)
	w.Uint(uint64(len(m.In)))
	for _, l := range m.In {
		w.lot(l)
	}
}

func (m Settle) write(w *encoder) {
	w.ints(m.Member, m.Day)
	w.Bool(m.Done)
}

func (m Default) write(w *encoder) { w.Int(m.Member) }

func (m Bound) write(w *encoder) { w.ints(m.Member, m.Amount) }

func (m Reset) write(w *encoder) { w.ints(m.Trade, m.Day, m.Rate) }

// decoder reads the parts of messages. Calls in a literal are made from the left to the right, so that its parts are named in the order in which they are read.
type decoder struct{ *wire.Reader }

func (d decoder) code() string { return d.Text(codeBytes) }

func (d decoder) lot() api.Lot { return api.Lot{ISIN: d.code(), Qty: d.Int()} }

// message reads what follows a kind; nil: there is no such kind.
func (d decoder) message(kind int) Message {
	switch kind {
	case KindJoin:
		return Join{Member: d.Int(), Name: d.Text(nameBytes)}
	case KindAsset:
		return List{d.asset()}
	case KindRules:
		return Rules{d.basket()}
	case KindPrices:
		return Prices{d.prices()}
	case KindRoll:
		return Roll{Day: d.Int()}
	case KindCash:
		return Cash{Member: d.Int(), Amount: d.Int(), Currency: d.code()}
	case KindMove:
		return Move{Member: d.Int(), Qty: d.Int(), ISIN: d.code()}
	case KindOffer:
		return Offer{d.quote()}
	case KindCancel:
		return Cancel{Member: d.Int(), Quote: d.Int()}
	case KindNotice:
		return Notice{Member: d.Int(), Trade: d.Int(), Day: d.Int()}
	case KindSwap:
		return Swap{Member: d.Int(), Trade: d.Int(), Out: d.lot(), In: d.lots()}
	case KindSettle:
		return Settle{Member: d.Int(), Day: d.Int(), Done: d.Bool()}
	case KindDefault:
		return Default{Member: d.Int()}
	case KindBound:
		return Bound{Member: d.Int(), Amount: d.Int()}
	case KindReset:
		return Reset{Trade: d.Int(), Day: d.Int(), Rate: d.Int()}
	}
	return nil
}

func (d decoder) asset() api.Asset {
	return api.Asset{ISIN: d.code(), Issuer: d.Int(), Rating: d.Int(), Maturity: d.Int(), Currency: d.code()}
}

func (d decoder) basket() api.Basket {
	return api.Basket{
		ID: d.Int(), Version: d.Int(), Rating: d.Int(), Least: d.Int(), Most: d.Int(), Issuer: d.Int(), Asset: d.Int(),
		Currency: d.code(), Cuts: d.cuts(), Barred: d.Ints(api.MaxList),
	}
}

func (d decoder) cuts() []api.Cut {
	var l []api.Cut
	for range d.Count(api.MaxList) {
		l = append(l, api.Cut{Days: d.Int(), Rating: d.Int(), Cut: d.Int()})
	}
	return l
}

func (d decoder) prices() []api.Price {
	var l []api.Price
	for range d.Count(api.MaxList) {
		l = append(l, api.Price{ISIN: d.code(), Price: d.Int()})
	}
	return l
}

func (d decoder) quote() api.Quote {
	return api.Quote{
		ID: d.Int(), Member: d.Int(), Side: d.Int(), Basket: d.Int(),
		Amount: d.Int(), Rate: d.Int(), Start: d.Int(), End: d.Int(),
	}
}

func (d decoder) lots() []api.Lot {
	var l []api.Lot
	for range d.Count(api.MaxList) {
		l = append(l, d.lot())
	}
	return l
}
