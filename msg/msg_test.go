package msg_test

import (
	"fmt"
	"math"
	"math/rand"
	"reflect"
	"slices"
	"strings"
	"testing"
	"unsafe"

	"lombard/api"
	"lombard/isin"
	"lombard/msg"
)

const (
	apple  = "US0378331005"
	sap    = "DE0007164600"
	amount = 1 << 50
)

// numbers is n numbers of securities, rising.
func numbers(n int) []string {
	l := []string{}
	for i := range n {
		s, e := isin.Make("US", fmt.Sprintf("%09d", 37833100+i*7))
		if e != api.OK {
			panic(e)
		}
		l = append(l, s)
	}
	return l
}

func asset() api.Asset {
	return api.Asset{ISIN: sap, Issuer: 12, Rating: 3, Maturity: 9000, Currency: "EUR"}
}

func rules() api.Basket {
	return api.Basket{
		ID: 2, Version: 1, Currency: "EUR", Rating: 5, Least: 30, Most: 7000, Issuer: 300000, Asset: 100000,
		Cuts: []api.Cut{{Days: 365, Rating: 2, Cut: 5000}, {Days: 7000, Rating: 5, Cut: 80000}}, Barred: []int{3, 70, 9998},
	}
}

func quote() api.Quote {
	return api.Quote{ID: 4, Member: 7, Side: api.Borrow, Basket: 2, Amount: 100, Rate: -50, Start: 3, End: 10}
}

func prices() msg.Prices {
	return msg.Prices{L: []api.Price{{ISIN: sap, Price: 990000}, {ISIN: apple, Price: 1}}}
}

func swap() msg.Swap {
	return msg.Swap{Member: 9, Trade: 2, Out: api.Lot{ISIN: apple, Qty: 1}, In: []api.Lot{{ISIN: sap, Qty: 5}, {ISIN: apple, Qty: 300}}}
}

// goods is a message of each kind, in their order, in new memory.
func goods() []msg.Message {
	return []msg.Message{
		msg.Join{Member: 3, Name: "Müller & Co"}, msg.List{Asset: asset()}, msg.Rules{Basket: rules()}, prices(), msg.Roll{Day: 9},
		msg.Cash{Member: 1, Currency: "EUR", Amount: -5}, msg.Move{Member: 2, ISIN: apple, Qty: 7}, msg.Offer{Quote: quote()},
		msg.Cancel{Member: 5, Quote: 4}, msg.Notice{Member: 6, Trade: 2, Day: 8}, swap(), msg.Settle{Member: 1, Day: 4, Done: true},
		msg.Default{Member: 32}, msg.Bound{Member: 1, Amount: 70}, msg.Reset{Trade: 1, Day: 2, Rate: 3},
	}
}

// What follows are messages that are none: Message can be met elsewhere, too.
type liar struct{}

func (liar) Kind() int { return msg.KindRoll }

type bomb struct{}

func (bomb) Kind() int { panic("asked") }

type table map[int]int

func (table) Kind() int { return msg.KindOffer }

type call func()

func (call) Kind() int { return msg.KindSwap }

type inOffer struct{ msg.Offer }
type inSwap struct{ *msg.Swap }
type inJoin struct{ msg.Join }
type inMessage struct{ msg.Message }
type number int

func (n number) Kind() int { return int(n) }

// strangers is messages of none of the fifteen types.
func strangers() []msg.Message {
	l := []msg.Message{
		nil, liar{}, &liar{}, bomb{}, table{1: 1}, table(nil), call(nil), inOffer{msg.Offer{Quote: quote()}}, &inOffer{}, inSwap{},
		inSwap{&msg.Swap{Member: 1}}, inJoin{msg.Join{Member: 3, Name: "Nord"}}, inMessage{}, inMessage{msg.Offer{Quote: quote()}}, inMessage{swap()},
		(*msg.Join)(nil), (*msg.List)(nil), (*msg.Rules)(nil), (*msg.Prices)(nil), (*msg.Roll)(nil), (*msg.Cash)(nil), (*msg.Move)(nil), (*msg.Offer)(nil),
		(*msg.Cancel)(nil), (*msg.Notice)(nil), (*msg.Swap)(nil), (*msg.Settle)(nil), (*msg.Default)(nil), (*msg.Bound)(nil), (*msg.Reset)(nil),
	}
	for _, m := range goods() {
		p := reflect.New(reflect.TypeOf(m))
		p.Elem().Set(reflect.ValueOf(m))
		l = append(l, p.Interface().(msg.Message))
	}
	for n := range 20 {
		l = append(l, number(n))
	}
	return l
}

// panics tells whether f does.
func panics(f func()) (yes bool) {
	defer func() { yes = recover() != nil }()
	f()
	return
}

// same tells whether two messages are alike, nil and empty lists being so, too.
func same(a, b msg.Message) bool { return reflect.DeepEqual(bare(a), bare(b)) }

// bare is a message whose empty lists are nil.
func bare(m msg.Message) msg.Message {
	switch m := m.(type) {
	case msg.Rules:
		if len(m.Basket.Cuts) == 0 {
			m.Basket.Cuts = nil
		}
		if len(m.Basket.Barred) == 0 {
			m.Basket.Barred = nil
		}
		return m
	case msg.Prices:
		if len(m.L) == 0 {
			m.L = nil
		}
		return m
	case msg.Swap:
		if len(m.In) == 0 {
			m.In = nil
		}
		return m
	}
	return m
}

// wantCheck wants Check's answer, and Encode to tell the same error.
func wantCheck(t *testing.T, m msg.Message, want api.Errno) {
	t.Helper()
	if e := msg.Check(m); e != want {
		t.Errorf("Check(%T %+v) = %d, want %d", m, m, e, want)
	}
	if s, e := msg.Encode(m); e != want || (s == "") != (e != api.OK) {
		t.Errorf("Encode(%T %+v) = %q, %d, want error %d", m, m, s, e, want)
	}
}

func TestKinds(t *testing.T) {
	kinds := []int{
		msg.KindJoin, msg.KindAsset, msg.KindRules, msg.KindPrices, msg.KindRoll, msg.KindCash, msg.KindMove, msg.KindOffer,
		msg.KindCancel, msg.KindNotice, msg.KindSwap, msg.KindSettle, msg.KindDefault, msg.KindBound, msg.KindReset,
	}
	for i, m := range goods() {
		if kinds[i] != i+1 || m.Kind() != i+1 {
			t.Errorf("%T: kind %d, constant %d, want %d", m, m.Kind(), kinds[i], i+1)
		}
		if z := reflect.Zero(reflect.TypeOf(m)).Interface().(msg.Message); z.Kind() != i+1 {
			t.Errorf("zero %T: kind %d, want %d", m, z.Kind(), i+1)
		}
	}
}

func TestSender(t *testing.T) {
	want := map[int]int{msg.KindOffer: 7, msg.KindCancel: 5, msg.KindNotice: 6, msg.KindSwap: 9}
	for _, m := range goods() {
		if n := msg.Sender(m); n != want[m.Kind()] {
			t.Errorf("Sender(%T) = %d, want %d", m, n, want[m.Kind()])
		}
	}
	// A message that Check doesn't take has its sender, too.
	for _, n := range []int{0, -1, 33, math.MinInt, math.MaxInt} {
		for _, m := range []msg.Message{msg.Offer{Quote: api.Quote{Member: n}}, msg.Cancel{Member: n}, msg.Notice{Member: n}, msg.Swap{Member: n}} {
			if got := msg.Sender(m); got != n {
				t.Errorf("Sender(%T %d) = %d", m, n, got)
			}
		}
	}
	for i, m := range strangers() {
		if n := msg.Sender(m); n != 0 {
			t.Errorf("Sender of stranger %d, %T, = %d", i, m, n)
		}
	}
}

// wantTaken wants the four calls to answer a message as what it is.
func wantTaken(t *testing.T, m msg.Message, isOffer, isSwap bool) {
	t.Helper()
	o, ok := msg.AsOffer(m)
	if ok != isOffer || !ok && o != (msg.Offer{}) || ok && msg.Message(o) != m {
		t.Errorf("AsOffer(%T) = %+v, %v", m, o, ok)
	}
	var must msg.Offer
	if p := panics(func() { must = msg.MustOffer(m) }); p == isOffer || must != o {
		t.Errorf("MustOffer(%T): panic %v, %+v", m, p, must)
	}
	s, ok := msg.AsSwap(m)
	if ok != isSwap || !ok && !reflect.DeepEqual(s, msg.Swap{}) || ok && !same(s, m) {
		t.Errorf("AsSwap(%T) = %+v, %v", m, s, ok)
	}
	var mustSwap msg.Swap
	if p := panics(func() { mustSwap = msg.MustSwap(m) }); p == isSwap || !same(mustSwap, s) {
		t.Errorf("MustSwap(%T): panic %v, %+v", m, p, mustSwap)
	}
}

func TestTaken(t *testing.T) {
	for _, m := range goods() {
		wantTaken(t, m, m.Kind() == msg.KindOffer, m.Kind() == msg.KindSwap)
		zero := reflect.Zero(reflect.TypeOf(m)).Interface().(msg.Message)
		wantTaken(t, zero, m.Kind() == msg.KindOffer, m.Kind() == msg.KindSwap)
	}
	wantTaken(t, msg.Offer{Quote: api.Quote{ID: -1, Member: 99, Side: 7, Rate: math.MinInt}}, true, false)
	wantTaken(t, msg.Swap{Member: -1, Out: api.Lot{ISIN: "x", Qty: -1}, In: []api.Lot{}}, false, true)
	wantTaken(t, msg.Swap{In: make([]api.Lot, 100)}, false, true)
	for _, m := range strangers() {
		wantTaken(t, m, false, false)
	}
}

// apart tells whether two texts lie in memory apart.
func apart(a, b string) bool {
	x, y := uintptr(unsafe.Pointer(unsafe.StringData(a))), uintptr(unsafe.Pointer(unsafe.StringData(b)))
	return len(a) == 0 || len(b) == 0 || x+uintptr(len(a)) <= y || y+uintptr(len(b)) <= x
}

func TestSwapApart(t *testing.T) {
	for _, take := range []func(m msg.Message) msg.Swap{
		msg.MustSwap,
		func(m msg.Message) msg.Swap { s, _ := msg.AsSwap(m); return s },
	} {
		m := swap()
		room := make([]api.Lot, len(m.In), 10)
		copy(room, m.In)
		m.In = room
		a, b := take(m), take(m)
		if !apart(a.Out.ISIN, m.Out.ISIN) || !apart(a.Out.ISIN, b.Out.ISIN) {
			t.Error("Out shares its text")
		}
		for i := range m.In {
			if !apart(a.In[i].ISIN, m.In[i].ISIN) || !apart(a.In[i].ISIN, b.In[i].ISIN) {
				t.Error("In shares a text", i)
			}
		}
		a.In[0].Qty = 77
		a.In = append(a.In, api.Lot{ISIN: "behind", Qty: 1})
		if !same(m, swap()) || !same(b, swap()) || room[:3][2] != (api.Lot{}) {
			t.Error("what was answered is shared:", m, b)
		}
	}
}

func TestStrangers(t *testing.T) {
	for _, m := range strangers() {
		if e := msg.Check(m); e != api.ErrKind {
			t.Errorf("Check(%T) = %d", m, e)
		}
		if s, e := msg.Encode(m); s != "" || e != api.ErrKind {
			t.Errorf("Encode(%T) = %q, %d", m, s, e)
		}
	}
}

// spoilt is one thing wrong with a T, in a part of it.
type spoilt[T any] struct {
	part  string
	spoil func(m *T)
	want  api.Errno
}

// wantSpoilt wants each fault told, and of each two of them, in different parts, the one that the chapter names first: they are listed in that order.
func wantSpoilt[T any](t *testing.T, good func() T, l []spoilt[T], check func(t *testing.T, m T, want api.Errno)) {
	t.Helper()
	check(t, good(), api.OK)
	for i, a := range l {
		m := good()
		a.spoil(&m)
		check(t, m, a.want)
		for _, b := range l[i+1:] {
			if a.part == b.part {
				continue
			}
			m := good()
			a.spoil(&m)
			b.spoil(&m)
			check(t, m, a.want)
		}
	}
}

// checked is wantCheck of a message of one type.
func checked[T msg.Message](t *testing.T, m T, want api.Errno) {
	t.Helper()
	wantCheck(t, m, want)
}

// part is a number in a T that may be from least to most.
type part[T any] struct {
	name        string
	of          func(m *T) *int
	least, most int
	want        api.Errno
}

// wantParts wants the edges of each number taken, and what is beyond them told.
func wantParts[T any](t *testing.T, good func() T, l []part[T], check func(t *testing.T, m T, want api.Errno)) {
	t.Helper()
	for _, p := range l {
		for _, n := range []int{p.least, p.least + 1, (p.least + p.most) / 2, p.most - 1, p.most} {
			m := good()
			*p.of(&m) = n
			check(t, m, api.OK)
		}
		for _, n := range []int{p.least - 1, p.most + 1, p.least - 100000000, p.most + 100000000, math.MinInt, math.MinInt + 1, math.MaxInt, p.most + 1<<32, p.most + 1<<60} {
			m := good()
			*p.of(&m) = n
			check(t, m, p.want)
		}
	}
}

// wantBasket wants Basket's answer, and that of Rules with it.
func wantBasket(t *testing.T, b api.Basket, want api.Errno) {
	t.Helper()
	if e := msg.Basket(b); e != want {
		t.Errorf("Basket(%+v) = %d, want %d", b, e, want)
	}
	wantCheck(t, msg.Rules{Basket: b}, want)
}

func TestBasketNumbers(t *testing.T) {
	wantParts(t, rules, []part[api.Basket]{
		{"ID", func(b *api.Basket) *int { return &b.ID }, 1, 64, api.ErrArg},
		{"Version", func(b *api.Basket) *int { return &b.Version }, 1, amount, api.ErrArg},
		{"Rating", func(b *api.Basket) *int { return &b.Rating }, 0, 20, api.ErrArg},
		{"Issuer", func(b *api.Basket) *int { return &b.Issuer }, 0, 1000000, api.ErrArg},
		{"Asset", func(b *api.Basket) *int { return &b.Asset }, 0, 1000000, api.ErrArg},
		{"Least", func(b *api.Basket) *int { return &b.Least }, 0, 7000, api.ErrDay},
		{"Most", func(b *api.Basket) *int { return &b.Most }, 30, 200000, api.ErrDay},
		{"first Days", func(b *api.Basket) *int { return &b.Cuts[0].Days }, 0, 200000, api.ErrArg},
		{"last Days", func(b *api.Basket) *int { return &b.Cuts[1].Days }, 0, 200000, api.ErrArg},
		{"first Rating", func(b *api.Basket) *int { return &b.Cuts[0].Rating }, 0, 20, api.ErrArg},
		{"last Rating", func(b *api.Basket) *int { return &b.Cuts[1].Rating }, 0, 20, api.ErrArg},
		{"first Cut", func(b *api.Basket) *int { return &b.Cuts[0].Cut }, 0, 999999, api.ErrArg},
		{"last Cut", func(b *api.Basket) *int { return &b.Cuts[1].Cut }, 0, 999999, api.ErrArg},
		{"first Barred", func(b *api.Basket) *int { return &b.Barred[0] }, 0, 69, api.ErrArg},
		{"middle Barred", func(b *api.Basket) *int { return &b.Barred[1] }, 4, 9997, api.ErrArg},
		{"last Barred", func(b *api.Basket) *int { return &b.Barred[2] }, 71, 9999, api.ErrArg},
	}, wantBasket)
	one := func() api.Basket { b := rules(); b.Barred = []int{7}; return b }
	wantParts(t, one, []part[api.Basket]{{"Barred", func(b *api.Basket) *int { return &b.Barred[0] }, 0, 9999, api.ErrArg}}, wantBasket)
	b := rules()
	b.Least, b.Most = 0, 0
	wantBasket(t, b, api.OK)
	b.Least, b.Most = 200000, 200000
	wantBasket(t, b, api.OK)
	b.Least, b.Most = 200001, 200001
	wantBasket(t, b, api.ErrDay)
	b.Least, b.Most = -1, -1
	wantBasket(t, b, api.ErrDay)
}

func TestBasketLists(t *testing.T) {
	for _, n := range []int{0, 1, 2, 63, 64, 65, 66, 1000} {
		b := rules()
		b.Cuts = make([]api.Cut, n)
		want := api.OK
		if n < 1 || n > 64 {
			want = api.ErrArg
		}
		wantBasket(t, b, want)
		b = rules()
		b.Barred = make([]int, n)
		for i := range b.Barred {
			b.Barred[i] = 9 * i
		}
		want = api.OK
		if n > 64 {
			want = api.ErrArg
		}
		wantBasket(t, b, want)
	}
	b := rules()
	b.Cuts, b.Barred = nil, nil
	wantBasket(t, b, api.ErrArg)
	b = rules()
	b.Barred = nil
	wantBasket(t, b, api.OK)
	// Any place of a list may be wrong.
	for i := range 64 {
		b := rules()
		b.Cuts = make([]api.Cut, 64)
		b.Cuts[i].Cut = 1000000
		wantBasket(t, b, api.ErrArg)
		b = rules()
		b.Barred = nil
		for k := range 64 {
			b.Barred = append(b.Barred, 10*k)
		}
		if b.Barred[i] += 10; i < 63 {
			wantBasket(t, b, api.ErrArg)
			b.Barred[i]++
			wantBasket(t, b, api.ErrArg)
			b.Barred[i] -= 2
		}
		wantBasket(t, b, api.OK)
	}
}

// strangeCodes is texts that are no currency.
func strangeCodes() []string {
	return []string{"", "eur", "EU", "EURO", "EUR ", " EUR", "XXX", "AUD", "E\x00R", "ÉUR", "EURUSD", strings.Repeat("E", 5000)}
}

func currencies() []string {
	return []string{"EUR", "USD", "GBP", "CHF", "JPY", "SEK", "NOK", "DKK"}
}

func TestBasketOrder(t *testing.T) {
	for _, s := range currencies() {
		b := rules()
		b.Currency = s
		wantBasket(t, b, api.OK)
	}
	for _, s := range strangeCodes() {
		b := rules()
		b.Currency = s
		wantBasket(t, b, api.ErrName)
	}
	wantSpoilt(t, rules, []spoilt[api.Basket]{
		{"ID", func(b *api.Basket) { b.ID = 0 }, api.ErrArg},
		{"Version", func(b *api.Basket) { b.Version = 0 }, api.ErrArg},
		{"Rating", func(b *api.Basket) { b.Rating = 21 }, api.ErrArg},
		{"Issuer", func(b *api.Basket) { b.Issuer = -1 }, api.ErrArg},
		{"Asset", func(b *api.Basket) { b.Asset = 1000001 }, api.ErrArg},
		{"Cuts", func(b *api.Basket) { b.Cuts = nil }, api.ErrArg},
		{"Cuts", func(b *api.Basket) { b.Cuts = make([]api.Cut, 65) }, api.ErrArg},
		{"Barred", func(b *api.Basket) { b.Barred = make([]int, 65) }, api.ErrArg},
		{"days", func(b *api.Basket) { b.Least = -1 }, api.ErrDay},
		{"days", func(b *api.Basket) { b.Most = 29 }, api.ErrDay},
		{"days", func(b *api.Basket) { b.Most = 200001 }, api.ErrDay},
		{"Currency", func(b *api.Basket) { b.Currency = "" }, api.ErrName},
		{"Cuts", func(b *api.Basket) { b.Cuts[1].Days = -1 }, api.ErrArg},
		{"Cuts", func(b *api.Basket) { b.Cuts[0].Rating = 21 }, api.ErrArg},
		{"Cuts", func(b *api.Basket) { b.Cuts[0].Cut = 1000000 }, api.ErrArg},
		{"Barred", func(b *api.Basket) { b.Barred[0] = -1 }, api.ErrArg},
		{"Barred", func(b *api.Basket) { b.Barred[1] = b.Barred[0] }, api.ErrArg},
	}, wantBasket)
	wantBasket(t, api.Basket{}, api.ErrArg)
}

func TestCheckGood(t *testing.T) {
	for _, m := range goods() {
		wantCheck(t, m, api.OK)
	}
}

// TestCheckZero wants the first error of each type's zero value.
func TestCheckZero(t *testing.T) {
	want := []api.Errno{
		api.ErrArg, api.ErrName, api.ErrArg, api.ErrLimit, api.OK, api.ErrName, api.ErrArg, api.ErrArg,
		api.ErrArg, api.ErrArg, api.ErrArg, api.ErrArg, api.ErrArg, api.ErrArg, api.ErrArg,
	}
	for i, m := range goods() {
		wantCheck(t, reflect.Zero(reflect.TypeOf(m)).Interface().(msg.Message), want[i])
	}
}

func TestCheckJoin(t *testing.T) {
	good := func() msg.Join { return msg.Join{Member: 3, Name: "Nord Bank"} }
	wantParts(t, good, []part[msg.Join]{{"Member", func(m *msg.Join) *int { return &m.Member }, 1, 32, api.ErrArg}}, checked[msg.Join])
	for s, want := range map[string]api.Errno{
		"a": api.OK, "Müller & Co": api.OK, strings.Repeat("ž", 40): api.OK, strings.Repeat("ž", 41): api.ErrLimit, strings.Repeat("a", 161): api.ErrLimit,
		"": api.ErrName, " a": api.ErrName, "a ": api.ErrName, "a  b": api.ErrName, "a\xff": api.ErrName, "1a": api.ErrName,
	} {
		wantCheck(t, msg.Join{Member: 32, Name: s}, want)
		wantCheck(t, msg.Join{Member: 33, Name: s}, api.ErrArg)
	}
}

func TestCheckList(t *testing.T) {
	good := func() msg.List { return msg.List{Asset: asset()} }
	wantParts(t, good, []part[msg.List]{
		{"Issuer", func(m *msg.List) *int { return &m.Asset.Issuer }, 0, 9999, api.ErrArg},
		{"Rating", func(m *msg.List) *int { return &m.Asset.Rating }, 0, 20, api.ErrArg},
		{"Maturity", func(m *msg.List) *int { return &m.Asset.Maturity }, 0, 200000, api.ErrDay},
	}, checked[msg.List])
	wantSpoilt(t, good, []spoilt[msg.List]{
		{"ISIN", func(m *msg.List) { m.Asset.ISIN = "" }, api.ErrName},
		{"ISIN", func(m *msg.List) { m.Asset.ISIN = "US0378331006" }, api.ErrCheck},
		{"Currency", func(m *msg.List) { m.Asset.Currency = "XXX" }, api.ErrName},
		{"Issuer", func(m *msg.List) { m.Asset.Issuer = -1 }, api.ErrArg},
		{"Rating", func(m *msg.List) { m.Asset.Rating = -1 }, api.ErrArg},
		{"Maturity", func(m *msg.List) { m.Asset.Maturity = -1 }, api.ErrDay},
	}, checked[msg.List])
}

// listed is so many prices, of rising numbers.
func listed(n int) msg.Prices {
	var m msg.Prices
	for i, s := range numbers(n) {
		m.L = append(m.L, api.Price{ISIN: s, Price: 1000 + i})
	}
	return m
}

func TestCheckPrices(t *testing.T) {
	for _, n := range []int{0, 1, 2, 63, 64, 65, 66, 200} {
		want := api.OK
		if n < 1 || n > 64 {
			want = api.ErrLimit
		}
		wantCheck(t, listed(n), want)
	}
	wantCheck(t, msg.Prices{L: make([]api.Price, 65)}, api.ErrLimit)
	wantCheck(t, msg.Prices{L: []api.Price{}}, api.ErrLimit)
	wantParts(t, prices, []part[msg.Prices]{
		{"first", func(m *msg.Prices) *int { return &m.L[0].Price }, 1, 1 << 32, api.ErrPrice},
		{"last", func(m *msg.Prices) *int { return &m.L[1].Price }, 1, 1 << 32, api.ErrPrice},
	}, checked[msg.Prices])
	for i := range 64 {
		m := listed(64)
		m.L[i].Price = 0
		wantCheck(t, m, api.ErrPrice)
		m = listed(64)
		m.L[i].ISIN = "US"
		wantCheck(t, m, api.ErrName)
		if i > 0 {
			m = listed(64)
			m.L[i].ISIN = m.L[i-1].ISIN
			wantCheck(t, m, api.ErrPrice)
			m = listed(64)
			m.L[i].ISIN, m.L[i-1].ISIN = m.L[i-1].ISIN, m.L[i].ISIN
			wantCheck(t, m, api.ErrPrice)
		}
	}
	// One by one: what is wrong with the first one is told ahead of all behind it, the number ahead of the price.
	wantSpoilt(t, func() msg.Prices { return listed(4) }, []spoilt[msg.Prices]{
		{"0", func(m *msg.Prices) { m.L[0].ISIN = "US0378331006" }, api.ErrCheck},
		{"0 price", func(m *msg.Prices) { m.L[0].Price = 0 }, api.ErrPrice},
		{"1", func(m *msg.Prices) { m.L[1].ISIN = "x" }, api.ErrName},
		{"1 price", func(m *msg.Prices) { m.L[1].Price = -1 }, api.ErrPrice},
		{"2", func(m *msg.Prices) { m.L[2].ISIN = "AAA" }, api.ErrName},
		{"2", func(m *msg.Prices) { m.L[2].ISIN = "AA0378331006" }, api.ErrCheck},
		{"2", func(m *msg.Prices) { m.L[2].ISIN = numbers(1)[0] }, api.ErrPrice},
		{"3 price", func(m *msg.Prices) { m.L[3].Price = 1<<32 + 1 }, api.ErrPrice},
	}, checked[msg.Prices])
}

func TestCheckRoll(t *testing.T) {
	wantParts(t, func() msg.Roll { return msg.Roll{Day: 9} }, []part[msg.Roll]{{"Day", func(m *msg.Roll) *int { return &m.Day }, 0, 200000, api.ErrDay}}, checked[msg.Roll])
}

func TestCheckCash(t *testing.T) {
	for _, sign := range []int{1, -1} {
		for _, n := range []int{1, 2, 1000, amount - 1, amount} {
			wantCheck(t, msg.Cash{Member: 1, Currency: "USD", Amount: sign * n}, api.OK)
			wantCheck(t, msg.Move{Member: 1, ISIN: sap, Qty: sign * n}, api.OK)
		}
		for _, n := range []int{0, amount + 1, 2 * amount, math.MaxInt, math.MinInt} {
			wantCheck(t, msg.Cash{Member: 1, Currency: "USD", Amount: sign * n}, api.ErrArg)
			wantCheck(t, msg.Move{Member: 1, ISIN: sap, Qty: sign * n}, api.ErrArg)
		}
	}
	good := func() msg.Cash { return msg.Cash{Member: 4, Currency: "SEK", Amount: 12} }
	wantParts(t, good, []part[msg.Cash]{{"Member", func(m *msg.Cash) *int { return &m.Member }, 1, 32, api.ErrArg}}, checked[msg.Cash])
	for _, s := range currencies() {
		wantCheck(t, msg.Cash{Member: 1, Currency: s, Amount: 1}, api.OK)
	}
	for _, s := range strangeCodes() {
		wantCheck(t, msg.Cash{Member: 1, Currency: s, Amount: 1}, api.ErrName)
	}
	wantSpoilt(t, good, []spoilt[msg.Cash]{
		{"Currency", func(m *msg.Cash) { m.Currency = "XXX" }, api.ErrName},
		{"Member", func(m *msg.Cash) { m.Member = 0 }, api.ErrArg},
		{"Amount", func(m *msg.Cash) { m.Amount = 0 }, api.ErrArg},
	}, checked[msg.Cash])
}

func TestCheckMove(t *testing.T) {
	good := func() msg.Move { return msg.Move{Member: 2, ISIN: apple, Qty: 7} }
	wantParts(t, good, []part[msg.Move]{{"Member", func(m *msg.Move) *int { return &m.Member }, 1, 32, api.ErrArg}}, checked[msg.Move])
	wantSpoilt(t, good, []spoilt[msg.Move]{
		{"Member", func(m *msg.Move) { m.Member = 33 }, api.ErrArg},
		{"Qty", func(m *msg.Move) { m.Qty = 0 }, api.ErrArg},
		{"ISIN", func(m *msg.Move) { m.ISIN = "" }, api.ErrName},
		{"ISIN", func(m *msg.Move) { m.ISIN = "US0378331006" }, api.ErrCheck},
	}, checked[msg.Move])
}

func TestCheckOffer(t *testing.T) {
	good := func() msg.Offer { return msg.Offer{Quote: quote()} }
	open := func() msg.Offer { m := good(); m.Quote.End = 0; return m }
	wantParts(t, good, []part[msg.Offer]{
		{"Member", func(m *msg.Offer) *int { return &m.Quote.Member }, 1, 32, api.ErrArg},
		{"ID", func(m *msg.Offer) *int { return &m.Quote.ID }, 1, amount, api.ErrArg},
		{"Side", func(m *msg.Offer) *int { return &m.Quote.Side }, 1, 2, api.ErrArg},
		{"Basket", func(m *msg.Offer) *int { return &m.Quote.Basket }, 1, 64, api.ErrArg},
		{"Amount", func(m *msg.Offer) *int { return &m.Quote.Amount }, 1, amount, api.ErrArg},
		{"Rate", func(m *msg.Offer) *int { return &m.Quote.Rate }, -1000000, 1000000, api.ErrArg},
		{"Start", func(m *msg.Offer) *int { return &m.Quote.Start }, 0, 9, api.ErrDay},
		{"End", func(m *msg.Offer) *int { return &m.Quote.End }, 4, 3663, api.ErrDay},
	}, checked[msg.Offer])
	wantParts(t, open, []part[msg.Offer]{{"Start", func(m *msg.Offer) *int { return &m.Quote.Start }, 0, 200000, api.ErrDay}}, checked[msg.Offer])
	for _, d := range []struct {
		start, end int
		want       api.Errno
	}{
		{0, 0, api.OK}, {0, 1, api.OK}, {0, 3660, api.OK}, {0, 3661, api.ErrDay}, {0, -1, api.ErrDay}, {5, 5, api.ErrDay}, {5, 4, api.ErrDay}, {5, 1, api.ErrDay},
		{200000, 0, api.OK}, {199999, 200000, api.OK}, {200000, 200000, api.ErrDay}, {199999, 200001, api.ErrDay}, {200000, 200001, api.ErrDay},
		{196340, 200000, api.OK}, {196339, 200000, api.ErrDay}, {-1, 0, api.ErrDay}, {-1, 1, api.ErrDay}, {200001, 0, api.ErrDay},
		{math.MinInt, math.MinInt, api.ErrDay}, {math.MinInt, math.MaxInt, api.ErrDay}, {math.MaxInt, math.MinInt, api.ErrDay}, {0, math.MinInt, api.ErrDay},
	} {
		m := good()
		m.Quote.Start, m.Quote.End = d.start, d.end
		wantCheck(t, m, d.want)
	}
	wantSpoilt(t, good, []spoilt[msg.Offer]{
		{"Member", func(m *msg.Offer) { m.Quote.Member = 0 }, api.ErrArg},
		{"ID", func(m *msg.Offer) { m.Quote.ID = 0 }, api.ErrArg},
		{"Side", func(m *msg.Offer) { m.Quote.Side = 3 }, api.ErrArg},
		{"Basket", func(m *msg.Offer) { m.Quote.Basket = 65 }, api.ErrArg},
		{"Amount", func(m *msg.Offer) { m.Quote.Amount = 0 }, api.ErrArg},
		{"Rate", func(m *msg.Offer) { m.Quote.Rate = 1000001 }, api.ErrArg},
		{"Start", func(m *msg.Offer) { m.Quote.Start = -1 }, api.ErrDay},
		{"End", func(m *msg.Offer) { m.Quote.End = 3 }, api.ErrDay},
	}, checked[msg.Offer])
}

func TestCheckCancelNotice(t *testing.T) {
	wantParts(t, func() msg.Cancel { return msg.Cancel{Member: 5, Quote: 4} }, []part[msg.Cancel]{
		{"Member", func(m *msg.Cancel) *int { return &m.Member }, 1, 32, api.ErrArg},
		{"Quote", func(m *msg.Cancel) *int { return &m.Quote }, 1, amount, api.ErrArg},
	}, checked[msg.Cancel])
	good := func() msg.Notice { return msg.Notice{Member: 6, Trade: 2, Day: 8} }
	wantParts(t, good, []part[msg.Notice]{
		{"Member", func(m *msg.Notice) *int { return &m.Member }, 1, 32, api.ErrArg},
		{"Trade", func(m *msg.Notice) *int { return &m.Trade }, 1, amount, api.ErrArg},
		{"Day", func(m *msg.Notice) *int { return &m.Day }, 0, 200000, api.ErrDay},
	}, checked[msg.Notice])
	wantSpoilt(t, good, []spoilt[msg.Notice]{
		{"Member", func(m *msg.Notice) { m.Member = 33 }, api.ErrArg},
		{"Trade", func(m *msg.Notice) { m.Trade = 0 }, api.ErrArg},
		{"Day", func(m *msg.Notice) { m.Day = -1 }, api.ErrDay},
	}, checked[msg.Notice])
}

// swapped is a swap for so many lots.
func swapped(n int) msg.Swap {
	m := swap()
	m.In = nil
	for i, s := range numbers(n) {
		m.In = append(m.In, api.Lot{ISIN: s, Qty: 1 + i*i})
	}
	return m
}

func TestCheckSwap(t *testing.T) {
	wantParts(t, swap, []part[msg.Swap]{
		{"Member", func(m *msg.Swap) *int { return &m.Member }, 1, 32, api.ErrArg},
		{"Trade", func(m *msg.Swap) *int { return &m.Trade }, 1, amount, api.ErrArg},
		{"Out", func(m *msg.Swap) *int { return &m.Out.Qty }, 1, amount, api.ErrArg},
		{"first In", func(m *msg.Swap) *int { return &m.In[0].Qty }, 1, amount, api.ErrArg},
		{"last In", func(m *msg.Swap) *int { return &m.In[1].Qty }, 1, amount, api.ErrArg},
	}, checked[msg.Swap])
	for _, n := range []int{0, 1, 2, 63, 64, 65, 66, 200} {
		want := api.OK
		if n > 64 {
			want = api.ErrArg
		}
		wantCheck(t, swapped(n), want)
	}
	for i := range 64 {
		m := swapped(64)
		m.In[i].ISIN = "US0378331006"
		wantCheck(t, m, api.ErrCheck)
		m.In[i].Qty = 0
		wantCheck(t, m, api.ErrArg)
	}
	// The lots needn't rise, or differ.
	m := swap()
	m.In = []api.Lot{m.Out, m.Out, {ISIN: sap, Qty: 1}, m.Out}
	wantCheck(t, m, api.OK)
	wantSpoilt(t, swap, []spoilt[msg.Swap]{
		{"Member", func(m *msg.Swap) { m.Member = 0 }, api.ErrArg},
		{"Trade", func(m *msg.Swap) { m.Trade = 0 }, api.ErrArg},
		{"In", func(m *msg.Swap) { m.In = make([]api.Lot, 65) }, api.ErrArg},
		{"Out Qty", func(m *msg.Swap) { m.Out.Qty = 0 }, api.ErrArg},
		{"Out ISIN", func(m *msg.Swap) { m.Out.ISIN = "US" }, api.ErrName},
		{"Out ISIN", func(m *msg.Swap) { m.Out.ISIN = "US0378331006" }, api.ErrCheck},
		{"In", func(m *msg.Swap) { m.In[0].Qty = -1 }, api.ErrArg},
		{"In", func(m *msg.Swap) { m.In[0].ISIN = "US0378331006" }, api.ErrCheck},
		{"In", func(m *msg.Swap) { m.In[1].ISIN = "" }, api.ErrName},
	}, checked[msg.Swap])
	m = swap()
	m.In[0].ISIN, m.In[1].Qty = "", 0
	wantCheck(t, m, api.ErrName)
	m.In[0].Qty = 0
	wantCheck(t, m, api.ErrArg)
	m = swap()
	m.In[0].ISIN, m.In[1].ISIN = "US0378331006", ""
	wantCheck(t, m, api.ErrCheck)
}

func TestCheckOfTheHouse(t *testing.T) {
	for _, done := range []bool{false, true} {
		settle := func() msg.Settle { return msg.Settle{Member: 1, Day: 4, Done: done} }
		wantParts(t, settle, []part[msg.Settle]{
			{"Member", func(m *msg.Settle) *int { return &m.Member }, 1, 32, api.ErrArg},
			{"Day", func(m *msg.Settle) *int { return &m.Day }, 0, 200000, api.ErrDay},
		}, checked[msg.Settle])
		wantCheck(t, msg.Settle{Member: 0, Day: -1, Done: done}, api.ErrArg)
	}
	wantParts(t, func() msg.Default { return msg.Default{Member: 1} }, []part[msg.Default]{
		{"Member", func(m *msg.Default) *int { return &m.Member }, 1, 32, api.ErrArg},
	}, checked[msg.Default])
	wantParts(t, func() msg.Bound { return msg.Bound{Member: 1} }, []part[msg.Bound]{
		{"Member", func(m *msg.Bound) *int { return &m.Member }, 1, 32, api.ErrArg},
		{"Amount", func(m *msg.Bound) *int { return &m.Amount }, 0, amount, api.ErrArg},
	}, checked[msg.Bound])
	reset := func() msg.Reset { return msg.Reset{Trade: 1, Day: 2, Rate: 3} }
	wantParts(t, reset, []part[msg.Reset]{
		{"Trade", func(m *msg.Reset) *int { return &m.Trade }, 1, amount, api.ErrArg},
		{"Rate", func(m *msg.Reset) *int { return &m.Rate }, -1000000, 1000000, api.ErrArg},
		{"Day", func(m *msg.Reset) *int { return &m.Day }, 0, 200000, api.ErrDay},
	}, checked[msg.Reset])
	wantSpoilt(t, reset, []spoilt[msg.Reset]{
		{"Trade", func(m *msg.Reset) { m.Trade = 0 }, api.ErrArg},
		{"Rate", func(m *msg.Reset) { m.Rate = -1000001 }, api.ErrArg},
		{"Day", func(m *msg.Reset) { m.Day = 200001 }, api.ErrDay},
	}, checked[msg.Reset])
}

// A second reckoning of the bytes: a message is a row of ints (Int), uint64s (Uint, how many follow), texts and truths.

// uintForm is Uint's bytes: digits to the base 128.
func uintForm(n uint64) string {
	s := string([]byte{byte(n % 128)})
	for n /= 128; n > 0; n /= 128 {
		s = string([]byte{byte(n%128) + 128}) + s
	}
	return s
}

// form is the bytes of a row.
func form(row ...any) string {
	s := ""
	for _, x := range row {
		switch x := x.(type) {
		case int:
			if x >= 0 {
				s += uintForm(2 * uint64(x))
			} else {
				s += uintForm(2*uint64(-(x+1)) + 1)
			}
		case uint64:
			s += uintForm(x)
		case string:
			s += uintForm(uint64(len(x))) + x
		case bool:
			s += map[bool]string{false: "\x00", true: "\x01"}[x]
		}
	}
	return s
}

// row is a message's parts in the chapter's order, its kind ahead of them.
func row(m msg.Message) []any {
	switch m := m.(type) {
	case msg.Join:
		return []any{1, m.Member, m.Name}
	case msg.List:
		return []any{2, m.Asset.ISIN, m.Asset.Issuer, m.Asset.Rating, m.Asset.Maturity, m.Asset.Currency}
	case msg.Rules:
		b := m.Basket
		l := []any{3, b.ID, b.Version, b.Rating, b.Least, b.Most, b.Issuer, b.Asset, b.Currency, uint64(len(b.Cuts))}
		for _, c := range b.Cuts {
			l = append(l, c.Days, c.Rating, c.Cut)
		}
		l = append(l, uint64(len(b.Barred)))
		for _, n := range b.Barred {
			l = append(l, n)
		}
		return l
	case msg.Prices:
		l := []any{4, uint64(len(m.L))}
		for _, p := range m.L {
			l = append(l, p.ISIN, p.Price)
		}
		return l
	case msg.Roll:
		return []any{5, m.Day}
	case msg.Cash:
		return []any{6, m.Member, m.Amount, m.Currency}
	case msg.Move:
		return []any{7, m.Member, m.Qty, m.ISIN}
	case msg.Offer:
		q := m.Quote
		return []any{8, q.ID, q.Member, q.Side, q.Basket, q.Amount, q.Rate, q.Start, q.End}
	case msg.Cancel:
		return []any{9, m.Member, m.Quote}
	case msg.Notice:
		return []any{10, m.Member, m.Trade, m.Day}
	case msg.Swap:
		l := []any{11, m.Member, m.Trade, m.Out.ISIN, m.Out.Qty, uint64(len(m.In))}
		for _, x := range m.In {
			l = append(l, x.ISIN, x.Qty)
		}
		return l
	case msg.Settle:
		return []any{12, m.Member, m.Day, m.Done}
	case msg.Default:
		return []any{13, m.Member}
	case msg.Bound:
		return []any{14, m.Member, m.Amount}
	case msg.Reset:
		return []any{15, m.Trade, m.Day, m.Rate}
	}
	return nil
}

// message is the message of a row.
func message(l []any) msg.Message {
	at := 0
	take := func() any { at++; return l[at-1] }
	n := func() int { return take().(int) }
	s := func() string { return take().(string) }
	many := func() int { return int(take().(uint64)) }
	switch n() {
	case 1:
		m := msg.Join{Member: n()}
		m.Name = s()
		return m
	case 2:
		a := api.Asset{ISIN: s()}
		a.Issuer = n()
		a.Rating = n()
		a.Maturity = n()
		a.Currency = s()
		return msg.List{Asset: a}
	case 3:
		b := api.Basket{ID: n()}
		for _, p := range []*int{&b.Version, &b.Rating, &b.Least, &b.Most, &b.Issuer, &b.Asset} {
			*p = n()
		}
		b.Currency = s()
		b.Cuts = make([]api.Cut, many())
		for i := range b.Cuts {
			b.Cuts[i].Days = n()
			b.Cuts[i].Rating = n()
			b.Cuts[i].Cut = n()
		}
		b.Barred = make([]int, many())
		for i := range b.Barred {
			b.Barred[i] = n()
		}
		return msg.Rules{Basket: b}
	case 4:
		m := msg.Prices{L: make([]api.Price, many())}
		for i := range m.L {
			m.L[i].ISIN = s()
			m.L[i].Price = n()
		}
		return m
	case 5:
		return msg.Roll{Day: l[1].(int)}
	case 6:
		return msg.Cash{Member: l[1].(int), Amount: l[2].(int), Currency: l[3].(string)}
	case 7:
		return msg.Move{Member: l[1].(int), Qty: l[2].(int), ISIN: l[3].(string)}
	case 8:
		q := api.Quote{}
		for _, p := range []*int{&q.ID, &q.Member, &q.Side, &q.Basket, &q.Amount, &q.Rate, &q.Start, &q.End} {
			*p = n()
		}
		return msg.Offer{Quote: q}
	case 9:
		return msg.Cancel{Member: l[1].(int), Quote: l[2].(int)}
	case 10:
		return msg.Notice{Member: l[1].(int), Trade: l[2].(int), Day: l[3].(int)}
	case 11:
		m := msg.Swap{Member: n(), Trade: l[2].(int), Out: api.Lot{ISIN: l[3].(string), Qty: l[4].(int)}}
		at = 5
		m.In = make([]api.Lot, many())
		for i := range m.In {
			m.In[i].ISIN = s()
			m.In[i].Qty = n()
		}
		return m
	case 12:
		return msg.Settle{Member: l[1].(int), Day: l[2].(int), Done: l[3].(bool)}
	case 13:
		return msg.Default{Member: l[1].(int)}
	case 14:
		return msg.Bound{Member: l[1].(int), Amount: l[2].(int)}
	case 15:
		return msg.Reset{Trade: l[1].(int), Day: l[2].(int), Rate: l[3].(int)}
	}
	return nil
}

// layouts is what stands behind each kind: i an Int, n a name, t another text, b a truth, (..) a list of these behind how many there are.
var layouts = []string{
	1: "in", 2: "tiiit", 3: "iiiiiiit(iii)(i)", 4: "(ti)", 5: "i", 6: "iit", 7: "iit", 8: "iiiiiiii",
	9: "ii", 10: "iii", 11: "iiti(ti)", 12: "iib", 13: "i", 14: "ii", 15: "iii",
}

// input is a text that is read part by part.
type input struct {
	s     string
	at    int
	fault api.Errno
}

// uint reads a number of groups of seven bits, which has one form alone; the place behind it is told, too.
func (x *input) uint() (uint64, int) {
	n := uint64(0)
	for i := x.at; i < len(x.s); i++ {
		if i == x.at && x.s[i] == 128 || n>>57 != 0 {
			x.fault = api.ErrForm
			return 0, x.at
		}
		n = n*128 + uint64(x.s[i])%128
		if x.s[i] < 128 {
			return n, i + 1
		}
	}
	x.fault = api.ErrShort
	return 0, x.at
}

// part reads one part, or tells a fault.
func (x *input) part(kind byte) any {
	switch kind {
	case 'i':
		n, end := x.uint()
		x.at = end
		if n%2 == 1 {
			return -int(n/2) - 1
		}
		return int(n / 2)
	case 'b':
		if x.at == len(x.s) {
			x.fault = api.ErrShort
		} else if x.s[x.at] > 1 {
			x.fault = api.ErrForm
		} else {
			x.at++
			return x.s[x.at-1] == 1
		}
		return nil
	case 'c':
		n, end := x.uint()
		if x.fault == api.OK && n > 64 {
			x.fault = api.ErrLimit
		}
		if x.fault == api.OK {
			x.at = end
		}
		return n
	}
	n, end := x.uint()
	if x.fault == api.OK && n > map[byte]uint64{'n': 160, 't': 12}[kind] {
		x.fault = api.ErrLimit
	}
	if x.fault == api.OK && n > uint64(len(x.s)-end) {
		x.fault = api.ErrShort
	}
	if x.fault != api.OK {
		return nil
	}
	x.at = end + int(n)
	return x.s[end:x.at]
}

// second is Decode by the chapter's words.
func second(s string) (msg.Message, int, api.Errno) {
	x := &input{s: s}
	kind := x.part('i')
	if x.fault != api.OK {
		return nil, x.at, x.fault
	}
	if kind.(int) < 1 || kind.(int) > 15 {
		return nil, 0, api.ErrKind
	}
	l := []any{kind}
	layout := layouts[kind.(int)]
	for i := 0; i < len(layout) && x.fault == api.OK; i++ {
		if layout[i] != '(' {
			l = append(l, x.part(layout[i]))
			continue
		}
		end := i + strings.IndexByte(layout[i:], ')')
		n := x.part('c')
		l = append(l, n)
		for k := uint64(0); x.fault == api.OK && k < n.(uint64); k++ {
			for _, c := range []byte(layout[i+1 : end]) {
				if x.fault == api.OK {
					l = append(l, x.part(c))
				}
			}
		}
		i = end
	}
	if x.fault == api.OK && x.at < len(s) {
		x.fault = api.ErrTail
	}
	if x.fault != api.OK {
		return nil, x.at, x.fault
	}
	m := message(l)
	if e := msg.Check(m); e != api.OK {
		return nil, len(s), e
	}
	return m, len(s), api.OK
}

// wantDecode wants Decode to answer what the second reckoning does.
func wantDecode(t *testing.T, s string) api.Errno {
	t.Helper()
	m, at, e := msg.Decode(s)
	m2, at2, e2 := second(s)
	if at != at2 || e != e2 || !same(m, m2) {
		t.Fatalf("Decode(%q) = %T %+v, %d, %d, want %T %+v, %d, %d", s, m, m, at, e, m2, m2, at2, e2)
	}
	if e != api.OK && m != nil {
		t.Fatalf("Decode(%q): a message beside %d", s, e)
	}
	if e == api.OK {
		if again, f := msg.Encode(m); again != s || f != api.OK {
			t.Fatalf("Encode of Decode(%q) = %q, %d", s, again, f)
		}
	}
	return e
}

// wantWritten wants a message's bytes, and the message back of them.
func wantWritten(t *testing.T, m msg.Message) string {
	t.Helper()
	s, e := msg.Encode(m)
	if want := form(row(m)...); s != want || e != api.OK {
		t.Fatalf("Encode(%T %+v) = %q, %d, want %q", m, m, s, e, want)
	}
	if x, n, e := msg.Decode(s); n != len(s) || e != api.OK || !same(x, m) {
		t.Fatalf("Decode of Encode(%T %+v) = %T %+v, %d, %d", m, m, x, x, n, e)
	}
	return s
}

// greatest is messages with the longest lists and texts and the greatest numbers.
func greatest() []msg.Message {
	b := rules()
	b.ID, b.Version, b.Rating, b.Most, b.Issuer, b.Asset = 64, amount, 20, 200000, 1000000, 1000000
	b.Cuts, b.Barred = nil, nil
	for i := range 64 {
		b.Cuts = append(b.Cuts, api.Cut{Days: 200000 - i, Rating: 20 - i%21, Cut: 999999 - i})
		b.Barred = append(b.Barred, 9999-63+i)
	}
	none := rules()
	none.Barred = nil
	return []msg.Message{
		msg.Join{Member: 32, Name: strings.Repeat("Ž", 40)}, msg.Rules{Basket: b}, msg.Rules{Basket: none}, listed(64), listed(1), swapped(64), swapped(0),
		msg.Roll{Day: 200000}, msg.Roll{}, msg.Cash{Member: 32, Currency: "DKK", Amount: amount}, msg.Cash{Member: 32, Currency: "JPY", Amount: -amount},
		msg.Move{Member: 32, ISIN: apple, Qty: -amount}, msg.Cancel{Member: 32, Quote: amount}, msg.Bound{Member: 1}, msg.Bound{Member: 32, Amount: amount},
		msg.Offer{Quote: api.Quote{ID: amount, Member: 32, Side: 1, Basket: 64, Amount: amount, Rate: -1000000, Start: 196340, End: 200000}},
		msg.Reset{Trade: amount, Day: 200000, Rate: -1000000}, msg.Settle{Member: 32, Day: 0}, msg.Notice{Member: 1, Trade: amount, Day: 0},
	}
}

func TestEncode(t *testing.T) {
	for _, m := range append(goods(), greatest()...) {
		wantWritten(t, m)
	}
	for m, want := range map[msg.Message]string{
		msg.Roll{Day: 7}:                                   "\x0a\x0e",
		msg.Join{Member: 3, Name: "Nord"}:                  "\x02\x06\x04Nord",
		msg.Cash{Member: 1, Currency: "EUR", Amount: -5}:   "\x0c\x02\x09\x03EUR",
		msg.Move{Member: 2, ISIN: apple, Qty: 300}:         "\x0e\x04\x84\x58\x0cUS0378331005",
		msg.Offer{Quote: quote()}:                          "\x10\x08\x0e\x04\x04\x81\x48\x63\x06\x14",
		msg.Settle{Member: 1, Day: 4, Done: true}:          "\x18\x02\x08\x01",
		msg.Settle{Member: 1, Day: 4}:                      "\x18\x02\x08\x00",
		msg.List{Asset: asset()}:                           "\x04\x0cDE0007164600\x18\x06\x81\x8c\x50\x03EUR",
		msg.Reset{Trade: 1, Day: 2, Rate: -3}:              "\x1e\x02\x04\x05",
		msg.Bound{Member: 1, Amount: 70}:                   "\x1c\x02\x81\x0c",
		msg.Default{Member: 32}:                            "\x1a\x40",
		msg.Cancel{Member: 5, Quote: 4}:                    "\x12\x0a\x08",
		msg.Notice{Member: 6, Trade: 2, Day: 8}:            "\x14\x0c\x04\x10",
		msg.Cash{Member: 32, Currency: "CHF", Amount: 64}:  "\x0c\x40\x81\x00\x03CHF",
		msg.Cash{Member: 32, Currency: "CHF", Amount: -64}: "\x0c\x40\x7f\x03CHF",
	} {
		if s, e := msg.Encode(m); s != want || e != api.OK {
			t.Errorf("Encode(%T %+v) = %q, %d, want %q", m, m, s, e, want)
		}
	}
	lists := []struct {
		m    msg.Message
		want string
	}{
		{prices(), "\x08\x02\x0cDE0007164600\xf8\xec\x60\x0cUS0378331005\x02"},
		{swap(), "\x16\x12\x04\x0cUS0378331005\x02\x02\x0cDE0007164600\x0a\x0cUS0378331005\x84\x58"},
		{msg.Rules{Basket: api.Basket{ID: 1, Version: 2, Currency: "EUR", Rating: 3, Least: 4, Most: 5, Cuts: []api.Cut{{Days: 8, Rating: 9, Cut: 10}}, Issuer: 6, Asset: 7, Barred: []int{0, 11}}},
			"\x06\x02\x04\x06\x08\x0a\x0c\x0e\x03EUR\x01\x10\x12\x14\x02\x00\x16"},
	}
	for _, x := range lists {
		if s, e := msg.Encode(x.m); s != x.want || e != api.OK {
			t.Errorf("Encode(%T) = %q, %d, want %q", x.m, s, e, x.want)
		}
	}
}

// TestHandedIn wants nothing changed of what is handed in, its spare room included.
func TestHandedIn(t *testing.T) {
	cuts := append(make([]api.Cut, 0, 9), rules().Cuts...)
	barred := append(make([]int, 0, 9), rules().Barred...)
	l := append(make([]api.Price, 0, 9), prices().L...)
	in := append(make([]api.Lot, 0, 9), swap().In...)
	b, s := rules(), swap()
	b.Cuts, b.Barred, s.In = cuts, barred, in
	for _, m := range []msg.Message{msg.Rules{Basket: b}, msg.Prices{L: l}, s} {
		for range 2 {
			wantCheck(t, m, api.OK)
			wantWritten(t, m)
			msg.Sender(m)
			msg.AsSwap(m)
		}
	}
	if msg.Basket(b) != api.OK || !same(msg.Rules{Basket: b}, msg.Rules{Basket: rules()}) || !same(msg.Prices{L: l}, prices()) || !same(s, swap()) {
		t.Error("changed:", b, l, s)
	}
	for i := range 9 {
		if i >= len(cuts) && cuts[:9][i] != (api.Cut{}) || i >= len(barred) && barred[:9][i] != 0 || i >= len(l) && l[:9][i] != (api.Price{}) || i >= len(in) && in[:9][i] != (api.Lot{}) {
			t.Error("spare room changed:", i)
		}
	}
}

func TestDecode(t *testing.T) {
	for s, want := range map[string]struct {
		at int
		e  api.Errno
	}{
		"":                                     {0, api.ErrShort},
		"\x80":                                 {0, api.ErrForm},
		"\x80\x0a":                             {0, api.ErrForm},
		"\x81":                                 {0, api.ErrShort},
		"\x00":                                 {0, api.ErrKind},
		"\x01":                                 {0, api.ErrKind},
		"\x0b":                                 {0, api.ErrKind},
		"\x20":                                 {0, api.ErrKind},
		"\x20\x80\xff":                         {0, api.ErrKind},
		"\x1e":                                 {1, api.ErrShort},
		"\x0a":                                 {1, api.ErrShort},
		"\x0a\x80":                             {1, api.ErrForm},
		"\x0a\x0e\x00":                         {2, api.ErrTail},
		"\x0a\x01":                             {2, api.ErrDay},
		"\x0a\x01\x01":                         {2, api.ErrTail},
		"\x1a\x00":                             {2, api.ErrArg},
		"\x1a\x00\x00":                         {2, api.ErrTail},
		"\x18\x02\x08":                         {3, api.ErrShort},
		"\x08\x00":                             {2, api.ErrLimit},
		"\x08\x40":                             {2, api.ErrShort},
		"\x08\x41":                             {1, api.ErrLimit},
		"\xff\xff\xff\xff\xff\xff\xff\xff\x7f": {0, api.ErrKind},
		"\x81\xff\xff\xff\xff\xff\xff\xff\xff\x7f": {0, api.ErrKind},
		"\x82\xff\xff\xff\xff\xff\xff\xff\xff\x7f": {0, api.ErrForm},
		"\x02\x02\x81\x20":                         {2, api.ErrShort},
		"\x18\x02\x08\x02":                         {3, api.ErrForm},
		"\x18\x02\x08\x01\x01":                     {4, api.ErrTail},
		"\x02\x40\x05Nord":                         {2, api.ErrShort},
		"\x02\x42\x05Nord":                         {2, api.ErrShort},
		"\x02\x42\x04Nord":                         {7, api.ErrArg},
		"\x02\x42\x04Nord\x00":                     {7, api.ErrTail},
	} {
		m, at, e := msg.Decode(s)
		if m != nil || at != want.at || e != want.e {
			t.Errorf("Decode(%q) = %v, %d, %d, want %d, %d", s, m, at, e, want.at, want.e)
		}
		wantDecode(t, s)
	}
	if m, n, e := msg.Decode("\x0a\x0e"); m != (msg.Roll{Day: 7}) || n != 2 || e != api.OK {
		t.Error("Roll 7:", m, n, e)
	}
}

func TestDecodeKinds(t *testing.T) {
	for n := -300; n <= 300; n++ {
		for _, tail := range []string{"", "\x00", "\x80", "\x0a\x0e", "\xff\xff"} {
			s := form(n) + tail
			if n < 1 || n > 15 {
				if m, at, e := msg.Decode(s); m != nil || at != 0 || e != api.ErrKind {
					t.Errorf("Decode(%q) = %v, %d, %d", s, m, at, e)
				}
			}
			wantDecode(t, s)
		}
	}
	for _, n := range []int{math.MinInt, math.MaxInt, 1 << 32, 1<<32 + 5, 1<<56 + 5, -5, -1 << 40} {
		if m, at, e := msg.Decode(form(n, 7)); m != nil || at != 0 || e != api.ErrKind {
			t.Errorf("kind %d: %v, %d, %d", n, m, at, e)
		}
	}
}

// TestDecodeEnds cuts messages off at each byte, and lays more behind them.
func TestDecodeEnds(t *testing.T) {
	for _, m := range append(goods(), greatest()...) {
		s := wantWritten(t, m)
		for i := range len(s) {
			if e := wantDecode(t, s[:i]); e != api.ErrShort {
				t.Errorf("%T, %d of %d bytes: %d", m, i, len(s), e)
			}
		}
		for _, tail := range []string{"\x00", "\x01", "\x80", "\xff", s, strings.Repeat("\x00", 300)} {
			if x, at, e := msg.Decode(s + tail); x != nil || at != len(s) || e != api.ErrTail {
				t.Errorf("%T with a tail: %v, %d, %d", m, x, at, e)
			}
		}
	}
}

// TestDecodeEachByte puts each byte at each place of a message.
func TestDecodeEachByte(t *testing.T) {
	seen := map[api.Errno]int{}
	for _, m := range goods() {
		s := wantWritten(t, m)
		for i := range len(s) {
			for c := range 256 {
				seen[wantDecode(t, s[:i]+string([]byte{byte(c)})+s[i+1:])]++
				seen[wantDecode(t, s[:i]+string([]byte{byte(c)})+s[i:])]++
			}
			wantDecode(t, s[:i]+s[i+1:])
		}
	}
	for _, e := range []api.Errno{api.OK, api.ErrArg, api.ErrLimit, api.ErrDay, api.ErrName, api.ErrCheck, api.ErrShort, api.ErrForm, api.ErrTail, api.ErrKind, api.ErrPrice} {
		if seen[e] == 0 {
			t.Errorf("never told: %d", e)
		}
	}
}

// TestDecodeLimits goes to the edges of texts and lists, and beyond.
func TestDecodeLimits(t *testing.T) {
	wantAt := func(s string, at int, e api.Errno) {
		t.Helper()
		if m, n, f := msg.Decode(s); m != nil || n != at || f != e {
			t.Errorf("Decode(%.40q) = %v, %d, %d, want %d, %d", s, m, n, f, at, e)
		}
		wantDecode(t, s)
	}
	// A name of 160 bytes is read, if it hasn't too many signs; a longer one isn't, wherever the message ends.
	sign := strings.Repeat("\U0001F600", 40)
	wantAt(form(1, 3, sign), 164, api.ErrName)
	wantAt(form(1, 3, strings.Repeat("a", 160)), 164, api.ErrLimit)
	wantAt(form(1, 3, strings.Repeat("a", 161)), 2, api.ErrLimit)
	wantAt(form(1, 3, uint64(161)), 2, api.ErrLimit)
	wantAt(form(1, 3, uint64(160)), 2, api.ErrShort)
	wantAt(form(1, 3, uint64(math.MaxUint64)), 2, api.ErrLimit)
	wantAt(form(1, 99, strings.Repeat("a", 161)), 3, api.ErrLimit)
	// All other texts have at most 12.
	for _, n := range []int{12, 13, 14, 160} {
		long := strings.Repeat("A", n)
		for _, x := range []struct {
			ahead, behind string
			e             api.Errno
		}{
			{form(2), form(1, 1, 1, "EUR"), api.ErrName}, {form(2, sap, 1, 1, 1), "", api.ErrName}, {form(3, 1, 1, 1, 1, 1, 1, 1), form(uint64(1), 1, 1, 1, uint64(0)), api.ErrName},
			{form(4, uint64(1)), form(1), api.ErrName}, {form(4, uint64(2), sap, 1), form(1), api.ErrName}, {form(6, 1, 1), "", api.ErrName}, {form(7, 1, 1), "", api.ErrName},
			{form(11, 1, 1), form(1, uint64(0)), api.ErrName}, {form(11, 1, 1, sap, 1, uint64(1)), form(1), api.ErrName},
		} {
			s := x.ahead + form(long) + x.behind
			if n == 12 {
				wantAt(s, len(s), x.e)
			} else {
				wantAt(s, len(x.ahead), api.ErrLimit)
			}
		}
	}
	// Lists have at most 64.
	lots, cuts, barred := form(11, 1, 1, sap, 1), form(3, 1, 1, 1, 1, 1, 1, 1, "EUR"), form(3, 1, 1, 1, 1, 1, 1, 1, "EUR", uint64(1), 1, 1, 1)
	for _, ahead := range []string{form(4), lots, cuts, barred} {
		for _, n := range []uint64{65, 66, 128, 1 << 32, 1<<32 + 1, 1 << 63, math.MaxUint64} {
			wantAt(ahead+form(n), len(ahead), api.ErrLimit)
			wantAt(ahead+form(n)+strings.Repeat("\x00", 500), len(ahead), api.ErrLimit)
		}
		wantAt(ahead+form(uint64(64)), len(ahead)+1, api.ErrShort)
	}
	wantAt(cuts+form(uint64(0), uint64(0)), len(cuts)+2, api.ErrArg)
	wantAt(form(4, uint64(0)), 2, api.ErrLimit)
	wantAt(form(4, uint64(0), 0), 2, api.ErrTail)
}

// sampler makes messages by chance, the same ones each time.
type sampler struct{ *rand.Rand }

// from is a number from least to most, often near its ends.
func (r sampler) from(least, most int) int {
	n := most - least
	switch r.Intn(4) {
	case 0:
		return least + min(r.Intn(3), n)
	case 1:
		return most - min(r.Intn(3), n)
	case 2:
		return least + r.Intn(min(n, 200)+1)
	}
	return least + r.Intn(n+1)
}

func (r sampler) number() string { return numbers(64)[r.Intn(64)] }

func (r sampler) currency() string { return currencies()[r.Intn(8)] }

func (r sampler) name() string {
	letters := []rune("abzAZÀÿĀſŽé")
	l := []rune{}
	for range r.from(1, 40) {
		l = append(l, letters[r.Intn(len(letters))])
	}
	return string(l)
}

func (r sampler) change() int {
	if n := r.from(1, amount); r.Intn(2) == 0 {
		return n
	} else {
		return -n
	}
}

func (r sampler) lot() api.Lot { return api.Lot{ISIN: r.number(), Qty: r.from(1, amount)} }

func (r sampler) basket() api.Basket {
	b := api.Basket{
		ID: r.from(1, 64), Version: r.from(1, amount), Currency: r.currency(), Rating: r.from(0, 20), Most: r.from(0, 200000),
		Issuer: r.from(0, 1000000), Asset: r.from(0, 1000000),
	}
	b.Least = r.from(0, b.Most)
	for range r.from(1, 64) {
		b.Cuts = append(b.Cuts, api.Cut{Days: r.from(0, 200000), Rating: r.from(0, 20), Cut: r.from(0, 999999)})
	}
	for range r.from(0, 64) {
		b.Barred = append(b.Barred, r.from(0, 9999))
	}
	slices.Sort(b.Barred)
	b.Barred = slices.Compact(b.Barred)
	return b
}

func (r sampler) quote() api.Quote {
	q := api.Quote{ID: r.from(1, amount), Member: r.from(1, 32), Side: r.from(1, 2), Basket: r.from(1, 64), Amount: r.from(1, amount), Rate: r.from(-1000000, 1000000), Start: r.from(0, 199999)}
	if r.Intn(3) > 0 {
		q.End = q.Start + r.from(1, min(3660, 200000-q.Start))
	}
	return q
}

// message is a message of a kind that may be.
func (r sampler) message(kind int) msg.Message {
	member, number, day, rate := r.from(1, 32), r.from(1, amount), r.from(0, 200000), r.from(-1000000, 1000000)
	switch kind {
	case msg.KindJoin:
		return msg.Join{Member: member, Name: r.name()}
	case msg.KindAsset:
		return msg.List{Asset: api.Asset{ISIN: r.number(), Issuer: r.from(0, 9999), Rating: r.from(0, 20), Maturity: day, Currency: r.currency()}}
	case msg.KindRules:
		return msg.Rules{Basket: r.basket()}
	case msg.KindPrices:
		m := listed(r.from(1, 64))
		for i := range m.L {
			m.L[i].Price = r.from(1, 1<<32)
		}
		return m
	case msg.KindRoll:
		return msg.Roll{Day: day}
	case msg.KindCash:
		return msg.Cash{Member: member, Currency: r.currency(), Amount: r.change()}
	case msg.KindMove:
		return msg.Move{Member: member, ISIN: r.number(), Qty: r.change()}
	case msg.KindOffer:
		return msg.Offer{Quote: r.quote()}
	case msg.KindCancel:
		return msg.Cancel{Member: member, Quote: number}
	case msg.KindNotice:
		return msg.Notice{Member: member, Trade: number, Day: day}
	case msg.KindSwap:
		m := msg.Swap{Member: member, Trade: number, Out: r.lot()}
		for range r.from(0, 64) {
			m.In = append(m.In, r.lot())
		}
		return m
	case msg.KindSettle:
		return msg.Settle{Member: member, Day: day, Done: r.Intn(2) == 0}
	case msg.KindDefault:
		return msg.Default{Member: member}
	case msg.KindBound:
		return msg.Bound{Member: member, Amount: r.from(0, amount)}
	}
	return msg.Reset{Trade: number, Day: day, Rate: rate}
}

// TestThereAndBack writes messages by chance, reads them, and spoils them.
func TestThereAndBack(t *testing.T) {
	r := sampler{rand.New(rand.NewSource(10))}
	for range 60 {
		for kind := 1; kind <= 15; kind++ {
			m := r.message(kind)
			if msg.Check(m) != api.OK {
				t.Fatalf("%+v: %d", m, msg.Check(m))
			}
			s := wantWritten(t, m)
			for range 20 {
				b := []byte(s)
				for range 1 + r.Intn(3) {
					b[r.Intn(len(b))] = byte(r.Intn(256))
				}
				wantDecode(t, string(b))
				i, k := r.Intn(len(s)+1), r.Intn(len(s)+1)
				wantDecode(t, s[:i]+s[k:])
			}
		}
	}
}

// TestDecodeAnything reads bytes by chance, short numbers above all, behind each kind.
func TestDecodeAnything(t *testing.T) {
	r := rand.New(rand.NewSource(11))
	for range 40000 {
		b := make([]byte, r.Intn(40))
		for i := range b {
			b[i] = byte(r.Intn([]int{3, 16, 128, 256}[r.Intn(4)]))
		}
		wantDecode(t, string(b))
		wantDecode(t, form(1+r.Intn(15))+string(b))
	}
}

// TestDecodeRows reads rows of the right form whose parts are mostly wrong: Check's errors.
func TestDecodeRows(t *testing.T) {
	r := sampler{rand.New(rand.NewSource(12))}
	wrong := []any{0, -1, 1, 33, 65, 21, 10000, 200001, 1000001, -1000001, amount + 1, -amount - 1, math.MinInt, math.MaxInt, "", "x", "EUR", "XXX", sap, "US0378331006", true, false}
	for range 400 {
		for kind := 1; kind <= 15; kind++ {
			l := row(r.message(kind))
			for range 1 + r.Intn(2) {
				i := 1 + r.Intn(len(l)-1)
				if x := wrong[r.Intn(len(wrong))]; reflect.TypeOf(x) == reflect.TypeOf(l[i]) {
					l[i] = x
				}
			}
			s := form(l...)
			m, at, e := msg.Decode(s)
			want := msg.Check(message(l))
			if e != want || at != len(s) || (m == nil) != (e != api.OK) || e == api.OK && !same(m, message(l)) {
				t.Fatalf("Decode of %v = %v, %d, %d, want error %d", l, m, at, e, want)
			}
			wantDecode(t, s)
		}
	}
}

// TestOneForm wants one form alone of each number: a longer one isn't read.
func TestOneForm(t *testing.T) {
	for _, s := range []string{"\x80\x0a\x0e", "\x0a\x80\x0e", "\x1a\x80\x02", "\x02\x06\x80\x04Nord", "\x08\x80\x01\x0cDE0007164600\x02"} {
		if m, _, e := msg.Decode(s); m != nil || e != api.ErrForm {
			t.Errorf("Decode(%q) = %v, %d", s, m, e)
		}
		wantDecode(t, s)
	}
}

// TestDecodeApart wants what is decoded in memory of its own.
func TestDecodeApart(t *testing.T) {
	for _, m := range goods() {
		s := wantWritten(t, m)
		a, _, _ := msg.Decode(s)
		b, _, _ := msg.Decode(s)
		la, lb := row(a), row(b)
		for i := range la {
			x, ok := la[i].(string)
			if ok && (!apart(x, s) || !apart(x, lb[i].(string))) {
				t.Errorf("%T: text %d is shared", m, i)
			}
		}
	}
	one, _, _ := msg.Decode(wantWritten(t, swap()))
	two, _, _ := msg.Decode(wantWritten(t, swap()))
	one.(msg.Swap).In[0].Qty = 99
	if !same(two, swap()) {
		t.Error("lots are shared")
	}
}

// TestJustOne wants of each message an offer, or MustOffer's panic; a swap, or MustSwap's.
func TestJustOne(t *testing.T) {
	for _, m := range append(append(goods(), greatest()...), strangers()...) {
		if _, ok := msg.AsOffer(m); ok == panics(func() { msg.MustOffer(m) }) {
			t.Errorf("%T: an offer %v, and a panic", m, ok)
		}
		if _, ok := msg.AsSwap(m); ok == panics(func() { msg.MustSwap(m) }) {
			t.Errorf("%T: a swap %v, and a panic", m, ok)
		}
	}
}
