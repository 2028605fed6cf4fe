package wire_test

import (
	"math"
	"math/big"
	"math/rand"
	"slices"
	"strings"
	"testing"
	"unsafe"

	"lombard/api"
	"lombard/wire"
)

// sample is a text of n bytes of all kinds, the same one each time.
func sample(n int) string {
	b := make([]byte, n)
	rand.New(rand.NewSource(int64(n))).Read(b)
	return string(b)
}

// uintForm is Uint's bytes by the chapter's words: digits to the base 128, by division, the highest first.
func uintForm(n *big.Int) string {
	n, digit := new(big.Int).Set(n), new(big.Int)
	b := []byte{}
	for {
		n.DivMod(n, big.NewInt(128), digit)
		b = append(b, byte(digit.Int64()))
		if n.Sign() == 0 {
			break
		}
	}
	slices.Reverse(b)
	for i := range len(b) - 1 {
		b[i] += 128
	}
	return string(b)
}

// uints is numbers of each length, with the edges of each number of bits.
func uints() []uint64 {
	l := []uint64{0}
	for k := range 64 {
		p := uint64(1) << k
		l = append(l, p-1, p, p+1, p|1, p|p>>1, p|0x5555555555555555&(p-1))
	}
	for n := range uint64(70000) {
		if n < 600 || n%97 == 0 || n > 16380 && n < 16390 || n > 65530 && n < 65540 {
			l = append(l, n)
		}
	}
	return append(l, math.MaxUint64, math.MaxUint64-1, math.MaxUint64-127, math.MaxUint64-128)
}

// ints is numbers with both signs, with the edges of each number of bits.
func ints() []int {
	l := []int{math.MinInt, math.MinInt + 1, math.MaxInt, math.MaxInt - 1}
	for _, n := range uints() {
		l = append(l, int(n), -int(n))
	}
	return l
}

// intForm is Int's bytes by the chapter's words, reckoned without a bound.
func intForm(n int) string {
	b := new(big.Int).Mul(big.NewInt(2), big.NewInt(int64(n)))
	if n < 0 {
		b.Neg(b)
		b.Sub(b, big.NewInt(1))
	}
	return uintForm(b)
}

// count is Uint's bytes of a length.
func count(n int) string { return uintForm(big.NewInt(int64(n))) }

// written is what a new Writer has when f has written.
func written(f func(w *wire.Writer)) string {
	var w wire.Writer
	f(&w)
	return w.Bytes()
}

// wantAt wants a reader to have a fault, or none, at a place.
func wantAt(t *testing.T, what string, r *wire.Reader, at int, e api.Errno) {
	t.Helper()
	if r.At() != at || r.Err() != e {
		t.Errorf("%s: at %d with %d; want %d with %d", what, r.At(), r.Err(), at, e)
	}
}

// wantDead wants every call of a reader to tell zero, and to change nothing.
func wantDead(t *testing.T, what string, r *wire.Reader) {
	t.Helper()
	at, e := r.At(), r.Err()
	for range 2 {
		if n := r.Uint(); n != 0 {
			t.Errorf("%s: Uint = %d behind a fault", what, n)
		}
		if n := r.Int(); n != 0 {
			t.Errorf("%s: Int = %d behind a fault", what, n)
		}
		for _, most := range []int{-1, 0, 1, 64, math.MaxInt, math.MinInt} {
			if s := r.Text(most); s != "" {
				t.Errorf("%s: Text(%d) = %q behind a fault", what, most, s)
			}
			if n := r.Count(most); n != 0 {
				t.Errorf("%s: Count(%d) = %d behind a fault", what, most, n)
			}
			if l := r.Ints(most); l != nil {
				t.Errorf("%s: Ints(%d) = %d behind a fault", what, most, l)
			}
		}
		if r.Bool() || r.End() {
			t.Errorf("%s: Bool or End true behind a fault", what)
		}
		r.Fail(api.ErrLoop)
		r.Fail(api.OK)
		wantAt(t, what+", behind its fault", r, at, e)
	}
}

// ahead is what stands ahead of what a test reads, so that a place of 0 isn't right by chance.
const ahead = "\x07"

// behind makes a reader that has read ahead.
func behind(s string) *wire.Reader {
	r := wire.NewReader(ahead + s)
	r.Uint()
	return r
}

// wantFault wants of a reading, behind one byte, nothing but a fault, told of its own beginning.
func wantFault[T any](t *testing.T, what, s string, read func(r *wire.Reader) T, zero func(T) bool, e api.Errno) {
	t.Helper()
	r := behind(s)
	if got := read(r); !zero(got) {
		t.Errorf("%s of %.40q (%d): %v beside a fault", what, s, len(s), got)
	}
	wantAt(t, what, r, len(ahead), e)
	wantDead(t, what, r)
}

// The readings, each with what tells whether it told zero.
func noUint(n uint64) bool { return n == 0 }
func noInt(n int) bool     { return n == 0 }
func noText(s string) bool { return s == "" }
func noBool(ok bool) bool  { return !ok }
func noInts(l []int) bool  { return l == nil }

// P9.1: the chapter's examples, and others written out.
func TestWriterExamples(t *testing.T) {
	for _, x := range []struct {
		what  string
		write func(w *wire.Writer)
		want  string
	}{
		{"nothing", func(w *wire.Writer) {}, ""},
		{"Uint(300)", func(w *wire.Writer) { w.Uint(300) }, "\x82\x2c"},
		{"Int(-1)", func(w *wire.Writer) { w.Int(-1) }, "\x01"},
		{"Text(ab)", func(w *wire.Writer) { w.Text("ab") }, "\x02ab"},
		{"Uint(0)", func(w *wire.Writer) { w.Uint(0) }, "\x00"},
		{"Uint(127)", func(w *wire.Writer) { w.Uint(127) }, "\x7f"},
		{"Uint(128)", func(w *wire.Writer) { w.Uint(128) }, "\x81\x00"},
		{"Uint(16383)", func(w *wire.Writer) { w.Uint(16383) }, "\xff\x7f"},
		{"Uint(16384)", func(w *wire.Writer) { w.Uint(16384) }, "\x81\x80\x00"},
		{"Uint(2^63)", func(w *wire.Writer) { w.Uint(1 << 63) }, "\x81\x80\x80\x80\x80\x80\x80\x80\x80\x00"},
		{"Uint(2^64-1)", func(w *wire.Writer) { w.Uint(math.MaxUint64) }, "\x81\xff\xff\xff\xff\xff\xff\xff\xff\x7f"},
		{"Int(0)", func(w *wire.Writer) { w.Int(0) }, "\x00"},
		{"Int(1)", func(w *wire.Writer) { w.Int(1) }, "\x02"},
		{"Int(-2)", func(w *wire.Writer) { w.Int(-2) }, "\x03"},
		{"Int(63)", func(w *wire.Writer) { w.Int(63) }, "\x7e"},
		{"Int(-64)", func(w *wire.Writer) { w.Int(-64) }, "\x7f"},
		{"Int(64)", func(w *wire.Writer) { w.Int(64) }, "\x81\x00"},
		{"Int(-65)", func(w *wire.Writer) { w.Int(-65) }, "\x81\x01"},
		{"Int(2^63-1)", func(w *wire.Writer) { w.Int(math.MaxInt) }, "\x81\xff\xff\xff\xff\xff\xff\xff\xff\x7e"},
		{"Int(-2^63)", func(w *wire.Writer) { w.Int(math.MinInt) }, "\x81\xff\xff\xff\xff\xff\xff\xff\xff\x7f"},
		{"Text()", func(w *wire.Writer) { w.Text("") }, "\x00"},
		{"Text(é)", func(w *wire.Writer) { w.Text("é") }, "\x02\xc3\xa9"},
		{"Text of bytes", func(w *wire.Writer) { w.Text("\xff\x00\x80") }, "\x03\xff\x00\x80"},
		{"Bool(true)", func(w *wire.Writer) { w.Bool(true) }, "\x01"},
		{"Bool(false)", func(w *wire.Writer) { w.Bool(false) }, "\x00"},
		{"Ints()", func(w *wire.Writer) { w.Ints(nil) }, "\x00"},
		{"Ints(empty)", func(w *wire.Writer) { w.Ints([]int{}) }, "\x00"},
		{"Ints(3 -4)", func(w *wire.Writer) { w.Ints([]int{3, -4}) }, "\x02\x06\x07"},
		{"Ints(-300)", func(w *wire.Writer) { w.Ints([]int{-300}) }, "\x01\x84\x57"},
		{"all of them", func(w *wire.Writer) {
			w.Bool(true)
			w.Uint(300)
			w.Text("ab")
			w.Int(-1)
			w.Ints([]int{0, 64})
			w.Bool(false)
		}, "\x01\x82\x2c\x02ab\x01\x02\x00\x81\x00\x00"},
	} {
		if got := written(x.write); got != x.want {
			t.Errorf("%s: %q; want %q", x.what, got, x.want)
		}
	}
}

// P9.1: numbers of all lengths against a second reckoning.
func TestWriteNumbers(t *testing.T) {
	for _, n := range uints() {
		want := uintForm(new(big.Int).SetUint64(n))
		if got := written(func(w *wire.Writer) { w.Uint(n) }); got != want {
			t.Errorf("Uint(%d): %q; want %q", n, got, want)
		}
	}
	for _, n := range ints() {
		if got := written(func(w *wire.Writer) { w.Int(n) }); got != intForm(n) {
			t.Errorf("Int(%d): %q; want %q", n, got, intForm(n))
		}
	}
}

// P9.1: texts and lists of lengths around those where the length takes a byte more.
func TestWriteLengths(t *testing.T) {
	for _, n := range []int{0, 1, 2, 127, 128, 129, 255, 256, 4096, 4097, 16383, 16384, 16385, 1 << 20} {
		s := sample(n)
		if got := written(func(w *wire.Writer) { w.Text(s) }); got != count(n)+s {
			t.Errorf("Text of %d bytes: %.40q of %d", n, got, len(got))
		}
		if n > 20000 {
			continue
		}
		want := count(n)
		l := make([]int, n)
		for i := range l {
			l[i] = (i - n/2) * 1001
			want += intForm(l[i])
		}
		if got := written(func(w *wire.Writer) { w.Ints(l) }); got != want {
			t.Errorf("Ints of %d: %.40q of %d; want %.40q of %d", n, got, len(got), want, len(want))
		}
	}
}

// P9.1: what is written stands behind what was, and Bytes tells all of it at any time, without an end to writing.
func TestWriteBehind(t *testing.T) {
	var w wire.Writer
	want := ""
	for i := range 2000 {
		if got := w.Bytes(); got != want {
			t.Fatalf("ahead of write %d: %.40q of %d; want %.40q of %d", i, got, len(got), want, len(want))
		}
		switch i % 5 {
		case 0:
			w.Uint(uint64(i))
			want += count(i)
		case 1:
			w.Int(-i)
			want += intForm(-i)
		case 2:
			w.Text(sample(i % 7))
			want += count(i%7) + sample(i%7)
		case 3:
			w.Bool(i%2 == 0)
			want += string([]byte{byte(1 - i%2)})
		case 4:
			w.Ints([]int{i, -i})
			want += "\x02" + intForm(i) + intForm(-i)
		}
	}
	if a, b := w.Bytes(), w.Bytes(); a != want || b != want {
		t.Error("Bytes told twice differs")
	}
}

// P9.1: two Writers have nothing of one another.
func TestWritersApart(t *testing.T) {
	var a, b wire.Writer
	a.Uint(1)
	b.Uint(2)
	a.Text("a")
	b.Text("b")
	if a.Bytes() != "\x01\x01a" || b.Bytes() != "\x02\x01b" {
		t.Errorf("%q, %q", a.Bytes(), b.Bytes())
	}
}

// P9.2: numbers of all lengths, the reader behind each.
func TestReadNumbers(t *testing.T) {
	for _, n := range uints() {
		s := uintForm(new(big.Int).SetUint64(n))
		for _, rest := range []string{"", "\x00", "\x80", "\xff\xff"} {
			r := behind(s + rest)
			if got := r.Uint(); got != n {
				t.Errorf("Uint of %q = %d; want %d", s, got, n)
			}
			wantAt(t, "Uint", r, len(ahead)+len(s), api.OK)
		}
	}
	for _, n := range ints() {
		s := intForm(n)
		r := behind(s + "\x81")
		if got := r.Int(); got != n {
			t.Errorf("Int of %q = %d; want %d", s, got, n)
		}
		wantAt(t, "Int", r, len(ahead)+len(s), api.OK)
	}
}

// numberFault wants a fault of all that begins by reading a number.
func numberFault(t *testing.T, s string, e api.Errno) {
	t.Helper()
	wantFault(t, "Uint", s, (*wire.Reader).Uint, noUint, e)
	wantFault(t, "Int", s, (*wire.Reader).Int, noInt, e)
	for _, most := range []int{-1, 0, 5, math.MaxInt, math.MinInt} {
		wantFault(t, "Text", s, func(r *wire.Reader) string { return r.Text(most) }, noText, e)
		wantFault(t, "Count", s, func(r *wire.Reader) int { return r.Count(most) }, noInt, e)
		wantFault(t, "Ints", s, func(r *wire.Reader) []int { return r.Ints(most) }, noInts, e)
	}
}

// P9.2: a first byte 128, whatever follows, and be it nothing: it is told ahead of there being too few.
func TestFirstGroupZero(t *testing.T) {
	for _, s := range []string{"\x80", "\x80\x00", "\x80\x01", "\x80\x80", "\x80\x80\x00", "\x80\xff", "\x80\x7f", "\x80" + sample(40), "\x80" + strings.Repeat("\x80", 12)} {
		numberFault(t, s, api.ErrForm)
	}
	// A group 0 that isn't the first one is a group like others.
	for s, want := range map[string]uint64{"\x81\x00": 128, "\x81\x80\x00": 16384, "\x81\x80\x80\x01": 1<<21 + 1, "\xff\x80\x00": 127 << 14} {
		r := wire.NewReader(s)
		if n := r.Uint(); n != want || r.Err() != api.OK {
			t.Errorf("Uint of %q = %d, %d; want %d", s, n, r.Err(), want)
		}
	}
}

// P9.2: the text ends in a number: each beginning of each number.
func TestShortNumber(t *testing.T) {
	for _, n := range uints() {
		s := uintForm(new(big.Int).SetUint64(n))
		for k := range len(s) {
			r := behind(s[:k])
			if got := r.Uint(); got != 0 {
				t.Errorf("Uint of %q = %d", s[:k], got)
			}
			wantAt(t, "a beginning", r, len(ahead), api.ErrShort)
			r = behind(s[:k])
			if got := r.Int(); got != 0 {
				t.Errorf("Int of %q = %d", s[:k], got)
			}
			wantAt(t, "a beginning", r, len(ahead), api.ErrShort)
		}
	}
	for _, s := range []string{"", "\x81", "\xff", "\xff\xff", "\x82\x80\x80"} {
		numberFault(t, s, api.ErrShort)
	}
}

// P9.2: a group more than 64 bits hold is told where it stands; ahead of it the text is too short.
func TestTooManyGroups(t *testing.T) {
	eight := strings.Repeat("\x80", 8)
	full := strings.Repeat("\xff", 8)
	for _, s := range []string{
		"\x82" + eight + "\x00", "\x82" + eight + "\x80", "\x82" + full + "\x7f", "\x83" + eight + "\x00", "\xff" + full + "\x7f", "\xff" + full + "\xff",
		"\xc0" + eight + "\x00", "\xa0" + eight + "\x01", "\x90" + eight + "\x00", "\x88" + eight + "\x00", "\x84" + eight + "\x00",
		"\x81" + eight + "\x80\x00", "\x81" + eight + "\x80\x80", "\x81" + full + "\xff\x7f", "\x81" + full + "\xff\xff",
		"\x82" + eight + "\x00" + sample(20), "\x81" + eight + "\x80\x00" + sample(20),
		strings.Repeat("\xff", 11), strings.Repeat("\xff", 5000), "\x81" + strings.Repeat("\x80", 5000) + "\x00",
	} {
		numberFault(t, s, api.ErrForm)
	}
	for _, s := range []string{"\x82" + eight, "\xff" + full, "\x81" + eight, "\x81" + eight + "\x80", "\x81" + full + "\xff"} {
		numberFault(t, s, api.ErrShort)
	}
	for s, want := range map[string]uint64{
		"\x81" + eight + "\x00": 1 << 63, "\x81" + full + "\x7f": math.MaxUint64, "\xff" + full[1:] + "\x7f": 1<<63 - 1, "\x81" + eight + "\x01": 1<<63 + 1,
	} {
		r := wire.NewReader(s)
		if n := r.Uint(); n != want || r.Err() != api.OK || r.At() != len(s) {
			t.Errorf("Uint of %q = %d, %d; want %d", s, n, r.Err(), want)
		}
	}
}

// P9.3: texts up to most, which is itself allowed.
func TestReadText(t *testing.T) {
	for _, n := range []int{0, 1, 2, 127, 128, 129, 4096, 16384} {
		s := sample(n)
		for _, most := range []int{n, n + 1, math.MaxInt} {
			for _, rest := range []string{"", "x", "\xff\xff"} {
				r := behind(count(n) + s + rest)
				if got := r.Text(most); got != s {
					t.Errorf("Text(%d) of %d bytes = %.40q of %d", most, n, got, len(got))
				}
				wantAt(t, "Text", r, len(ahead+count(n))+n, api.OK)
			}
		}
	}
}

// P9.3: a text above most, told ahead of there being too few bytes, whichever are there.
func TestTextLimit(t *testing.T) {
	for _, n := range []int{1, 2, 5, 128, 4096, 16384} {
		for _, most := range []int{0, n / 2, n - 1} {
			for _, have := range []int{0, 1, n - 1, n, n + 3} {
				wantFault(t, "Text above most", count(n)+sample(have), func(r *wire.Reader) string { return r.Text(most) }, noText, api.ErrLimit)
			}
		}
	}
	for _, n := range []uint64{1 << 31, 1 << 32, 1<<63 - 1, 1 << 63, 1<<63 + 1, math.MaxUint64} {
		s := uintForm(new(big.Int).SetUint64(n))
		for _, most := range []int{0, 1, 1 << 30} {
			wantFault(t, "a great length", s+"abc", func(r *wire.Reader) string { return r.Text(most) }, noText, api.ErrLimit)
		}
	}
	for _, n := range []uint64{1 << 63, 1<<63 + 3, math.MaxUint64 - 2, math.MaxUint64} {
		s := uintForm(new(big.Int).SetUint64(n))
		wantFault(t, "more than an int", s+"abc", func(r *wire.Reader) string { return r.Text(math.MaxInt) }, noText, api.ErrLimit)
	}
}

// P9.3: each length is above a most below 0, that of an empty text, too, and whichever bytes are there.
func TestTextMostBelowZero(t *testing.T) {
	for _, n := range []uint64{0, 1, 2, 39, 127, 128, 4096, 1 << 31, 1<<63 - 1, 1 << 63, math.MaxUint64 - 1, math.MaxUint64} {
		s := uintForm(new(big.Int).SetUint64(n))
		have := int(min(n, 5000))
		for _, bytes := range []string{"", "a", sample(have / 2), sample(have), sample(have + 3)} {
			for _, most := range []int{-1, -2, -have - 1, math.MinInt + 1, math.MinInt} {
				wantFault(t, "Text with a most below 0", s+bytes, func(r *wire.Reader) string { return r.Text(most) }, noText, api.ErrLimit)
			}
		}
	}
}

// P9.3: a text with fewer bytes than it says: the reader stays at the length.
func TestTextShort(t *testing.T) {
	for _, n := range []int{1, 2, 5, 128, 4096, 16384} {
		for _, have := range []int{0, n / 2, n - 1} {
			for _, most := range []int{n, n + 1, math.MaxInt} {
				wantFault(t, "Text, too short", count(n)+sample(have), func(r *wire.Reader) string { return r.Text(most) }, noText, api.ErrShort)
			}
		}
	}
	for _, n := range []int{1 << 31, 1 << 32, math.MaxInt - 2, math.MaxInt} {
		for _, most := range []int{n, math.MaxInt} {
			wantFault(t, "a great length", count(n)+"abcdef", func(r *wire.Reader) string { return r.Text(most) }, noText, api.ErrShort)
		}
	}
}

// P9.3: each byte as a truth.
func TestReadBool(t *testing.T) {
	for c := range 256 {
		s := string([]byte{byte(c)})
		if c > 1 {
			wantFault(t, "Bool", s, (*wire.Reader).Bool, noBool, api.ErrForm)
			wantFault(t, "Bool", s+"\x01", (*wire.Reader).Bool, noBool, api.ErrForm)
			continue
		}
		r := behind(s + "\x02")
		if ok := r.Bool(); ok != (c == 1) {
			t.Errorf("Bool of %d = %t", c, ok)
		}
		wantAt(t, "Bool", r, len(ahead)+1, api.OK)
	}
	wantFault(t, "Bool of nothing", "", (*wire.Reader).Bool, noBool, api.ErrShort)
}

// P9.3: a count up to most, which is itself allowed; it needs nothing behind it.
func TestReadCount(t *testing.T) {
	for _, n := range []int{0, 1, 63, 64, 127, 128, 300, 16384, 1 << 31, 1 << 50, math.MaxInt} {
		for _, most := range []int{n, n + 1, n + n/2, math.MaxInt} {
			if most < n {
				continue
			}
			r := behind(count(n) + "\x05")
			if got := r.Count(most); got != n {
				t.Errorf("Count(%d) of %d = %d", most, n, got)
			}
			wantAt(t, "Count", r, len(ahead+count(n)), api.OK)
		}
		for _, most := range []int{n - 1, n / 2, 0, -1, -n, math.MinInt} {
			if most >= n {
				continue
			}
			wantFault(t, "Count above most", count(n), func(r *wire.Reader) int { return r.Count(most) }, noInt, api.ErrLimit)
			wantFault(t, "Ints above most", count(n)+"\x00\x00", func(r *wire.Reader) []int { return r.Ints(most) }, noInts, api.ErrLimit)
		}
	}
	for _, n := range []uint64{1 << 63, 1<<63 + 5, math.MaxUint64} {
		s := uintForm(new(big.Int).SetUint64(n))
		for _, most := range []int{math.MinInt, -1, 0, 5, math.MaxInt} {
			wantFault(t, "Count of more than an int", s, func(r *wire.Reader) int { return r.Count(most) }, noInt, api.ErrLimit)
			wantFault(t, "Ints of more than an int", s, func(r *wire.Reader) []int { return r.Ints(most) }, noInts, api.ErrLimit)
		}
	}
}

// P9.3: lists up to most.
func TestReadInts(t *testing.T) {
	for _, n := range []int{0, 1, 2, 64, 127, 128, 300, 4096} {
		l := ints()[:n]
		s := count(n)
		for _, k := range l {
			s += intForm(k)
		}
		for _, most := range []int{n, n + 1, math.MaxInt} {
			r := behind(s + "\x80")
			if got := r.Ints(most); !slices.Equal(got, l) {
				t.Errorf("Ints(%d) of %d numbers = %d of them", most, n, len(got))
			}
			wantAt(t, "Ints", r, len(ahead+s), api.OK)
		}
	}
}

// P9.3, P9.2: a fault in one of the numbers of a list: nil, and the reader is at that number.
func TestIntsFaults(t *testing.T) {
	for _, n := range []int{1, 2, 5, 130} {
		s := count(n)
		for k := range n {
			for wrong, e := range map[string]api.Errno{
				"": api.ErrShort, "\x81": api.ErrShort, "\xff\xff": api.ErrShort, "\x80": api.ErrForm, "\x80\x00": api.ErrForm,
				"\x82" + strings.Repeat("\x80", 8) + "\x00\x02\x04": api.ErrForm,
			} {
				r := behind(s + wrong)
				if got := r.Ints(n); got != nil {
					t.Errorf("Ints of %q = %d beside a fault", s+wrong, got)
				}
				wantAt(t, "Ints", r, len(ahead+s), e)
				wantDead(t, "Ints", r)
			}
			s += intForm(k * k * 50)
		}
	}
}

// P9.3: a list that says more than there can be ends at once, and takes no memory ahead.
func TestIntsOfMany(t *testing.T) {
	for _, n := range []int{1 << 31, 1 << 40, math.MaxInt} {
		r := wire.NewReader(count(n) + "\x02\x04")
		if l := r.Ints(math.MaxInt); l != nil {
			t.Errorf("Ints of %d = %d", n, l)
		}
		wantAt(t, "Ints", r, len(count(n))+2, api.ErrShort)
	}
}

// P9.4: End of a text that is read whole, and of none.
func TestEnd(t *testing.T) {
	for _, n := range []int{0, 1, 2, 300} {
		r := wire.NewReader(strings.Repeat("\x01", n))
		for range n {
			r.Uint()
		}
		for range 3 {
			if !r.End() {
				t.Errorf("End behind %d bytes of %d is false", n, n)
			}
			wantAt(t, "End", r, n, api.OK)
		}
		// An end that is told ends nothing: what is read behind it is short.
		if r.Bool() || r.End() {
			t.Error("something was read behind the end")
		}
		wantAt(t, "behind the end", r, n, api.ErrShort)
	}
}

// P9.4: what is left is the fault ErrTail, and the reader is at it.
func TestTail(t *testing.T) {
	for left := 1; left < 5; left++ {
		for read := range 3 {
			r := wire.NewReader(strings.Repeat("\x01", read+left))
			for range read {
				r.Uint()
			}
			if r.End() {
				t.Errorf("End is true with %d bytes left", left)
			}
			wantAt(t, "End", r, read, api.ErrTail)
			wantDead(t, "a tail", r)
		}
	}
}

// P9.4: with a fault End is false, nothing left or something, and the fault stays.
func TestEndOfFault(t *testing.T) {
	for s, e := range map[string]api.Errno{"": api.ErrShort, "\x02": api.ErrForm, "\x02\x01": api.ErrForm} {
		r := wire.NewReader(s)
		r.Bool()
		if r.End() {
			t.Errorf("End of %q is true behind a fault", s)
		}
		wantAt(t, "End of a fault", r, 0, e)
	}
	r := wire.NewReader("\x01")
	r.Bool()
	r.Fail(api.ErrKind)
	if r.End() {
		t.Error("End is true behind Fail")
	}
	wantAt(t, "End behind Fail", r, 1, api.ErrKind)
}

// P9.4: Fail: the first fault stays; OK is none.
func TestFail(t *testing.T) {
	for _, e := range []api.Errno{api.ErrArg, api.ErrLimit, api.ErrNil, api.ErrKind, api.ErrTail, api.ErrEnd, 1000, -1, math.MinInt, math.MaxInt} {
		r := wire.NewReader("\x05\x01abc")
		r.Uint()
		r.Fail(e)
		wantAt(t, "Fail", r, 1, e)
		r.Fail(api.ErrName)
		wantAt(t, "Fail twice", r, 1, e)
		wantDead(t, "Fail", r)
	}
	r := wire.NewReader("\x05\x01a")
	r.Fail(api.OK)
	wantAt(t, "Fail of OK", r, 0, api.OK)
	if r.Uint() != 5 || r.Text(1) != "a" || !r.End() {
		t.Error("Fail of OK ended reading")
	}
	r.Fail(api.ErrDay)
	wantAt(t, "Fail behind an end", r, 3, api.ErrDay)
	r = wire.NewReader("\x80")
	r.Uint()
	r.Fail(api.ErrKind)
	wantAt(t, "Fail behind a fault", r, 0, api.ErrForm)
}

// P9.4: At and Err from call to call.
func TestAt(t *testing.T) {
	r := wire.NewReader("\x82\x2c" + "\x01" + "\x02ab" + "\x01" + "\x03" + "\x02\x06\x07" + "\x09xy")
	wantAt(t, "the beginning", r, 0, api.OK)
	if n := r.Uint(); n != 300 {
		t.Error(n)
	}
	wantAt(t, "behind Uint", r, 2, api.OK)
	if n := r.Int(); n != -1 {
		t.Error(n)
	}
	wantAt(t, "behind Int", r, 3, api.OK)
	if s := r.Text(2); s != "ab" {
		t.Error(s)
	}
	wantAt(t, "behind Text", r, 6, api.OK)
	if !r.Bool() {
		t.Error("Bool")
	}
	wantAt(t, "behind Bool", r, 7, api.OK)
	if n := r.Count(3); n != 3 {
		t.Error(n)
	}
	wantAt(t, "behind Count", r, 8, api.OK)
	if l := r.Ints(2); !slices.Equal(l, []int{3, -4}) {
		t.Error(l)
	}
	wantAt(t, "behind Ints", r, 11, api.OK)
	if s := r.Text(9); s != "" {
		t.Error(s)
	}
	wantAt(t, "at a text that is short", r, 11, api.ErrShort)
	wantDead(t, "a text that is short", r)
}

// thing is one write, and how to read it back.
type thing struct {
	write func(w *wire.Writer)
	same  func(r *wire.Reader) bool
}

// someThing is a thing by chance.
func someThing(c *rand.Rand) thing {
	number := c.Uint64() >> c.Intn(64)
	switch c.Intn(6) {
	case 0:
		return thing{func(w *wire.Writer) { w.Uint(number) }, func(r *wire.Reader) bool { return r.Uint() == number }}
	case 1:
		n := int(number)
		if c.Intn(2) == 0 {
			n = -n
		}
		return thing{func(w *wire.Writer) { w.Int(n) }, func(r *wire.Reader) bool { return r.Int() == n }}
	case 2:
		s := sample(c.Intn(300))
		most := []int{len(s), len(s) + 1, math.MaxInt}[c.Intn(3)]
		return thing{func(w *wire.Writer) { w.Text(s) }, func(r *wire.Reader) bool { return r.Text(most) == s }}
	case 3:
		ok := c.Intn(2) == 0
		return thing{func(w *wire.Writer) { w.Bool(ok) }, func(r *wire.Reader) bool { return r.Bool() == ok }}
	case 4:
		n := int(number >> 1)
		return thing{func(w *wire.Writer) { w.Uint(uint64(n)) }, func(r *wire.Reader) bool { return r.Count(n) == n }}
	}
	l := make([]int, c.Intn(20))
	for i := range l {
		l[i] = int(c.Uint64()>>c.Intn(64)) * (1 - 2*c.Intn(2))
	}
	return thing{func(w *wire.Writer) { w.Ints(l) }, func(r *wire.Reader) bool { return slices.Equal(r.Ints(len(l)), l) }}
}

// P9.5: what is written is read as it was, whatever stands behind it.
func TestReadAsWritten(t *testing.T) {
	c := rand.New(rand.NewSource(9))
	for range 3000 {
		var l []thing
		for range c.Intn(12) {
			l = append(l, someThing(c))
		}
		var w wire.Writer
		for _, x := range l {
			x.write(&w)
		}
		s := w.Bytes()
		for _, rest := range []string{"", "\x00", "\x80", "\xff", sample(c.Intn(30))} {
			r := wire.NewReader(s + rest)
			for i, x := range l {
				if !x.same(r) {
					t.Fatalf("thing %d of %d of %.80q is another one, fault %d at %d", i, len(l), s, r.Err(), r.At())
				}
			}
			wantAt(t, "what was written", r, len(s), api.OK)
			if r.End() != (rest == "") {
				t.Errorf("End with %d bytes left", len(rest))
			}
		}
	}
}

// P9.5: a beginning of what was written is too short, told where what is not whole begins, or it is whole itself.
func TestBeginnings(t *testing.T) {
	c := rand.New(rand.NewSource(5))
	for range 300 {
		var w wire.Writer
		var l []thing
		ends := []int{0}
		for range 5 {
			x := someThing(c)
			x.write(&w)
			l, ends = append(l, x), append(ends, len(w.Bytes()))
		}
		s := w.Bytes()
		for n := range len(s) {
			r := wire.NewReader(s[:n])
			for i, x := range l {
				whole := x.same(r) && r.Err() == api.OK
				if whole != (ends[i+1] <= n) {
					t.Fatalf("thing %d of %d bytes of %.80q: %t", i, n, s, whole)
				}
				if whole {
					continue
				}
				// A list is read as far as its numbers go; all others stay where they begin.
				if r.Err() != api.ErrShort || r.At() < ends[i] || r.At() > n {
					t.Fatalf("thing %d of %d bytes of %.80q: fault %d at %d", i, n, s, r.Err(), r.At())
				}
				break
			}
		}
	}
}

// oneForm wants of a text that, if something of it is read, that written again is the same bytes.
func oneForm(t *testing.T, s string) {
	t.Helper()
	var w wire.Writer
	for what, again := range map[string]func(r *wire.Reader){
		"Uint":  func(r *wire.Reader) { w.Uint(r.Uint()) },
		"Int":   func(r *wire.Reader) { w.Int(r.Int()) },
		"Text":  func(r *wire.Reader) { w.Text(r.Text(math.MaxInt)) },
		"Bool":  func(r *wire.Reader) { w.Bool(r.Bool()) },
		"Count": func(r *wire.Reader) { w.Uint(uint64(r.Count(math.MaxInt))) },
		"Ints":  func(r *wire.Reader) { w.Ints(r.Ints(math.MaxInt)) },
	} {
		w = wire.Writer{}
		r := wire.NewReader(s)
		again(r)
		if r.Err() == api.OK && w.Bytes() != s[:r.At()] {
			t.Errorf("%s of %q: %q is read, %q is written", what, s, s[:r.At()], w.Bytes())
		}
	}
}

// P9.5: each text of up to two bytes, and many longer ones, in one form alone.
func TestOneForm(t *testing.T) {
	oneForm(t, "")
	for a := range 256 {
		oneForm(t, string([]byte{byte(a)}))
		for b := range 256 {
			oneForm(t, string([]byte{byte(a), byte(b)}))
		}
	}
	c := rand.New(rand.NewSource(3))
	for range 50000 {
		b := make([]byte, 3+c.Intn(10))
		for i := range b {
			b[i] = []byte{0, 1, 2, 127, 128, 129, 130, 255, byte(c.Intn(256)), 128 | byte(c.Intn(128))}[c.Intn(10)]
		}
		oneForm(t, string(b))
	}
}

// uintByWords reads a number by the chapter's words, without a bound: the value is held against 2^64.
func uintByWords(s string) (*big.Int, int, api.Errno) {
	n, bound := new(big.Int), new(big.Int).Lsh(big.NewInt(1), 64)
	for i := range len(s) {
		if s[0] == 128 {
			return nil, 0, api.ErrForm
		}
		n.Mul(n, big.NewInt(128))
		n.Add(n, big.NewInt(int64(s[i]%128)))
		if n.Cmp(bound) >= 0 {
			return nil, 0, api.ErrForm
		}
		if s[i] < 128 {
			return n, i + 1, api.OK
		}
	}
	return nil, 0, api.ErrShort
}

// P9.2: texts by chance, the same ones each time, held against the chapter's words.
func TestManyNumbers(t *testing.T) {
	c := rand.New(rand.NewSource(2))
	for range 60000 {
		b := make([]byte, c.Intn(14))
		for i := range b {
			b[i] = []byte{128, 255, 128 | byte(c.Intn(128)), 128 | byte(c.Intn(4)), byte(c.Intn(128)), 129, 130}[c.Intn(7)]
		}
		if len(b) > 9 && c.Intn(2) == 0 {
			for i := range 9 {
				b[i] |= 128
			}
			b[0] = 128 | byte(1+c.Intn(3))
		}
		s := string(b)
		want, size, e := uintByWords(s)
		if e != api.OK {
			want = new(big.Int)
		}
		r := wire.NewReader(s)
		if n := r.Uint(); n != want.Uint64() || r.At() != size || r.Err() != e {
			t.Fatalf("Uint of %q = %d, %d, %d; want %d, %d, %d", s, n, r.At(), r.Err(), want, size, e)
		}
	}
}

// Nil, and a Reader that NewReader didn't make: ErrNil, and zeros.
func TestNone(t *testing.T) {
	for what, r := range map[string]*wire.Reader{"nil": nil, "zero": {}, "new": new(wire.Reader)} {
		wantAt(t, what, r, 0, api.ErrNil)
		r.Fail(api.ErrArg)
		wantAt(t, what, r, 0, api.ErrNil)
		wantDead(t, what, r)
	}
	var w *wire.Writer
	w.Uint(300)
	w.Int(-1)
	w.Text("ab")
	w.Bool(true)
	w.Ints([]int{1})
	if s := w.Bytes(); s != "" {
		t.Errorf("a nil Writer wrote %q", s)
	}
}

// place is where a text lies.
func place(s string) uintptr { return uintptr(unsafe.Pointer(unsafe.StringData(s))) }

// apart tells whether two texts have no byte of memory in common.
func apart(a, b string) bool {
	return place(a)+uintptr(len(a)) <= place(b) || place(b)+uintptr(len(b)) <= place(a)
}

// Memory: what is handed in is neither changed nor kept.
func TestHandedIn(t *testing.T) {
	l := []int{1, -2, 3, 77, 78}
	var w wire.Writer
	w.Ints(l[:3])
	l[0] = 50
	bytes := []byte("text")
	w.Text(unsafe.String(&bytes[0], len(bytes)))
	copy(bytes, "____")
	if w.Bytes() != "\x03\x02\x03\x06\x04text" {
		t.Errorf("%q", w.Bytes())
	}
	if !slices.Equal(l, []int{50, -2, 3, 77, 78}) {
		t.Errorf("the list has become %d", l)
	}
	bytes = []byte("\x02ab\x05")
	r := wire.NewReader(unsafe.String(&bytes[0], len(bytes)))
	copy(bytes, "\x80\x80\x80\x80")
	if r.Text(2) != "ab" || r.Uint() != 5 || !r.End() {
		t.Errorf("fault %d at %d", r.Err(), r.At())
	}
}

// Memory: an answer shares none with an argument, an object, or another answer.
func TestAnswersApart(t *testing.T) {
	var w wire.Writer
	w.Text("abcdefgh")
	a, b := w.Bytes(), w.Bytes()
	if !apart(a, b) {
		t.Error("two answers of Bytes share memory")
	}
	w.Text("ijk")
	if a != "\x08abcdefgh" || b != a {
		t.Errorf("an answer of Bytes has become %q, %q", a, b)
	}
	bytes := a + a + a
	r := wire.NewReader(bytes)
	one, two := r.Text(8), r.Text(9)
	if !apart(one, bytes) || !apart(two, bytes) || !apart(one, two) {
		t.Error("an answer of Text shares memory")
	}
	// Pieces of the reader's own text would lie as far from one another as they do there.
	long := "\x64" + sample(100)
	r = wire.NewReader(long + long)
	one, two = r.Text(100), r.Text(100)
	if place(two)-place(one) == uintptr(len(long)) {
		t.Error("answers of Text are pieces of the reader's text")
	}
	r = wire.NewReader("\x02\x02\x04\x02\x02\x04")
	k, m := r.Ints(2), r.Ints(2)
	k = append(k, 9)
	k[0] = 8
	if !slices.Equal(m, []int{1, 2}) || !slices.Equal(k, []int{8, 2, 9}) {
		t.Errorf("Ints' answers share memory: %d, %d", k, m)
	}
}

// What is answered hangs on the object's own calls alone: two readers of one text don't know of each other.
func TestReadersApart(t *testing.T) {
	s := "\x05\x01a\x80"
	a, b := wire.NewReader(s), wire.NewReader(s)
	a.Uint()
	a.Text(1)
	a.Uint()
	wantAt(t, "the one", a, 3, api.ErrForm)
	wantAt(t, "the other", b, 0, api.OK)
	if b.Uint() != 5 || b.Text(1) != "a" {
		t.Error("the other reads otherwise")
	}
	wantAt(t, "the other", b, 3, api.OK)
}
