package isin_test

import (
	"math"
	"math/rand"
	"slices"
	"strconv"
	"strings"
	"testing"
	"unsafe"

	"lombard/api"
	"lombard/isin"
)

const (
	letters = "ABCDEFGHIJKLMNOPQRSTUVWXYZ"
	digits  = "0123456789"
)

// known are numbers of securities, with digits that others reckoned; AU0000VXGZA3 is AU0000XVGZA3 with two letters that have changed places, which the digit doesn't tell.
var known = []string{
	"US0378331005", "US0231351067", "US38259P5089", "DE0007164600", "DE000BAY0017", "GB0002634946", "AU0000XVGZA3", "AU0000VXGZA3",
	"JP3633400001", "CH0012221716", "CH0038863350", "FR0000120271", "SE0000108656", "NO0010096985", "DK0010268606", "NL0000009165", "IE00B4BNMY34",
}

// wrong are texts that are neither a number nor the first eleven signs of one.
var wrong = []string{
	"", " ", "U", "US", "US0", "US03783310", "US037833100 ", " US03783310", "US03783310 0", "us037833100", "Us037833100", "uS037833100", "US03783310a",
	"1S037833100", "U1037833100", "11037833100", "0037833100", "US-37833100", "US03783310O.", "ÜS03783310", "USé3783310", "US037833é0", "US\xff37833100", "US03783310\x00",
	"ÜSÜSÜSÜSÜSÜ", "US٣37833100", "ＵS0378331", "US03783310055", "US0378331005 ", " US0378331005", "US03783310051", "US0378331005\x00", "us0378331005", "1S0378331005", "U10378331005",
	"US037833100X", "US037833100x", "US037833100\xff", "US03783310\xc3\xa9", "US0378331005US0378331005", strings.Repeat("0", 12), strings.Repeat("A", 1<<16), strings.Repeat("\xff", 12),
}

// fits is the chapter's word of what a number's signs add up to, by the row of all its digits.
func fits(s string) bool {
	row := ""
	for i := range len(s) - 1 {
		if at := strings.IndexByte(letters, s[i]); at >= 0 {
			row += strconv.Itoa(10 + at)
		} else {
			row += s[i : i+1]
		}
	}
	total := int(s[len(s)-1] - '0')
	for i := range len(row) {
		n := int(row[len(row)-1-i] - '0')
		if i%2 == 0 {
			n *= 2
		}
		for _, c := range strconv.Itoa(n) {
			total += int(c - '0')
		}
	}
	return total%10 == 0
}

// chosen makes a text of so many of some signs.
func chosen(r *rand.Rand, signs string, n int) string {
	var b strings.Builder
	for range n {
		b.WriteByte(signs[r.Intn(len(signs))])
	}
	return b.String()
}

// someHeads are first eleven signs of numbers, some of them made by chance, the same ones each time.
func someHeads() []string {
	l := []string{"AA000000000", "ZZZZZZZZZZZ", "AZ999999999", "AAAAAAAAAAA", "US000000001", "US100000000", "XS0A0A0A0A0"}
	for _, s := range known {
		l = append(l, s[:11])
	}
	r := rand.New(rand.NewSource(5))
	for i := range 4000 {
		signs := []string{digits, letters, digits + letters, "09", "0Z"}[i%5]
		l = append(l, chosen(r, letters, 2)+chosen(r, signs, 9))
	}
	return l
}

// number tells the number of its first eleven signs.
func number(t *testing.T, s string) string {
	t.Helper()
	last, e := isin.Digit(s)
	if e != api.OK {
		t.Fatalf("Digit(%q): %d", s, e)
	}
	return s + string(rune(last))
}

func check(t *testing.T, s string, want api.Errno) {
	t.Helper()
	if e := isin.Check(s); e != want {
		t.Errorf("Check(%q) = %d; want %d", s, e, want)
	}
}

// badHead wants that Digit tells ErrName, and nothing beside it.
func badHead(t *testing.T, s string) {
	t.Helper()
	if c, e := isin.Digit(s); c != 0 || e != api.ErrName {
		t.Errorf("Digit(%q) = %q, %d", s, c, e)
	}
}

// P5.1: numbers that are really there.
func TestKnown(t *testing.T) {
	for _, s := range known {
		if c, e := isin.Digit(s[:11]); c != s[11] || e != api.OK {
			t.Errorf("Digit(%q) = %q, %d", s[:11], c, e)
		}
		check(t, s, api.OK)
	}
	check(t, "US0378331006", api.ErrCheck)
	check(t, "US0378331004", api.ErrCheck)
}

// P5.1: the digit is the one of ten with which the signs add up to a multiple of ten; each of the ten is some number's.
func TestDigit(t *testing.T) {
	seen := map[byte]int{}
	for _, s := range someHeads() {
		got, e := isin.Digit(s)
		seen[got]++
		for _, c := range []byte(digits) {
			if e != api.OK || fits(s+string(rune(c))) != (c == got) {
				t.Errorf("Digit(%q) = %q, %d; %q", s, got, e, c)
			}
		}
	}
	if len(seen) != 10 {
		t.Errorf("%d digits: %v", len(seen), seen)
	}
}

// P5.1: each letter, and each digit, at each place.
func TestDigitEachByte(t *testing.T) {
	for place := range 11 {
		for c := range 256 {
			b := []byte("US037833100")
			b[place] = byte(c)
			s := string(b)
			good := strings.IndexByte(letters, byte(c)) >= 0 || place > 1 && strings.IndexByte(digits, byte(c)) >= 0
			if !good {
				badHead(t, s)
				check(t, s+"5", api.ErrName)
				continue
			}
			if whole := number(t, s); !fits(whole) || isin.Check(whole) != api.OK {
				t.Errorf("Digit(%q): %q", s, whole)
			}
		}
	}
}

// P5.1: what isn't eleven signs; a number isn't, nor is a beginning of one.
func TestDigitWrong(t *testing.T) {
	for _, s := range wrong {
		badHead(t, s)
	}
	for _, s := range known {
		for n := range 13 {
			if n != 11 {
				badHead(t, s[:n])
			}
		}
	}
}

// P5.1: each byte as the last sign: one digit is right, nine are not, and all others are none.
func TestCheckEachLast(t *testing.T) {
	for _, s := range append(someHeads()[:200], known[0][:11]) {
		right := number(t, s)[11]
		for c := range 256 {
			want := api.ErrName
			if byte(c) == right {
				want = api.OK
			} else if strings.IndexByte(digits, byte(c)) >= 0 {
				want = api.ErrCheck
			}
			check(t, s+string([]byte{byte(c)}), want)
		}
	}
}

// P5.1: what isn't twelve signs of a number; a wrong sign is told ahead of a wrong digit.
func TestCheckWrong(t *testing.T) {
	for _, s := range wrong {
		check(t, s, api.ErrName)
	}
	for _, s := range known {
		for n := range 12 {
			check(t, s[:n], api.ErrName)
		}
		check(t, s+"0", api.ErrName)
		check(t, strings.ToLower(s), api.ErrName)
	}
	for _, c := range digits {
		check(t, "U_037833100"+string(c), api.ErrName)
		check(t, "03783310050"+string(c), api.ErrName)
		check(t, "US03783310"+string(c), api.ErrName)
	}
}

// P5.2: the own signs are filled up with zeros ahead, up to nine.
func TestMake(t *testing.T) {
	for _, x := range [][3]string{
		{"US", "037833100", "US0378331005"}, {"US", "37833100", "US0378331005"}, {"DE", "716460", "DE0007164600"}, {"DE", "0716460", "DE0007164600"}, {"DE", "000716460", "DE0007164600"},
		{"AU", "XVGZA", "AU0000XVGZA3"}, {"US", "38259P508", "US38259P5089"}, {"IE", "B4BNMY3", "IE00B4BNMY34"}, {"NL", "000916", "NL0000009165"},
		{"AA", "", "AA0000000006"}, {"AA", "0", "AA0000000006"}, {"AA", "000000000", "AA0000000006"},
	} {
		if s, e := isin.Make(x[0], x[1]); s != x[2] || e != api.OK {
			t.Errorf("Make(%q, %q) = %q, %d; want %q", x[0], x[1], s, e, x[2])
		}
	}
}

// P5.2: wrong lands, and wrong own signs; what is too much of one isn't taken as part of the other.
func TestMakeWrong(t *testing.T) {
	for _, x := range [][2]string{
		{"", ""}, {"", "037833100"}, {"U", "037833100"}, {"U", "S03783310"}, {"USA", "37833100"}, {"US0", "37833100"}, {"", "US0378331"}, {"us", "037833100"}, {"U1", "037833100"}, {"1U", "1"}, {"00", "1"},
		{"é", "1"}, {"Ü", "037833100"}, {"ÜS", "1"}, {"ÜÖ", "1"}, {"U ", "1"}, {" U", "1"}, {"\xff\xff", "1"}, {"\x00S", "1"},
		{"US", "0378331000"}, {"US", "0000000000"}, {"US", "037833100 "}, {"US", " "}, {"US", "-1"}, {"US", "+1"}, {"US", "a"}, {"US", "378331o0"}, {"US", "é"}, {"US", "ééééé"}, {"US", "\xff"}, {"US", "٣"},
		{"US", "1\x00"}, {"US", strings.Repeat("0", 1<<16)}, {strings.Repeat("U", 1<<16), "1"}, {"US0378331005", ""}, {"US037833100", ""},
	} {
		if s, e := isin.Make(x[0], x[1]); s != "" || e != api.ErrName {
			t.Errorf("Make(%q, %q) = %q, %d", x[0], x[1], s, e)
		}
	}
}

// P5.2: land, and own signs without the zeros ahead; those within them stay.
func TestLand(t *testing.T) {
	for _, x := range [][3]string{
		{"US0378331005", "US", "37833100"}, {"DE0007164600", "DE", "716460"}, {"AU0000XVGZA3", "AU", "XVGZA"}, {"DE000BAY0017", "DE", "BAY001"}, {"US38259P5089", "US", "38259P508"},
		{"JP3633400001", "JP", "363340000"}, {"AA0000000006", "AA", ""}, {"NL0000009165", "NL", "916"},
	} {
		if land, own, e := isin.Land(x[0]); land != x[1] || own != x[2] || e != api.OK {
			t.Errorf("Land(%q) = %q, %q, %d", x[0], land, own, e)
		}
	}
}

// P5.2: what isn't a number has no land, and Check's error is told.
func TestLandWrong(t *testing.T) {
	for _, s := range append([]string{"US0378331006", "US0378331000", "AA0000000000"}, wrong...) {
		if land, own, e := isin.Land(s); land != "" || own != "" || e == api.OK || e != isin.Check(s) {
			t.Errorf("Land(%q) = %q, %q, %d", s, land, own, e)
		}
	}
	if _, _, e := isin.Land("US0378331006"); e != api.ErrCheck {
		t.Errorf("Land with another digit: %d", e)
	}
	if _, _, e := isin.Land("US037833100"); e != api.ErrName {
		t.Errorf("Land of eleven signs: %d", e)
	}
}

// P5.3: of all texts of three letters these eight, and no other text.
func TestCurrency(t *testing.T) {
	codes := []string{"EUR", "USD", "GBP", "CHF", "JPY", "SEK", "NOK", "DKK"}
	for _, a := range letters {
		for _, b := range letters {
			for _, c := range letters {
				if s := string([]rune{a, b, c}); isin.Currency(s) != slices.Contains(codes, s) {
					t.Errorf("Currency(%q) = %t", s, isin.Currency(s))
				}
			}
		}
	}
	for _, s := range codes {
		for _, other := range []string{strings.ToLower(s), s[:2], s[1:], s + " ", " " + s, s + s, s + "\x00", s[:2] + strings.ToLower(s[2:])} {
			if isin.Currency(other) {
				t.Errorf("Currency(%q)", other)
			}
		}
	}
	for _, s := range []string{"", " ", "   ", "€", "\xff", "000"} {
		if isin.Currency(s) {
			t.Errorf("Currency(%q)", s)
		}
	}
}

// sound is an asset of which nothing is wrong.
var sound = api.Asset{ISIN: "US0378331005", Issuer: 17, Rating: 3, Maturity: 11016, Currency: "USD"}

func checkAsset(t *testing.T, a api.Asset, want api.Errno) {
	t.Helper()
	if e := isin.Asset(a); e != want {
		t.Errorf("Asset(%+v) = %d; want %d", a, e, want)
	}
}

// P5.3: numbers of an asset at their edges, and beyond them.
func TestAssetNumbers(t *testing.T) {
	checkAsset(t, sound, api.OK)
	checkAsset(t, api.Asset{ISIN: sound.ISIN, Currency: "DKK"}, api.OK)
	for _, x := range []struct {
		most int
		bad  api.Errno
		set  func(a *api.Asset, n int)
	}{
		{9999, api.ErrArg, func(a *api.Asset, n int) { a.Issuer = n }},
		{20, api.ErrArg, func(a *api.Asset, n int) { a.Rating = n }},
		{200000, api.ErrDay, func(a *api.Asset, n int) { a.Maturity = n }},
	} {
		for _, n := range []int{math.MinInt, -200001, -1, 0, 1, x.most - 1, x.most, x.most + 1, math.MaxInt, 1 << 32, 1 << 40} {
			a, want := sound, api.OK
			if x.set(&a, n); n < 0 || n > x.most {
				want = x.bad
			}
			checkAsset(t, a, want)
		}
	}
}

// P5.3: an asset's texts; the currency needn't be the land's.
func TestAssetTexts(t *testing.T) {
	for _, s := range known {
		for _, currency := range []string{"EUR", "USD", "GBP", "CHF", "JPY", "SEK", "NOK", "DKK"} {
			a := sound
			a.ISIN, a.Currency = s, currency
			checkAsset(t, a, api.OK)
		}
	}
	for _, s := range wrong {
		a := sound
		a.ISIN = s
		checkAsset(t, a, api.ErrName)
		a = sound
		a.Currency = s
		checkAsset(t, a, api.ErrName)
	}
	a := sound
	a.ISIN = "US0378331006"
	checkAsset(t, a, api.ErrCheck)
	a = sound
	a.Currency = "usd"
	checkAsset(t, a, api.ErrName)
	checkAsset(t, api.Asset{}, api.ErrName)
}

// P5.3: of several faults the one that is named first.
func TestAssetOrder(t *testing.T) {
	bad := api.Asset{ISIN: "US037833100", Issuer: -1, Rating: 21, Maturity: 200001, Currency: "XXX"}
	checkAsset(t, bad, api.ErrName)
	bad.ISIN = "US0378331006"
	checkAsset(t, bad, api.ErrCheck)
	bad.ISIN = sound.ISIN
	checkAsset(t, bad, api.ErrName)
	bad.Currency = "EUR"
	checkAsset(t, bad, api.ErrArg)
	bad.Issuer = 0
	checkAsset(t, bad, api.ErrArg)
	bad.Rating = 20
	checkAsset(t, bad, api.ErrDay)
	bad.Maturity = 200000
	checkAsset(t, bad, api.OK)
}

// P5.4: what Make makes is a number, of which Land tells what it was made of.
func TestMakeAndLand(t *testing.T) {
	r := rand.New(rand.NewSource(54))
	for range 5000 {
		land, own := chosen(r, letters, 2), chosen(r, []string{digits, digits + letters, "0A", "0"}[r.Intn(4)], r.Intn(10))
		s, e := isin.Make(land, own)
		if e != api.OK || isin.Check(s) != api.OK || !fits(s) {
			t.Errorf("Make(%q, %q) = %q, %d", land, own, s, e)
		}
		bare := own
		for strings.HasPrefix(bare, "0") {
			bare = bare[1:]
		}
		l, o, e := isin.Land(s)
		if l != land || o != bare || e != api.OK {
			t.Errorf("Land(%q) = %q, %q, %d; want %q, %q", s, l, o, e, land, bare)
		}
		if again, e := isin.Make(l, o); again != s || e != api.OK {
			t.Errorf("Make(%q, %q) = %q, %d; want %q", l, o, again, e, s)
		}
	}
}

// isDigit tells whether a sign is a digit.
func isDigit(c byte) bool { return c >= '0' && c <= '9' }

// P5.4: a number of which one digit is another one is none, the last one included.
func TestOneDigitOff(t *testing.T) {
	for _, head := range someHeads() {
		s := number(t, head)
		for i := range len(s) {
			for _, c := range digits {
				if isDigit(s[i]) && byte(c) != s[i] {
					check(t, s[:i]+string(c)+s[i+1:], api.ErrCheck)
				}
			}
		}
	}
}

// P5.4: a number of which two digits side by side have changed places is none; but 0 and 9 may.
func TestTwoDigitsSwapped(t *testing.T) {
	for _, head := range someHeads() {
		s := number(t, head)
		for i := range len(s) - 1 {
			if !isDigit(s[i]) || !isDigit(s[i+1]) || s[i] == s[i+1] {
				continue
			}
			want := api.ErrCheck
			if pair := s[i : i+2]; pair == "09" || pair == "90" {
				want = api.OK
			}
			check(t, s[:i]+s[i+1:i+2]+s[i:i+1]+s[i+2:], want)
		}
	}
}

// An answer shares no memory with what was handed in, nor with another answer.
func TestNewMemory(t *testing.T) {
	s := strings.Clone("JP3633400001")
	land, own, _ := isin.Land(s)
	for _, part := range []string{land, own} {
		at, first := uintptr(unsafe.Pointer(unsafe.StringData(part))), uintptr(unsafe.Pointer(unsafe.StringData(s)))
		if at >= first && at < first+uintptr(len(s)) {
			t.Errorf("Land shares its memory: %q", part)
		}
	}
	one, _ := isin.Make("JP", "363340000")
	two, _ := isin.Make("JP", "363340000")
	if unsafe.StringData(one) == unsafe.StringData(two) {
		t.Error("Make shares its memory")
	}
}
