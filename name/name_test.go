package name_test

import (
	"math"
	"math/rand"
	"slices"
	"strings"
	"testing"
	"unicode"
	"unicode/utf8"
	"unsafe"

	"lombard/api"
	"lombard/name"
)

// lastSign is the greatest of all code points.
const lastSign = 0x10FFFF

// signs calls a function with each code point that UTF-8 can tell.
func signs(f func(r rune, s string)) {
	for r := rune(0); r <= lastSign; r++ {
		if utf8.ValidRune(r) {
			f(r, string(r))
		}
	}
}

// broken are texts with bytes that begin no sign, and how many signs they have.
var broken = map[string]int{
	"\xff":             1,
	"\x80":             1,
	"a\xc3":            2,
	"\xc3a":            2,
	"\xc0\x80":         2,
	"\xe4\xb8":         2,
	"\xe4\xb8a":        3,
	"\xed\xa0\x80":     3,
	"\xf4\x90\x80\x80": 4,
	"\xf0\x9f\x98":     3,
	"\xef\xbf":         2,
	"\xef\xbf\xbe\xbf": 2,
	"\xef\ufffd":       2,
	"\ufffd\xff":       2,
	"\xff\ufffd":       2,
	"é\xbd":            2,
	"ab\xf5cd":         5,
	"\xfe\xff":         2,
}

// sound are texts all of whose bytes are part of signs.
var sound = []string{"", "a", "Bank & Co", "Müller-Öl", "Łódź 3", "\ufffd", "\ufffd\ufffd", "a\ufffdb", "中文字", "e\u0301\u0302x", "\u0301", "😀a", "\x00\x1f\x7f", "\u0080\u009f", "\U0010ffff", "\ufeffx", "É×÷", strings.Repeat("é", 50)}

// someTexts are texts of all kinds, some of them made by chance, the same ones each time.
func someTexts() []string {
	l := slices.Clone(sound)
	for s := range broken {
		l = append(l, s)
	}
	slices.Sort(l)
	parts := []string{"a", "Z", "7", " ", " ", "-", ".", "&", "'", "É", "é", "ß", "Œ", "œ", "İ", "ı", "Ÿ", "ÿ", "Ĳ", "ŉ", "ſ", "Þ", "×", "÷", "\u0301", "\x00", "\x7f", "中", "가", "Ａ", "😀", "€", "\ufffd", "\xff", "\xc3", "\x80", "\xe4\xb8", "\xef"}
	r := rand.New(rand.NewSource(4))
	for range 3000 {
		var b strings.Builder
		for range r.Intn(12) {
			b.WriteString(parts[r.Intn(len(parts))])
		}
		l = append(l, b.String())
	}
	return l
}

func check(t *testing.T, s string, place int, want api.Errno) {
	t.Helper()
	if n, e := name.Check(s); n != place || e != want {
		t.Errorf("Check(%q) = %d, %d; want %d, %d", s, n, e, place, want)
	}
}

// P4.1: what is a name.
func TestCheckGood(t *testing.T) {
	for _, s := range []string{
		"Bank & Co", "a", "Z", "é", "À", "ſ", "a1", "a 1", "a-", "a.", "a&", "a'", "A.B.", "St. Anne", "R&D-X", "O'Neil", "a-b", "a -b", "a &b", "a .b", "a 'b",
		"a. b", "a& b", "a--b", "a-.b", "a-. b", "a-& b", "a '''b", "a&&..--''", "Łódź 3", "a. b& c",
	} {
		check(t, s, len(s), api.OK)
	}
}

// P4.1: the first sign, and blanks behind joints; the place is one of bytes.
func TestCheckFirstAndBlanks(t *testing.T) {
	for s, place := range map[string]int{
		"1a": 0, " a": 0, "-a": 0, ".a": 0, "&a": 0, "'a": 0, "×a": 0, "÷a": 0, "中": 0, "\xffa": 0, "\ufffd": 0, " ": 0, "0": 0, "_": 0,
		"a  b": 2, "a- b": 2, "a' b": 2, "é  b": 3, "éé- b": 5, "a.  b": 3, "a&  b": 3, "a.- b": 3, "a&' b": 3, "a -  b": 3,
		"a_b": 1, "éa_": 3, "a\xffb": 1, "é×": 2, "é÷é": 2, "éé\xc3": 4, "a\u00bf": 1, "a\u0180": 1, "a\u0301": 1, "a\tb": 1, "a\u00a0b": 1, "a\x00": 1, "a٣": 1, "a\xc3": 1,
		"a  _": 2, "a_  ": 1,
	} {
		check(t, s, place, api.ErrName)
	}
}

// P4.1: at the end: no signs, or a blank as the last one.
func TestCheckEnd(t *testing.T) {
	for _, s := range []string{"", "a ", "é ", "a. ", "a& ", "a b ", strings.Repeat("é", 39) + " "} {
		check(t, s, len(s), api.ErrName)
	}
	check(t, "a  ", 2, api.ErrName)
	check(t, "a- ", 2, api.ErrName)
}

// P4.1: how many signs, and how many bytes; which of the faults is told.
func TestCheckLimits(t *testing.T) {
	for _, letter := range []string{"a", "é"} {
		forty := strings.Repeat(letter, 40)
		check(t, forty[len(letter):], len(forty)-len(letter), api.OK)
		check(t, forty, len(forty), api.OK)
		for _, more := range []string{"a", "é", " ", "_", "\xff", "中", "a_", "  ", "1- "} {
			check(t, forty+more, len(forty), api.ErrLimit)
		}
		check(t, forty[:len(forty)-len(letter)]+"_a", len(forty)-len(letter), api.ErrName)
	}
	check(t, strings.Repeat("a", 160), 40, api.ErrLimit)
	check(t, strings.Repeat("é", 80), 80, api.ErrLimit)
	check(t, strings.Repeat("a", 161), 0, api.ErrLimit)
	check(t, strings.Repeat("é", 81), 0, api.ErrLimit)
	check(t, "a"+strings.Repeat("_", 159), 1, api.ErrName)
	check(t, "a"+strings.Repeat("_", 160), 0, api.ErrLimit)
	check(t, "_"+strings.Repeat("a", 160), 0, api.ErrLimit)
	check(t, strings.Repeat("😀", 40), 0, api.ErrName)
	check(t, strings.Repeat("\xff", 1<<16), 0, api.ErrLimit)
}

// isLetter is the chapter's word, by the library's letters: up to U+017F it leaves out what they do, and the three signs between z and U+00C0.
func isLetter(r rune) bool {
	return r <= 0x17F && unicode.IsLetter(r) && (r <= 'z' || r >= 0xC0)
}

// P4.1: each sign there is, as the first one and as a later one.
func TestCheckEachSign(t *testing.T) {
	signs(func(r rune, s string) {
		place, want := 0, api.ErrName
		if isLetter(r) {
			place, want = len(s)+1, api.OK
		}
		check(t, s+"a", place, want)
		place, want = 1, api.ErrName
		if isLetter(r) || strings.ContainsRune("0123456789 -.&'", r) {
			place, want = len(s)+2, api.OK
		}
		check(t, "a"+s+"a", place, want)
	})
}

// P4.1: each byte that begins no sign.
func TestCheckEachByte(t *testing.T) {
	for b := 0x80; b <= 0xff; b++ {
		check(t, string([]byte{byte(b)}), 0, api.ErrName)
		check(t, string([]byte{'a', 'b', byte(b), 'c'}), 2, api.ErrName)
	}
}

// P4.2: signs, as a range tells them.
func TestCountAndRunes(t *testing.T) {
	for _, s := range someTexts() {
		if n := name.Count(s); n != utf8.RuneCountInString(s) {
			t.Errorf("Count(%q) = %d", s, n)
		}
		l, ok := name.Runes(s)
		if !slices.Equal(l, []rune(s)) || ok != utf8.ValidString(s) {
			t.Errorf("Runes(%q) = %x, %t", s, l, ok)
		}
	}
}

// P4.2: a byte that begins none is a sign of its own.
func TestBrokenSigns(t *testing.T) {
	for s, n := range broken {
		l, ok := name.Runes(s)
		if name.Count(s) != n || len(l) != n || ok || !slices.Contains(l, 0xFFFD) {
			t.Errorf("%q: %d, %x, %t; want %d", s, name.Count(s), l, ok, n)
		}
	}
	for _, s := range sound {
		if _, ok := name.Runes(s); !ok {
			t.Errorf("Runes(%q): false", s)
		}
	}
}

// P4.2: each sign by itself, the mark as well.
func TestRunesEachSign(t *testing.T) {
	signs(func(r rune, s string) {
		if l, ok := name.Runes(s); !ok || len(l) != 1 || l[0] != r || name.Count(s) != 1 {
			t.Errorf("Runes(%q) = %x, %t", s, l, ok)
		}
	})
}

// columnsOf is the chapter's words: each row with the signs at its ends.
func columnsOf(r rune) int {
	for _, row := range [][3]rune{{0, 0x1F, 0}, {0x7F, 0x9F, 0}, {0x300, 0x36F, 0}, {0x1100, 0x115F, 2}, {0x2E80, 0xA4CF, 2}, {0xAC00, 0xD7A3, 2}, {0xF900, 0xFAFF, 2}, {0xFF01, 0xFF60, 2}, {0x1F300, 0x1F64F, 2}} {
		if row[0] <= r && r <= row[1] {
			return int(row[2])
		}
	}
	return 1
}

// P4.3: each sign's columns.
func TestWidthEachSign(t *testing.T) {
	signs(func(r rune, s string) {
		if n := name.Width(s); n != columnsOf(r) {
			t.Errorf("Width of %U = %d", r, n)
		}
	})
}

// P4.3: the columns of all signs together.
func TestWidth(t *testing.T) {
	for s, want := range map[string]int{"": 0, "中": 2, "abc": 3, "中文字": 6, "e\u0301\u0302x": 2, "\xff": 1, "\xe4\xb8": 2, "\x00\t": 0, "ＡA": 3, "😀": 2, "\U0001f2ff\U0001f650": 2, "é": 1, "\ufffd": 1} {
		if n := name.Width(s); n != want {
			t.Errorf("Width(%q) = %d; want %d", s, n, want)
		}
	}
	for _, s := range someTexts() {
		want := 0
		for _, r := range s {
			want += columnsOf(r)
		}
		if n := name.Width(s); n != want {
			t.Errorf("Width(%q) = %d; want %d", s, n, want)
		}
	}
}

// P4.3: the first signs; no numbers of signs are wrong.
func TestCut(t *testing.T) {
	for _, x := range []struct {
		s    string
		n    int
		want string
	}{
		{"abc", 2, "ab"}, {"abc", 3, "abc"}, {"abc", 4, "abc"}, {"abc", math.MaxInt, "abc"}, {"abc", 1, "a"}, {"abc", 0, ""}, {"abc", -1, ""}, {"abc", math.MinInt, ""},
		{"", 0, ""}, {"", 5, ""}, {"", -5, ""}, {"", math.MinInt, ""},
		{"éa\xff", 2, "éa"}, {"éa\xff", 1, "é"}, {"éa\xff", 3, "éa\xff"}, {"éa\xffb", 3, "éa\xff"},
		{"中文字", 2, "中文"}, {"e\u0301x", 1, "e"}, {"\xe4\xb8\xad", 1, "中"}, {"\xe4\xb8x", 1, "\xe4"}, {"\ufffda", 1, "\ufffd"},
	} {
		if got := name.Cut(x.s, x.n); got != x.want {
			t.Errorf("Cut(%q, %d) = %q; want %q", x.s, x.n, got, x.want)
		}
	}
}

// P4.3: of each text each number of signs.
func TestCutTexts(t *testing.T) {
	for _, s := range someTexts() {
		all := []rune(s)
		for n := -1; n <= len(all)+1; n++ {
			got := name.Cut(s, n)
			if !strings.HasPrefix(s, got) || !slices.Equal([]rune(got), all[:min(max(n, 0), len(all))]) {
				t.Errorf("Cut(%q, %d) = %q", s, n, got)
			}
		}
	}
}

// P4.3: filled up, or cut with a dot.
func TestFit(t *testing.T) {
	for _, x := range []struct {
		s     string
		width int
		want  string
	}{
		{"abcdef", 4, "abc."}, {"abcdef", 6, "abcdef"}, {"abcdef", 5, "abcd."}, {"abcdef", 7, "abcdef "}, {"abcdef", 9, "abcdef   "}, {"abcdef", 2, "a."}, {"abcdef", 1, "."}, {"abcdef", 0, ""},
		{"", 0, ""}, {"", 3, "   "}, {"a", 1, "a"}, {"ab", 1, "."}, {"a ", 1, "."}, {"ab cd", 4, "ab ."},
		{"中文字", 6, "中文字"}, {"中文字", 7, "中文字 "}, {"中文字", 5, "中文."}, {"中文字", 4, "中. "}, {"中文字", 3, "中."}, {"中文字", 2, ". "}, {"中文字", 1, "."}, {"中", 1, "."}, {"中", 2, "中"},
		{"a中b", 3, "a. "}, {"中ab", 2, ". "}, {"中ab", 3, "中."},
		{"\u0301\x00", 0, "\u0301\x00"}, {"\u0301\x00", 2, "\u0301\x00  "}, {"a\u0301", 1, "a\u0301"}, {"a\u0301", 0, ""}, {"\u0301a", 0, ""},
		{"a\u0301bc", 2, "a\u0301."}, {"\u0301abc", 1, "\u0301."}, {"ab\u0301\u0302cd", 3, "ab\u0301\u0302."}, {"abc\u0301", 2, "a."},
		{"a\xffb", 3, "a\xffb"}, {"a\xffbc", 3, "a\xff."}, {"\xe4\xb8\xad\xe4\xb8", 3, "中."}, {"\xe4\xb8\xad\xe4\xb8", 4, "中\xe4\xb8"}, {"\xff", 2, "\xff "},
		{"abc", -1, ""}, {"abc", math.MinInt, ""}, {"abc", math.MaxInt, ""}, {"abc", 4097, ""}, {"", -1, ""}, {"", 4097, ""}, {"\u0301", -1, ""},
		{"abc", 4096, "abc" + strings.Repeat(" ", 4093)},
		{strings.Repeat("a", 4096), 4096, strings.Repeat("a", 4096)},
		{strings.Repeat("a", 4096), 4097, ""},
		{strings.Repeat("a", 4097), 4097, ""},
		{strings.Repeat("a", 4097), 4096, strings.Repeat("a", 4095) + "."},
		{strings.Repeat("a", 9000), 4096, strings.Repeat("a", 4095) + "."},
	} {
		if got := name.Fit(x.s, x.width); got != x.want {
			t.Errorf("Fit(%q, %d) = %q; want %q", x.s, x.width, got, x.want)
		}
	}
}

// fitted is the chapter's words of Fit, by the longest beginning that has its place.
func fitted(s string, width int) string {
	if all := name.Width(s); all <= width {
		return s + strings.Repeat(" ", width-all)
	}
	if width == 0 {
		return ""
	}
	n := name.Count(s)
	for name.Width(name.Cut(s, n)) > width-1 {
		n--
	}
	head := name.Cut(s, n)
	return head + "." + strings.Repeat(" ", width-1-name.Width(head))
}

// P4.3 and P4.6: each text at each width; what is not empty takes just these columns.
func TestFitTexts(t *testing.T) {
	for _, s := range someTexts() {
		for width := range 26 {
			got := name.Fit(s, width)
			if got != fitted(s, width) {
				t.Errorf("Fit(%q, %d) = %q; want %q", s, width, got, fitted(s, width))
			}
			if got != "" && name.Width(got) != width {
				t.Errorf("Fit(%q, %d) = %q takes %d", s, width, got, name.Width(got))
			}
			if got == "" && width > 0 {
				t.Errorf("Fit(%q, %d) is empty", s, width)
			}
		}
	}
}

// foldOf is the chapter's word, by the library's small letters: up to U+017F they are those, but of the I with a dot.
func foldOf(r rune) rune {
	switch {
	case r == 0x130:
		return 0x131
	case r <= 0x17F:
		return unicode.ToLower(r)
	}
	return r
}

// P4.4: each sign's small letter.
func TestFoldEachSign(t *testing.T) {
	signs(func(r rune, s string) {
		if got := name.Fold(s); got != string(foldOf(r)) {
			t.Errorf("Fold of %U = %q", r, got)
		}
	})
}

// P4.4: the rows of letters, at their ends and beside them.
func TestFoldEdges(t *testing.T) {
	for s, want := range map[string]string{
		"": "", "BANK & Co 3": "bank & co 3", "@AZ[": "@az[", "`az{": "`az{",
		"\u00bf\u00c0\u00d6\u00d7\u00d8\u00de\u00df": "\u00bf\u00e0\u00f6\u00d7\u00f8\u00fe\u00df", "\u00f7\u00ff": "\u00f7\u00ff",
		"\u0100\u0101\u0130\u0131\u0136\u0137\u0138": "\u0101\u0101\u0131\u0131\u0137\u0137\u0138",
		"\u0139\u013a\u013b\u0147\u0148\u0149":       "\u013a\u013a\u013c\u0148\u0148\u0149",
		"\u014a\u014b\u0152\u0176\u0177\u0178":       "\u014b\u014b\u0153\u0177\u0177\u00ff",
		"\u0179\u017a\u017d\u017e\u017f\u0180\u0181": "\u017a\u017a\u017e\u017e\u017f\u0180\u0181",
		"ΑБ\u212a": "ΑБ\u212a",
		"A\xffB":   "a\ufffdb", "\ufffd": "\ufffd", "\xe4\xb8": "\ufffd\ufffd", "\xc3": "\ufffd",
	} {
		if got := name.Fold(s); got != want {
			t.Errorf("Fold(%q) = %q; want %q", s, got, want)
		}
	}
}

// P4.4: which names are one.
func TestSame(t *testing.T) {
	for _, x := range []struct {
		a, b string
		want bool
	}{
		{"ÉCOLE", "école", true}, {"ecole", "école", false}, {"", "", true}, {"", "a", false}, {"a", "A ", false}, {"Bank & Co", "bANK & cO", true},
		{"Ÿ", "ÿ", true}, {"ŸŽŁ", "ÿžł", true}, {"İ", "ı", true}, {"i", "İ", false}, {"I", "ı", false}, {"×", "÷", false}, {"ss", "ß", false}, {"Ae", "ä", false}, {"s", "ſ", false},
		{"a\xff", "A\xfe", true}, {"a\xff", "A\ufffd", true}, {"a\xff", "a", false}, {"a b", "a-b", false}, {"a", "b", false}, {"ab", "a", false},
	} {
		if name.Same(x.a, x.b) != x.want || name.Same(x.b, x.a) != x.want {
			t.Errorf("Same(%q, %q) is not %t", x.a, x.b, x.want)
		}
	}
}

// plainForms are the letters from U+00DF on by what stands for them; of these with no plain letter there are none here.
var plainForms = map[string]string{
	"AA": "å", "AE": "äæ", "OE": "öøœ", "UE": "ü", "SS": "ß", "TH": "þ",
	"A": "àáâãāăą", "C": "çćĉċč", "D": "ðďđ", "E": "èéêëēĕėęě", "G": "ĝğġģ", "H": "ĥħ", "I": "ìíîïĩīĭįı", "J": "ĵ", "K": "ķĸ", "L": "ĺļľŀł",
	"N": "ñńņňŉŋ", "O": "òóôõōŏő", "R": "ŕŗř", "S": "śŝşšſ", "T": "ţťŧ", "U": "ùúûũūŭůűų", "W": "ŵ", "Y": "ýÿŷ", "Z": "źżž",
}

// plainOf is the chapter's word of one sign.
func plainOf(r rune) string {
	r = foldOf(r)
	switch {
	case r >= 'a' && r <= 'z':
		return strings.ToUpper(string(r))
	case r >= '0' && r <= '9':
		return string(r)
	case r == ' ' || r == '-':
		return " "
	}
	for form, l := range plainForms {
		if strings.ContainsRune(l, r) {
			return form
		}
	}
	return ""
}

// P4.5: each sign's plain letters.
func TestPlainEachSign(t *testing.T) {
	signs(func(r rune, s string) {
		if got := name.Plain(s); got != plainOf(r) {
			t.Errorf("Plain of %U = %q; want %q", r, got, plainOf(r))
		}
	})
}

// P4.5: names written plainly, and in short.
func TestPlainAndShort(t *testing.T) {
	for s, want := range map[string][2]string{
		"Müller-Öl": {"MUELLER OEL", "MO"}, "Łódź & Søn 3": {"LODZ  SOEN 3", "LS3"}, "": {"", ""}, "Bank & Co": {"BANK  CO", "BC"},
		" a b ": {" A B ", "AB"}, "- -": {"   ", ""}, "&.'": {"", ""}, "St. Anne": {"ST ANNE", "SA"}, "R&D-X": {"RD X", "RX"}, "O'Neil": {"ONEIL", "O"},
		"ÆØÅ": {"AEOEAA", "A"}, "Æ Ø Å": {"AE OE AA", "AOA"}, "ẞ ß Þ": {" SS TH", "ST"}, "Ĳ Œ ŒĲ": {" OE OE", "OO"}, "a\u00a0b\tc": {"ABC", "A"}, "a ĳ b": {"A  B", "AB"},
		"a\xff b\xffc": {"A BC", "AB"}, "\xff": {"", ""}, "中 a": {" A", "A"}, "×÷": {"", ""}, "ŸÿŶ": {"YYY", "Y"}, "1 2-3": {"1 2 3", "123"}, "\u0180\u00d7\u00bf": {"", ""},
	} {
		if p, sh := name.Plain(s), name.Short(s); p != want[0] || sh != want[1] {
			t.Errorf("%q: %q, %q; want %q, %q", s, p, sh, want[0], want[1])
		}
	}
}

// P4.5: texts sign by sign, and the first byte behind each blank.
func TestPlainTexts(t *testing.T) {
	for _, s := range someTexts() {
		plain, short := "", ""
		for _, r := range s {
			plain += plainOf(r)
		}
		for word := range strings.SplitSeq(plain, " ") {
			short += word[:min(len(word), 1)]
		}
		if p, sh := name.Plain(s), name.Short(s); p != plain || sh != short {
			t.Errorf("%q: %q, %q; want %q, %q", s, p, sh, plain, short)
		}
	}
}

// P4.6: folded once, or twice; as many signs; what is the Same has one Plain.
func TestWhatFollows(t *testing.T) {
	hold := func(s string) {
		small := name.Fold(s)
		if name.Fold(small) != small || name.Count(small) != name.Count(s) {
			t.Errorf("Fold(%q) = %q", s, small)
		}
		if !name.Same(s, small) || name.Plain(s) != name.Plain(small) {
			t.Errorf("%q and %q: %t, %q, %q", s, small, name.Same(s, small), name.Plain(s), name.Plain(small))
		}
	}
	signs(func(_ rune, s string) { hold(s) })
	texts := someTexts()
	for i, a := range texts {
		hold(a)
		for _, b := range texts[:i%50] {
			if name.Same(a, b) && name.Plain(a) != name.Plain(b) {
				t.Errorf("%q and %q are the Same: %q, %q", a, b, name.Plain(a), name.Plain(b))
			}
		}
	}
}

// An answer shares no memory with what was handed in, nor with another answer.
func TestNewMemory(t *testing.T) {
	s := strings.Repeat("ab", 4)
	for what, got := range map[string]string{
		"Cut": name.Cut(s, 9), "Cut of less": name.Cut(s, 3), "Fit": name.Fit(s, 8), "Fit of more": name.Fit(s, 12), "Fit of less": name.Fit(s, 5), "Fold": name.Fold(s),
	} {
		if unsafe.StringData(got) == unsafe.StringData(s) {
			t.Errorf("%s shares its memory", what)
		}
	}
	one, _ := name.Runes(s)
	one[0] = 'x'
	if two, _ := name.Runes(s); two[0] != 'a' {
		t.Error("Runes shares its memory")
	}
}
