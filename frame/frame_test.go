package frame_test

import (
	"encoding/binary"
	"hash/crc32"
	"math/rand"
	"slices"
	"strings"
	"testing"
	"unsafe"

	"lombard/api"
	"lombard/frame"
)

// sample is a text of n bytes of all kinds, the same one each time.
func sample(n int) string {
	b := make([]byte, n)
	rand.New(rand.NewSource(int64(n))).Read(b)
	return string(b)
}

// laid is a record by the chapter's words, with the library's own sum.
func laid(rec string) string {
	b := binary.LittleEndian.AppendUint32(nil, uint32(len(rec)))
	for _, c := range b[:4] {
		b = append(b, 255-c)
	}
	b = append(b, rec...)
	return string(binary.LittleEndian.AppendUint32(b, crc32.ChecksumIEEE([]byte(rec))))
}

// laidAll is records laid one behind the other.
func laidAll(l ...string) string {
	s := ""
	for _, rec := range l {
		s += laid(rec)
	}
	return s
}

// head is the first eight bytes of a record that says a length.
func head(n uint32) string {
	b := binary.LittleEndian.AppendUint32(nil, n)
	return string(binary.LittleEndian.AppendUint32(b, 1<<32-1-n))
}

// wantNext wants of Next a record, and what it takes.
func wantNext(t *testing.T, s, rec string) {
	t.Helper()
	got, n, e := frame.Next(s)
	if got != rec || n != len(rec)+12 || e != api.OK {
		t.Errorf("Next(%.40q of %d) = %.40q, %d, %d; want %.40q, %d", s, len(s), got, n, e, rec, len(rec)+12)
	}
}

// wantNone wants of Next an error, and nothing beside it.
func wantNone(t *testing.T, what, s string, want api.Errno) {
	t.Helper()
	if rec, n, e := frame.Next(s); rec != "" || n != 0 || e != want {
		t.Errorf("%s: Next(%.40q of %d) = %.40q, %d, %d; want %d", what, s, len(s), rec, n, e, want)
	}
}

// wantRead wants of Read records, where they end, and how it goes on there.
func wantRead(t *testing.T, s string, l []string, at int, want api.Errno) {
	t.Helper()
	got, n, e := frame.Read(s)
	if !slices.Equal(got, l) || n != at || e != want {
		t.Errorf("Read(%.40q of %d) = %d records %.80q, %d, %d; want %d, %d, %d", s, len(s), len(got), got, n, e, len(l), at, want)
	}
}

// P7.1: sums that are known.
func TestSumKnown(t *testing.T) {
	for s, want := range map[string]uint32{
		"":                 0,
		"123456789":        0xCBF43926,
		"\x00":             0xD202EF8D,
		"\xff":             0xFF000000,
		"\xff\xff\xff\xff": 0xFFFFFFFF,
		"a":                0xE8B7BE43,
		"abc":              0x352441C2,
		"The quick brown fox jumps over the lazy dog": 0x414FA339,
	} {
		if got := frame.Sum(s); got != want {
			t.Errorf("Sum(%q) = %X; want %X", s, got, want)
		}
	}
}

// P7.1: each byte, each length up to some, and texts beyond every limit.
func TestSum(t *testing.T) {
	l := []string{strings.Repeat("\x00", 4096), strings.Repeat("\xff", 4097), "é\xc3\x28\xff€", sample(4095), sample(4096), sample(4097), sample(api.MaxFile + 1)}
	for c := range 256 {
		l = append(l, string([]byte{byte(c)}), string([]byte{0, byte(c), 0}))
	}
	for n := range 300 {
		l = append(l, sample(n))
	}
	for _, s := range l {
		if got, want := frame.Sum(s), crc32.ChecksumIEEE([]byte(s)); got != want {
			t.Errorf("Sum(%.40q of %d) = %X; want %X", s, len(s), got, want)
		}
	}
}

// P7.1: the sum by long division of polynomials, all bits in one row: the same without the library.
func TestSumDivision(t *testing.T) {
	const divisor = 1<<32 | 0x04C11DB7
	for _, s := range []string{"", "a", "ab", "123456789", sample(50)} {
		var bits []uint64
		for _, c := range []byte(s) {
			for k := range 8 {
				bits = append(bits, uint64(c>>k&1))
			}
		}
		bits = append(bits, make([]uint64, 32)...)
		for k := range 32 {
			bits[k] ^= 1
		}
		var rest uint64
		for _, b := range bits {
			rest = rest<<1 | b
			if rest>>32 == 1 {
				rest ^= divisor
			}
		}
		want := uint32(0)
		for k := range 32 {
			want |= uint32(rest>>k&1^1) << (31 - k)
		}
		if got := frame.Sum(s); got != want {
			t.Errorf("Sum(%q) = %X; want %X", s, got, want)
		}
	}
}

// P7.2: the chapter's example, and others written out.
func TestPutExamples(t *testing.T) {
	for rec, want := range map[string]string{
		"":          "\x00\x00\x00\x00\xff\xff\xff\xff" + "" + "\x00\x00\x00\x00",
		"ab":        "\x02\x00\x00\x00\xfd\xff\xff\xff" + "ab" + "\x6d\x48\x83\x9e",
		"123456789": "\x09\x00\x00\x00\xf6\xff\xff\xff" + "123456789" + "\x26\x39\xf4\xcb",
		"\xff":      "\x01\x00\x00\x00\xfe\xff\xff\xff" + "\xff" + "\x00\x00\x00\xff",
	} {
		if got, e := frame.Put(rec); got != want || e != api.OK {
			t.Errorf("Put(%q) = %q, %d; want %q", rec, got, e, want)
		}
	}
}

// P7.2: each length up to MaxFrame, which is itself allowed.
func TestPut(t *testing.T) {
	long := sample(api.MaxFrame)
	for n := range api.MaxFrame + 1 {
		if n > 600 && n < 4090 && n%64 > 1 {
			continue
		}
		rec := long[:n]
		got, e := frame.Put(rec)
		if got != laid(rec) || e != api.OK {
			t.Errorf("Put of %d bytes = %.40q of %d, %d", n, got, len(got), e)
		}
		if frame.Size(rec) != len(got) {
			t.Errorf("Size of %d bytes = %d; Put has %d", n, frame.Size(rec), len(got))
		}
	}
}

// P7.2: more than MaxFrame bytes.
func TestPutLimit(t *testing.T) {
	for _, n := range []int{4097, 4098, 8192, 1 << 16, 1<<16 + 5, api.MaxFile, api.MaxFile + 1} {
		if s, e := frame.Put(strings.Repeat("x", n)); s != "" || e != api.ErrLimit {
			t.Errorf("Put of %d bytes = %.40q, %d", n, s, e)
		}
	}
	// Bytes count, not signs.
	if s, e := frame.Put(strings.Repeat("é", 2048)); len(s) != 4108 || e != api.OK {
		t.Errorf("Put of 2048 signs of two bytes = %d bytes, %d", len(s), e)
	}
	if s, e := frame.Put(strings.Repeat("é", 2048) + "x"); s != "" || e != api.ErrLimit {
		t.Errorf("Put of 2049 signs, 4097 bytes = %d bytes, %d", len(s), e)
	}
}

// P7.2: 12 more than the record has, also of one that Put doesn't take.
func TestSize(t *testing.T) {
	for _, n := range []int{0, 1, 2, 255, 256, 4095, 4096, 4097, 1 << 20} {
		if got := frame.Size(strings.Repeat("x", n)); got != n+12 {
			t.Errorf("Size of %d bytes = %d", n, got)
		}
	}
	if got := frame.Size("é€"); got != 17 {
		t.Errorf("Size of signs of 5 bytes = %d", got)
	}
}

// P7.2: All is Put of each, in order.
func TestAll(t *testing.T) {
	for _, l := range [][]string{
		nil, {}, {""}, {"", "", ""}, {"a"}, {"a", "b"}, {"b", "a"}, {"a", "", "a", "b"},
		{laid("inner"), "x"}, {sample(4096), sample(4095), "", sample(4096)},
		slices.Repeat([]string{"many", ""}, 3000),
	} {
		if got, e := frame.All(l); got != laidAll(l...) || e != api.OK {
			t.Errorf("All(%.80q of %d) = %.40q of %d, %d", l, len(l), got, len(got), e)
		}
	}
}

// P7.2: a record that is too long, wherever it stands, and nothing beside the error.
func TestAllLimit(t *testing.T) {
	long := strings.Repeat("x", 4097)
	for _, l := range [][]string{{long}, {long, "a"}, {"a", long}, {"a", long, "b"}, {"a", "b", long}, {long, long}, {"", sample(4096), long}} {
		if s, e := frame.All(l); s != "" || e != api.ErrLimit {
			t.Errorf("All(%.80q) = %.40q, %d", l, s, e)
		}
	}
}

// P7.3: a whole record, whatever stands behind it.
func TestNext(t *testing.T) {
	for _, rec := range []string{"", "a", "ab", "\x00", "\xff\xff\xff\xff", "é€", laid("inner"), sample(255), sample(256), sample(257), sample(4095), sample(4096)} {
		for _, behind := range []string{"", "x", "\x00", laid(""), laid("other"), "\xff\xff\xff\xff\xff\xff\xff\xff", sample(5000)} {
			wantNext(t, laid(rec)+behind, rec)
		}
	}
}

// P7.3: a beginning of a record, at each place, is too short, and is no error of form.
func TestNextShort(t *testing.T) {
	for _, rec := range []string{"", "a", "ab", sample(300), sample(4096)} {
		whole := laid(rec)
		for n := range len(whole) {
			wantNone(t, "a beginning", whole[:n], api.ErrShort)
		}
		wantNext(t, whole, rec)
	}
}

// P7.3: up to four bytes may be anything; each byte behind them must be the turned one, and that is told ahead of there being too few.
func TestNextHead(t *testing.T) {
	for _, s := range []string{"", "\x00", "\xff", "ab", "\xff\xff\xff", "\xff\xff\xff\xff", "\x01\x10\x00\x00", "\x00\x00\x00\x80"} {
		wantNone(t, "up to four bytes", s, api.ErrShort)
	}
	whole := laid("record")
	for at := range 8 {
		for bit := range 8 {
			b := []byte(whole)
			b[at] ^= 1 << bit
			for n := range len(b) + 1 {
				want := api.ErrForm
				if n <= at || n <= at+4 && at < 4 {
					want = api.ErrShort
				}
				wantNone(t, "a head's bit turned", string(b[:n]), want)
			}
			wantNone(t, "a head's bit turned", string(b)+laid("next"), api.ErrForm)
		}
	}
	// The second four bytes as the first ones, not turned.
	for n := 5; n <= 20; n++ {
		wantNone(t, "a head not turned", ("\x02\x00\x00\x00\x02\x00\x00\x00" + "ab" + whole)[:n], api.ErrForm)
	}
}

// P7.3: the fifth to the eighth byte, each against all that it may be.
func TestNextEveryHeadByte(t *testing.T) {
	first := "\x05\x0a\x80\xff"
	right := "\xfa\xf5\x7f\x00"
	for at := range 4 {
		for c := range 256 {
			want := api.ErrForm
			if byte(c) == right[at] {
				want = api.ErrShort
				if at == 3 {
					want = api.ErrForm // More than 4096, as soon as all eight are there.
				}
			}
			wantNone(t, "a head's byte", first+right[:at]+string([]byte{byte(c)}), want)
		}
	}
}

// P7.3: a head that says more than 4096 is none, however many bytes follow; 4096 itself is one.
func TestNextLimit(t *testing.T) {
	for _, n := range []uint32{4097, 4098, 8192, 1 << 16, 1<<16 + 2, 1 << 24, 1<<24 + 2, 1<<31 - 1, 1 << 31, 1<<31 + 2, 1<<32 - 12, 1<<32 - 1} {
		wantNone(t, "a head alone", head(n), api.ErrForm)
		wantNone(t, "a head and some", head(n)+"abcdef", api.ErrForm)
		if n < 10000 {
			rec := sample(int(n))
			wantNone(t, "a long record, whole", head(n)+rec+laid(rec)[n+8:], api.ErrForm)
		}
		wantNone(t, "seven bytes of a head", head(n)[:7], api.ErrShort)
	}
	wantNone(t, "a head of 4096", head(4096), api.ErrShort)
	wantNone(t, "a head of 4096", head(4096)+strings.Repeat("x", 4099), api.ErrShort)
	wantNone(t, "a head of 4096", head(4096)+strings.Repeat("x", 4100), api.ErrForm)
}

// P7.3: a sum that isn't the record's is told only where all of its bytes are there.
func TestNextSum(t *testing.T) {
	for _, rec := range []string{"", "a", "record", sample(4096)} {
		for at := len(rec) + 8; at < len(rec)+12; at++ {
			for bit := range 8 {
				b := []byte(laid(rec))
				b[at] ^= 1 << bit
				wantNone(t, "a sum's bit turned", string(b), api.ErrForm)
				wantNone(t, "a sum's bit turned, and more", string(b)+laid(rec), api.ErrForm)
				wantNone(t, "a sum's bit turned, too short", string(b[:len(b)-1]), api.ErrShort)
			}
		}
	}
	// The sum's bytes the other way round, or not turned.
	wantNone(t, "highest first", head(9)+"123456789"+"\xcb\xf4\x39\x26", api.ErrForm)
	wantNone(t, "not turned", head(9)+"123456789"+"\xd9\xc6\x0b\x34", api.ErrForm)
	wantNone(t, "another one's sum", laid("ab")[:10]+laid("ba")[10:], api.ErrForm)
	wantNone(t, "another one's record", laid("ab")[:8]+laid("ba")[8:10]+laid("ab")[10:], api.ErrForm)
}

// P7.4: no record, one, several; the end told, and OK there.
func TestRead(t *testing.T) {
	for _, l := range [][]string{nil, {""}, {"", ""}, {"a"}, {"a", "", "b"}, {laid("inner")}, {sample(4096), "x", sample(4096)}, slices.Repeat([]string{"many", ""}, 3000)} {
		s := laidAll(l...)
		wantRead(t, s, l, len(s), api.OK)
	}
}

// P7.4: where records don't go on, those ahead are told, where they end, and Next's error there.
func TestReadWrong(t *testing.T) {
	turnedSum := laid("last")[:15] + "?"
	for _, l := range [][]string{nil, {""}, {"a", "bc"}, {sample(4096), "", "x"}} {
		s := laidAll(l...)
		for rest, want := range map[string]api.Errno{
			"x":                        api.ErrShort,
			"\xff\xff\xff\xff":         api.ErrShort,
			laid("last")[:7]:           api.ErrShort,
			laid("last")[:15]:          api.ErrShort,
			head(4096) + "x":           api.ErrShort,
			turnedSum[:15]:             api.ErrShort,
			turnedSum:                  api.ErrForm,
			turnedSum + laid("b"):      api.ErrForm,
			"hello":                    api.ErrForm,
			"hello" + laid("b"):        api.ErrForm,
			head(4097):                 api.ErrForm,
			head(0) + "\x00\x00\x01":   api.ErrShort,
			"\x00" + laid("b"):         api.ErrForm,
			strings.Repeat("\x00", 12): api.ErrForm,
		} {
			wantRead(t, s+rest, l, len(s), want)
			wantNone(t, "what Read stopped at", rest, want)
		}
	}
}

// next is Next by the chapter's words, one error behind the other.
func next(s string) (string, int, api.Errno) {
	for i := range min(len(s), 8) {
		if i >= 4 && int(s[i])+int(s[i-4]) != 255 {
			return "", 0, api.ErrForm
		}
	}
	if len(s) < 8 {
		return "", 0, api.ErrShort
	}
	says := uint64(binary.LittleEndian.Uint32([]byte(s[:4])))
	if says > 4096 {
		return "", 0, api.ErrForm
	}
	if uint64(len(s)-8) < says+4 {
		return "", 0, api.ErrShort
	}
	rec := s[8 : 8+says]
	if laid(rec) != s[:12+says] {
		return "", 0, api.ErrForm
	}
	return rec, int(says) + 12, api.OK
}

// spoilt changes a text a little, by chance.
func spoilt(r *rand.Rand, s string) string {
	b := []byte(s)
	for range r.Intn(3) {
		if len(b) == 0 {
			break
		}
		at := r.Intn(len(b))
		switch r.Intn(4) {
		case 0:
			b[at] ^= 1 << r.Intn(8)
		case 1:
			b = slices.Delete(b, at, at+1)
		case 2:
			b = slices.Insert(b, at, byte(r.Intn(256)))
		case 3:
			b = b[:at]
		}
	}
	return string(b)
}

// P7.3, P7.4: texts by chance, the same ones each time, held against the chapter's words.
func TestManyTexts(t *testing.T) {
	r := rand.New(rand.NewSource(7))
	for range 20000 {
		s := ""
		for range r.Intn(4) {
			rec := sample(r.Intn(20))
			if r.Intn(8) == 0 {
				s += head(uint32(r.Intn(20))) + rec + sample(4)
			} else {
				s += laid(rec)
			}
		}
		s = spoilt(r, s)
		var l []string
		at, want := 0, api.OK
		for at < len(s) {
			rec, n, e := next(s[at:])
			if want = e; e != api.OK {
				break
			}
			l, at = append(l, rec), at+n
		}
		wantRead(t, s, l, at, want)
		rec, n, e := frame.Next(s)
		if rec2, n2, e2 := next(s); rec != rec2 || n != n2 || e != e2 {
			t.Errorf("Next(%q) = %q, %d, %d; want %q, %d, %d", s, rec, n, e, rec2, n2, e2)
		}
		if t.Failed() {
			return
		}
	}
}

// P7.5: Read of All are the records.
func TestReadOfAll(t *testing.T) {
	r := rand.New(rand.NewSource(5))
	for range 200 {
		var l []string
		for range r.Intn(12) {
			n := r.Intn(40)
			if r.Intn(6) == 0 {
				n = 4096 - r.Intn(3)
			}
			l = append(l, sample(n))
		}
		s, e := frame.All(l)
		if e != api.OK {
			t.Fatal(e)
		}
		size := 0
		for _, rec := range l {
			size += frame.Size(rec)
		}
		if len(s) != size {
			t.Errorf("All has %d bytes; Size says %d", len(s), size)
		}
		wantRead(t, s, l, len(s), api.OK)
	}
}

// P7.5: of each beginning of All just the whole records are read; it goes on with ErrShort, or ends there.
func TestBeginnings(t *testing.T) {
	l := []string{"one", "", "\xff\x00", laid("inner"), sample(4096), "", "last"}
	s, e := frame.All(l)
	if e != api.OK {
		t.Fatal(e)
	}
	ends := []int{0}
	for _, rec := range l {
		ends = append(ends, ends[len(ends)-1]+12+len(rec))
	}
	for n := range len(s) + 1 {
		whole := 0
		for whole < len(l) && ends[whole+1] <= n {
			whole++
		}
		want := api.ErrShort
		if ends[whole] == n {
			want = api.OK
		}
		wantRead(t, s[:n], l[:whole], ends[whole], want)
	}
}

// turn turns those of a text's bits, from one on, that are set in a pattern; a byte's lowest bit is its first.
func turn(s string, from int, pattern uint32) string {
	b := []byte(s)
	for k := range 32 {
		if at := from + k; pattern>>k&1 == 1 && at < 8*len(b) {
			b[at/8] ^= 1 << (at % 8)
		}
	}
	return string(b)
}

// wantSpoilt wants that a record with some bits turned is none, whatever follows, and is none where it is cut.
func wantSpoilt(t *testing.T, whole string, from int, pattern uint32) {
	t.Helper()
	s := turn(whole, from, pattern)
	if s == whole {
		return
	}
	wantNone(t, "bits turned", s, api.ErrForm)
	wantNone(t, "bits turned, and more", s+whole, api.ErrForm)
	first := laid("first")
	wantRead(t, first+s+whole, []string{"first"}, len(first), api.ErrForm)
	for n := range len(s) {
		if rec, size, e := frame.Next(s[:n]); rec != "" || size != 0 || e != api.ErrForm && e != api.ErrShort {
			t.Errorf("Next of %d bytes of a record with bits turned = %q, %d, %d", n, rec, size, e)
		}
	}
}

// P7.5: no bits turned among 32 neighbouring ones leave a record: all of the patterns of ten bits, wide ones, and others by chance, at each place.
func TestTurnedBits(t *testing.T) {
	r := rand.New(rand.NewSource(32))
	for _, rec := range []string{"", "a", "record", sample(20)} {
		whole := laid(rec)
		for from := range 8 * len(whole) {
			patterns := []uint32{1<<31 | 1, 1<<32 - 1, 0xEDB88320, 0x04C11DB7, 0xDB710641, 0xFFFF, 0xFFFF0000}
			for range 20 {
				patterns = append(patterns, r.Uint32()|1)
			}
			for k := uint32(1); k < 1<<10; k += 2 {
				s := turn(whole, from, k)
				if s != whole {
					wantNone(t, "few bits turned", s, api.ErrForm)
				}
			}
			for _, p := range patterns {
				wantSpoilt(t, whole, from, p)
			}
			if t.Failed() {
				return
			}
		}
	}
}

// P7.5: the same in the longest record, at places by chance and at its edges.
func TestTurnedBitsLong(t *testing.T) {
	r := rand.New(rand.NewSource(4096))
	whole := laid(sample(4096))
	var places []int
	for range 300 {
		places = append(places, r.Intn(8*len(whole)))
	}
	for k := range 100 {
		places = append(places, k, 8*len(whole)-1-k)
	}
	for _, from := range places {
		wantNone(t, "bits turned", turn(whole, from, r.Uint32()|1), api.ErrForm)
		wantNone(t, "bits turned, too short", turn(whole, max(from, 64), 1)[:len(whole)-1], api.ErrShort)
	}
}

// place tells where a text lies in memory.
func place(s string) uintptr { return uintptr(unsafe.Pointer(unsafe.StringData(s))) }

// apart tells whether two texts share no memory.
func apart(a, b string) bool {
	return place(a)+uintptr(len(a)) <= place(b) || place(b)+uintptr(len(b)) <= place(a)
}

// What was handed in isn't changed, and an answer is no one else's memory.
func TestNewMemory(t *testing.T) {
	given := []string{"first", "second", "spare", "room"}
	list := given[:2]
	one, _ := frame.All(list)
	two, _ := frame.All(list)
	single, _ := frame.All(list[:1])
	put, _ := frame.Put(given[0])
	if !slices.Equal(given, []string{"first", "second", "spare", "room"}) {
		t.Error("All changed its list", given)
	}
	for _, s := range []string{two, single, put, given[0], given[1]} {
		if !apart(one, s) {
			t.Errorf("an answer shares memory with %q", s)
		}
	}

	bytes := []byte(laidAll("first", "second", "first"))
	s := unsafe.String(&bytes[0], len(bytes))
	a, at, e := frame.Read(s)
	b, _, _ := frame.Read(s)
	rec, size, e2 := frame.Next(s)
	texts := append(append([]string{s, rec}, a...), b...)
	for i := range texts {
		for k := range i {
			if !apart(texts[i], texts[k]) {
				t.Errorf("texts %d and %d share memory", k, i)
			}
		}
	}
	b[0] = "else"
	clear(bytes)
	if !slices.Equal(a, []string{"first", "second", "first"}) || at != len(bytes) || e != api.OK || rec != "first" || size != 17 || e2 != api.OK {
		t.Errorf("an answer changed: %q, %d, %d; %q, %d, %d", a, at, e, rec, size, e2)
	}
}

// What is answered hangs on the arguments alone: the same again, whatever was asked between.
func TestSameAgain(t *testing.T) {
	for range 3 {
		wantNext(t, laid("ab"), "ab")
		wantNone(t, "none", "hello", api.ErrForm)
		wantNone(t, "nothing", "", api.ErrShort)
		wantRead(t, "", nil, 0, api.OK)
		if s, e := frame.Put("ab"); s != laid("ab") || e != api.OK {
			t.Errorf("Put(ab) = %q, %d", s, e)
		}
		if frame.Sum("123456789") != 0xCBF43926 || frame.Sum("") != 0 {
			t.Error("Sum changed")
		}
	}
}
