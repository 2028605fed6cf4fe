package disk_test

import (
	"math"
	"math/rand"
	"strings"
	"testing"
	"unsafe"

	"lombard/api"
	"lombard/disk"
)

// noFiles are numbers of which there is no file.
var noFiles = []int{math.MinInt, -1 << 32, -4, -1, disk.Files, 5, 1 << 32, math.MaxInt}

// all keeps as many late bytes of each file.
func all(n int) [disk.Files]int { return [disk.Files]int{n, n, n, n} }

// want wants an error of a call.
func want(t *testing.T, what string, got, e api.Errno) {
	t.Helper()
	if got != e {
		t.Errorf("%s = %d; want %d", what, got, e)
	}
}

// do wants that all of some calls are taken.
func do(t *testing.T, l ...api.Errno) {
	t.Helper()
	for i, e := range l {
		if e != api.OK {
			t.Fatalf("call %d = %d", i, e)
		}
	}
}

// wantFile wants that a file has these safe bytes, and behind them these late ones.
func wantFile(t *testing.T, d *disk.Disk, i int, safe, late string) {
	t.Helper()
	if s, e := d.Read(i); s != safe+late || e != api.OK {
		t.Errorf("Read(%d) = %.80q (%d), %d; want %.80q (%d)", i, s, len(s), e, safe+late, len(safe+late))
	}
	if n, e := d.Len(i); n != len(safe)+len(late) || e != api.OK {
		t.Errorf("Len(%d) = %d, %d; want %d", i, n, e, len(safe)+len(late))
	}
	if n := d.Late(i); n != len(late) {
		t.Errorf("Late(%d) = %d; want %d", i, n, len(late))
	}
}

// wantNothing wants that a file can't be asked, nor changed, for that error, and that nothing stands beside it.
func wantNothing(t *testing.T, d *disk.Disk, i int, e api.Errno) {
	t.Helper()
	if s, got := d.Read(i); s != "" || got != e {
		t.Errorf("Read(%d) = %q, %d; want %d", i, s, got, e)
	}
	if n, got := d.Len(i); n != 0 || got != e {
		t.Errorf("Len(%d) = %d, %d; want %d", i, n, got, e)
	}
	if n := d.Late(i); n != 0 {
		t.Errorf("Late(%d) = %d", i, n)
	}
	want(t, "Append", d.Append(i, "x"), e)
	want(t, "Append of nothing", d.Append(i, ""), e)
	want(t, "Append of too much", d.Append(i, strings.Repeat("x", api.MaxFile+1)), e)
	want(t, "Sync", d.Sync(i), e)
	for _, n := range []int{math.MinInt, -1, 0, 1, math.MaxInt} {
		want(t, "Cut", d.Cut(i, n), e)
	}
}

// P6.1: a new disk has power, four files without bytes, and no limit; each New makes another one.
func TestNew(t *testing.T) {
	d, other := disk.New(), disk.New()
	if disk.Files != 4 || d == nil || other == nil {
		t.Fatal(disk.Files, d, other)
	}
	for i := range disk.Files {
		wantFile(t, d, i, "", "")
	}
	for range 5000 {
		do(t, d.Append(0, "a"), d.Sync(1), d.Cut(2, 0))
	}
	wantFile(t, d, 0, "", strings.Repeat("a", 5000))
	wantFile(t, other, 0, "", "")
}

// P6.1: there are the files 0 to 3, each with bytes of its own, and no others.
func TestFiles(t *testing.T) {
	d := disk.New()
	for i, s := range []string{"null", "one", "two", "three"} {
		do(t, d.Append(i, s))
	}
	do(t, d.Sync(1), d.Cut(3, 2))
	for _, i := range noFiles {
		wantNothing(t, d, i, api.ErrNone)
	}
	wantFile(t, d, 0, "", "null")
	wantFile(t, d, 1, "one", "")
	wantFile(t, d, 2, "", "two")
	wantFile(t, d, 3, "", "th")
}

// P6.1: without power no file can be asked, nor changed; that is told ahead of a file that isn't there.
func TestNoPower(t *testing.T) {
	d := disk.New()
	do(t, d.Append(2, "abc"), d.Sync(2), d.Append(2, "def"))
	d.Limit(0)
	want(t, "Sync", d.Sync(2), api.ErrCrash)
	for range 2 {
		for i := range disk.Files {
			wantNothing(t, d, i, api.ErrCrash)
		}
		for _, i := range noFiles {
			wantNothing(t, d, i, api.ErrCrash)
		}
		// A limit doesn't bring the power back.
		d.Limit(7)
		wantNothing(t, d, 2, api.ErrCrash)
		d.Limit(-1)
	}
	d.Crash(all(9))
	wantFile(t, d, 2, "abcdef", "")
}

// P6.1 to P6.3: nil, and what New didn't make, tell ErrNil, whatever is done with them.
func TestNil(t *testing.T) {
	var none *disk.Disk
	var zero disk.Disk
	for _, d := range []*disk.Disk{none, &zero, new(disk.Disk), {}} {
		for _, n := range []int{-1, 0, 3} {
			for i := -1; i <= disk.Files; i++ {
				wantNothing(t, d, i, api.ErrNil)
			}
			d.Limit(n)
			wantNothing(t, d, 0, api.ErrNil)
			d.Crash(all(n))
			wantNothing(t, d, math.MaxInt, api.ErrNil)
		}
	}
}

// P6.2: what is appended stands behind the others, late; all bytes may stand in a file.
func TestAppend(t *testing.T) {
	d := disk.New()
	every := make([]byte, 256)
	for i := range every {
		every[i] = byte(i)
	}
	so := ""
	for _, s := range []string{"a", "", string(every), "\xff\xfe", "é", "\x00", string(every)} {
		do(t, d.Append(3, s))
		so += s
		wantFile(t, d, 3, "", so)
	}
	do(t, d.Sync(3), d.Append(3, ""))
	wantFile(t, d, 3, so, "")
	do(t, d.Append(3, "z"))
	wantFile(t, d, 3, so, "z")
}

// P6.2: a file has at most MaxFile bytes, safe and late ones together, however they came; ErrFull changes nothing.
func TestAppendFull(t *testing.T) {
	whole := strings.Repeat("0123456789abcdef", api.MaxFile/16)
	d := disk.New()
	want(t, "Append of one too many", d.Append(0, whole+"x"), api.ErrFull)
	wantFile(t, d, 0, "", "")
	do(t, d.Append(0, whole))
	want(t, "Append to a whole file", d.Append(0, "x"), api.ErrFull)
	do(t, d.Append(0, ""), d.Sync(0), d.Append(0, ""))
	want(t, "Append to a whole file", d.Append(0, whole), api.ErrFull)
	wantFile(t, d, 0, whole, "")

	do(t, d.Append(1, whole[:10]), d.Sync(1), d.Append(1, whole[10:20]))
	want(t, "Append of one too many", d.Append(1, whole[20:]+"x"), api.ErrFull)
	wantFile(t, d, 1, whole[:10], whole[10:20])
	do(t, d.Append(1, whole[20:]))
	wantFile(t, d, 1, whole[:10], whole[10:])

	do(t, d.Cut(1, api.MaxFile-1))
	want(t, "Append of one too many", d.Append(1, "xy"), api.ErrFull)
	do(t, d.Append(1, "x"))
	d.Crash(all(5))
	do(t, d.Append(1, whole[15:]))
	want(t, "Append to a whole file", d.Append(1, "x"), api.ErrFull)
	wantFile(t, d, 1, whole[:15], whole[15:])
	wantFile(t, d, 2, "", "")
}

// P6.2: Sync makes all bytes of its file safe, and of no other one.
func TestSync(t *testing.T) {
	d := disk.New()
	for i := range disk.Files {
		do(t, d.Append(i, "abc"))
	}
	do(t, d.Sync(2), d.Sync(2), d.Append(2, "def"))
	wantFile(t, d, 2, "abc", "def")
	do(t, d.Sync(2))
	d.Crash(all(0))
	wantFile(t, d, 2, "abcdef", "")
	for _, i := range []int{0, 1, 3} {
		wantFile(t, d, i, "", "")
	}
}

// P6.2: Cut at each place: safe bytes stay safe, and late ones late.
func TestCut(t *testing.T) {
	for n := range 7 {
		d := disk.New()
		do(t, d.Append(1, "abc"), d.Sync(1), d.Append(1, "def"), d.Append(0, "other"), d.Cut(1, n))
		safe := "abc"[:min(n, 3)]
		late := "def"[:max(n-3, 0)]
		wantFile(t, d, 1, safe, late)
		// What follows is late, though the bytes that stood there were safe.
		do(t, d.Append(1, "XYZ"))
		wantFile(t, d, 1, safe, late+"XYZ")
		wantFile(t, d, 0, "", "other")
		d.Crash(all(1))
		wantFile(t, d, 1, safe+(late + "XYZ")[:1], "")
	}
}

// P6.2: Cut below 0, and above what there is; nothing changes.
func TestCutWrong(t *testing.T) {
	d := disk.New()
	for _, n := range []int{math.MinInt, -1, 1, api.MaxFile, math.MaxInt} {
		want(t, "Cut of an empty file", d.Cut(3, n), api.ErrArg)
	}
	do(t, d.Cut(3, 0), d.Append(3, "abc"), d.Sync(3), d.Append(3, "de"))
	for _, n := range []int{math.MinInt, -6, -5, -1, 6, 7, api.MaxFile, 1 << 32, math.MaxInt} {
		want(t, "Cut", d.Cut(3, n), api.ErrArg)
	}
	wantFile(t, d, 3, "abc", "de")
}

// P6.2, P6.3: so many changes are made as the limit says; at the next one the power goes, and that one isn't made.
func TestLimit(t *testing.T) {
	for limit := range 18 {
		d := disk.New()
		do(t, d.Append(0, "safe"), d.Sync(0), d.Append(0, "late"))
		d.Limit(limit)
		safe, late := "safe", "late"
		for k := range limit {
			switch k % 3 {
			case 0:
				do(t, d.Append(0, "++"))
				late += "++"
			case 1:
				do(t, d.Cut(0, len(safe+late)-1))
				late = late[:len(late)-1]
			case 2:
				do(t, d.Sync(0))
				safe, late = safe+late, ""
			}
			// Asking takes nothing off the limit.
			wantFile(t, d, 0, safe, late)
		}
		last := []func() api.Errno{func() api.Errno { return d.Append(0, "x") }, func() api.Errno { return d.Sync(0) }, func() api.Errno { return d.Cut(0, 0) }}
		want(t, "a change beyond the limit", last[limit/3%3](), api.ErrCrash)
		wantNothing(t, d, 0, api.ErrCrash)
		d.Crash(all(2))
		wantFile(t, d, 0, safe+late[:min(2, len(late))], "")
	}
}

// P6.3: the limit is of all files together, and of calls that do nothing, too.
func TestLimitCounts(t *testing.T) {
	d := disk.New()
	d.Limit(4)
	do(t, d.Append(0, ""), d.Sync(1), d.Cut(2, 0), d.Append(3, "abc"))
	want(t, "a fifth change", d.Append(1, ""), api.ErrCrash)
	d.Crash(all(9))
	wantFile(t, d, 3, "abc", "")
	for _, end := range []func(*disk.Disk) api.Errno{
		func(d *disk.Disk) api.Errno { return d.Append(0, "") },
		func(d *disk.Disk) api.Errno { return d.Sync(0) },
		func(d *disk.Disk) api.Errno { return d.Cut(0, 0) },
	} {
		d.Limit(0)
		want(t, "a change at the limit 0", end(d), api.ErrCrash)
		wantNothing(t, d, 3, api.ErrCrash)
		d.Crash(all(0))
	}
	wantFile(t, d, 3, "abc", "")
}

// P6.2: a call with another error is told ahead of the limit, takes nothing off it, and leaves the power on.
func TestLimitAndErrors(t *testing.T) {
	d := disk.New()
	do(t, d.Append(0, "abc"))
	for _, limit := range []int{1, 0} {
		d.Limit(limit)
		for range 3 {
			want(t, "Append", d.Append(0, strings.Repeat("x", api.MaxFile)), api.ErrFull)
			want(t, "Cut", d.Cut(0, 4), api.ErrArg)
			want(t, "Cut", d.Cut(0, -1), api.ErrArg)
			want(t, "Append", d.Append(4, "x"), api.ErrNone)
			want(t, "Sync", d.Sync(-1), api.ErrNone)
			want(t, "Cut", d.Cut(4, 0), api.ErrNone)
		}
		wantFile(t, d, 0, "", "abc")
	}
	d.Limit(1)
	want(t, "Cut", d.Cut(0, 9), api.ErrArg)
	do(t, d.Sync(0))
	want(t, "Sync", d.Sync(0), api.ErrCrash)
}

// P6.3: the last limit holds; below 0 there is none; a crash takes it away.
func TestLimitAnew(t *testing.T) {
	d := disk.New()
	for _, n := range []int{-1, -2, math.MinInt} {
		d.Limit(0)
		d.Limit(n)
		for range 100 {
			do(t, d.Append(0, "a"), d.Sync(0), d.Cut(0, 0))
		}
	}
	d.Limit(2)
	do(t, d.Sync(0))
	d.Limit(2)
	do(t, d.Sync(0), d.Sync(0))
	want(t, "Sync", d.Sync(0), api.ErrCrash)
	// Set without power, the limit is gone with the crash as well.
	for _, n := range []int{0, 1, 5} {
		d.Limit(n)
		d.Crash(all(0))
		for range 10 {
			do(t, d.Sync(0))
		}
		d.Limit(0)
		want(t, "Sync", d.Sync(0), api.ErrCrash)
	}
	d.Crash(all(0))
	d.Limit(math.MaxInt)
	do(t, d.Append(0, "a"), d.Sync(0))
	d.Limit(1)
	d.Crash(all(0))
	do(t, d.Sync(0), d.Sync(0), d.Append(0, "b"))
	wantFile(t, d, 0, "a", "b")
}

// P6.3: the chapter's example, and keeping none, some, all, and more than there are; of each file its own number.
func TestCrash(t *testing.T) {
	d := disk.New()
	do(t, d.Append(0, "abc"), d.Sync(0), d.Append(0, "def"))
	d.Crash([disk.Files]int{2})
	wantFile(t, d, 0, "abcde", "")

	for _, n := range []int{math.MinInt, -4, -1, 0, 1, 2, 3, 4, 5, 100, math.MaxInt} {
		kept := max(0, min(n, 4))
		for i := range disk.Files {
			d, keep := disk.New(), [disk.Files]int{}
			for j := range disk.Files {
				do(t, d.Append(j, "abc"), d.Sync(j), d.Append(j, "defg"))
				keep[j] = j
			}
			keep[i] = n
			d.Crash(keep)
			for j := range disk.Files {
				if j == i {
					wantFile(t, d, j, "abc"+"defg"[:kept], "")
				} else {
					wantFile(t, d, j, "abc"+"defg"[:j], "")
				}
			}
		}
	}
}

// P6.3: what is gone doesn't come back, and what is kept is as safe as if it had been synced.
func TestCrashForGood(t *testing.T) {
	d := disk.New()
	do(t, d.Append(1, "abcdef"))
	d.Crash(all(2))
	d.Crash(all(9))
	wantFile(t, d, 1, "ab", "")
	do(t, d.Append(1, "xyz"))
	wantFile(t, d, 1, "ab", "xyz")
	d.Crash(all(-1))
	wantFile(t, d, 1, "ab", "")
	do(t, d.Cut(1, 0))
	d.Crash(all(9))
	wantFile(t, d, 1, "", "")
}

// model is a disk by the chapter's words: safe bytes and late ones, each by itself.
type model struct {
	safe, late [disk.Files]string
	power      bool
	limited    bool
	limit      int
}

// change is what Append, Sync and Cut have alike.
func (m *model) change(i int, wrong func() api.Errno, make func()) api.Errno {
	if !m.power {
		return api.ErrCrash
	}
	if i < 0 || i > 3 {
		return api.ErrNone
	}
	if e := wrong(); e != api.OK {
		return e
	}
	if m.limited && m.limit == 0 {
		m.power = false
		return api.ErrCrash
	}
	if m.limited {
		m.limit--
	}
	make()
	return api.OK
}

func (m *model) add(i int, s string) api.Errno {
	return m.change(i, func() api.Errno {
		if len(m.safe[i])+len(m.late[i])+len(s) > 1<<20 {
			return api.ErrFull
		}
		return api.OK
	}, func() { m.late[i] += s })
}

func (m *model) sync(i int) api.Errno {
	return m.change(i, func() api.Errno { return api.OK }, func() { m.safe[i], m.late[i] = m.safe[i]+m.late[i], "" })
}

func (m *model) cut(i, n int) api.Errno {
	return m.change(i, func() api.Errno {
		if n < 0 || n > len(m.safe[i])+len(m.late[i]) {
			return api.ErrArg
		}
		return api.OK
	}, func() {
		if n < len(m.safe[i]) {
			m.safe[i], m.late[i] = m.safe[i][:n], ""
		} else {
			m.late[i] = m.late[i][:n-len(m.safe[i])]
		}
	})
}

func (m *model) crash(keep [disk.Files]int) {
	for i, n := range keep {
		for k, c := range []byte(m.late[i]) {
			if k < n {
				m.safe[i] += string([]byte{c})
			}
		}
		m.late[i] = ""
	}
	m.power, m.limited = true, false
}

// step makes one call by chance on a disk and on its model, and wants the same of both.
func step(t *testing.T, r *rand.Rand, d *disk.Disk, m *model) {
	t.Helper()
	i := r.Intn(4)
	if r.Intn(20) == 0 {
		i = noFiles[r.Intn(len(noFiles))]
	}
	switch r.Intn(12) {
	case 0, 1, 2, 3, 4:
		s := strings.Repeat(string(rune('a'+r.Intn(26))), r.Intn(4)) + "é"[:r.Intn(3)]
		if r.Intn(50) == 0 {
			s = strings.Repeat("#", r.Intn(2)+1<<20-r.Intn(40))
		}
		want(t, "Append", d.Append(i, s), m.add(i, s))
	case 5, 6:
		want(t, "Sync", d.Sync(i), m.sync(i))
	case 7, 8, 9:
		n := r.Intn(20) - 2
		if r.Intn(4) > 0 && i >= 0 && i < 4 {
			n = len(m.safe[i]+m.late[i]) - r.Intn(5) + 1
		}
		want(t, "Cut", d.Cut(i, n), m.cut(i, n))
	case 10:
		n := r.Intn(20) - 2
		d.Limit(n)
		m.limited, m.limit = n >= 0, n
	case 11:
		keep := [disk.Files]int{}
		for j := range keep {
			keep[j] = r.Intn(10) - 2
		}
		d.Crash(keep)
		m.crash(keep)
	}
}

// P6.1 to P6.3: calls by chance, the same ones each time, each held against the chapter's words.
func TestManyCalls(t *testing.T) {
	for seed := range int64(60) {
		r := rand.New(rand.NewSource(seed))
		d, m := disk.New(), &model{power: true}
		for range 300 {
			step(t, r, d, m)
			for i := range disk.Files {
				if m.power {
					wantFile(t, d, i, m.safe[i], m.late[i])
				} else if s, e := d.Read(i); s != "" || e != api.ErrCrash || d.Late(i) != 0 {
					t.Errorf("Read(%d) without power = %q, %d", i, s, e)
				}
			}
			if t.Failed() {
				t.Fatalf("seed %d", seed)
			}
		}
	}
}

// contents tells all files.
func contents(t *testing.T, d *disk.Disk) (l [disk.Files]string) {
	t.Helper()
	for i := range l {
		s, e := d.Read(i)
		do(t, e)
		l[i] = s
	}
	return l
}

// P6.4: behind a crash a file is a beginning of what it was, at least its safe bytes; a second crash changes nothing.
func TestWhatCrashesKeep(t *testing.T) {
	r := rand.New(rand.NewSource(64))
	for range 2000 {
		d := disk.New()
		for range r.Intn(30) {
			i := r.Intn(4)
			n, _ := d.Len(i)
			switch r.Intn(4) {
			case 0, 1:
				do(t, d.Append(i, "abcdefghij"[:r.Intn(10)]))
			case 2:
				do(t, d.Sync(i))
			case 3:
				do(t, d.Cut(i, n-r.Intn(min(n, 6)+1)))
			}
		}
		was, keep := contents(t, d), [disk.Files]int{}
		var safe [disk.Files]int
		for i := range safe {
			safe[i] = len(was[i]) - d.Late(i)
			keep[i] = r.Intn(14) - 3
		}
		if r.Intn(2) == 0 {
			d.Limit(0)
			want(t, "Append", d.Append(r.Intn(4), "gone"), api.ErrCrash)
		}
		d.Crash(keep)
		is := contents(t, d)
		for i, s := range is {
			if !strings.HasPrefix(was[i], s) || len(s) < safe[i] || d.Late(i) != 0 {
				t.Errorf("file %d, keeping %d: %q of %q, %d of them safe", i, keep[i], s, was[i], safe[i])
			}
		}
		d.Crash(all(r.Intn(14) - 3))
		if again := contents(t, d); again != is {
			t.Errorf("a second crash: %q of %q", again, is)
		}
	}
}

// P6.4: safe bytes stay through every crash, and go where they are cut off.
func TestSafeStays(t *testing.T) {
	d := disk.New()
	safe := ""
	for k := range 200 {
		s := strings.Repeat(string(rune('a'+k%26)), k%5)
		do(t, d.Append(2, s), d.Sync(2), d.Append(2, "late"))
		safe += s
		if k%7 == 6 {
			safe = safe[:len(safe)-3]
			do(t, d.Cut(2, len(safe)))
		}
		d.Crash(all(-k))
		wantFile(t, d, 2, safe, "")
	}
}

// at tells where a text lies in memory.
func at(s string) uintptr { return uintptr(unsafe.Pointer(unsafe.StringData(s))) }

// apart tells whether two texts share no memory.
func apart(a, b string) bool {
	return at(a)+uintptr(len(a)) <= at(b) || at(b)+uintptr(len(b)) <= at(a)
}

// What was handed in isn't kept, and an answer is no one else's: the bytes handed in are changed behind the call.
func TestNewMemory(t *testing.T) {
	d := disk.New()
	given := []byte("abcdef")
	s := unsafe.String(&given[0], len(given))
	do(t, d.Append(0, s), d.Append(1, s), d.Append(1, s))
	if one, _ := d.Read(0); !apart(one, s) {
		t.Error("Append keeps what it was given")
	}
	copy(given, "XXXXXX")
	wantFile(t, d, 0, "", "abcdef")
	wantFile(t, d, 1, "", "abcdefabcdef")

	one, _ := d.Read(0)
	two, _ := d.Read(0)
	if !apart(one, two) {
		t.Error("Read tells the same memory twice")
	}
	do(t, d.Cut(0, 2), d.Append(0, "XYZ"), d.Sync(0))
	d.Crash(all(0))
	if one != "abcdef" || two != "abcdef" {
		t.Errorf("an answer changed: %q, %q", one, two)
	}
	keep := all(1)
	d.Crash(keep)
	if keep != all(1) {
		t.Error("Crash changed what it was given")
	}
}

// What one disk does, another one doesn't see.
func TestDisksApart(t *testing.T) {
	one, two := disk.New(), disk.New()
	do(t, one.Append(0, "one"), two.Append(0, "two"), one.Sync(0))
	one.Limit(0)
	do(t, two.Sync(1))
	want(t, "Sync", one.Sync(1), api.ErrCrash)
	wantFile(t, two, 0, "", "two")
	two.Crash(all(1))
	wantNothing(t, one, 0, api.ErrCrash)
	one.Crash(all(1))
	wantFile(t, one, 0, "one", "")
	wantFile(t, two, 0, "t", "")
}
