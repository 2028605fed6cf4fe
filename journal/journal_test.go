package journal_test

import (
	"encoding/binary"
	"fmt"
	"hash/crc32"
	"math/rand"
	"slices"
	"strings"
	"testing"
	"unsafe"

	"lombard/api"
	"lombard/disk"
	"lombard/journal"
)

// greatest is how many bytes a state has that fills a file: 256 records, and the first one, take 12 bytes more each.
const greatest = 1<<20 - 33 - 256*12

// sample is a text of n bytes of all kinds, the same one each time.
func sample(n int) string {
	b := make([]byte, n)
	rand.New(rand.NewSource(int64(n))).Read(b)
	return string(b)
}

// record is a record by the words of the chapter on frames, with the library's own sum.
func record(rec string) string {
	b := binary.LittleEndian.AppendUint32(nil, uint32(len(rec)))
	for _, c := range b[:4] {
		b = append(b, 255-c)
	}
	b = append(b, rec...)
	return string(binary.LittleEndian.AppendUint32(b, crc32.ChecksumIEEE([]byte(rec))))
}

// records is records one behind the other.
func records(l ...string) string {
	s := ""
	for _, rec := range l {
		s += record(rec)
	}
	return s
}

// head is a first record's 21 bytes.
func head(generation, ahead, n int) string {
	s := ""
	for _, n := range []int{generation, ahead, n} {
		s += string(binary.LittleEndian.AppendUint64(nil, uint64(n))[:7])
	}
	return s
}

// file is a journal's file by the chapter's words.
func file(generation, ahead int, state string, cmds ...string) string {
	s := record(head(generation, ahead, (len(state)+4095)/4096))
	for at := 0; at < len(state); at += 4096 {
		s += record(state[at:min(at+4096, len(state))])
	}
	return s + records(cmds...)
}

// want wants an error of a call.
func want(t *testing.T, what string, got, e api.Errno) {
	t.Helper()
	if got != e {
		t.Errorf("%s = %d; want %d", what, got, e)
	}
}

// do wants that all of some calls are taken.
func do(t *testing.T, l ...api.Errno) {
	t.Helper()
	for i, e := range l {
		if e != api.OK {
			t.Fatalf("call %d = %d", i, e)
		}
	}
}

// format begins a journal that must be taken.
func format(t *testing.T, d *disk.Disk, state string) *journal.Journal {
	t.Helper()
	j, e := journal.Format(d, state)
	if j == nil || e != api.OK {
		t.Fatalf("Format = %v, %d", j != nil, e)
	}
	return j
}

// open opens a journal that must be there.
func open(t *testing.T, d *disk.Disk) *journal.Journal {
	t.Helper()
	j, e := journal.Open(d)
	if j == nil || e != api.OK {
		t.Fatalf("Open = %v, %d", j != nil, e)
	}
	return j
}

// wantNoJournal wants an error, and no journal beside it.
func wantNoJournal(t *testing.T, what string, j *journal.Journal, got, e api.Errno) {
	t.Helper()
	if j != nil || got != e {
		t.Errorf("%s = %v, %d; want %d", what, j != nil, got, e)
	}
}

// wantFile wants that a file has these safe bytes, and behind them these late ones.
func wantFile(t *testing.T, d *disk.Disk, i int, safe, late string) {
	t.Helper()
	if s, e := d.Read(i); s != safe+late || e != api.OK {
		t.Errorf("Read(%d) = %.90q (%d), %d; want %.90q (%d)", i, s, len(s), e, safe+late, len(safe+late))
	}
	if n := d.Late(i); n != len(late) {
		t.Errorf("Late(%d) = %d; want %d", i, n, len(late))
	}
}

// wantHas wants of a journal a state, the commands behind it, and how many there were in all.
func wantHas(t *testing.T, j *journal.Journal, state string, seq int, cmds ...string) {
	t.Helper()
	if s := j.State(); s != state {
		t.Errorf("State = %.40q (%d); want %.40q (%d)", s, len(s), state, len(state))
	}
	if l := j.Commands(); !slices.Equal(l, cmds) {
		t.Errorf("Commands = %.80q (%d); want %.80q (%d)", l, len(l), cmds, len(cmds))
	}
	if n := j.Seq(); n != seq {
		t.Errorf("Seq = %d; want %d", n, seq)
	}
}

// wantRoom wants of a journal how many bytes its file has left.
func wantRoom(t *testing.T, j *journal.Journal, n int) {
	t.Helper()
	if got := j.Room(); got != n {
		t.Errorf("Room = %d; want %d", got, n)
	}
}

// diskOf is a disk whose first files have these bytes, all of them safe.
func diskOf(t *testing.T, l ...string) *disk.Disk {
	t.Helper()
	d := disk.New()
	for i, s := range l {
		do(t, d.Append(i, s), d.Sync(i))
	}
	return d
}

// dark takes a disk's power away.
func dark(t *testing.T, d *disk.Disk) {
	t.Helper()
	d.Limit(0)
	want(t, "Sync at the limit", d.Sync(3), api.ErrCrash)
}

// The chapter's example, and the document's fourth one.
func TestExamples(t *testing.T) {
	d := disk.New()
	j := format(t, d, "s")
	do(t, j.Add("a"), j.Add("b"))
	wantHas(t, j, "s", 2, "a", "b")
	d.Crash([disk.Files]int{})
	wantHas(t, open(t, d), "s", 2, "a", "b")
	do(t, j.Turn("t"), j.Add("c"))
	wantHas(t, j, "t", 3, "c")
	wantHas(t, open(t, d), "t", 3, "c")
}

// P8.1: file 0 has the first record and the state, all of it safe; what stood in files 0 and 1 is gone, and what stands in the others is left alone.
func TestFormat(t *testing.T) {
	for _, n := range []int{0, 1, 2, 21, 4095, 4096, 4097, 8191, 8192, 8193, 100000, greatest} {
		d := diskOf(t, "nought", file(9, 9, "old", "c"), "two", "three")
		do(t, d.Append(0, "late"), d.Append(1, "late"), d.Append(2, "late"))
		state := sample(n)
		j := format(t, d, state)
		wantFile(t, d, 0, file(1, 0, state), "")
		wantFile(t, d, 1, "", "")
		wantFile(t, d, 2, "two", "late")
		wantFile(t, d, 3, "three", "")
		wantHas(t, j, state, 0)
		wantHas(t, open(t, d), state, 0)
	}
}

// P8.1: the bytes of a file, written out.
func TestFormatBytes(t *testing.T) {
	d := disk.New()
	format(t, d, "hi")
	first := "\x01\x00\x00\x00\x00\x00\x00" + "\x00\x00\x00\x00\x00\x00\x00" + "\x01\x00\x00\x00\x00\x00\x00"
	sum := string(binary.LittleEndian.AppendUint32(nil, crc32.ChecksumIEEE([]byte(first))))
	wantFile(t, d, 0, "\x15\x00\x00\x00\xea\xff\xff\xff"+first+sum+"\x02\x00\x00\x00\xfd\xff\xff\xffhi"+"\xac\x2a\x93\xd8", "")
}

// keptAfter tells what a disk's files 0 and 1 have behind a crash that keeps none of their late bytes, or all of them.
func keptAfter(t *testing.T, d *disk.Disk, keep int) [2]string {
	t.Helper()
	d.Crash([disk.Files]int{keep, keep})
	a, e := d.Read(0)
	b, e2 := d.Read(1)
	do(t, e, e2)
	return [2]string{a, b}
}

// steps wants that a call makes as many changes of the disk as there are rows but the last: where the power goes ahead of the n-th one, the call tells ErrCrash, and row n tells what files 0 and 1 have if no late bytes are kept, and if all are; the last row is that of the whole call.
func steps(t *testing.T, make func() *disk.Disk, call func(d *disk.Disk) api.Errno, none, all [][2]string) {
	t.Helper()
	for limit := range none {
		for k, rows := range [][][2]string{none, all} {
			d := make()
			d.Limit(limit)
			e := api.ErrCrash
			if limit == len(none)-1 {
				e = api.OK
			}
			want(t, fmt.Sprint("the call at the limit ", limit), call(d), e)
			if got := keptAfter(t, d, k<<20); got != rows[limit] {
				t.Errorf("at the limit %d files 0 and 1 have %.80q; want %.80q", limit, got, rows[limit])
			}
		}
	}
}

// P8.1: two cuts, one Append, and one Sync, in this order; where the power goes at one of them, that ends the call, and there is no journal.
func TestFormatSteps(t *testing.T) {
	old, older, state := file(3, 2, "old", "c"), file(2, 1, "older", "b"), sample(5000)
	next := file(1, 0, state)
	steps(t, func() *disk.Disk { return diskOf(t, old, older) }, func(d *disk.Disk) api.Errno {
		j, e := journal.Format(d, state)
		if (j == nil) != (e != api.OK) {
			t.Error("Format's journal beside its error", e)
		}
		return e
	},
		[][2]string{{old, older}, {"", older}, {"", ""}, {"", ""}, {next, ""}},
		[][2]string{{old, older}, {"", older}, {"", ""}, {next, ""}, {next, ""}})
}

// P8.1: a state that fills the file, and one that is too great for it: the disk tells that, when the files are cut.
func TestFormatFull(t *testing.T) {
	d := disk.New()
	j := format(t, d, sample(greatest))
	wantFile(t, d, 0, file(1, 0, sample(greatest)), "")
	wantRoom(t, j, 0)
	for _, n := range []int{greatest + 1, 1 << 20, 3 << 20} {
		d := diskOf(t, file(3, 0, "old"), file(2, 0, "older"))
		j, e := journal.Format(d, sample(n))
		wantNoJournal(t, "Format of too much", j, e, api.ErrFull)
		wantFile(t, d, 0, "", "")
		wantFile(t, d, 1, "", "")
		for limit, e := range []api.Errno{api.ErrCrash, api.ErrCrash, api.ErrFull} {
			d.Limit(limit)
			j, got := journal.Format(d, sample(n))
			wantNoJournal(t, "Format of too much at a limit", j, got, e)
			d.Crash([disk.Files]int{})
		}
		wantHas(t, format(t, d, "new"), "new", 0)
	}
}

// P8.1, P8.2: nil, a disk that no call made, and one without power.
func TestNoDisk(t *testing.T) {
	for _, d := range []*disk.Disk{nil, {}, new(disk.Disk)} {
		for _, state := range []string{"", "s", sample(1 << 20)} {
			j, e := journal.Format(d, state)
			wantNoJournal(t, "Format", j, e, api.ErrNil)
		}
		j, e := journal.Open(d)
		wantNoJournal(t, "Open", j, e, api.ErrNil)
	}
	d := disk.New()
	for _, s := range []string{"", "s"} {
		dark(t, d)
		for _, state := range []string{"", "s", sample(1 << 20)} {
			j, e := journal.Format(d, state)
			wantNoJournal(t, "Format", j, e, api.ErrCrash)
		}
		j, e := journal.Open(d)
		wantNoJournal(t, "Open", j, e, api.ErrCrash)
		d.Crash([disk.Files]int{})
		format(t, d, s)
	}
}

// P8.1 to P8.5: nil, and what no call made, tell ErrNil, and there is nothing.
func TestNil(t *testing.T) {
	var none *journal.Journal
	var zero journal.Journal
	for _, j := range []*journal.Journal{none, &zero, new(journal.Journal), {}} {
		for range 2 {
			wantHas(t, j, "", 0)
			wantRoom(t, j, 0)
			for _, s := range []string{"", "a", sample(4096), sample(4097), sample(1 << 20)} {
				want(t, "Add", j.Add(s), api.ErrNil)
				want(t, "Turn", j.Turn(s), api.ErrNil)
			}
		}
	}
}

// P8.2: a file's state, and the commands behind it, of all sizes; opened, it is the same, and safe; files 2 and 3 don't count.
func TestOpen(t *testing.T) {
	long := []string{"", "a", "", sample(4096), sample(4095), "\x00\xff", "é", sample(21), head(9, 9, 0)}
	for _, n := range []int{0, 1, 21, 4095, 4096, 4097, 8192, 20000} {
		for _, cmds := range [][]string{nil, {""}, {"a"}, {"", ""}, long} {
			for i := range 2 {
				for _, safe := range []int{0, 10, 40, 1 << 30} {
					s := file(7, 5, sample(n), cmds...)
					d, at := disk.New(), min(safe, len(s))
					do(t, d.Append(i, s[:at]), d.Sync(i), d.Append(i, s[at:]))
					do(t, d.Append(2, file(9, 0, "no")), d.Append(3, file(8, 0, "no")))
					j := open(t, d)
					wantHas(t, j, sample(n), 5+len(cmds), cmds...)
					wantRoom(t, j, 1<<20-len(s))
					wantFile(t, d, i, s, "")
					wantFile(t, d, 1-i, "", "")
					wantFile(t, d, 2, "", file(9, 0, "no"))
				}
			}
		}
	}
}

// P8.2: without a tail Open makes one change, a Sync; with one it cuts ahead of that.
func TestOpenSteps(t *testing.T) {
	whole, other := file(2, 1, "state", "a", "b"), file(1, 0, "other", "x")+"tail"
	call := func(d *disk.Disk) api.Errno {
		j, e := journal.Open(d)
		if (j == nil) != (e != api.OK) {
			t.Error("Open's journal beside its error", e)
		}
		return e
	}
	late := func(s string) *disk.Disk {
		d := diskOf(t, other, whole[:50])
		do(t, d.Append(1, s[50:]))
		return d
	}
	steps(t, func() *disk.Disk { return late(whole) }, call,
		[][2]string{{other, whole[:50]}, {other, whole}},
		[][2]string{{other, whole}, {other, whole}})
	tailed := whole + record("c")[:12]
	steps(t, func() *disk.Disk { return late(tailed) }, call,
		[][2]string{{other, whole[:50]}, {other, whole[:50]}, {other, whole}},
		[][2]string{{other, tailed}, {other, whole}, {other, whole}})
}

// P8.2: what stands behind the last whole record is cut off, at each place at which a record breaks off, and each at which it is spoilt; whole records behind that are gone, too.
func TestOpenTail(t *testing.T) {
	whole, rec := file(3, 4, "state", "a", "b"), record("a command")
	check := func(tail string, cmds ...string) {
		t.Helper()
		d := diskOf(t, file(2, 0, "old"), whole+tail)
		left := whole + records(cmds...)
		j := open(t, d)
		wantHas(t, j, "state", 6+len(cmds), append([]string{"a", "b"}, cmds...)...)
		wantRoom(t, j, 1<<20-len(left))
		wantFile(t, d, 1, left, "")
		wantFile(t, d, 0, file(2, 0, "old"), "")
		do(t, j.Add("more"))
		wantFile(t, d, 1, left+record("more"), "")
	}
	check("")
	check(rec, "a command")
	for n := range len(rec) {
		check(rec[:n])
		check(rec+rec[:n], "a command")
		spoilt := []byte(rec)
		spoilt[n] ^= 1 << (n % 8)
		check(string(spoilt))
		check(string(spoilt) + rec + rec)
		check(rec+string(spoilt)+rec, "a command")
	}
	check("\xff" + rec)
	check(strings.Repeat("\x00", 100))
}

// stateless are bytes that have no state.
func stateless() map[string]string {
	l := map[string]string{
		"nothing":                   "",
		"no record":                 "hello, this is no record at all",
		"an empty first record":     record("") + record("a"),
		"20 bytes":                  record(head(1, 0, 0)[:20]),
		"22 bytes":                  record(head(1, 0, 0) + "\x00"),
		"4096 bytes":                record(sample(4096)),
		"a command first":           record("a") + file(1, 0, "state"),
		"a spoilt byte first":       "\x01" + file(1, 0, "state"),
		"the generation 0":          file(0, 0, "state", "a"),
		"the generation 0, empty":   file(0, 7, ""),
		"one record too few":        record(head(1, 0, 1)),
		"two records too few":       record(head(1, 0, 3)) + record(sample(4096)),
		"many records too few":      record(head(1, 0, 1<<56-1)) + record(sample(4096)),
		"a state broken off":        file(5, 0, sample(9000))[:9000],
		"a short record between":    record(head(1, 0, 3)) + record(sample(4096)) + record(sample(4095)) + record("end"),
		"a short record at first":   record(head(1, 0, 2)) + records("ab", "cd"),
		"a short record ahead":      record(head(1, 0, 2)) + record("ab") + record(sample(4096)),
		"an empty last record":      record(head(1, 0, 2)) + record(sample(4096)) + record(""),
		"an empty record":           record(head(1, 0, 1)) + record("") + record("a"),
		"a first record turned":     record(strings.Repeat("\x00", 20) + "\x01"),
		"a spoilt record between":   record(head(1, 0, 2)) + record(sample(4096)) + "\x00" + record("end"),
		"a spoilt record in places": record(head(1, 0, 2)) + record(sample(4096))[:4000] + record(sample(4096)) + record("end"),
	}
	s := file(1, 0, "state", "a")
	for n := range len(file(1, 0, "state")) {
		l[fmt.Sprint("a beginning of ", n)] = s[:n]
		for bit := range 8 {
			b := []byte(s)
			b[n] ^= 1 << bit
			l[fmt.Sprintf("bit %d of byte %d turned", bit, n)] = string(b)
		}
	}
	return l
}

// P8.2: no file counts; nothing is changed then. Beside one that has a state, the same bytes don't count.
func TestOpenNone(t *testing.T) {
	for what, s := range stateless() {
		for _, other := range []string{"", "hello"} {
			for i := range 2 {
				d := disk.New()
				do(t, d.Append(i, s), d.Append(1-i, other), d.Append(2, file(1, 0, "s")), d.Sync(2))
				d.Limit(0)
				j, e := journal.Open(d)
				wantNoJournal(t, "Open of "+what, j, e, api.ErrForm)
				wantFile(t, d, i, "", s)
				wantFile(t, d, 1-i, "", other)
			}
		}
		for i := range 2 {
			d := disk.New()
			do(t, d.Append(i, s), d.Append(1-i, file(1, 2, "good", "x")))
			wantHas(t, open(t, d), "good", 3, "x")
			wantFile(t, d, i, "", s)
			wantFile(t, d, 1-i, file(1, 2, "good", "x"), "")
			if t.Failed() {
				t.Fatal(what)
			}
		}
	}
}

// P8.2: of two files that have a state the one with the greater generation counts, of equal ones file 0, whatever else they have; just that one is changed.
func TestOpenWhich(t *testing.T) {
	numbers := []int{1, 2, 3, 127, 128, 255, 256, 257, 65535, 65536, 1 << 31, 1 << 32, 1<<32 + 1, 1 << 48, 1<<55 - 1, 1 << 55, 1<<56 - 2, 1<<56 - 1}
	for _, a := range numbers {
		for _, b := range numbers {
			d := diskOf(t, file(a, 100, "zero", "x")+"tail", file(b, 1, sample(5000), "y", "z", "z")+"tail")
			j := open(t, d)
			if a >= b {
				wantHas(t, j, "zero", 101, "x")
				wantFile(t, d, 0, file(a, 100, "zero", "x"), "")
				wantFile(t, d, 1, file(b, 1, sample(5000), "y", "z", "z")+"tail", "")
			} else {
				wantHas(t, j, sample(5000), 4, "y", "z", "z")
				wantFile(t, d, 0, file(a, 100, "zero", "x")+"tail", "")
				wantFile(t, d, 1, file(b, 1, sample(5000), "y", "z", "z"), "")
			}
		}
	}
}

// P8.3: Seq is reckoned on from what the first record says.
func TestSeqFromAhead(t *testing.T) {
	for _, ahead := range []int{0, 1, 255, 256, 1 << 31, 1<<32 + 7, 1 << 55, 1<<56 - 2, 1<<56 - 1} {
		d := diskOf(t, file(1, ahead, "s", "a"))
		j := open(t, d)
		do(t, j.Add("b"))
		wantHas(t, j, "s", ahead+2, "a", "b")
	}
}

// P8.3: Room goes down by each record, and is that of the new file behind Turn.
func TestRoom(t *testing.T) {
	d := disk.New()
	j := format(t, d, sample(9000))
	left := 1<<20 - 33 - 9000 - 3*12
	wantRoom(t, j, left)
	for _, n := range []int{0, 1, 100, 4096} {
		do(t, j.Add(sample(n)))
		left -= n + 12
		wantRoom(t, j, left)
	}
	wantRoom(t, open(t, d), left)
	want(t, "Add", j.Add(sample(4097)), api.ErrLimit)
	want(t, "Turn", j.Turn(sample(1<<20)), api.ErrFull)
	wantRoom(t, j, left)
	do(t, j.Turn(""))
	wantRoom(t, j, 1<<20-33)
	do(t, j.Add("a"), j.Turn("state"))
	wantRoom(t, j, 1<<20-33-17)
	dark(t, d)
	wantRoom(t, j, 0)
	wantHas(t, j, "state", 5)
	d.Crash([disk.Files]int{})
	wantRoom(t, j, 1<<20-33-17)
}

// P8.4: each command is a record behind the others, safe when Add answers; the other file is left alone.
func TestAdd(t *testing.T) {
	d := diskOf(t, file(4, 3, "four", "x"), file(3, 2, "three"))
	j := open(t, d)
	cmds := []string{"x"}
	for _, cmd := range []string{"", "a", "", "a", sample(21), sample(4095), sample(4096), "\xff\x00", head(9, 0, 0)} {
		do(t, j.Add(cmd))
		cmds = append(cmds, cmd)
		wantFile(t, d, 0, file(4, 3, "four", cmds...), "")
		wantFile(t, d, 1, file(3, 2, "three"), "")
		wantHas(t, j, "four", 3+len(cmds), cmds...)
	}
	d.Crash([disk.Files]int{})
	wantHas(t, open(t, d), "four", 3+len(cmds), cmds...)
}

// P8.4: one Append and one Sync.
func TestAddSteps(t *testing.T) {
	old, more := file(1, 0, "s", "a"), file(1, 0, "s", "a", "more")
	var j *journal.Journal
	steps(t, func() *disk.Disk {
		d := diskOf(t, old)
		j = open(t, d)
		return d
	}, func(*disk.Disk) api.Errno { return j.Add("more") },
		[][2]string{{old, ""}, {old, ""}, {more, ""}},
		[][2]string{{old, ""}, {more, ""}, {more, ""}})
}

// P8.4: a command of more than 4096 bytes isn't taken, and nothing changes; that is told ahead of a full file, and of a disk without power, which isn't asked.
func TestAddLimit(t *testing.T) {
	d := disk.New()
	j := format(t, d, sample(greatest))
	for _, n := range []int{4097, 4098, 5000, 1 << 20, 2 << 20} {
		want(t, "Add", j.Add(sample(n)), api.ErrLimit)
		dark(t, d)
		want(t, "Add", j.Add(sample(n)), api.ErrLimit)
		d.Crash([disk.Files]int{})
	}
	wantFile(t, d, 0, file(1, 0, sample(greatest)), "")
	wantHas(t, j, sample(greatest), 0)
	do(t, j.Turn("s"), j.Add(sample(4096)))
	wantHas(t, j, "s", 1, sample(4096))
}

// P8.4: a record that just goes in, and one that doesn't: nothing is done then, and the journal goes on.
func TestAddFull(t *testing.T) {
	for _, room := range []int{0, 1, 11, 12, 13, 40} {
		d := disk.New()
		state := sample(greatest - room)
		j := format(t, d, state)
		wantRoom(t, j, room)
		for range 2 {
			want(t, "Add", j.Add(sample(4096)), api.ErrFull)
			want(t, "Add", j.Add(sample(max(0, room-11))), api.ErrFull)
			want(t, "Add at the limit 0", func() api.Errno { d.Limit(0); defer d.Limit(-1); return j.Add(sample(100)) }(), api.ErrFull)
		}
		wantFile(t, d, 0, file(1, 0, state), "")
		wantHas(t, j, state, 0)
		seq := 0
		if room >= 12 {
			cmd := sample(room - 12)
			do(t, j.Add(cmd))
			seq = 1
			wantRoom(t, j, 0)
			want(t, "Add", j.Add(""), api.ErrFull)
			wantHas(t, j, state, seq, cmd)
			wantHas(t, open(t, d), state, seq, cmd)
		}
		do(t, j.Turn("next"), j.Add("more"))
		wantHas(t, j, "next", seq+1, "more")
	}
}

// P8.5: states go by turns into the other file, with the next generation and all commands counted; the file that counted stays.
func TestTurn(t *testing.T) {
	d := disk.New()
	j := format(t, d, "first")
	files := [2]string{file(1, 0, "first"), ""}
	seq := 0
	for g, n := range []int{0, 1, 5000, 4096, 8192, 0, 0, 12289, 3, greatest} {
		for k := range n % 4 {
			cmd := sample(k)
			do(t, j.Add(cmd))
			files[g%2] += record(cmd)
			seq++
		}
		do(t, j.Turn(sample(n)))
		files[(g+1)%2] = file(g+2, seq, sample(n))
		for i := range 2 {
			wantFile(t, d, i, files[i], "")
		}
		wantHas(t, j, sample(n), seq)
		wantHas(t, open(t, d), sample(n), seq)
	}
	for i := 2; i < 4; i++ {
		wantFile(t, d, i, "", "")
	}
}

// P8.5: Turn of a journal that was opened, from each of the files and each generation.
func TestTurnOpened(t *testing.T) {
	for i := range 2 {
		for _, g := range []int{1, 2, 255, 65535, 1<<32 - 1, 1<<56 - 2} {
			for _, ahead := range []int{0, 254, 1<<40 - 1, 1<<56 - 3} {
				d := disk.New()
				do(t, d.Append(i, file(g, ahead, "old", "a", "b")), d.Append(1-i, "spoilt"))
				j := open(t, d)
				do(t, j.Turn("new"))
				wantFile(t, d, i, file(g, ahead, "old", "a", "b"), "")
				wantFile(t, d, 1-i, file(g+1, ahead+2, "new"), "")
				wantHas(t, j, "new", ahead+2)
				do(t, j.Add("c"))
				wantHas(t, open(t, d), "new", ahead+3, "c")
			}
		}
	}
}

// P8.5: numbers that seven bytes don't hold aren't laid down: what they would be read as isn't what was.
func TestTurnBeyondNumbers(t *testing.T) {
	for _, s := range []string{file(1<<56-1, 0, "s", "a"), file(1, 1<<56-1, "s", "a")} {
		d := diskOf(t, s, "spoilt")
		j := open(t, d)
		seq := j.Seq()
		want(t, "Turn", j.Turn("new"), api.ErrFull)
		wantFile(t, d, 0, s, "")
		wantFile(t, d, 1, "spoilt", "")
		do(t, j.Add("b"))
		wantHas(t, open(t, d), "s", seq+1, "a", "b")
	}
}

// P8.5: one Cut, one Append, and one Sync, all of the other file.
func TestTurnSteps(t *testing.T) {
	old, older, state := file(6, 9, "old", "a", "b"), file(5, 8, "older", "x"), sample(6000)
	next := file(7, 11, state)
	var j *journal.Journal
	call := func(*disk.Disk) api.Errno { return j.Turn(state) }
	steps(t, func() *disk.Disk {
		d := diskOf(t, old, older)
		j = open(t, d)
		return d
	}, call,
		[][2]string{{old, older}, {old, ""}, {old, ""}, {old, next}},
		[][2]string{{old, older}, {old, ""}, {old, next}, {old, next}})
	steps(t, func() *disk.Disk {
		d := diskOf(t, older, old)
		j = open(t, d)
		return d
	}, call,
		[][2]string{{older, old}, {"", old}, {"", old}, {next, old}},
		[][2]string{{older, old}, {"", old}, {next, old}, {next, old}})
}

// P8.5: a state that fills the file, and one that is too great: nothing is done then, not even by a disk without power, and the journal goes on.
func TestTurnFull(t *testing.T) {
	d := diskOf(t, file(2, 3, "two", "a"), file(1, 0, "one"))
	j := open(t, d)
	for _, n := range []int{greatest + 1, greatest + 2, 1<<20 - 1, 1 << 20, 3 << 20} {
		want(t, "Turn", j.Turn(sample(n)), api.ErrFull)
		dark(t, d)
		want(t, "Turn", j.Turn(sample(n)), api.ErrFull)
		d.Crash([disk.Files]int{})
		wantFile(t, d, 0, file(2, 3, "two", "a"), "")
		wantFile(t, d, 1, file(1, 0, "one"), "")
		wantHas(t, j, "two", 4, "a")
	}
	do(t, j.Add("b"), j.Turn(sample(greatest)))
	wantRoom(t, j, 0)
	wantHas(t, j, sample(greatest), 5)
	wantHas(t, open(t, d), sample(greatest), 5)
	want(t, "Add", j.Add(""), api.ErrFull)
	do(t, j.Turn(sample(greatest)))
	want(t, "Turn", j.Turn(sample(greatest+1)), api.ErrFull)
	wantFile(t, d, 0, file(4, 5, sample(greatest)), "")
}

// wantBroken wants that a journal takes nothing any more, and tells what it had.
func wantBroken(t *testing.T, j *journal.Journal, state string, seq int, cmds ...string) {
	t.Helper()
	for range 2 {
		for _, s := range []string{"", "a", sample(4096), sample(4097), sample(1 << 20)} {
			want(t, "Add", j.Add(s), api.ErrCrash)
			want(t, "Turn", j.Turn(s), api.ErrCrash)
		}
		wantRoom(t, j, 0)
		wantHas(t, j, state, seq, cmds...)
	}
}

// P8.4, P8.5: behind an error of the disk (but ErrFull) every error is ErrCrash, whatever becomes of the disk, till the journal is opened anew; the disk is not touched by then.
func TestBroken(t *testing.T) {
	calls := []func(j *journal.Journal) api.Errno{
		func(j *journal.Journal) api.Errno { return j.Add("more") },
		func(j *journal.Journal) api.Errno { return j.Turn("next") },
	}
	for i, call := range calls {
		// Add makes two changes, Turn three.
		for limit := range i + 2 {
			d := disk.New()
			j := format(t, d, "s")
			do(t, j.Add("a"), j.Turn("t"), j.Add("b"))
			d.Limit(limit)
			want(t, "the call", call(j), api.ErrCrash)
			d.Crash([disk.Files]int{})
			before := keptAfter(t, d, 0)
			wantBroken(t, j, "t", 2, "b")
			if now := keptAfter(t, d, 0); now != before {
				t.Errorf("a broken journal changed the disk: %.80q; it was %.80q", now, before)
			}
			k := open(t, d)
			wantHas(t, k, "t", 2, "b")
			do(t, k.Add("c"), k.Turn("u"), k.Add("d"))
			wantHas(t, k, "u", 4, "d")
			wantBroken(t, j, "t", 2, "b")
		}
	}
}

// P8.4, P8.5: of a disk that lost its power between, and has it again, a journal knows nothing: all that it has is safe.
func TestUnnoticed(t *testing.T) {
	d := disk.New()
	j := format(t, d, "s")
	do(t, j.Add("a"))
	dark(t, d)
	wantHas(t, j, "s", 1, "a")
	d.Crash([disk.Files]int{})
	do(t, j.Add("b"), j.Turn("t"), j.Add("c"))
	wantHas(t, open(t, d), "t", 3, "c")
	dark(t, d)
	want(t, "Add", j.Add("d"), api.ErrCrash)
	wantBroken(t, j, "t", 3, "c")
	d.Crash([disk.Files]int{})
	wantBroken(t, j, "t", 3, "c")
}

// history is what a journal was told: each state that was laid down, how many commands there were ahead of it, and all commands.
type history struct {
	states []string
	ahead  []int
	cmds   []string
}

// wantHistory wants that a journal has all that was taken, or what tried names beside it: a command more, or a state more. It tells which.
func wantHistory(t *testing.T, j *journal.Journal, h history, triedCmd, triedState *string) history {
	t.Helper()
	last := len(h.states) - 1
	state, ahead, cmds := h.states[last], h.ahead[last], h.cmds
	got := j.Commands()
	if triedState != nil && j.State() == *triedState && *triedState != state {
		h.states, h.ahead = append(slices.Clone(h.states), *triedState), append(slices.Clone(h.ahead), len(cmds))
		state, ahead = *triedState, len(cmds)
	}
	if triedCmd != nil && j.Seq() == len(cmds)+1 {
		cmds = append(slices.Clone(cmds), *triedCmd)
		h.cmds = cmds
	}
	if j.State() != state || j.Seq() != len(cmds) || !slices.Equal(got, cmds[ahead:]) {
		t.Fatalf("the journal has %.20q, %d, %.60q; want %.20q, %d, %.60q", j.State(), j.Seq(), got, state, len(cmds), cmds[ahead:])
	}
	return h
}

// P8.6: a short history, the power going ahead of each change, and each number of late bytes kept: what was taken is there, opened once and again, the power going at each change of Open, too; and it goes on.
func TestCrashEverywhere(t *testing.T) {
	whole := 0
	for limit := range 20 {
		for keep := range 75 {
			d := disk.New()
			h := history{states: []string{"s0"}, ahead: []int{0}}
			j := format(t, d, "s0")
			d.Limit(limit)
			var triedCmd, triedState *string
			for k, s := range []string{"a", "", "=s1", "b", "=a state of more bytes", "=s3", "ccc"} {
				if state, ok := strings.CutPrefix(s, "="); ok {
					if j.Turn(state) != api.OK {
						triedState = &state
						break
					}
					h.states, h.ahead = append(h.states, state), append(h.ahead, len(h.cmds))
				} else {
					if j.Add(s) != api.OK {
						triedCmd = &s
						break
					}
					h.cmds = append(h.cmds, s)
				}
				if k == 6 {
					whole++
				}
			}
			d.Crash([disk.Files]int{keep, keep})
			for again := range 3 {
				d.Limit(again)
				k, e := journal.Open(d)
				if e == api.ErrCrash {
					d.Crash([disk.Files]int{keep, keep})
					k = open(t, d)
				} else {
					do(t, e)
				}
				h = wantHistory(t, k, h, triedCmd, triedState)
				triedCmd, triedState = nil, nil
				d.Crash([disk.Files]int{})
			}
			j = open(t, d)
			do(t, j.Add("on"))
			h.cmds = append(h.cmds, "on")
			wantHistory(t, open(t, d), h, nil, nil)
			do(t, j.Turn("and on"))
			wantHas(t, open(t, d), "and on", len(h.cmds))
		}
	}
	// Four Adds of two changes, three Turns of three: from the limit 17 on all of it is taken.
	if whole != 3*75 {
		t.Errorf("%d histories were whole; want %d", whole, 3*75)
	}
}

// P8.6: long histories by chance, the same ones each time, with states of several records, full files, and crashes on crashes.
func TestCrashByChance(t *testing.T) {
	for seed := range int64(40) {
		r := rand.New(rand.NewSource(seed))
		size := func() int {
			switch r.Intn(6) {
			case 0:
				return 0
			case 1:
				return 4090 + r.Intn(7)
			}
			return r.Intn(40)
		}
		d := disk.New()
		first := sample(size())
		h := history{states: []string{first}, ahead: []int{0}}
		j := format(t, d, first)
		for life := range 30 {
			d.Limit(r.Intn(30))
			var triedCmd, triedState *string
			for n := 0; triedCmd == nil && triedState == nil; n++ {
				s := fmt.Sprint(seed, life, n) + sample(size())
				if r.Intn(4) == 0 {
					s += sample(r.Intn(3) * 4096)
					if j.Turn(s) != api.OK {
						triedState = &s
						continue
					}
					h.states, h.ahead = append(h.states, s), append(h.ahead, len(h.cmds))
					continue
				}
				s = s[:min(len(s), 4096)]
				if j.Add(s) != api.OK {
					triedCmd = &s
					continue
				}
				h.cmds = append(h.cmds, s)
			}
			d.Crash([disk.Files]int{r.Intn(60), r.Intn(9000)})
			for d.Limit(r.Intn(3)); ; d.Crash([disk.Files]int{r.Intn(20), r.Intn(20)}) {
				k, e := journal.Open(d)
				if e == api.OK {
					j = k
					break
				}
				want(t, "Open", e, api.ErrCrash)
			}
			h = wantHistory(t, j, h, triedCmd, triedState)
		}
	}
}

// P8.6: commands fill a file, are turned over, and fill the next one; all of them are there in order.
func TestFillFiles(t *testing.T) {
	d := disk.New()
	j := format(t, d, "")
	n := 0
	for range 3 {
		begin, room := n, j.Room()
		for {
			e := j.Add(fmt.Sprintf("%4000d", n))
			if e == api.ErrFull {
				break
			}
			do(t, e)
			n++
		}
		if n-begin != room/4012 {
			t.Errorf("%d commands go into a file", n-begin)
		}
		d.Crash([disk.Files]int{})
		j = open(t, d)
		for i, cmd := range j.Commands() {
			if cmd != fmt.Sprintf("%4000d", begin+i) {
				t.Fatalf("command %d is %q", begin+i, strings.TrimSpace(cmd))
			}
		}
		if len(j.Commands()) != n-begin || j.Seq() != n {
			t.Errorf("%d commands, %d in all; want %d, %d", len(j.Commands()), j.Seq(), n-begin, n)
		}
		do(t, j.Turn(fmt.Sprint(n)))
	}
}

// apart tells whether two texts share no memory.
func apart(a, b string) bool {
	if a == "" || b == "" {
		return true
	}
	p, q := uintptr(unsafe.Pointer(unsafe.StringData(a))), uintptr(unsafe.Pointer(unsafe.StringData(b)))
	return p+uintptr(len(a)) <= q || q+uintptr(len(b)) <= p
}

// What is handed in is not kept, and what is answered is new memory.
func TestMemory(t *testing.T) {
	bytes := []byte("state, command, next")
	s := unsafe.String(&bytes[0], len(bytes))
	d := disk.New()
	j := format(t, d, s[:5])
	do(t, j.Add(s[7:14]))
	other := disk.New()
	k := format(t, other, "")
	do(t, k.Turn(s[16:]), k.Add(s[7:14]), k.Add(""))
	clear(bytes)
	wantHas(t, j, "state", 1, "command")
	wantHas(t, k, "next", 2, "command", "")
	wantHas(t, open(t, other), "next", 2, "command", "")

	for _, j := range []*journal.Journal{j, k, open(t, d), open(t, other)} {
		texts := append(append([]string{j.State(), j.State()}, j.Commands()...), j.Commands()...)
		for i := range texts {
			for k := range i {
				if !apart(texts[i], texts[k]) {
					t.Errorf("answers %d and %d share memory", k, i)
				}
			}
		}
		l := j.Commands()
		l[0] = "else"
		_ = append(l, "other", "things")
		do(t, j.Add("more"))
		if now := j.Commands(); now[0] != "command" || now[len(now)-1] != "more" {
			t.Errorf("an answer is the journal's own list: %q", now)
		}
	}
}

// What a journal answers hangs on its own calls: another one, on another disk, is not touched by them.
func TestApart(t *testing.T) {
	a, b := disk.New(), disk.New()
	j, k := format(t, a, "j"), format(t, b, "k")
	do(t, j.Add("1"), j.Turn("jj"), j.Add("2"))
	wantHas(t, k, "k", 0)
	do(t, k.Add("3"))
	wantHas(t, j, "jj", 2, "2")
	dark(t, b)
	want(t, "Add", k.Add("x"), api.ErrCrash)
	do(t, j.Add("4"))
	wantHas(t, j, "jj", 3, "2", "4")
	wantHas(t, k, "k", 1, "3")
}
