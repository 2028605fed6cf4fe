package calendar_test

import (
	"math"
	"math/big"
	"slices"
	"testing"
	"time"

	"lombard/api"
	"lombard/calendar"
)

type date = calendar.Date

// noDays are numbers that are no days, at the edges and far off.
var noDays = []int{math.MinInt, math.MinInt + 1, -200001, -7, -1, api.MaxDay + 1, api.MaxDay + 7, math.MaxInt - 1, math.MaxInt}

// dateOf tells a day's date by the library's own calendar.
func dateOf(day int) date {
	y, m, d := timeOf(day).Date()
	return date{Year: y, Month: int(m), Day: d}
}

func timeOf(day int) time.Time { return time.Unix(int64(day)*86400, 0).UTC() }

// dayOf tells a date's day by the library's own calendar; false: there is no such date, or it is no day.
func dayOf(d date) (int, bool) {
	at := time.Date(d.Year, time.Month(d.Month), d.Day, 0, 0, 0, 0, time.UTC)
	day := int(at.Unix() / 86400)
	return day, day >= 0 && day <= api.MaxDay && dateOf(day) == d
}

func day(t *testing.T, year, month, day int) int {
	t.Helper()
	n, ok := dayOf(date{Year: year, Month: month, Day: day})
	if !ok {
		t.Fatal("no day", year, month, day)
	}
	return n
}

func made(t *testing.T, holidays ...int) *calendar.Calendar {
	t.Helper()
	c, e := calendar.New(holidays)
	if c == nil || e != api.OK {
		t.Fatal("New", holidays, c, e)
	}
	return c
}

// workdaysFrom tells so many days from Monday to Friday, from a day on.
func workdaysFrom(from, n int) []int {
	var l []int
	for d := from; len(l) < n; d++ {
		if d%7 != 2 && d%7 != 3 {
			l = append(l, d)
		}
	}
	return l
}

// sets are days off: none, some, twice the same, ends of weeks, both ends of all days, long rows.
func sets(t *testing.T) [][]int {
	return [][]int{
		nil,
		{4, 5, 4},
		{20, 7, 13, 1, 0, 2, 3, 20, 8},
		{0},
		{api.MaxDay, api.MaxDay - 1, api.MaxDay - 2, api.MaxDay - 3},
		{day(t, 2024, 12, 25), day(t, 2024, 12, 26), day(t, 2025, 1, 1), day(t, 2025, 4, 18), day(t, 2025, 4, 21)},
		workdaysFrom(day(t, 2021, 2, 1), 60),
		workdaysFrom(0, 256),
		workdaysFrom(day(t, 2022, 1, 31), 256),
		workdaysFrom(api.MaxDay-300, 200),
	}
}

// oracle is the chapter's words of a calendar, read one by one.
type oracle []int

func (o oracle) works(d int) bool {
	if d < 0 || d > api.MaxDay || slices.Contains(o, d) {
		return false
	}
	w := timeOf(d).Weekday()
	return w != time.Saturday && w != time.Sunday
}

// nth tells the n-th day that is worked on, from one on (n 1: that one too), by a step; false: there are not so many.
func (o oracle) nth(d, n, step int) (int, bool) {
	for ; d >= 0 && d <= api.MaxDay; d += step {
		if o.works(d) {
			n--
		}
		if n == 0 {
			return d, true
		}
	}
	return 0, false
}

func (o oracle) near(d, n, step int) (int, api.Errno) {
	if d < 0 || d > api.MaxDay {
		return 0, api.ErrDay
	}
	if at, ok := o.nth(d, n, step); ok {
		return at, api.OK
	}
	return 0, api.ErrNone
}

func (o oracle) move(d, n int) (int, api.Errno) {
	step, far := 1, n
	if n < 0 {
		step, far = -1, -n
	}
	if at, e := o.near(d, 1, step); e != api.OK {
		return at, e
	}
	if far > 3660 || far < 0 {
		return 0, api.ErrArg
	}
	return o.near(d, far+1, step)
}

func (o oracle) roll(d int) (int, api.Errno) {
	next, e := o.near(d, 1, 1)
	if e == api.ErrDay || e == api.OK && dateOf(next).Month == dateOf(d).Month {
		return next, e
	}
	return o.near(d, 1, -1)
}

func (o oracle) months(d, n int) (int, api.Errno) {
	if d < 0 || d > api.MaxDay {
		return 0, api.ErrDay
	}
	if n < 0 || n > 120 {
		return 0, api.ErrArg
	}
	at := dateOf(d)
	for range n {
		at.Month++
		if at.Month == 13 {
			at.Year, at.Month = at.Year+1, 1
		}
	}
	// The day before the first of the month behind is the month's last one.
	last := time.Date(at.Year, time.Month(at.Month+1), 0, 0, 0, 0, 0, time.UTC).Day()
	at.Day = min(at.Day, last)
	later, ok := dayOf(at)
	if !ok {
		return 0, api.ErrDay
	}
	return o.roll(later)
}

// probes are days of many kinds, and numbers that are none.
func probes(t *testing.T) []int {
	l := slices.Clone(noDays)
	for _, middle := range []int{7, 360, day(t, 2021, 2, 28), day(t, 2022, 1, 31), day(t, 2023, 1, 25), day(t, 2024, 2, 29), day(t, 2025, 1, 1), api.MaxDay - 150, api.MaxDay - 9} {
		for d := middle - 12; d <= middle+12; d++ {
			l = append(l, d)
		}
	}
	for d := 0; d <= api.MaxDay; d += 1709 {
		l = append(l, d)
	}
	return l
}

// P2.1
func TestGood(t *testing.T) {
	for _, d := range []int{0, 1, 100000, api.MaxDay - 1, api.MaxDay} {
		if !calendar.Good(d) {
			t.Error("no day:", d)
		}
	}
	for _, d := range noDays {
		if calendar.Good(d) {
			t.Error("a day:", d)
		}
	}
}

// P2.1, P2.5
func TestOfAndNumber(t *testing.T) {
	for d := range api.MaxDay + 1 {
		at, e := calendar.Of(d)
		if at != dateOf(d) || e != api.OK {
			t.Fatal("Of", d, at, e)
		}
		if n, e := calendar.Number(at); n != d || e != api.OK {
			t.Fatal("Number", at, n, e)
		}
	}
	for _, d := range noDays {
		if at, e := calendar.Of(d); at != (date{}) || e != api.ErrDay {
			t.Error("Of", d, at, e)
		}
	}
}

// P2.1
func TestNumberOfWrongDates(t *testing.T) {
	for year := 1960; year <= 2530; year++ {
		for month := -1; month <= 14; month++ {
			for d := -1; d <= 33; d++ {
				checkNumber(t, date{Year: year, Month: month, Day: d})
			}
		}
	}
	far := []int{math.MinInt, math.MinInt + 1, -1 << 32, -2024, -1, 0, 1, 1969, 2518, 1<<32 + 2024, math.MaxInt - 1, math.MaxInt}
	for _, n := range far {
		for _, at := range []date{{Year: n, Month: 1, Day: 1}, {Year: n, Month: 2, Day: 29}} {
			if got, e := calendar.Number(at); got != 0 || e != api.ErrDay {
				t.Error("Number", at, got, e)
			}
		}
	}
	for _, n := range []int{math.MinInt, -1 << 32, 1<<32 + 1, math.MaxInt} {
		for _, at := range []date{{Year: 2024, Month: n, Day: 1}, {Year: 2024, Month: 1, Day: n}} {
			if got, e := calendar.Number(at); got != 0 || e != api.ErrDay {
				t.Error("Number", at, got, e)
			}
		}
	}
}

// P2.1: years so far off that the number of their days, in 64 bits, comes round to that of a day.
func TestNumberOfYearsThatWrapRound(t *testing.T) {
	round := new(big.Int).Lsh(big.NewInt(400), 64)
	years := int(round.Div(round, big.NewInt(146097)).Int64())
	for k := -100; k <= 100; k++ {
		for year := 1970 + k*years - 200; k != 0 && year <= 1970+k*years+600; year++ {
			if got, e := calendar.Number(date{Year: year, Month: 3, Day: 1}); got != 0 || e != api.ErrDay {
				t.Fatal("Number", year, got, e)
			}
		}
	}
}

func checkNumber(t *testing.T, at date) {
	t.Helper()
	want, ok := dayOf(at)
	wantE := api.OK
	if !ok {
		want, wantE = 0, api.ErrDay
	}
	if got, e := calendar.Number(at); got != want || e != wantE {
		t.Error("Number", at, got, e, "not", want, wantE)
	}
}

// P2.1: years that are multiples of 4, of 100, of 400, and the last day of all.
func TestNumberByHand(t *testing.T) {
	for _, x := range []struct {
		at   date
		want int
		e    api.Errno
	}{
		{date{1970, 1, 1}, 0, api.OK},
		{date{1969, 12, 31}, 0, api.ErrDay},
		{date{2000, 2, 29}, 11016, api.OK},
		{date{1972, 2, 29}, 789, api.OK},
		{date{2100, 2, 28}, 47540, api.OK},
		{date{2100, 2, 29}, 0, api.ErrDay},
		{date{2400, 2, 29}, 157113, api.OK},
		{date{2517, 7, 31}, 199999, api.OK},
		{date{2517, 8, 1}, 200000, api.OK},
		{date{2517, 8, 2}, 0, api.ErrDay},
		{date{2023, 4, 31}, 0, api.ErrDay},
		{date{}, 0, api.ErrDay},
	} {
		if got, e := calendar.Number(x.at); got != x.want || e != x.e {
			t.Error("Number", x.at, got, e, "not", x.want, x.e)
		}
	}
}

// P2.1
func TestWeekday(t *testing.T) {
	for d := -1000; d <= api.MaxDay+1000; d++ {
		// The library's week begins with Sunday.
		if want := (int(timeOf(d).Weekday()) + 6) % 7; calendar.Weekday(d) != want {
			t.Fatal("Weekday", d, calendar.Weekday(d), "not", want)
		}
	}
	for _, from := range []int{math.MinInt, math.MinInt + 7, -1 << 32, 1 << 32, math.MaxInt - 20} {
		for d := from; d < from+20; d++ {
			want := ((d%7+7)%7 + 3) % 7
			if got := calendar.Weekday(d); got != want {
				t.Error("Weekday", d, got, "not", want)
			}
		}
	}
	if got := calendar.Weekday(math.MaxInt); got != 3 {
		// 2^63 - 1 is a multiple of 7.
		t.Error("Weekday of the greatest", got)
	}
}

// P2.2
func TestNewRefuses(t *testing.T) {
	many := workdaysFrom(0, 257)
	for _, x := range []struct {
		holidays []int
		e        api.Errno
	}{
		{nil, api.OK},
		{[]int{}, api.OK},
		{many[:256], api.OK},
		{many, api.ErrLimit},
		{make([]int, 257), api.ErrLimit},
		{append(slices.Clone(many), -1), api.ErrLimit},
		{[]int{0, api.MaxDay}, api.OK},
		{[]int{-1}, api.ErrDay},
		{[]int{5, 6, api.MaxDay + 1}, api.ErrDay},
		{[]int{math.MinInt, 5}, api.ErrDay},
		{[]int{5, math.MaxInt}, api.ErrDay},
	} {
		c, e := calendar.New(x.holidays)
		if e != x.e || (c != nil) != (e == api.OK) {
			t.Error("New", len(x.holidays), c, e, "not", x.e)
		}
	}
}

// P2.2
func TestWorks(t *testing.T) {
	for _, off := range sets(t) {
		c := made(t, off...)
		for d := -400; d <= 1000; d++ {
			checkWorks(t, c, off, d)
		}
		for _, d := range slices.Concat(probes(t), off) {
			checkWorks(t, c, off, d)
		}
	}
}

func checkWorks(t *testing.T, c *calendar.Calendar, off oracle, d int) {
	t.Helper()
	if got, want := c.Works(d), off.works(d); got != want {
		t.Error("Works", off, d, got)
	}
}

// P2.2
func TestCount(t *testing.T) {
	for _, off := range sets(t) {
		c := made(t, off...)
		// before[d] is how many days ahead of d are worked on.
		before := make([]int, api.MaxDay+2)
		for d := range api.MaxDay + 1 {
			before[d+1] = before[d]
			if oracle(off).works(d) {
				before[d+1]++
			}
		}
		for _, from := range probes(t) {
			for _, to := range probes(t) {
				want := 0
				if from < to {
					want = before[min(max(to, 0), api.MaxDay+1)] - before[min(max(from, 0), api.MaxDay+1)]
				}
				if got := c.Count(from, to); got != want {
					t.Fatal("Count", off, from, to, got, "not", want)
				}
			}
		}
	}
	c := made(t)
	// All days are 28572 whole weeks, without the Monday to Wednesday ahead of day 0.
	if got := c.Count(math.MinInt, math.MaxInt); got != 28572*5-3 {
		t.Error("Count of all", got)
	}
	if got := c.Count(4, 5); got != 1 {
		t.Error("Count of a Monday", got)
	}
}

// Memory: what is handed in is neither changed nor kept.
func TestNewLeavesHolidays(t *testing.T) {
	room := []int{11, 4, 6, 4, 12, 13}
	c := made(t, room[:4]...)
	if !slices.Equal(room, []int{11, 4, 6, 4, 12, 13}) {
		t.Error("holidays changed", room)
	}
	for i := range room {
		room[i] = 5
	}
	if c.Works(4) || c.Works(6) || c.Works(11) || !c.Works(5) || !c.Works(12) {
		t.Error("holidays kept")
	}
}

// P2.3
func TestNextAndBack(t *testing.T) {
	for _, off := range sets(t) {
		c := made(t, off...)
		for _, d := range probes(t) {
			want, wantE := oracle(off).near(d, 1, 1)
			if got, e := c.Next(d); got != want || e != wantE {
				t.Error("Next", off, d, got, e, "not", want, wantE)
			}
			want, wantE = oracle(off).near(d, 1, -1)
			if got, e := c.Back(d); got != want || e != wantE {
				t.Error("Back", off, d, got, e, "not", want, wantE)
			}
		}
	}
}

// P2.3: the last two days of all are the end of a week; the first ones may be off.
func TestNextAndBackAtTheEnds(t *testing.T) {
	c := made(t, 0, 1)
	for _, x := range []struct {
		call      func(int) (int, api.Errno)
		day, want int
		e         api.Errno
	}{
		{c.Next, 2, 4, api.OK},
		{c.Next, 0, 4, api.OK},
		{c.Next, 199998, 199998, api.OK},
		{c.Next, 199999, 0, api.ErrNone},
		{c.Next, 200000, 0, api.ErrNone},
		{c.Next, 200001, 0, api.ErrDay},
		{c.Next, -1, 0, api.ErrDay},
		{c.Back, 200000, 199998, api.OK},
		{c.Back, 200001, 0, api.ErrDay},
		{c.Back, 4, 4, api.OK},
		{c.Back, 3, 0, api.ErrNone},
		{c.Back, 0, 0, api.ErrNone},
		{c.Back, -1, 0, api.ErrDay},
	} {
		if got, e := x.call(x.day); got != x.want || e != x.e {
			t.Error(x.day, got, e, "not", x.want, x.e)
		}
	}
}

// P2.3
func TestMove(t *testing.T) {
	ways := []int{math.MinInt, math.MinInt + 1, -3662, -3661, -3660, -256, -21, -5, -2, -1, 0, 1, 2, 5, 21, 256, 3660, 3661, 3662, math.MaxInt}
	for _, off := range sets(t) {
		c := made(t, off...)
		for _, d := range probes(t) {
			for _, n := range ways {
				want, wantE := oracle(off).move(d, n)
				if got, e := c.Move(d, n); got != want || e != wantE {
					t.Fatal("Move", off, d, n, got, e, "not", want, wantE)
				}
			}
		}
	}
}

// P2.3: which error comes first, and that each is told.
func TestMoveErrors(t *testing.T) {
	c := made(t, 0)
	for _, x := range []struct {
		day, n, want int
		e            api.Errno
	}{
		{-1, 0, 0, api.ErrDay},
		{api.MaxDay + 1, -1, 0, api.ErrDay},
		{-1, 3661, 0, api.ErrDay},
		{api.MaxDay + 1, -3661, 0, api.ErrDay},
		{10, 3661, 0, api.ErrArg},
		{10, -3661, 0, api.ErrArg},
		// No day is worked on up to day 0, or from the last one on: that is named ahead of a wrong n.
		{0, -3661, 0, api.ErrNone},
		{0, 3661, 0, api.ErrArg},
		{api.MaxDay, 3661, 0, api.ErrNone},
		{api.MaxDay, -3661, 0, api.ErrArg},
		{api.MaxDay, 0, 0, api.ErrNone},
		{api.MaxDay, -1, 199997, api.OK},
		{0, 0, 1, api.OK},
		{1, -1, 0, api.ErrNone},
		{1, 3660, 1 + 732*7, api.OK},
		{199998, 1, 0, api.ErrNone},
		{199997, 1, 199998, api.OK},
		{6, -3, 1, api.OK},
		{6, -4, 0, api.ErrNone},
	} {
		if at, e := c.Move(x.day, x.n); at != x.want || e != x.e {
			t.Error("Move", x.day, x.n, at, e, "not", x.want, x.e)
		}
	}
}

// P2.4
func TestRoll(t *testing.T) {
	for _, off := range sets(t) {
		c := made(t, off...)
		for _, d := range probes(t) {
			want, wantE := oracle(off).roll(d)
			if got, e := c.Roll(d); got != want || e != wantE {
				t.Error("Roll", off, d, got, e, "not", want, wantE)
			}
		}
	}
}

// P2.4: ends of months and years, by hand.
func TestRollByHand(t *testing.T) {
	year := workdaysFrom(day(t, 2022, 1, 31), 256)
	for _, x := range []struct {
		off  []int
		at   date
		want date
		e    api.Errno
	}{
		{nil, date{2025, 5, 30}, date{2025, 5, 30}, api.OK},
		{nil, date{2025, 5, 31}, date{2025, 5, 30}, api.OK},
		{nil, date{2025, 6, 1}, date{2025, 6, 2}, api.OK},
		{[]int{day(t, 2025, 12, 31)}, date{2025, 12, 31}, date{2025, 12, 30}, api.OK},
		{[]int{day(t, 2026, 1, 1)}, date{2026, 1, 1}, date{2026, 1, 2}, api.OK},
		// The last of all days is a Sunday: no next day at all is none in the month.
		{nil, date{2517, 8, 1}, date{2517, 7, 30}, api.OK},
		{nil, date{2517, 7, 31}, date{2517, 7, 30}, api.OK},
		// A month is told by its number: January a year later is one.
		{year, date{2022, 1, 31}, date{2023, 1, 24}, api.OK},
		{year[:255], date{2022, 1, 31}, date{2023, 1, 23}, api.OK},
		{year[:200], date{2022, 1, 31}, date{2022, 1, 28}, api.OK},
		// All of January 1970 is off, and nothing lies ahead of it.
		{workdaysFrom(0, 22), date{1970, 1, 15}, date{}, api.ErrNone},
	} {
		from := day(t, x.at.Year, x.at.Month, x.at.Day)
		want := 0
		if x.e == api.OK {
			want = day(t, x.want.Year, x.want.Month, x.want.Day)
		}
		if got, e := made(t, x.off...).Roll(from); got != want || e != x.e {
			t.Error("Roll", x.at, dateOf(got), e, "not", x.want, x.e)
		}
	}
}

// P2.4
func TestMonths(t *testing.T) {
	ways := []int{math.MinInt, -121, -12, -1, 0, 1, 2, 6, 11, 12, 13, 24, 119, 120, 121, math.MaxInt}
	for _, off := range sets(t) {
		c := made(t, off...)
		for _, d := range probes(t) {
			for _, n := range ways {
				want, wantE := oracle(off).months(d, n)
				if got, e := c.Months(d, n); got != want || e != wantE {
					t.Fatal("Months", off, d, n, got, e, "not", want, wantE)
				}
			}
		}
	}
}

// P2.4: shorter months, years that are passed, the last of all days, and which error comes first.
func TestMonthsByHand(t *testing.T) {
	for _, x := range []struct {
		off  []int
		at   date
		n    int
		want date
		e    api.Errno
	}{
		{nil, date{2024, 1, 31}, 1, date{2024, 2, 29}, api.OK},
		{nil, date{2023, 1, 31}, 1, date{2023, 2, 28}, api.OK},
		{nil, date{2025, 1, 31}, 3, date{2025, 4, 30}, api.OK},
		{nil, date{2024, 11, 29}, 3, date{2025, 2, 28}, api.OK},
		{nil, date{2024, 12, 2}, 0, date{2024, 12, 2}, api.OK},
		{nil, date{2024, 12, 1}, 0, date{2024, 12, 2}, api.OK},
		{nil, date{2024, 12, 10}, 120, date{2034, 12, 11}, api.OK},
		{nil, date{2024, 12, 10}, 12, date{2025, 12, 10}, api.OK},
		{nil, date{2025, 7, 31}, 1, date{2025, 8, 29}, api.OK},
		{nil, date{2517, 6, 30}, 1, date{2517, 7, 30}, api.OK},
		{nil, date{2517, 7, 1}, 1, date{2517, 7, 30}, api.OK},
		{nil, date{2517, 8, 1}, 0, date{2517, 7, 30}, api.OK},
		{nil, date{2517, 7, 2}, 1, date{}, api.ErrDay},
		{nil, date{2517, 7, 1}, 2, date{}, api.ErrDay},
		{nil, date{2517, 7, 1}, 121, date{}, api.ErrArg},
		{nil, date{2024, 12, 10}, -1, date{}, api.ErrArg},
		{workdaysFrom(0, 22), date{1970, 1, 15}, 0, date{}, api.ErrNone},
	} {
		from := day(t, x.at.Year, x.at.Month, x.at.Day)
		want := 0
		if x.e == api.OK {
			want = day(t, x.want.Year, x.want.Month, x.want.Day)
		}
		if got, e := made(t, x.off...).Months(from, x.n); got != want || e != x.e {
			t.Error("Months", x.at, x.n, dateOf(got), e, "not", x.want, x.e)
		}
	}
	for _, d := range noDays {
		for _, n := range []int{-1, 0, 121} {
			if got, e := made(t).Months(d, n); got != 0 || e != api.ErrDay {
				t.Error("Months", d, n, got, e)
			}
		}
	}
}

// P2.5
func TestMoveThereAndBack(t *testing.T) {
	for _, off := range sets(t) {
		c := made(t, off...)
		for _, d := range probes(t) {
			if !c.Works(d) {
				continue
			}
			for _, n := range []int{0, 1, -1, 4, -4, 22, -22, 1000, -1000, 3660, -3660} {
				there, e := c.Move(d, n)
				if e == api.ErrNone {
					continue
				}
				if back, e2 := c.Move(there, -n); back != d || e != api.OK || e2 != api.OK {
					t.Error("Move there and back", off, d, n, there, e, back, e2)
				}
			}
		}
	}
}

// P2.5
func TestRolledDays(t *testing.T) {
	c := made(t, day(t, 2024, 12, 25), day(t, 2024, 12, 26), day(t, 2025, 1, 1), day(t, 2025, 4, 18), day(t, 2025, 4, 21))
	for d := range api.MaxDay + 1 {
		at, e := c.Roll(d)
		// Of the last day of all, a month's first and a Sunday, the one ahead lies in another month.
		if e != api.OK || !c.Works(at) || at < d-31 || at > d+31 || d < api.MaxDay && dateOf(at).Month != dateOf(d).Month {
			t.Fatal("Roll", d, at, e)
		}
	}
}

// Of nil and of none no day is worked on, and every error is ErrNil.
func TestNilAndNone(t *testing.T) {
	for _, c := range []*calendar.Calendar{nil, {}, new(calendar.Calendar)} {
		for _, d := range append([]int{0, 1, 4, api.MaxDay}, noDays...) {
			if c.Works(d) || c.Count(d, 100) != 0 || c.Count(0, d) != 0 {
				t.Error("worked on", d)
			}
			for _, call := range []func(int) (int, api.Errno){c.Next, c.Back, c.Roll} {
				if got, e := call(d); got != 0 || e != api.ErrNil {
					t.Error(d, got, e)
				}
			}
			for _, n := range []int{math.MinInt, -3661, -1, 0, 1, 121, 3661, math.MaxInt} {
				if got, e := c.Move(d, n); got != 0 || e != api.ErrNil {
					t.Error("Move", d, n, got, e)
				}
				if got, e := c.Months(d, n); got != 0 || e != api.ErrNil {
					t.Error("Months", d, n, got, e)
				}
			}
		}
	}
}
