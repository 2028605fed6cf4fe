package accrue_test

import (
	"math"
	"math/big"
	"math/rand"
	"slices"
	"testing"

	"lombard/accrue"
	"lombard/api"
	"lombard/calendar"
)

type (
	meter  = accrue.Meter
	resets = []api.Reset
)

// parts is what the chapter divides by.
const parts = 360000000

var (
	noAmounts = []int{math.MinInt, -api.MaxAmount, -1, api.MaxAmount + 1, math.MaxInt}
	noRates   = []int{math.MinInt, -api.MaxRate - 1, api.MaxRate + 1, math.MaxInt}
	noSpans   = []int{math.MinInt, -3660, -1, api.MaxDays + 1, math.MaxInt}
	noRests   = []int{math.MinInt, -parts, -1, parts, parts + 1, math.MaxInt}
	noDays    = []int{math.MinInt, -1, api.MaxDay + 1, math.MaxInt}

	someAmounts = []int{0, 1, 2, 99, 359, 360, 361, 999999, 1000000, 360000000, 1<<31 - 1, 1<<43 + 12345, 987654321012345, api.MaxAmount - 1, api.MaxAmount}
	someRates   = []int{-api.MaxRate, -api.MaxRate + 1, -50000, -361, -1, 0, 1, 360, 12345, 50000, 999999, api.MaxRate}
	someSpans   = []int{0, 1, 2, 71, 72, 359, 360, 361, 3659, api.MaxDays}
)

// exact is a number of parts, without bounds: what the answers are held against.
func exact(units, rest int) *big.Int {
	n := new(big.Int).Mul(big.NewInt(int64(units)), big.NewInt(parts))
	return n.Add(n, big.NewInt(int64(rest)))
}

// interest is the exact interest of so many days, in parts.
func interest(amount, rate, days int) *big.Int {
	n := new(big.Int).Mul(big.NewInt(int64(amount)), big.NewInt(int64(rate)))
	return n.Mul(n, big.NewInt(int64(days)))
}

// interestBetween is the exact interest at rates by days, each found by its place alone.
func interestBetween(amount int, l resets, from, to int) *big.Int {
	sum := new(big.Int)
	for i, r := range l {
		first, end := max(from, r.Day), to
		if i+1 < len(l) {
			end = min(to, l[i+1].Day)
		}
		if first < end {
			sum.Add(sum, interest(amount, r.Rate, end-first))
		}
	}
	return sum
}

// cut cuts parts down to whole units (big's own Div and Mod go down, too, for a divisor above 0); false: these have no place.
func cut(n *big.Int) (meter, bool) {
	rest := new(big.Int)
	units, _ := new(big.Int).DivMod(n, big.NewInt(parts), rest)
	if !units.IsInt64() {
		return meter{}, false
	}
	return meter{Units: int(units.Int64()), Rest: int(rest.Int64())}, true
}

func wantMeter(t *testing.T, what string, got meter, e api.Errno, want meter) {
	t.Helper()
	if got != want || e != api.OK {
		t.Errorf("%s = %v, %d; want %v", what, got, e, want)
	}
}

func TestWords(t *testing.T) {
	if api.MaxAmount != 1<<50 || api.MaxRate != 1000000 || api.MaxDays != 3660 || api.MaxList != 64 {
		t.Error("the chapter names other limits")
	}
}

// P3.1: the interest, rounded down, above 0 and below.
func TestSimple(t *testing.T) {
	for _, x := range []struct{ amount, rate, days, want int }{
		{360000000, 50000, 1, 50000},
		{1000000, 36000, 10, 1000},
		{100, 50000, 71, 0},
		{100, 50000, 72, 1},
		{100, 50000, 143, 1},
		{100, -50000, 72, -1},
		{100, -50000, 71, -1},
		{100, -50000, 73, -2},
		{1000, -1, 1, -1},
		{0, 1000000, 3660, 0},
		{0, -1000000, 3660, 0},
		{1 << 50, 0, 3660, 0},
		{1 << 50, 1000000, 0, 0},
		{1 << 50, -1000000, 0, 0},
		{1 << 50, 1000000, 360, 1 << 50},
		{1 << 50, -1000000, 360, -1 << 50},
		{1 << 50, 1000000, 3660, 11446649052900010},
		{1 << 50, -1000000, 3660, -11446649052900011},
	} {
		if n, e := accrue.Simple(x.amount, x.rate, x.days); n != x.want || e != api.OK {
			t.Errorf("Simple%v = %d, %d", x, n, e)
		}
	}
}

// P3.1: against exact numbers.
func TestSimpleIsExact(t *testing.T) {
	for _, amount := range someAmounts {
		for _, rate := range someRates {
			for _, days := range someSpans {
				want, _ := cut(interest(amount, rate, days))
				if n, e := accrue.Simple(amount, rate, days); n != want.Units || e != api.OK {
					t.Errorf("Simple(%d, %d, %d) = %d, %d; want %d", amount, rate, days, n, e, want.Units)
				}
			}
		}
	}
}

// P3.1: what is no amount, no rate, no number of days.
func TestSimpleWrong(t *testing.T) {
	wrong := func(amount, rate, days int) {
		t.Helper()
		if n, e := accrue.Simple(amount, rate, days); n != 0 || e != api.ErrArg {
			t.Errorf("Simple(%d, %d, %d) = %d, %d", amount, rate, days, n, e)
		}
	}
	for _, n := range noAmounts {
		wrong(n, 50000, 10)
		wrong(n, 0, 0)
	}
	for _, n := range noRates {
		wrong(1000, n, 10)
		wrong(0, n, 0)
	}
	for _, n := range noSpans {
		wrong(1000, 50000, n)
		wrong(0, 0, n)
	}
}

// P3.2: Units and Rest of the exact sum.
func TestDay(t *testing.T) {
	for _, x := range []struct {
		m            meter
		amount, rate int
		want         meter
	}{
		{meter{}, 100, 50000, meter{Rest: 5000000}},
		{meter{}, 360000000, 50000, meter{Units: 50000}},
		{meter{}, 1, -1, meter{Units: -1, Rest: 359999999}},
		{meter{Units: -1, Rest: 359999999}, 1, 1, meter{}},
		{meter{Units: 7, Rest: 359999999}, 1, 1, meter{Units: 8}},
		{meter{Units: 7, Rest: 359999998}, 1, 1, meter{Units: 7, Rest: 359999999}},
		{meter{Units: 7, Rest: 5}, 0, 1000000, meter{Units: 7, Rest: 5}},
		{meter{Units: 7, Rest: 5}, 1 << 50, 0, meter{Units: 7, Rest: 5}},
		{meter{Units: -7, Rest: 5}, 1, -5, meter{Units: -7}},
		{meter{Units: -7, Rest: 5}, 1, -6, meter{Units: -8, Rest: 359999999}},
	} {
		got, e := x.m.Day(x.amount, x.rate)
		wantMeter(t, "Day", got, e, x.want)
	}
}

// holdDay holds a day against the exact sum, place or none.
func holdDay(t *testing.T, m meter, amount, rate int) {
	t.Helper()
	sum := exact(m.Units, m.Rest)
	want, fits := cut(sum.Add(sum, interest(amount, rate, 1)))
	wantErr := api.OK
	if !fits {
		want, wantErr = m, api.ErrOver
	}
	if got, e := m.Day(amount, rate); got != want || e != wantErr {
		t.Errorf("%v.Day(%d, %d) = %v, %d; want %v, %d", m, amount, rate, got, e, want, wantErr)
	}
}

// P3.2: against exact numbers, at both ends of 64 bits as well.
func TestDayIsExact(t *testing.T) {
	units := []int{math.MinInt, math.MinInt + 1, math.MinInt + 2, math.MinInt + 3127499741229, math.MinInt + 3127499741230, -1, 0, 1, 42,
		math.MaxInt - 3127499741230, math.MaxInt - 3127499741229, math.MaxInt - 1, math.MaxInt}
	for _, u := range units {
		for _, rest := range []int{0, 1, 179999999, 359999998, 359999999} {
			for _, amount := range someAmounts {
				for _, rate := range someRates {
					holdDay(t, meter{Units: u, Rest: rest}, amount, rate)
				}
			}
		}
	}
}

func TestDayByChance(t *testing.T) {
	r := rand.New(rand.NewSource(3))
	for range 20000 {
		m := meter{Units: r.Intn(1<<40) - 1<<39, Rest: r.Intn(parts)}
		holdDay(t, m, r.Intn(api.MaxAmount+1), r.Intn(2*api.MaxRate+1)-api.MaxRate)
	}
}

// P3.2: the edge at which there is no place any more is that of whole units, the rests reckoned in.
func TestDayOver(t *testing.T) {
	most, least := meter{Units: math.MaxInt}, meter{Units: math.MinInt}
	for _, x := range []struct {
		m            meter
		amount, rate int
		want         meter
		e            api.Errno
	}{
		{most, 1, 1, meter{Units: math.MaxInt, Rest: 1}, api.OK},
		{meter{Units: math.MaxInt, Rest: 359999999}, 1, 1, meter{Units: math.MaxInt, Rest: 359999999}, api.ErrOver},
		{meter{Units: math.MaxInt, Rest: 359999999}, 1, -1, meter{Units: math.MaxInt, Rest: 359999998}, api.OK},
		{most, 360, 1000000, most, api.ErrOver},
		{least, 1, 1, meter{Units: math.MinInt, Rest: 1}, api.OK},
		{least, 1, -1, least, api.ErrOver},
		{meter{Units: math.MinInt, Rest: 1}, 1, -1, least, api.OK},
		{meter{Units: math.MinInt, Rest: 1}, 1, -2, meter{Units: math.MinInt, Rest: 1}, api.ErrOver},
		{meter{Units: math.MinInt + 1}, 360, -1000000, least, api.OK},
	} {
		if got, e := x.m.Day(x.amount, x.rate); got != x.want || e != x.e {
			t.Errorf("%v.Day(%d, %d) = %v, %d; want %v, %d", x.m, x.amount, x.rate, got, e, x.want, x.e)
		}
	}
}

// P3.2: with an error the meter stays; what is none is told ahead of what has no place.
func TestDayWrong(t *testing.T) {
	wrong := func(m meter, amount, rate int) {
		t.Helper()
		if got, e := m.Day(amount, rate); got != m || e != api.ErrArg {
			t.Errorf("%v.Day(%d, %d) = %v, %d", m, amount, rate, got, e)
		}
		if got, e := m.Days(amount, rate, 2); got != m || e != api.ErrArg {
			t.Errorf("%v.Days(%d, %d, 2) = %v, %d", m, amount, rate, got, e)
		}
	}
	for _, m := range []meter{{}, {Units: -3, Rest: 17}, {Units: math.MaxInt, Rest: parts - 1}, {Units: math.MinInt}} {
		for _, n := range noAmounts {
			wrong(m, n, 50000)
			wrong(m, n, 0)
		}
		for _, n := range noRates {
			wrong(m, 1000, n)
			wrong(m, 0, n)
		}
	}
	for _, n := range noRests {
		wrong(meter{Rest: n}, 1000, 50000)
		wrong(meter{Units: math.MaxInt, Rest: n}, 0, 0)
		wrong(meter{Units: math.MinInt, Rest: n}, api.MaxAmount, -api.MaxRate)
	}
}

// P3.2: Days is Day, so many times.
func TestDays(t *testing.T) {
	m, e := meter{}.Days(100, 50000, 71)
	wantMeter(t, "71 days", m, e, meter{Rest: 355000000})
	m, e = m.Day(100, 50000)
	wantMeter(t, "and one more", m, e, meter{Units: 1})
	m, e = meter{}.Days(100, 50000, 72)
	wantMeter(t, "72 days", m, e, meter{Units: 1})
	m, e = meter{}.Days(100, -50000, 72)
	wantMeter(t, "72 days below 0", m, e, meter{Units: -1})

	for _, start := range []meter{{}, {Units: 9, Rest: 359999999}, {Units: -1 << 40, Rest: 123456789}} {
		for _, amount := range []int{0, 1, 987654321012345, api.MaxAmount} {
			for _, rate := range []int{-api.MaxRate, -1, 0, 12345, api.MaxRate} {
				for _, days := range someSpans {
					sum := exact(start.Units, start.Rest)
					want, _ := cut(sum.Add(sum, interest(amount, rate, days)))
					got, e := start.Days(amount, rate, days)
					wantMeter(t, "Days", got, e, want)
				}
			}
		}
	}
}

// P3.2: so many days as there are none.
func TestDaysWrong(t *testing.T) {
	for _, m := range []meter{{}, {Units: 5, Rest: 6}, {Units: 5, Rest: -6}} {
		for _, days := range noSpans {
			if got, e := m.Days(1000, 50000, days); got != m || e != api.ErrArg {
				t.Errorf("%v.Days(.., %d) = %v, %d", m, days, got, e)
			}
			if got, e := m.Days(-1, 50000, days); got != m || e != api.ErrArg {
				t.Errorf("%v.Days(-1, .., %d) = %v, %d", m, days, got, e)
			}
		}
	}
}

// P3.2: no day at all is no Day, so that there is none whose error could be told.
func TestNoDays(t *testing.T) {
	for _, m := range []meter{{}, {Units: 5, Rest: 6}, {Units: math.MaxInt, Rest: parts - 1}, {Units: 5, Rest: -6}} {
		for _, amount := range []int{0, 1000, -1} {
			for _, rate := range []int{0, 50000, api.MaxRate + 1} {
				got, e := m.Days(amount, rate, 0)
				wantMeter(t, "no days", got, e, m)
			}
		}
	}
}

// P3.2: where some day has no place, the meter stays as it was ahead of all days.
func TestDaysOver(t *testing.T) {
	high := meter{Units: math.MaxInt - 3, Rest: 180000000}
	m, e := high.Days(360, 1000000, 3)
	wantMeter(t, "three days up", m, e, meter{Units: math.MaxInt, Rest: 180000000})
	if m, e := high.Days(360, 1000000, 4); m != high || e != api.ErrOver {
		t.Error("four days up", m, e)
	}
	low := meter{Units: math.MinInt + 3, Rest: 180000000}
	m, e = low.Days(360, -1000000, 3)
	wantMeter(t, "three days down", m, e, meter{Units: math.MinInt, Rest: 180000000})
	if m, e := low.Days(360, -1000000, 4); m != low || e != api.ErrOver {
		t.Error("four days down", m, e)
	}
}

// rising tells so many rates, from a day on, each so many days behind the one ahead.
func rising(n, first, step int) resets {
	var l resets
	for i := range n {
		l = append(l, api.Reset{Day: first + i*step, Rate: i*31250 - api.MaxRate})
	}
	return l
}

// P3.3: what is wrong with rates, and which of several faults is told.
func TestCheck(t *testing.T) {
	far, low := api.MaxRate+1, -api.MaxRate-1
	for _, x := range []struct {
		what string
		l    resets
		want api.Errno
	}{
		{"nil", nil, api.ErrNone},
		{"none", resets{}, api.ErrNone},
		{"none, with room", make(resets, 0, 8), api.ErrNone},
		{"one", resets{{Day: 5, Rate: 50000}}, api.OK},
		{"the first day", resets{{}}, api.OK},
		{"the last day", resets{{Day: api.MaxDay, Rate: 1}}, api.OK},
		{"the greatest rate and the least", resets{{Day: 1, Rate: api.MaxRate}, {Day: 2, Rate: -api.MaxRate}}, api.OK},
		{"the same rate", resets{{Day: 1, Rate: 7}, {Day: 2, Rate: 7}}, api.OK},
		{"all that are allowed", rising(64, 0, 1), api.OK},
		{"one more", rising(65, 0, 1), api.ErrLimit},
		{"too many, none of them good", make(resets, 65), api.ErrLimit},
		{"the same day", resets{{Day: 5}, {Day: 5}}, api.ErrDay},
		{"falling days", resets{{Day: 5}, {Day: 4}}, api.ErrDay},
		{"falling at the end", resets{{Day: 5}, {Day: 9}, {Day: 8}}, api.ErrDay},
		{"above the first one alone", resets{{Day: 5}, {Day: 9}, {Day: 7}, {Day: 10}}, api.ErrDay},
		{"a rate too great", resets{{Day: 5, Rate: far}}, api.ErrArg},
		{"a rate too low", resets{{Day: 5, Rate: low}}, api.ErrArg},
		{"a last rate too great", resets{{Day: 5}, {Day: 6, Rate: far}}, api.ErrArg},
		{"of one, the day ahead of the rate", resets{{Day: -1, Rate: far}}, api.ErrDay},
		{"of a later one, too", resets{{Day: 3}, {Day: 3, Rate: low}}, api.ErrDay},
		{"the rate of an earlier one ahead of the day", resets{{Day: 3, Rate: low}, {Day: 3}}, api.ErrArg},
		{"a rate, then no day", resets{{Day: 3, Rate: far}, {Day: -1}}, api.ErrArg},
		{"a day, then no rate", resets{{Day: 3}, {Day: 2}, {Day: 4, Rate: far}}, api.ErrDay},
	} {
		if e := accrue.Check(x.l); e != x.want {
			t.Errorf("%s: %d; want %d", x.what, e, x.want)
		}
	}
}

// P3.3: no days and no rates, wherever they stand.
func TestCheckEachPlace(t *testing.T) {
	for place := range 64 {
		for _, day := range noDays {
			l := rising(64, 10, 3000)
			l[place].Day = day
			if e := accrue.Check(l); e != api.ErrDay {
				t.Errorf("day %d at %d: %d", day, place, e)
			}
		}
		for _, rate := range noRates {
			l := rising(64, 10, 3000)
			l[place].Rate = rate
			if e := accrue.Check(l); e != api.ErrArg {
				t.Errorf("rate %d at %d: %d", rate, place, e)
			}
		}
	}
}

// P3.3: the last one whose day isn't above.
func TestRate(t *testing.T) {
	l := resets{{Day: 10, Rate: 30000}, {Day: 20, Rate: 0}, {Day: 21, Rate: -30000}, {Day: 40, Rate: 5}}
	for _, x := range []struct {
		l    resets
		day  int
		rate int
		ok   bool
	}{
		{l, 9, 0, false},
		{l, 0, 0, false},
		{l, -1, 0, false},
		{l, math.MinInt, 0, false},
		{l, 10, 30000, true},
		{l, 19, 30000, true},
		{l, 20, 0, true},
		{l, 21, -30000, true},
		{l, 39, -30000, true},
		{l, 40, 5, true},
		{l, 41, 5, true},
		{l, api.MaxDay, 5, true},
		{l, api.MaxDay + 1, 5, true},
		{l, math.MaxInt, 5, true},
		{nil, 10, 0, false},
		{resets{}, 10, 0, false},
		{resets{{}}, 0, 0, true},
		{resets{{}}, -1, 0, false},
		{rising(64, 0, 2), 126, 63*31250 - api.MaxRate, true},
		{rising(64, 0, 2), 125, 62*31250 - api.MaxRate, true},
		{rising(100, 0, 2), 1000, 99*31250 - api.MaxRate, true},
	} {
		if r, ok := accrue.Rate(x.l, x.day); r != x.rate || ok != x.ok {
			t.Errorf("Rate(%v, %d) = %d, %t; want %d, %t", x.l, x.day, r, ok, x.rate, x.ok)
		}
	}
}

// three calls Run, Between and Back, which must agree on what they tell.
func three(t *testing.T, amount int, l resets, from, to int, want meter, wantErr api.Errno) {
	t.Helper()
	back := 0
	if wantErr == api.OK {
		back = amount + want.Units
	} else {
		want = meter{}
	}
	if m, e := accrue.Run(amount, l, from, to); m != want || e != wantErr {
		t.Errorf("Run(%d, %v, %d, %d) = %v, %d; want %v, %d", amount, l, from, to, m, e, want, wantErr)
	}
	if n, e := accrue.Between(amount, l, from, to); n != want.Units || e != wantErr {
		t.Errorf("Between(%d, %v, %d, %d) = %d, %d; want %d, %d", amount, l, from, to, n, e, want.Units, wantErr)
	}
	if n, e := accrue.Back(amount, l, from, to); n != back || e != wantErr {
		t.Errorf("Back(%d, %v, %d, %d) = %d, %d; want %d, %d", amount, l, from, to, n, e, back, wantErr)
	}
}

// P3.4: each day at its rate, the last day left out.
func TestRun(t *testing.T) {
	l := resets{{Day: 10, Rate: 30000}, {Day: 20, Rate: 60000}, {Day: 30, Rate: -30000}}
	three(t, 1200000, l, 15, 35, meter{Units: 500 + 2000 - 500}, api.OK)
	three(t, 1200000, l, 10, 10, meter{}, api.OK)
	three(t, 1200000, l, 10, 11, meter{Units: 100}, api.OK)
	three(t, 1200000, l, 19, 20, meter{Units: 100}, api.OK)
	three(t, 1200000, l, 20, 21, meter{Units: 200}, api.OK)
	three(t, 1200000, l, 19, 21, meter{Units: 300}, api.OK)
	three(t, 1200000, l, 29, 30, meter{Units: 200}, api.OK)
	three(t, 1200000, l, 30, 31, meter{Units: -100}, api.OK)
	three(t, 1, l, 30, 31, meter{Units: -1, Rest: parts - 30000}, api.OK)
	three(t, 0, l, 10, 3670, meter{}, api.OK)
	three(t, 100, resets{{Rate: 50000}}, 0, 71, meter{Rest: 355000000}, api.OK)
	three(t, 100, resets{{Rate: 50000}}, 0, 72, meter{Units: 1}, api.OK)
}

// P3.4: what is paid back may be below 0 after years at a rate far below 0, and no greater one has no place.
func TestBackAtTheEdges(t *testing.T) {
	if n, e := accrue.Back(1<<50, resets{{Rate: -1000000}}, 0, 3660); n != 1<<50-11446649052900011 || e != api.OK {
		t.Error(n, e)
	}
	if n, e := accrue.Back(1<<50, resets{{Rate: 1000000}}, 0, 3660); n != 1<<50+11446649052900010 || e != api.OK {
		t.Error(n, e)
	}
}

// P3.4: against exact numbers, from each side of each rate's day.
func TestRunIsExact(t *testing.T) {
	lists := []resets{
		{{Day: 0, Rate: 12345}},
		{{Day: 100, Rate: api.MaxRate}, {Day: 101, Rate: -api.MaxRate}, {Day: 107, Rate: 7}, {Day: 3760, Rate: -1}, {Day: 3761, Rate: 999999}},
		rising(64, 50, 1),
		rising(64, 50, 57),
		rising(64, api.MaxDay-63, 1),
		{{Day: api.MaxDay - 3660, Rate: -1}, {Day: api.MaxDay, Rate: 1}},
	}
	for _, l := range lists {
		first := l[0].Day
		days := []int{first, first + 1, first + 3660, api.MaxDay}
		for _, r := range l[:min(len(l), 5)] {
			days = append(days, r.Day-1, r.Day, r.Day+1)
		}
		for _, from := range days {
			for _, to := range days {
				if from < first || from > to || to-from > 3660 || to > api.MaxDay {
					continue
				}
				for _, amount := range []int{1, 987654321, api.MaxAmount} {
					want, _ := cut(interestBetween(amount, l, from, to))
					three(t, amount, l, from, to, want, api.OK)
				}
			}
		}
	}
}

// P3.4: days that are none, the wrong way round, too far from each other, or ahead of all rates.
func TestRunWrongDays(t *testing.T) {
	l := resets{{Day: 10, Rate: 30000}, {Day: 20, Rate: 60000}}
	for _, x := range []struct{ from, to int }{
		{9, 12}, {0, 12}, {9, 9}, {20, 19}, {11, 10}, {10, 3671}, {api.MaxDay, 10}, {10, api.MaxDay},
		{10, 9}, {math.MaxInt, math.MinInt}, {math.MinInt, math.MaxInt},
		{api.MaxDay, api.MaxDay + 1}, {api.MaxDay + 1, api.MaxDay + 1}, {api.MaxDay + 1, api.MaxDay + 2}, {-1, 10}, {-1, -1},
	} {
		three(t, 1000, l, x.from, x.to, meter{}, api.ErrDay)
		three(t, -1, l, x.from, x.to, meter{}, api.ErrDay)
	}
	for _, n := range noDays {
		three(t, 1000, resets{{Rate: 1}}, n, 10, meter{}, api.ErrDay)
		three(t, 1000, resets{{Rate: 1}}, 10, n, meter{}, api.ErrDay)
		three(t, 1000, resets{{Rate: 1}}, n, n, meter{}, api.ErrDay)
	}
	three(t, 0, l, api.MaxDay, api.MaxDay, meter{}, api.OK)
	three(t, 0, l, api.MaxDay-3660, api.MaxDay, meter{}, api.OK)
	three(t, 0, l, api.MaxDay-3661, api.MaxDay, meter{}, api.ErrDay)
}

// P3.4: the faults of the rates come ahead of those of the days, and these ahead of the amount's.
func TestRunFirstError(t *testing.T) {
	good := resets{{Day: 10, Rate: 30000}}
	for _, n := range noAmounts {
		three(t, n, good, 10, 12, meter{}, api.ErrArg)
		three(t, n, good, 10, 10, meter{}, api.ErrArg)
		three(t, n, good, 9, 12, meter{}, api.ErrDay)
		three(t, n, nil, 12, 9, meter{}, api.ErrNone)
	}
	three(t, 1000, nil, 10, 12, meter{}, api.ErrNone)
	three(t, 1000, resets{}, 10, 10, meter{}, api.ErrNone)
	three(t, 1000, rising(65, 0, 1), 10, 12, meter{}, api.ErrLimit)
	three(t, -1, rising(65, 0, 1), 12, 10, meter{}, api.ErrLimit)
	three(t, 1000, resets{{Day: 10, Rate: api.MaxRate + 1}}, 9, 12, meter{}, api.ErrArg)
	three(t, 1000, resets{{Day: 10}, {Day: 90, Rate: api.MaxRate + 1}}, 10, 12, meter{}, api.ErrArg)
	three(t, 1000, resets{{Day: 10}, {Day: 9}}, 10, 12, meter{}, api.ErrDay)
	three(t, -1, resets{{Day: 10}, {Day: 9}}, 10, 12, meter{}, api.ErrDay)
}

// P3.5: from one day to another and on to a third is as from the first to the third.
func TestNoDayLosesInterest(t *testing.T) {
	l := resets{{Day: 10, Rate: 12345}, {Day: 40, Rate: -7777}, {Day: 41, Rate: 999999}, {Day: 90, Rate: -1}}
	for _, amount := range []int{1, 99, 1234567, 987654321012345, api.MaxAmount} {
		whole, e := accrue.Run(amount, l, 10, 120)
		if e != api.OK {
			t.Fatal(e)
		}
		for mid := 10; mid <= 120; mid++ {
			a, ea := accrue.Run(amount, l, 10, mid)
			b, eb := accrue.Run(amount, l, mid, 120)
			if ea != api.OK || eb != api.OK {
				t.Fatal(ea, eb)
			}
			sum := exact(a.Units, a.Rest)
			if both, _ := cut(sum.Add(sum, exact(b.Units, b.Rest))); both != whole {
				t.Errorf("%d over day %d: %v and %v; want %v", amount, mid, a, b, whole)
			}
			on := a
			for d := mid; d < 120; d++ {
				rate, _ := accrue.Rate(l, d)
				on, e = on.Day(amount, rate)
				if e != api.OK {
					t.Fatal(e)
				}
			}
			if on != whole {
				t.Errorf("%d on from day %d: %v; want %v", amount, mid, on, whole)
			}
		}
	}
}

// P3.5: at one rate it is Simple, however the days are gone through.
func TestOneRateIsSimple(t *testing.T) {
	for _, amount := range []int{0, 1, 100, 1234567, 987654321012345, api.MaxAmount} {
		for _, rate := range someRates {
			for _, days := range someSpans {
				want, e := accrue.Simple(amount, rate, days)
				if e != api.OK {
					t.Fatal(e)
				}
				for _, l := range []resets{{{Day: 5, Rate: rate}}, {{Day: 0, Rate: rate}, {Day: 6, Rate: rate}, {Day: 50, Rate: rate}}} {
					if n, e := accrue.Between(amount, l, 5, 5+days); n != want || e != api.OK {
						t.Errorf("Between of %d at %d, %d days = %d, %d; want %d", amount, rate, days, n, e, want)
					}
				}
				if m, e := (meter{}).Days(amount, rate, days); m.Units != want || e != api.OK {
					t.Errorf("Days of %d at %d, %d days = %v, %d; want %d", amount, rate, days, m, e, want)
				}
			}
		}
	}
}

// P3.5: a rate below 0 takes away what the same one above 0 gives: both together are nothing.
func TestRateBelowZero(t *testing.T) {
	for _, amount := range someAmounts {
		for _, rate := range someRates {
			for _, days := range []int{1, 71, 360, 3660} {
				up, e1 := meter{}.Days(amount, rate, days)
				down, e2 := meter{}.Days(amount, -rate, days)
				zero, e3 := up.Days(amount, -rate, days)
				if e1 != api.OK || e2 != api.OK || e3 != api.OK || zero != (meter{}) {
					t.Errorf("%d at %d and back: %v, %d %d %d", amount, rate, zero, e1, e2, e3)
				}
				if exact(up.Units, up.Rest).Cmp(new(big.Int).Neg(exact(down.Units, down.Rest))) != 0 {
					t.Errorf("%d at %d: %v against %v", amount, rate, up, down)
				}
			}
		}
	}
}

// The rules of memory: rates handed in stay as they were, their spare room included, and no call hangs on an earlier one.
func TestRatesStay(t *testing.T) {
	room := rising(10, 5, 3)
	l := room[:6]
	before := slices.Clone(room)
	for range 2 {
		if e := accrue.Check(l); e != api.OK {
			t.Error("Check", e)
		}
		if r, ok := accrue.Rate(l, 21); r != before[5].Rate || !ok {
			t.Error("Rate", r, ok)
		}
		want, _ := cut(interestBetween(5000, l, 5, 60))
		three(t, 5000, l, 5, 60, want, api.OK)
	}
	if !slices.Equal(room, before) {
		t.Error("changed", room)
	}
	m := meter{Units: 3, Rest: 4}
	m.Day(5000, 70000)
	m.Days(5000, 70000, 30)
	if m != (meter{Units: 3, Rest: 4}) {
		t.Error("changed", m)
	}
}

// A real agreement: from a date to another one, whatever days are off between them.
func TestFromDateToDate(t *testing.T) {
	from, _ := calendar.Number(calendar.Date{Year: 2024, Month: 1, Day: 31})
	to, _ := calendar.Number(calendar.Date{Year: 2024, Month: 3, Day: 1})
	if to-from != 30 {
		t.Fatal(from, to)
	}
	three(t, 120000000, resets{{Day: from, Rate: 36000}}, from, to, meter{Units: 360000}, api.OK)
}
