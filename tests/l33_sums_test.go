package tests

import (
	"math"
	"math/rand"
	"slices"
	"sync"
	"testing"

	"loop.example/weatherarchive/impl"
)

// The limits are written out here as the document has them, so that a wrong
// constant of the program is noticed.
const (
	mostTotal = 999999
	mostMany  = 99
)

func noTotals() []int {
	return []int{math.MinInt, math.MinInt + 1, -1 << 62, -1<<32 + 5, -1 << 31, -mostTotal - 2, -mostTotal - 1, mostTotal + 1, mostTotal + 2, 1 << 31, 1<<32 + 5, 1 << 62, math.MaxInt - 1, math.MaxInt}
}

func noManies() []int {
	return []int{math.MinInt, math.MinInt + 1, -1 << 62, -1<<32 + 5, -1 << 31, noValue, -99, -2, -1, mostMany + 1, mostMany + 2, 256 + 5, 999, 1 << 31, 1<<32 + 5, 1 << 62, math.MaxInt - 1, math.MaxInt}
}

// noPlaces has numbers that are no indices of so many sums.
func noPlaces(many int) []int {
	return []int{math.MinInt, math.MinInt + 1, -1 << 62, -1 << 32, -1 << 31, -many, -2, -1, many, many + 1, 99, 1 << 31, 1 << 32, 1 << 62, math.MaxInt - 1, math.MaxInt}
}

// countSums returns so many sums, of which each one has one value more.
func countSums(many int) []impl.Sum {
	sums := make([]impl.Sum, many)
	for i := range sums {
		sums[i] = impl.Sum{Total: i * i * 10, Many: i}
	}
	return sums
}

// sumsBy adds up anew what is before each day.
func sumsBy(list []int) []impl.Sum {
	var sums []impl.Sum
	for days := 0; days <= len(list); days++ {
		sums = append(sums, impl.Sum{Total: totalOf(list[:days]), Many: len(knownOf(list[:days]))})
	}
	return sums
}

func isSum(s impl.Sum) bool {
	return -mostTotal <= s.Total && s.Total <= mostTotal && 0 <= s.Many && s.Many <= mostMany
}

// betweenBy tells by the words of the document what SumBetween returns.
func betweenBy(sums []impl.Sum, from int, to int) (impl.Sum, bool) {
	if len(sums) < 1 || len(sums) > mostDays+1 || from < 0 || to < 0 || from >= len(sums) || to >= len(sums) || from > to || !isSum(sums[from]) || !isSum(sums[to]) {
		return impl.Sum{}, false
	}
	return impl.Sum{Total: sums[to].Total - sums[from].Total, Many: sums[to].Many - sums[from].Many}, true
}

// allDates has the dates of all days of both calendars. They are found by
// walking from the first one on.
var allDates = sync.OnceValue(func() map[int][]impl.Date {
	dates := map[int][]impl.Date{}
	for _, c := range calendarRows() {
		var list []impl.Date
		eachDate(c, func(_ int, d impl.Date) { list = append(list, d) })
		dates[c.calendar] = list
	}
	return dates
})

// monthsBy puts each day of a valid series into its month. It returns nothing
// if a day has no date.
func monthsBy(list []int, first int, c calendarRow) []impl.Month {
	if first < c.first || first > c.last-len(list)+1 {
		return nil
	}
	var months []impl.Month
	for day, value := range list {
		d := allDates()[c.calendar][first+day-c.first]
		place := slices.IndexFunc(months, func(m impl.Month) bool { return m.Year == d.Year && m.Month == d.Month })
		if place < 0 {
			place = len(months)
			months = append(months, impl.Month{Year: d.Year, Month: d.Month})
		}
		if value != noValue {
			months[place].Sum.Total += value
			months[place].Sum.Many++
		}
	}
	return months
}

// monthRow is a month as it is written in tables: with its sum.
func monthRow(year int, month int, total int, many int) impl.Month {
	return impl.Month{Year: year, Month: month, Sum: impl.Sum{Total: total, Many: many}}
}

func mustDay(t *testing.T, year int, month int, day int, calendar int) int {
	t.Helper()
	n, ok := impl.DayOf(impl.Date{Year: year, Month: month, Day: day}, calendar)
	if !ok {
		t.Fatalf("there is no %d-%d-%d of calendar %d", year, month, day, calendar)
	}
	return n
}

// expectSums takes nothing as a want that is a failure.
func expectSums(t *testing.T, list []int, want []impl.Sum) {
	t.Helper()
	if got, ok := impl.SumsOf(list); !slices.Equal(got, want) || ok != (len(want) > 0) {
		t.Fatalf("SumsOf of %v is %v, %v, not %v", list, got, ok, want)
	}
}

func expectBetween(t *testing.T, sums []impl.Sum, from int, to int, want impl.Sum, fine bool) {
	t.Helper()
	if got, ok := impl.SumBetween(sums, from, to); got != want || ok != fine {
		t.Fatalf("SumBetween of %v, %d and %d is %v, %v, not %v, %v", sums, from, to, got, ok, want, fine)
	}
}

func expectNothingBetween(t *testing.T, sums []impl.Sum, from int, to int) {
	t.Helper()
	expectBetween(t, sums, from, to, impl.Sum{}, false)
}

// expectMonths takes nothing as a want that is a failure.
func expectMonths(t *testing.T, list []int, first int, calendar int, want []impl.Month) {
	t.Helper()
	if got, ok := impl.MonthsOf(list, first, calendar); !slices.Equal(got, want) || ok != (len(want) > 0) {
		t.Fatalf("MonthsOf of %v, %d and %d is %v, %v, not %v", list, first, calendar, got, ok, want)
	}
}

func expectSumMean(t *testing.T, s impl.Sum, want int, fine bool) {
	t.Helper()
	if got, ok := impl.SumMean(s); got != want || ok != fine {
		t.Fatalf("SumMean of %v is %d, %v, not %d, %v", s, got, ok, want, fine)
	}
}

func TestPromise115SumExamples(t *testing.T) {
	n := noValue
	for _, row := range []struct {
		list []int
		want []impl.Sum
	}{
		{[]int{4, n, 6}, []impl.Sum{{}, {Total: 4, Many: 1}, {Total: 4, Many: 1}, {Total: 10, Many: 2}}},
		{[]int{5}, []impl.Sum{{}, {Total: 5, Many: 1}}}, {[]int{0}, []impl.Sum{{}, {Total: 0, Many: 1}}}, {[]int{-5}, []impl.Sum{{}, {Total: -5, Many: 1}}},
		{[]int{n}, []impl.Sum{{}, {}}}, {[]int{n, n}, []impl.Sum{{}, {}, {}}},
		{[]int{n, 7}, []impl.Sum{{}, {}, {Total: 7, Many: 1}}}, {[]int{7, n}, []impl.Sum{{}, {Total: 7, Many: 1}, {Total: 7, Many: 1}}},
		{[]int{3, -3}, []impl.Sum{{}, {Total: 3, Many: 1}, {Total: 0, Many: 2}}}, {[]int{-3, 3, -1}, []impl.Sum{{}, {Total: -3, Many: 1}, {Total: 0, Many: 2}, {Total: -1, Many: 3}}},
		{[]int{mostReading, leastReading}, []impl.Sum{{}, {Total: 10999, Many: 1}, {Total: 10000, Many: 2}}},
		{nil, nil}, {[]int{}, nil}, {[]int{11000}, nil}, {[]int{5, -1000}, nil}, {slices.Repeat([]int{5}, mostDays+1), nil},
	} {
		expectSums(t, row.list, row.want)
	}
}

func TestPromise115SumsOfAllSeries(t *testing.T) {
	for _, list := range normalSeries() {
		expectSums(t, list, sumsBy(list))
	}
	for days := 5; days <= 7; days++ {
		for _, list := range smallSeries(days, []int{noValue, 0, 5}) {
			expectSums(t, list, sumsBy(list))
		}
	}
}

func TestPromise115SumsGrowByValues(t *testing.T) {
	for _, list := range normalSeries() {
		sums, ok := impl.SumsOf(list)
		if !ok || len(sums) != len(list)+1 || sums[0] != (impl.Sum{}) {
			t.Fatalf("SumsOf of %v is %v, %v", list, sums, ok)
		}
		for day, value := range list {
			want := sums[day]
			if value != noValue {
				want.Total += value
				want.Many++
			}
			if sums[day+1] != want {
				t.Fatalf("SumsOf of %v is %v", list, sums)
			}
		}
	}
}

func TestPromise115InvalidSeriesHaveNoSums(t *testing.T) {
	for _, list := range invalidSeries() {
		expectSums(t, list, nil)
	}
}

func TestPromise116LastSum(t *testing.T) {
	for _, list := range normalSeries() {
		sums, _ := impl.SumsOf(list)
		if last := sums[len(sums)-1]; last.Total != totalOf(list) || last.Many != impl.SeriesKnown(list) {
			t.Fatalf("SumsOf of %v is %v", list, sums)
		}
	}
	for days := 1; days <= mostDays; days++ {
		for _, value := range []int{leastReading, mostReading} {
			sums, _ := impl.SumsOf(slices.Repeat([]int{value}, days))
			if last := sums[len(sums)-1]; last != (impl.Sum{Total: days * value, Many: days}) {
				t.Fatalf("SumsOf of %d times %d ends with %v", days, value, last)
			}
		}
	}
}

func TestPromise117FirstDaysAndThoseBehind(t *testing.T) {
	for _, list := range normalSeries() {
		sums, _ := impl.SumsOf(list)
		days := len(list)
		for cut := 0; cut <= days; cut++ {
			front, ok := impl.SumBetween(sums, 0, cut)
			back, fine := impl.SumBetween(sums, cut, days)
			if both := (impl.Sum{Total: front.Total + back.Total, Many: front.Many + back.Many}); !ok || !fine || both != sums[days] {
				t.Fatalf("the sums of %v are %v and %v if they are cut at %d", list, front, back, cut)
			}
			expectBetween(t, sums, 0, cut, impl.Sum{Total: totalOf(list[:cut]), Many: len(knownOf(list[:cut]))}, true)
			expectBetween(t, sums, cut, days, impl.Sum{Total: totalOf(list[cut:]), Many: len(knownOf(list[cut:]))}, true)
		}
	}
}

func TestPromise118SumsOfSingleDays(t *testing.T) {
	for _, list := range normalSeries() {
		sums, _ := impl.SumsOf(list)
		for day, value := range list {
			want := impl.Sum{Total: value, Many: 1}
			if value == noValue {
				want = impl.Sum{}
			}
			expectBetween(t, sums, day, day+1, want, true)
		}
	}
}

func TestPromise118SumsOfAllRuns(t *testing.T) {
	for _, list := range [][]int{{4, noValue, 6}, {noValue, 1, noValue, -2, 3}, manyReadings(mostDays, 2), slices.Repeat([]int{noValue}, mostDays), {noValue, 5, 6, noValue, noValue, 7, 8, noValue, 9, 10, 11, noValue}} {
		sums, _ := impl.SumsOf(list)
		for from := -1; from <= len(list)+1; from++ {
			for to := -1; to <= len(list)+1; to++ {
				if from < 0 || to > len(list) || from > to {
					expectNothingBetween(t, sums, from, to)
				} else {
					expectBetween(t, sums, from, to, impl.Sum{Total: totalOf(list[from:to]), Many: len(knownOf(list[from:to]))}, true)
				}
			}
		}
	}
}

func TestPromise119BetweenExamples(t *testing.T) {
	sums := []impl.Sum{{}, {Total: 4, Many: 1}, {Total: 4, Many: 1}, {Total: 10, Many: 2}}
	expectBetween(t, sums, 1, 3, impl.Sum{Total: 6, Many: 1}, true)
	expectBetween(t, sums, 0, 3, impl.Sum{Total: 10, Many: 2}, true)
	expectBetween(t, sums, 1, 2, impl.Sum{}, true)
	expectBetween(t, sums, 0, 0, impl.Sum{}, true)
	expectBetween(t, sums, 3, 3, impl.Sum{}, true)
	expectNothingBetween(t, sums, 3, 1)
	expectNothingBetween(t, sums, 0, 4)
	expectNothingBetween(t, sums, 4, 4)
	expectNothingBetween(t, sums, -1, 3)
	expectNothingBetween(t, sums, -1, -1)
	// The sums need not be those of a series, and so they can also go down.
	sums = []impl.Sum{{Total: 7, Many: 9}, {Total: -5, Many: 3}, {Total: 20, Many: 0}}
	expectBetween(t, sums, 0, 1, impl.Sum{Total: -12, Many: -6}, true)
	expectBetween(t, sums, 1, 2, impl.Sum{Total: 25, Many: -3}, true)
	expectBetween(t, sums, 0, 2, impl.Sum{Total: 13, Many: -9}, true)
	expectBetween(t, []impl.Sum{{Total: 5, Many: 3}}, 0, 0, impl.Sum{}, true)
	expectBetween(t, []impl.Sum{{Total: mostTotal, Many: 0}, {Total: -mostTotal, Many: mostMany}}, 0, 1, impl.Sum{Total: -2 * mostTotal, Many: mostMany}, true)
	expectBetween(t, []impl.Sum{{Total: -mostTotal, Many: mostMany}, {Total: mostTotal, Many: 0}}, 0, 1, impl.Sum{Total: 2 * mostTotal, Many: -mostMany}, true)
}

func TestPromise119SameDayAndOtherDirection(t *testing.T) {
	source := rand.New(rand.NewSource(119))
	for many := 1; many <= mostDays+1; many++ {
		for range 30 {
			sums := make([]impl.Sum, many)
			for i := range sums {
				sums[i] = impl.Sum{Total: source.Intn(2*mostTotal+1) - mostTotal, Many: source.Intn(mostMany + 1)}
			}
			for from := range many {
				for to := range many {
					if from > to {
						expectNothingBetween(t, sums, from, to)
						continue
					}
					want, _ := betweenBy(sums, from, to)
					expectBetween(t, sums, from, to, want, true)
					expectBetween(t, sums, to, to, impl.Sum{}, true)
				}
			}
		}
	}
}

func TestPromise119OtherNumbersOfSumsFail(t *testing.T) {
	for _, many := range []int{0, mostDays + 2, mostDays + 3, 100, 256, 256 + 3, 1<<16 + 3} {
		sums := countSums(many)
		for _, from := range []int{-1, 0, 1, many - 1, many} {
			for _, to := range []int{-1, 0, 1, 12, 13, many - 1, many} {
				expectNothingBetween(t, sums, from, to)
			}
		}
	}
	expectNothingBetween(t, nil, 0, 0)
	for many := 1; many <= mostDays+1; many++ {
		expectBetween(t, countSums(many), 0, many-1, impl.Sum{Total: (many - 1) * (many - 1) * 10, Many: many - 1}, true)
	}
}

func TestPromise119PlacesWithoutSumsFail(t *testing.T) {
	for _, many := range []int{1, 2, 5, mostDays + 1} {
		sums := countSums(many)
		for _, bad := range noPlaces(many) {
			for _, good := range []int{0, many / 2, many - 1} {
				expectNothingBetween(t, sums, bad, good)
				expectNothingBetween(t, sums, good, bad)
			}
			for _, other := range noPlaces(many) {
				expectNothingBetween(t, sums, bad, other)
			}
		}
	}
}

// TestPromise119LimitsOfSums has one wrong sum at a time, which only counts
// where it is asked for.
func TestPromise119LimitsOfSums(t *testing.T) {
	var wrong []impl.Sum
	for _, total := range noTotals() {
		wrong = append(wrong, impl.Sum{Total: total, Many: 5})
	}
	for _, many := range noManies() {
		wrong = append(wrong, impl.Sum{Total: 5, Many: many})
	}
	wrong = append(wrong, impl.Sum{Total: mostTotal + 1, Many: -1}, impl.Sum{Total: math.MinInt, Many: math.MaxInt})
	extreme := []impl.Sum{{Total: mostTotal, Many: mostMany}, {Total: -mostTotal, Many: 0}, {Total: mostTotal, Many: 0}, {Total: -mostTotal, Many: mostMany}}
	for _, with := range append(wrong, extreme...) {
		for _, many := range []int{1, 2, 3, mostDays + 1} {
			for place := range many {
				sums := countSums(many)
				sums[place] = with
				for from := range many {
					for to := range many {
						want, fine := betweenBy(sums, from, to)
						expectBetween(t, sums, from, to, want, fine)
					}
				}
			}
		}
	}
}

func TestPromise120MonthExamples(t *testing.T) {
	n := noValue
	for _, row := range []struct {
		list     []int
		year     int
		month    int
		day      int
		calendar int
		want     []impl.Month
	}{
		{[]int{4, n, 6}, 2001, 1, 31, calNew, []impl.Month{monthRow(2001, 1, 4, 1), monthRow(2001, 2, 6, 1)}},
		{[]int{4, n, 6}, 2001, 1, 30, calNew, []impl.Month{monthRow(2001, 1, 4, 1), monthRow(2001, 2, 6, 1)}},
		{[]int{4, 5, 6}, 2001, 1, 30, calNew, []impl.Month{monthRow(2001, 1, 9, 2), monthRow(2001, 2, 6, 1)}},
		{[]int{4, 5, 6}, 2001, 1, 29, calNew, []impl.Month{monthRow(2001, 1, 15, 3)}},
		{[]int{4, 5, 6}, 2001, 2, 1, calNew, []impl.Month{monthRow(2001, 2, 15, 3)}},
		{[]int{n, 5, 6}, 2001, 1, 31, calNew, []impl.Month{monthRow(2001, 1, 0, 0), monthRow(2001, 2, 11, 2)}},
		{[]int{4, n, n}, 2001, 1, 31, calNew, []impl.Month{monthRow(2001, 1, 4, 1), monthRow(2001, 2, 0, 0)}},
		{[]int{n, n, n}, 2001, 1, 31, calNew, []impl.Month{monthRow(2001, 1, 0, 0), monthRow(2001, 2, 0, 0)}},
		{[]int{n}, 2001, 1, 31, calNew, []impl.Month{monthRow(2001, 1, 0, 0)}},
		{[]int{7}, 2001, 1, 31, calNew, []impl.Month{monthRow(2001, 1, 7, 1)}},
		{[]int{7}, 2001, 1, 1, calNew, []impl.Month{monthRow(2001, 1, 7, 1)}},
		{[]int{7, -7}, 2001, 6, 30, calNew, []impl.Month{monthRow(2001, 6, 7, 1), monthRow(2001, 7, -7, 1)}},
		{[]int{7, -7}, 2001, 6, 29, calNew, []impl.Month{monthRow(2001, 6, 0, 2)}},
		{[]int{1, 2}, 2001, 2, 28, calNew, []impl.Month{monthRow(2001, 2, 1, 1), monthRow(2001, 3, 2, 1)}},
		{[]int{1, 2, 4}, 2004, 2, 28, calNew, []impl.Month{monthRow(2004, 2, 3, 2), monthRow(2004, 3, 4, 1)}},
		{[]int{1, 2, 4}, 2000, 2, 28, calNew, []impl.Month{monthRow(2000, 2, 3, 2), monthRow(2000, 3, 4, 1)}},
		{[]int{1, 2, 4}, 1900, 2, 28, calNew, []impl.Month{monthRow(1900, 2, 1, 1), monthRow(1900, 3, 6, 2)}},
		{[]int{1, 2, 4}, 1900, 2, 28, calOld, []impl.Month{monthRow(1900, 2, 3, 2), monthRow(1900, 3, 4, 1)}},
		{[]int{1, 2, 4}, 1901, 2, 28, calOld, []impl.Month{monthRow(1901, 2, 1, 1), monthRow(1901, 3, 6, 2)}},
		{[]int{1, 2, 4}, 2001, 12, 31, calNew, []impl.Month{monthRow(2001, 12, 1, 1), monthRow(2002, 1, 6, 2)}},
		{[]int{1, 2, 4}, 2001, 12, 30, calOld, []impl.Month{monthRow(2001, 12, 3, 2), monthRow(2002, 1, 4, 1)}},
		{[]int{1, 2, 4, 8, 16, 32, 64, 128, 256, 512, 1024, 2048}, 2003, 2, 17, calNew, []impl.Month{monthRow(2003, 2, 4095, 12)}},
		{[]int{1, 2, 4, 8, 16, 32, 64, 128, 256, 512, 1024, 2048}, 2003, 2, 18, calNew, []impl.Month{monthRow(2003, 2, 2047, 11), monthRow(2003, 3, 2048, 1)}},
		{[]int{1, 2, 4, 8, 16, 32, 64, 128, 256, 512, 1024, 2048}, 2004, 2, 18, calNew, []impl.Month{monthRow(2004, 2, 4095, 12)}},
	} {
		expectMonths(t, row.list, mustDay(t, row.year, row.month, row.day, row.calendar), row.calendar, row.want)
	}
}

// TestPromise120DaysThatOneCalendarLeavesOut has the same days in both
// calendars: at the times when countries turned from the old one to the new
// one, leaving out days, and in years that are long in the old one alone.
func TestPromise120DaysThatOneCalendarLeavesOut(t *testing.T) {
	list := []int{1, 2, 4, 8, 16, 32, 64, 128, 256, 512, 1024, 2048}
	turned := mustDay(t, 1752, 9, 3, calOld) // 14 September of the new one
	expectMonths(t, list, turned, calOld, []impl.Month{monthRow(1752, 9, 4095, 12)})
	expectMonths(t, list, turned, calNew, []impl.Month{monthRow(1752, 9, 4095, 12)})
	expectMonths(t, list, turned+6, calNew, []impl.Month{monthRow(1752, 9, 2047, 11), monthRow(1752, 10, 2048, 1)})
	turned = mustDay(t, 1582, 10, 5, calOld) // 15 October of the new one
	expectMonths(t, list, turned, calOld, []impl.Month{monthRow(1582, 10, 4095, 12)})
	expectMonths(t, list, turned, calNew, []impl.Month{monthRow(1582, 10, 4095, 12)})
	expectMonths(t, list, turned-10, calNew, []impl.Month{monthRow(1582, 10, 4095, 12)})
	expectMonths(t, list, turned-10, calOld, []impl.Month{monthRow(1582, 9, 63, 6), monthRow(1582, 10, 4032, 6)})
	leap := mustDay(t, 1900, 2, 29, calOld) // 13 March of the new one
	expectMonths(t, list[:2], leap, calOld, []impl.Month{monthRow(1900, 2, 1, 1), monthRow(1900, 3, 2, 1)})
	expectMonths(t, list[:2], leap, calNew, []impl.Month{monthRow(1900, 3, 3, 2)})
}

func TestPromise120SumsOfMonths(t *testing.T) {
	source := rand.New(rand.NewSource(120))
	for _, c := range calendarRows() {
		for _, list := range normalSeries() {
			first := c.first + source.Intn(c.last-c.first+1-len(list)+1)
			months, ok := impl.MonthsOf(list, first, c.calendar)
			if !ok {
				t.Fatalf("MonthsOf of %v, %d and %d fails", list, first, c.calendar)
			}
			all := impl.Sum{}
			for i, m := range months {
				all.Total += m.Sum.Total
				all.Many += m.Sum.Many
				if i > 0 && m.Year*12+m.Month != months[i-1].Year*12+months[i-1].Month+1 {
					t.Fatalf("MonthsOf of %v, %d and %d is %v", list, first, c.calendar, months)
				}
			}
			if all != (impl.Sum{Total: totalOf(list), Many: len(knownOf(list))}) {
				t.Fatalf("MonthsOf of %v, %d and %d is %v", list, first, c.calendar, months)
			}
			expectMonths(t, list, first, c.calendar, monthsBy(list, first, c))
		}
	}
}

func TestPromise120InvalidSeriesHaveNoMonths(t *testing.T) {
	for _, list := range invalidSeries() {
		for _, c := range calendarRows() {
			expectMonths(t, list, 700000, c.calendar, nil)
			expectMonths(t, list, c.first, c.calendar, nil)
		}
		expectMonths(t, list, math.MaxInt, 0, nil)
	}
}

func TestPromise120CalendarsThatDoNotExistHaveNoMonths(t *testing.T) {
	for _, calendar := range noCalendars() {
		for _, list := range [][]int{{5}, {4, noValue, 6}, {noValue}, manyReadings(mostDays, 1)} {
			for _, first := range []int{0, -2, 700000, 803532, math.MaxInt} {
				expectMonths(t, list, first, calendar, nil)
			}
		}
	}
}

// TestPromise121FirstAndLastMonths goes through many days of both calendars,
// and through all of some years.
func TestPromise121FirstAndLastMonths(t *testing.T) {
	for _, c := range calendarRows() {
		dates := allDates()[c.calendar]
		for first := c.first; first <= c.last; first++ {
			year := dates[first-c.first].Year
			if first%37 != 0 && !slices.Contains([]int{1, 4, 100, 400, 1582, 1700, 1752, 1900, 2000, 2199, lastYear}, year) {
				continue
			}
			list := manyReadings(1+(first-c.first)%mostDays, first-c.first)
			want := monthsBy(list, first, c)
			expectMonths(t, list, first, c.calendar, want)
			if len(want) == 0 {
				continue
			}
			from, to := dates[first-c.first], dates[first-c.first+len(list)-1]
			last := want[len(want)-1]
			if len(want) > 2 || want[0].Year != from.Year || want[0].Month != from.Month || last.Year != to.Year || last.Month != to.Month {
				t.Fatalf("the months of %d days from %d on are %v", len(list), first, want)
			}
		}
	}
}

// TestPromise121FirstAndLastDays also has series that go beyond them.
func TestPromise121FirstAndLastDays(t *testing.T) {
	for _, c := range calendarRows() {
		for days := 1; days <= mostDays; days++ {
			for _, list := range [][]int{manyReadings(days, 5), slices.Repeat([]int{noValue}, days)} {
				for off := -mostDays - 2; off <= mostDays+2; off++ {
					for _, first := range []int{c.first + off, c.last + off} {
						expectMonths(t, list, first, c.calendar, monthsBy(list, first, c))
					}
				}
				expectMonths(t, list, c.first-1, c.calendar, nil)
				expectMonths(t, list, c.last-days+2, c.calendar, nil)
				expectMonths(t, list, c.last+1, c.calendar, nil)
				for _, first := range noDays(c) {
					expectMonths(t, list, first, c.calendar, nil)
				}
				for near := range 2 * mostDays { // the days behind math.MaxInt would be the least ones
					expectMonths(t, list, math.MaxInt-near, c.calendar, nil)
					expectMonths(t, list, math.MinInt+near, c.calendar, nil)
				}
			}
		}
	}
	expectMonths(t, []int{7}, 0, calNew, []impl.Month{monthRow(1, 1, 7, 1)})
	expectMonths(t, []int{7}, -2, calOld, []impl.Month{monthRow(1, 1, 7, 1)})
	expectMonths(t, []int{7, 8}, 803531, calNew, []impl.Month{monthRow(2200, 12, 15, 2)})
	expectMonths(t, []int{7, 8}, 803546, calOld, []impl.Month{monthRow(2200, 12, 15, 2)})
}

func TestPromise122FirstMonthEndsWithItsLastDay(t *testing.T) {
	for _, c := range calendarRows() {
		for _, date := range [][2]int{{2001, 1}, {2001, 2}, {2000, 2}, {1900, 2}, {2001, 4}, {1752, 9}, {2001, 12}, {1, 1}} {
			end := mustDay(t, date[0], date[1], daysOf(date[0], date[1], c.calendar), c.calendar)
			for days := 2; days <= mostDays; days++ {
				for inside := 1; inside <= days; inside++ { // the last day of the month is the last one inside
					for _, list := range [][]int{manyReadings(days, inside), randomSeries(days, rand.New(rand.NewSource(int64(days*20+inside))))} {
						first := end - inside + 1
						months, ok := impl.MonthsOf(list, first, c.calendar)
						want := monthRow(date[0], date[1], totalOf(list[:inside]), len(knownOf(list[:inside])))
						if !ok || months[0] != want || len(months) != 1+min(days-inside, 1) {
							t.Fatalf("MonthsOf of %v, %d and %d is %v, %v, but the first month is %v", list, first, c.calendar, months, ok, want)
						}
					}
				}
			}
		}
	}
}

func TestPromise123MeanOfLastSum(t *testing.T) {
	for _, list := range normalSeries() {
		sums, _ := impl.SumsOf(list)
		mean, ok := impl.MeanOf(list, len(list))
		expectSumMean(t, sums[len(list)], mean, ok)
	}
}

func TestPromise124MeanExamples(t *testing.T) {
	for _, row := range []struct {
		total int
		many  int
		want  int
	}{
		{10, 2, 5}, {5, 2, 2}, {7, 2, 4}, {1, 2, 0}, {3, 2, 2}, {-1, 2, 0}, {-3, 2, -2}, {-5, 2, -2}, {-7, 2, -4}, {0, 1, 0}, {0, 99, 0},
		{18, 12, 2}, {6, 12, 0}, {-6, 12, 0}, {-18, 12, -2}, {7, 12, 1}, {-7, 12, -1}, {2, 4, 0}, {6, 4, 2}, {10, 4, 2}, {14, 4, 4},
		{mostTotal, 1, mostTotal}, {-mostTotal, 1, -mostTotal}, {mostTotal, lastDivisor, 1001}, {-mostTotal, lastDivisor, -1001}, {100, 100, 1}, {5, 999, 0},
	} {
		expectSumMean(t, impl.Sum{Total: row.total, Many: row.many}, row.want, true)
	}
}

func TestPromise124RoundOfSums(t *testing.T) {
	for many := -3; many <= lastDivisor+3; many++ {
		for _, total := range []int{-mostTotal - 1, -mostTotal, -500000, -1001, -6, -5, -4, -3, -2, -1, 0, 1, 2, 3, 4, 5, 6, 30, 999, 123456, mostTotal, mostTotal + 1} {
			want, ok := impl.RoundOf(total, many)
			expectSumMean(t, impl.Sum{Total: total, Many: many}, want, ok)
			if fine := 1 <= many && many <= lastDivisor && -mostTotal <= total && total <= mostTotal; ok != fine || ok && !isNearest(total, many, want) {
				t.Fatalf("RoundOf of %d and %d is %d, %v", total, many, want, ok)
			}
		}
	}
}

func TestPromise124SumsThatHaveNoMean(t *testing.T) {
	for _, many := range []int{math.MinInt, math.MinInt + 1, -1<<32 + 5, -99, -2, -1, 0, lastDivisor + 1, lastDivisor + 2, 1 << 31, 1<<32 + 5, math.MaxInt} {
		for _, total := range []int{0, 1, -1, 10, mostTotal, -mostTotal, math.MinInt, math.MaxInt} {
			expectSumMean(t, impl.Sum{Total: total, Many: many}, 0, false)
		}
	}
	for _, total := range noTotals() {
		for _, many := range []int{1, 2, 12, 99, lastDivisor} {
			expectSumMean(t, impl.Sum{Total: total, Many: many}, 0, false)
		}
	}
	expectSumMean(t, impl.Sum{}, 0, false)
}

// TestSumsKeepArguments has lists that are parts of longer ones, so that what
// is behind them could be overwritten, or taken for a part of them.
func TestSumsKeepArguments(t *testing.T) {
	for many := 0; many <= mostDays+2; many++ {
		list := []int{9, noValue, 8, 30, 31, noValue, 7, 7, 50, -3, 6, 60, 5, 900, -900}
		sums := countSums(mostDays + 5)
		oldList, oldSums := slices.Clone(list), slices.Clone(sums)
		for range 2 {
			got, ok := impl.SumsOf(list[:many])
			months, fine := impl.MonthsOf(list[:many], 700000, calNew)
			_, between := impl.SumBetween(sums[:many], 0, many-1)
			if valid := 1 <= many && many <= mostDays; ok != valid || fine != valid || between != (1 <= many && many <= mostDays+1) {
				t.Errorf("the functions return %v, %v and %v for %d days", got, months, between, many)
			}
		}
		if !slices.Equal(list, oldList) || !slices.Equal(sums, oldSums) {
			t.Errorf("%v and %v have become %v and %v", oldList, oldSums, list, sums)
		}
	}
}

func TestSumsThatAreReturnedShareNoMemory(t *testing.T) {
	c := calendarRows()[0]
	first := mustDay(t, 2001, 1, 29, calNew)
	for days := 1; days <= mostDays; days++ {
		longer := manyReadings(mostDays+4, days)
		list := longer[:days]
		old := slices.Clone(longer)
		keptSums, _ := impl.SumsOf(list)
		keptMonths, _ := impl.MonthsOf(list, first, calNew)
		for range 2 {
			sums, _ := impl.SumsOf(list)
			months, _ := impl.MonthsOf(list, first, calNew)
			if !slices.Equal(sums, sumsBy(list)) || !slices.Equal(months, monthsBy(list, first, c)) {
				t.Fatalf("the results are %v and %v", sums, months)
			}
			overwrite(sums, impl.Sum{Total: 66, Many: 66})
			overwrite(months, monthRow(66, 66, 66, 66))
			if !slices.Equal(longer, old) || !slices.Equal(keptSums, sumsBy(list)) || !slices.Equal(keptMonths, monthsBy(list, first, c)) {
				t.Fatalf("%v has become %v, and the results %v and %v", old, longer, keptSums, keptMonths)
			}
		}
	}
}
