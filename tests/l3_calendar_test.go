package tests

import (
	"math"
	"slices"
	"testing"
	"time"

	"loop.example/weatherarchive/impl"
)

// The limits are written out here as the document has them, so that a wrong
// constant of the program is noticed.
const (
	calNew   = 1
	calOld   = 2
	lastYear = 2200
)

// calendarRow has the days of the first and of the last date of a calendar.
type calendarRow struct {
	calendar int
	first    int
	last     int
}

func calendarRows() []calendarRow {
	return []calendarRow{{calNew, 0, 803532}, {calOld, -2, 803547}}
}

func noCalendars() []int {
	return []int{math.MinInt, -1 << 32, -2, -1, 0, 3, 4, 256 + 1, 256 + 2, 1<<32 + 1, 1<<32 + 2, math.MaxInt}
}

// noYears has numbers that are no years, among them multiples of 4, of 100
// and of 400, and some that become years if they exceed 16 or 32 bits.
func noYears() []int {
	return []int{
		math.MinInt, math.MinInt + 4, -1<<32 + 2000, -1<<16 + 2000, -2000, -400, -100, -4, -1, 0,
		lastYear + 1, lastYear + 4, 2300, 2400, 4000, 9999, 1<<16 + 2000, 1<<32 + 2000, math.MaxInt - 3, math.MaxInt,
	}
}

// noDays has days of which a calendar has no date.
func noDays(c calendarRow) []int {
	return []int{
		math.MinInt, math.MinInt + 1, math.MinInt + 800, -1 << 62, -1<<32 + 5, -1 << 31, -803532, -366, -365, -100, c.first - 2, c.first - 1,
		c.last + 1, c.last + 2, c.last + 16, c.last + 365, 1 << 31, 1<<32 + 5, 1 << 62, math.MaxInt - 800, math.MaxInt - 1, math.MaxInt,
	}
}

// dateRow is a date of a calendar.
type dateRow struct {
	calendar int
	date     impl.Date
}

// invalidDates has dates with a year, a month or a day out of its limits, and
// dates of calendars that do not exist.
func invalidDates() []dateRow {
	var list []dateRow
	for _, calendar := range []int{calNew, calOld} {
		for _, year := range noYears() {
			list = append(list, dateRow{calendar, impl.Date{Year: year, Month: 1, Day: 1}}, dateRow{calendar, impl.Date{Year: year, Month: 12, Day: 31}}, dateRow{calendar, impl.Date{Year: year, Month: 2, Day: 29}})
		}
		for _, month := range []int{math.MinInt, -12, -1, 0, 13, 14, 24, 256 + 1, 1<<32 + 1, math.MaxInt} {
			list = append(list, dateRow{calendar, impl.Date{Year: 1752, Month: month, Day: 1}}, dateRow{calendar, impl.Date{Year: 1, Month: month, Day: 28}})
		}
		for _, day := range []int{math.MinInt, -31, -1, 0, 32, 99, 256 + 1, 1<<32 + 1, math.MaxInt} {
			list = append(list, dateRow{calendar, impl.Date{Year: 1752, Month: 1, Day: day}}, dateRow{calendar, impl.Date{Year: 2000, Month: 2, Day: day}})
		}
		for month := 1; month <= 12; month++ {
			list = append(list, dateRow{calendar, impl.Date{Year: 2001, Month: month, Day: daysOf(2001, month, calendar) + 1}}, dateRow{calendar, impl.Date{Year: 2004, Month: month, Day: daysOf(2004, month, calendar) + 1}})
		}
		list = append(list, dateRow{calendar, impl.Date{}})
	}
	for _, calendar := range noCalendars() {
		list = append(list, dateRow{calendar, impl.Date{Year: 1752, Month: 9, Day: 14}}, dateRow{calendar, impl.Date{Year: 1, Month: 1, Day: 1}}, dateRow{calendar, impl.Date{Year: 2000, Month: 2, Day: 29}})
	}
	return append(list,
		dateRow{calNew, impl.Date{Year: 100, Month: 2, Day: 29}}, dateRow{calNew, impl.Date{Year: 1700, Month: 2, Day: 29}},
		dateRow{calNew, impl.Date{Year: 1900, Month: 2, Day: 29}}, dateRow{calNew, impl.Date{Year: lastYear, Month: 2, Day: 29}},
		dateRow{calNew, impl.Date{Year: 1, Month: 2, Day: 29}}, dateRow{calOld, impl.Date{Year: 1, Month: 2, Day: 29}},
	)
}

// daysOf tells by other means than the program how many days a month has.
func daysOf(year int, month int, calendar int) int {
	switch {
	case month == 4 || month == 6 || month == 9 || month == 11:
		return 30
	case month != 2:
		return 31
	case calendar == calOld && year%4 != 0:
		return 28
	case calendar == calNew && time.Date(year, 12, 31, 0, 0, 0, 0, time.UTC).YearDay() == 365:
		return 28
	}
	return 29
}

// eachDate walks through all dates of a calendar and their days, one by one.
func eachDate(c calendarRow, visit func(day int, d impl.Date)) {
	day := c.first
	for year := 1; year <= lastYear; year++ {
		for month := 1; month <= 12; month++ {
			for n := 1; n <= daysOf(year, month, c.calendar); n++ {
				visit(day, impl.Date{Year: year, Month: month, Day: n})
				day++
			}
		}
	}
}

// expectDayOf checks what DayOf returns if it must succeed with want, or,
// without fine, fail.
func expectDayOf(t *testing.T, d impl.Date, calendar int, want int, fine bool) {
	t.Helper()
	if got, ok := impl.DayOf(d, calendar); got != want || ok != fine {
		t.Fatalf("DayOf of %v in calendar %d is %d, %v, not %d, %v", d, calendar, got, ok, want, fine)
	}
}

func expectDateOf(t *testing.T, day int, calendar int, want impl.Date, fine bool) {
	t.Helper()
	if got, ok := impl.DateOf(day, calendar); got != want || ok != fine {
		t.Fatalf("DateOf of %d in calendar %d is %v, %v, not %v, %v", day, calendar, got, ok, want, fine)
	}
}

func expectTurn(t *testing.T, d impl.Date, calendar int, want impl.Date, fine bool) {
	t.Helper()
	if got, ok := impl.DateTurn(d, calendar); got != want || ok != fine {
		t.Fatalf("DateTurn of %v in calendar %d is %v, %v, not %v, %v", d, calendar, got, ok, want, fine)
	}
}

func TestConstantsOfTheCalendar(t *testing.T) {
	got := [3]int{impl.YearMax, impl.CalendarNew, impl.CalendarOld}
	if want := [3]int{2200, 1, 2}; got != want {
		t.Errorf("the constants are %v, not %v", got, want)
	}
}

func TestPromise15Examples(t *testing.T) {
	for _, row := range []struct {
		calendar int
		date     impl.Date
		day      int
	}{
		{calNew, impl.Date{Year: 1, Month: 1, Day: 1}, 0},
		{calNew, impl.Date{Year: 1, Month: 12, Day: 31}, 364},
		{calNew, impl.Date{Year: 2, Month: 1, Day: 1}, 365},
		{calNew, impl.Date{Year: 4, Month: 2, Day: 29}, 1154},
		{calNew, impl.Date{Year: 4, Month: 12, Day: 31}, 1460},
		{calNew, impl.Date{Year: 100, Month: 3, Day: 1}, 36218},
		{calNew, impl.Date{Year: 400, Month: 2, Day: 29}, 145790},
		{calNew, impl.Date{Year: 1582, Month: 10, Day: 15}, 577735},
		{calNew, impl.Date{Year: 1752, Month: 9, Day: 14}, 639796},
		{calNew, impl.Date{Year: 1900, Month: 2, Day: 28}, 693653},
		{calNew, impl.Date{Year: 1900, Month: 3, Day: 1}, 693654},
		{calNew, impl.Date{Year: 1970, Month: 1, Day: 1}, 719162},
		{calNew, impl.Date{Year: 2000, Month: 2, Day: 29}, 730178},
		{calNew, impl.Date{Year: 2200, Month: 12, Day: 31}, 803532},
		{calOld, impl.Date{Year: 1, Month: 1, Day: 1}, -2},
		{calOld, impl.Date{Year: 1, Month: 1, Day: 3}, 0},
		{calOld, impl.Date{Year: 1, Month: 12, Day: 31}, 362},
		{calOld, impl.Date{Year: 4, Month: 12, Day: 31}, 1458},
		{calOld, impl.Date{Year: 100, Month: 2, Day: 29}, 36216},
		{calOld, impl.Date{Year: 100, Month: 3, Day: 1}, 36217},
		{calOld, impl.Date{Year: 1582, Month: 10, Day: 4}, 577734},
		{calOld, impl.Date{Year: 1752, Month: 9, Day: 3}, 639796},
		{calOld, impl.Date{Year: 1900, Month: 2, Day: 29}, 693666},
		{calOld, impl.Date{Year: 2200, Month: 12, Day: 31}, 803547},
	} {
		expectDayOf(t, row.date, row.calendar, row.day, true)
		expectDateOf(t, row.day, row.calendar, row.date, true)
	}
}

func TestPromise15EachDateHasItsDay(t *testing.T) {
	for _, c := range calendarRows() {
		eachDate(c, func(day int, d impl.Date) {
			expectDayOf(t, d, c.calendar, day, true)
			expectDateOf(t, day, c.calendar, d, true)
		})
	}
}

// julianDay is the count of days that astronomers use, of a date of the old
// calendar. The day 0 of the program is 1721426 in it.
func julianDay(d impl.Date) int {
	late := (14 - d.Month) / 12
	year := d.Year + 4800 - late
	month := d.Month + 12*late - 3
	return d.Day + (153*month+2)/5 + 365*year + year/4 - 32083
}

func TestPromise15OldDaysAreThoseOfAstronomers(t *testing.T) {
	eachDate(calendarRows()[1], func(_ int, d impl.Date) {
		expectDayOf(t, d, calOld, julianDay(d)-1721426, true)
	})
}

func TestPromise15NewDaysAreThoseOfGo(t *testing.T) {
	start := time.Date(1, 1, 1, 0, 0, 0, 0, time.UTC)
	for day := 0; day <= 803532; day++ {
		other := start.AddDate(0, 0, day)
		expectDayOf(t, impl.Date{Year: other.Year(), Month: int(other.Month()), Day: other.Day()}, calNew, day, true)
	}
}

func TestPromise15InvalidDatesHaveNoDay(t *testing.T) {
	for _, row := range invalidDates() {
		expectDayOf(t, row.date, row.calendar, 0, false)
	}
}

func TestPromise16DatesOfDays(t *testing.T) {
	for _, c := range calendarRows() {
		for day := c.first; day <= c.last; day++ {
			d, ok := impl.DateOf(day, c.calendar)
			if !ok || !impl.DateValid(d, c.calendar) {
				t.Fatalf("DateOf of %d in calendar %d is %v, %v", day, c.calendar, d, ok)
			}
			expectDayOf(t, d, c.calendar, day, true)
		}
	}
}

func TestPromise16EndsOfTheCalendars(t *testing.T) {
	for _, c := range calendarRows() {
		expectDateOf(t, c.first-1, c.calendar, impl.Date{}, false)
		expectDateOf(t, c.first, c.calendar, impl.Date{Year: 1, Month: 1, Day: 1}, true)
		expectDateOf(t, c.last, c.calendar, impl.Date{Year: lastYear, Month: 12, Day: 31}, true)
		expectDateOf(t, c.last+1, c.calendar, impl.Date{}, false)
	}
}

func TestPromise16OtherDaysHaveNoDate(t *testing.T) {
	for _, c := range calendarRows() {
		for _, day := range noDays(c) {
			expectDateOf(t, day, c.calendar, impl.Date{}, false)
		}
	}
	for _, calendar := range noCalendars() {
		for _, day := range []int{math.MinInt, -3, -2, -1, 0, 1, 639796, 803532, 803547, 803548, math.MaxInt} {
			expectDateOf(t, day, calendar, impl.Date{}, false)
		}
	}
}

func TestPromise16DaysThatOneCalendarHas(t *testing.T) {
	for _, day := range []int{-2, -1} {
		expectDateOf(t, day, calNew, impl.Date{}, false)
		expectDateOf(t, day, calOld, impl.Date{Year: 1, Month: 1, Day: 3 + day}, true)
	}
	for day := 803533; day <= 803547; day++ {
		expectDateOf(t, day, calNew, impl.Date{}, false)
		expectDateOf(t, day, calOld, impl.Date{Year: lastYear, Month: 12, Day: day - 803516}, true)
	}
}

// isNext tells whether b can be the date of the day behind that of a.
func isNext(a impl.Date, b impl.Date) bool {
	switch b {
	case impl.Date{Year: a.Year, Month: a.Month, Day: a.Day + 1}:
		return true
	case impl.Date{Year: a.Year, Month: a.Month + 1, Day: 1}:
		return a.Month < 12 && a.Day >= 28
	case impl.Date{Year: a.Year + 1, Month: 1, Day: 1}:
		return a.Month == 12 && a.Day == 31
	}
	return false
}

func TestPromise17NeighbouringDays(t *testing.T) {
	for _, c := range calendarRows() {
		before, _ := impl.DateOf(c.first, c.calendar)
		for day := c.first + 1; day <= c.last; day++ {
			d, ok := impl.DateOf(day, c.calendar)
			if !ok || !isNext(before, d) {
				t.Fatalf("%v is followed by %v, %v in calendar %d", before, d, ok, c.calendar)
			}
			before = d
		}
	}
}

func TestPromise17EndsOfFebruary(t *testing.T) {
	for _, row := range []struct {
		year int
		new  bool
		old  bool
	}{
		{1, false, false}, {2, false, false}, {4, true, true}, {100, false, true}, {200, false, true}, {400, true, true},
		{1582, false, false}, {1600, true, true}, {1700, false, true}, {1752, true, true}, {1800, false, true}, {1900, false, true},
		{1996, true, true}, {1999, false, false}, {2000, true, true}, {2001, false, false}, {2100, false, true}, {2196, true, true}, {2200, false, true},
	} {
		for _, c := range []struct {
			calendar int
			long     bool
		}{{calNew, row.new}, {calOld, row.old}} {
			day, ok := impl.DayOf(impl.Date{Year: row.year, Month: 2, Day: 28}, c.calendar)
			if !ok {
				t.Fatalf("there is no 28 February %d in calendar %d", row.year, c.calendar)
			}
			if c.long {
				day++
				expectDateOf(t, day, c.calendar, impl.Date{Year: row.year, Month: 2, Day: 29}, true)
			}
			expectDateOf(t, day+1, c.calendar, impl.Date{Year: row.year, Month: 3, Day: 1}, true)
		}
	}
}

func TestPromise18DaysOfYears(t *testing.T) {
	for _, calendar := range []int{calNew, calOld} {
		for year := 1; year <= lastYear; year++ {
			first, ok := impl.DayOf(impl.Date{Year: year, Month: 1, Day: 1}, calendar)
			last, fine := impl.DayOf(impl.Date{Year: year, Month: 12, Day: 31}, calendar)
			want := 365
			if impl.YearLong(year, calendar) {
				want = 366
			}
			if days := last - first + 1; !ok || !fine || days != want {
				t.Fatalf("the year %d has %d days in calendar %d, not %d", year, days, calendar, want)
			}
		}
	}
}

func TestPromise18LongYears(t *testing.T) {
	for _, year := range []int{4, 8, 400, 800, 1200, 1584, 1600, 1752, 1904, 1996, 2000, 2024, 2196} {
		for _, calendar := range []int{calNew, calOld} {
			if !impl.YearLong(year, calendar) {
				t.Errorf("the year %d is not long in calendar %d", year, calendar)
			}
		}
	}
	for _, year := range []int{1, 2, 3, 5, 99, 101, 150, 401, 1582, 1899, 1901, 1970, 1999, 2002, 2023, 2199} {
		for _, calendar := range []int{calNew, calOld} {
			if impl.YearLong(year, calendar) {
				t.Errorf("the year %d is long in calendar %d", year, calendar)
			}
		}
	}
}

func TestPromise19LongYearsHave29February(t *testing.T) {
	years := noYears()
	for year := -8; year <= 2408; year++ {
		years = append(years, year)
	}
	for _, calendar := range append(noCalendars(), calNew, calOld) {
		for _, year := range years {
			long := impl.YearLong(year, calendar)
			if valid := impl.DateValid(impl.Date{Year: year, Month: 2, Day: 29}, calendar); valid != long {
				t.Fatalf("YearLong of %d in calendar %d is %v, and 29 February is valid: %v", year, calendar, long, valid)
			}
		}
	}
}

func TestPromise19NoOtherYearsAreLong(t *testing.T) {
	for _, calendar := range []int{calNew, calOld} {
		for _, year := range noYears() {
			if impl.YearLong(year, calendar) {
				t.Errorf("the year %d is long in calendar %d", year, calendar)
			}
		}
	}
	for _, calendar := range noCalendars() {
		for _, year := range []int{4, 1752, 1900, 2000, lastYear} {
			if impl.YearLong(year, calendar) {
				t.Errorf("the year %d is long in calendar %d", year, calendar)
			}
		}
	}
}

func TestPromise20YearsThatDiffer(t *testing.T) {
	var differ []int
	for year := -400; year <= 2800; year++ {
		long, old := impl.YearLong(year, calNew), impl.YearLong(year, calOld)
		if long && !old {
			t.Errorf("the year %d is long in the new calendar alone", year)
		}
		if long != old {
			differ = append(differ, year)
		}
	}
	want := []int{100, 200, 300, 500, 600, 700, 900, 1000, 1100, 1300, 1400, 1500, 1700, 1800, 1900, 2100, 2200}
	if !slices.Equal(differ, want) {
		t.Errorf("the calendars differ in the years %v, not %v", differ, want)
	}
}

func TestPromise21DaysOfMonths(t *testing.T) {
	for _, calendar := range []int{calNew, calOld} {
		for year := 1; year <= lastYear; year++ {
			for month := 1; month <= 12; month++ {
				last := daysOf(year, month, calendar)
				for day := -1; day <= 33; day++ {
					d := impl.Date{Year: year, Month: month, Day: day}
					if valid := impl.DateValid(d, calendar); valid != (1 <= day && day <= last) {
						t.Fatalf("%v is valid in calendar %d: %v", d, calendar, valid)
					}
				}
			}
		}
	}
}

func TestPromise21InvalidDates(t *testing.T) {
	for _, row := range invalidDates() {
		if impl.DateValid(row.date, row.calendar) {
			t.Errorf("%v is valid in calendar %d", row.date, row.calendar)
		}
	}
}

func TestPromise22TurnExamples(t *testing.T) {
	for _, row := range []struct{ new, old impl.Date }{
		{impl.Date{Year: 1, Month: 1, Day: 1}, impl.Date{Year: 1, Month: 1, Day: 3}},
		{impl.Date{Year: 1, Month: 12, Day: 29}, impl.Date{Year: 1, Month: 12, Day: 31}},
		{impl.Date{Year: 1, Month: 12, Day: 30}, impl.Date{Year: 2, Month: 1, Day: 1}},
		{impl.Date{Year: 100, Month: 2, Day: 27}, impl.Date{Year: 100, Month: 2, Day: 29}},
		{impl.Date{Year: 100, Month: 2, Day: 28}, impl.Date{Year: 100, Month: 3, Day: 1}},
		{impl.Date{Year: 250, Month: 7, Day: 9}, impl.Date{Year: 250, Month: 7, Day: 9}},
		{impl.Date{Year: 1582, Month: 10, Day: 15}, impl.Date{Year: 1582, Month: 10, Day: 5}},
		{impl.Date{Year: 1584, Month: 1, Day: 4}, impl.Date{Year: 1583, Month: 12, Day: 25}},
		{impl.Date{Year: 1752, Month: 9, Day: 14}, impl.Date{Year: 1752, Month: 9, Day: 3}},
		{impl.Date{Year: 1900, Month: 3, Day: 13}, impl.Date{Year: 1900, Month: 2, Day: 29}},
		{impl.Date{Year: 1917, Month: 11, Day: 7}, impl.Date{Year: 1917, Month: 10, Day: 25}},
		{impl.Date{Year: 2000, Month: 2, Day: 29}, impl.Date{Year: 2000, Month: 2, Day: 16}},
		{impl.Date{Year: 2200, Month: 12, Day: 31}, impl.Date{Year: 2200, Month: 12, Day: 16}},
	} {
		expectTurn(t, row.new, calNew, row.old, true)
		expectTurn(t, row.old, calOld, row.new, true)
	}
}

func TestPromise22TurnKeepsTheDay(t *testing.T) {
	rows := calendarRows()
	for i, c := range rows {
		other := rows[1-i]
		for day := c.first; day <= c.last; day++ {
			d, _ := impl.DateOf(day, c.calendar)
			turned, ok := impl.DateTurn(d, c.calendar)
			if !ok {
				if other.first <= day && day <= other.last || turned != (impl.Date{}) {
					t.Fatalf("DateTurn of %v in calendar %d is %v, %v", d, c.calendar, turned, ok)
				}
				continue
			}
			expectDayOf(t, turned, other.calendar, day, true)
			expectTurn(t, turned, other.calendar, d, true)
		}
	}
}

func TestPromise22DaysOfOneCalendarAlone(t *testing.T) {
	for day := 1; day <= 2; day++ {
		expectTurn(t, impl.Date{Year: 1, Month: 1, Day: day}, calOld, impl.Date{}, false)
	}
	for day := 17; day <= 31; day++ {
		expectTurn(t, impl.Date{Year: lastYear, Month: 12, Day: day}, calOld, impl.Date{}, false)
	}
}

func TestPromise22InvalidDatesDoNotTurn(t *testing.T) {
	for _, row := range invalidDates() {
		expectTurn(t, row.date, row.calendar, impl.Date{}, false)
	}
}

// TestPromise23Drift leaves out the five dates that the new calendar does not
// have, and the fifteen that are behind its end.
func TestPromise23Drift(t *testing.T) {
	compared := 0
	for year := 1583; year <= lastYear; year++ {
		for month := 1; month <= 12; month++ {
			for n := 1; n <= daysOf(year, month, calOld); n++ {
				d := impl.Date{Year: year, Month: month, Day: n}
				turned, ok := impl.DateTurn(d, calOld)
				same, fine := impl.DayOf(d, calNew)
				if !ok || !fine {
					continue
				}
				day, _ := impl.DayOf(turned, calNew)
				if later := day - same; later < 10 || later > 16 {
					t.Fatalf("%v of the old calendar is %v, %d days later", d, turned, later)
				}
				compared++
			}
		}
	}
	if compared != 225725-5-15 {
		t.Errorf("%d dates were compared", compared)
	}
}

// driftOf tells how many days later a date of the old calendar is than the
// same date of the new one.
func driftOf(t *testing.T, d impl.Date) int {
	t.Helper()
	old, ok := impl.DayOf(d, calOld)
	same, fine := impl.DayOf(d, calNew)
	if !ok || !fine {
		t.Fatalf("%v has the days %d, %v and %d, %v", d, old, ok, same, fine)
	}
	return old - same
}

func TestPromise23DriftOfCenturies(t *testing.T) {
	drift := []int{-2, -1, 0, 1, 1, 2, 3, 4, 4, 5, 6, 7, 7, 8, 9, 10, 10, 11, 12, 13, 13, 14, 15}
	for century := 1; century < len(drift); century++ {
		year := 100 * century
		for _, row := range []struct {
			date impl.Date
			want int
		}{
			{impl.Date{Year: year - 99, Month: 3, Day: 1}, drift[century-1]},
			{impl.Date{Year: year - 1, Month: 12, Day: 31}, drift[century-1]},
			{impl.Date{Year: year, Month: 1, Day: 1}, drift[century-1]},
			{impl.Date{Year: year, Month: 2, Day: 28}, drift[century-1]},
			{impl.Date{Year: year, Month: 3, Day: 1}, drift[century]},
			{impl.Date{Year: year, Month: 12, Day: 31}, drift[century]},
		} {
			if got := driftOf(t, row.date); got != row.want {
				t.Errorf("the drift of %v is %d, not %d", row.date, got, row.want)
			}
		}
	}
	if first := driftOf(t, impl.Date{Year: 1, Month: 1, Day: 1}); first != -2 {
		t.Errorf("the drift of the first day is %d", first)
	}
}

func TestPromise24Weeks(t *testing.T) {
	for _, c := range calendarRows() {
		for day := c.first; day+7 <= c.last; day++ {
			a, ok := impl.DateOf(day, c.calendar)
			b, fine := impl.DateOf(day+7, c.calendar)
			if !ok || !fine || a.Month == b.Month && (b.Year != a.Year || b.Day != a.Day+7) {
				t.Fatalf("a week behind %v, %v is %v, %v in calendar %d", a, ok, b, fine, c.calendar)
			}
		}
	}
}

func TestPromise24WeekExamples(t *testing.T) {
	for _, row := range []struct {
		calendar int
		a        impl.Date
		b        impl.Date
	}{
		{calNew, impl.Date{Year: 1752, Month: 9, Day: 14}, impl.Date{Year: 1752, Month: 9, Day: 21}},
		{calNew, impl.Date{Year: 1900, Month: 2, Day: 22}, impl.Date{Year: 1900, Month: 3, Day: 1}},
		{calOld, impl.Date{Year: 1900, Month: 2, Day: 22}, impl.Date{Year: 1900, Month: 2, Day: 29}},
		{calNew, impl.Date{Year: 2000, Month: 2, Day: 22}, impl.Date{Year: 2000, Month: 2, Day: 29}},
		{calOld, impl.Date{Year: 1699, Month: 12, Day: 28}, impl.Date{Year: 1700, Month: 1, Day: 4}},
		{calNew, impl.Date{Year: 2200, Month: 12, Day: 24}, impl.Date{Year: 2200, Month: 12, Day: 31}},
	} {
		day, _ := impl.DayOf(row.a, row.calendar)
		expectDateOf(t, day, row.calendar, row.a, true)
		expectDateOf(t, day+7, row.calendar, row.b, true)
	}
}
