package tests

import (
	"math"
	"slices"
	"testing"

	"loop.example/weatherarchive/impl"
)

// The limits are written out here as the document has them, so that a wrong
// constant of the program is noticed.
const (
	lastMinute   = 1439
	farZone      = 840
	lastMoment   = 1439999 // the minute lastMinute of lastDay, counted from the first one
	leastReading = -999
	mostReading  = 10999
	lastDividend = 999999
	lastDivisor  = 999
	mostReadings = 24
	mostWeight   = 9
)

func noDaysOfReports() []int {
	return []int{math.MinInt, math.MinInt + 1, -1<<32 + 5, -1 << 31, -999, -2, -1, lastDay + 1, lastDay + 2, 9999, 1 << 31, 1<<32 + 5, math.MaxInt - 1, math.MaxInt}
}

func noMinutes() []int {
	return []int{math.MinInt, math.MinInt + 840, -1<<32 + 5, -1440, -60, -2, -1, lastMinute + 1, lastMinute + 2, 2000, 1<<32 + 5, math.MaxInt - 840, math.MaxInt}
}

func noZones() []int {
	return []int{math.MinInt, math.MinInt + 5, -1<<32 + 5, -1440, -842, -farZone - 1, farZone + 1, 842, 1440, 1<<32 + 5, math.MaxInt - 5, math.MaxInt}
}

func noReadings() []int {
	return []int{math.MinInt, math.MinInt + 1, -1 << 62, -1<<32 + 5, -1 << 31, -10999, -9999, -1001, leastReading - 1, mostReading + 1, 11001, 99999, 1 << 31, 1<<32 + 5, 1 << 62, math.MaxInt - 1, math.MaxInt}
}

func noWeights() []int {
	return []int{math.MinInt, -1 << 62, -1<<32 + 5, -9, -2, -1, mostWeight + 1, 11, 256 + 1, 1<<32 + 5, 1 << 62, math.MaxInt}
}

// someReadings has both ends, and all rests that a division by 2 or by 4 can
// have on both sides of zero.
func someReadings() []int {
	return []int{leastReading, -998, -997, -996, -10, -5, -4, -3, -2, -1, 0, 1, 2, 3, 4, 5, 14, 1000, 10996, 10997, 10998, mostReading}
}

// manyReadings returns so many readings that differ, but without an order.
func manyReadings(many int, seed int) []int {
	list := make([]int, many)
	for i := range list {
		list[i] = leastReading + (i+1)*(i+seed+3)*7919%(mostReading-leastReading+1)
	}
	return list
}

func manyWeights(many int, seed int) []int {
	list := make([]int, many)
	for i := range list {
		list[i] = (i*i + seed*(i+1)) % (mostWeight + 1)
	}
	list[many-1] = max(list[many-1], 1)
	return list
}

func reversed(list []int) []int {
	list = slices.Clone(list)
	slices.Reverse(list)
	return list
}

// quotientOf tells by other means than the program what a rounded quotient
// is. A float can hold each half, and quotients of so small numbers that are
// not halves are too far from them to become halves.
func quotientOf(n int, d int) int {
	return int(math.RoundToEven(float64(n) / float64(d)))
}

func expectTurned(t *testing.T, from [3]int, wantDay int, wantMinute int, fine bool) {
	t.Helper()
	day, minute, ok := impl.HourTurn(from[0], from[1], from[2])
	if day != wantDay || minute != wantMinute || ok != fine {
		t.Fatalf("HourTurn of %v is %d, %d, %v, not %d, %d, %v", from, day, minute, ok, wantDay, wantMinute, fine)
	}
}

func expectRound(t *testing.T, n int, d int, want int, fine bool) {
	t.Helper()
	if got, ok := impl.RoundOf(n, d); got != want || ok != fine {
		t.Fatalf("RoundOf of %d and %d is %d, %v, not %d, %v", n, d, got, ok, want, fine)
	}
}

func expectMean(t *testing.T, list []int, want int, fine bool) {
	t.Helper()
	if got, ok := impl.HourMean(list); got != want || ok != fine {
		t.Fatalf("HourMean of %v is %d, %v, not %d, %v", list, got, ok, want, fine)
	}
}

func expectMiddle(t *testing.T, list []int, want int, fine bool) {
	t.Helper()
	if got, ok := impl.HourMiddle(list); got != want || ok != fine {
		t.Fatalf("HourMiddle of %v is %d, %v, not %d, %v", list, got, ok, want, fine)
	}
}

func expectWeights(t *testing.T, list []int, weights []int, want int, fine bool) {
	t.Helper()
	if got, ok := impl.HourWeights(list, weights); got != want || ok != fine {
		t.Fatalf("HourWeights of %v and %v is %d, %v, not %d, %v", list, weights, got, ok, want, fine)
	}
}

func TestConstantsOfHours(t *testing.T) {
	if impl.MinuteMax != lastMinute {
		t.Errorf("MinuteMax is %d", impl.MinuteMax)
	}
}

func TestPromise25Examples(t *testing.T) {
	for _, row := range []struct {
		from   [3]int
		day    int
		minute int
	}{
		{[3]int{3, 30, -60}, 2, 1410},
		{[3]int{3, 30, 60}, 3, 90},
		{[3]int{0, 0, 0}, 0, 0},
		{[3]int{0, 0, 1}, 0, 1},
		{[3]int{0, 1, -1}, 0, 0},
		{[3]int{0, 840, -840}, 0, 0},
		{[3]int{0, 0, 840}, 0, 840},
		{[3]int{0, 1439, 1}, 1, 0},
		{[3]int{0, 1439, 840}, 1, 839},
		{[3]int{0, 600, 840}, 1, 0},
		{[3]int{0, 599, 840}, 0, 1439},
		{[3]int{1, 0, -1}, 0, 1439},
		{[3]int{1, 0, -840}, 0, 600},
		{[3]int{1, 839, -840}, 0, 1439},
		{[3]int{1, 840, -840}, 1, 0},
		{[3]int{998, 1439, 1}, 999, 0},
		{[3]int{999, 0, -1}, 998, 1439},
		{[3]int{999, 0, 840}, 999, 840},
		{[3]int{999, 599, 840}, 999, 1439},
		{[3]int{999, 1439, 0}, 999, 1439},
		{[3]int{999, 1439, -840}, 999, 599},
	} {
		expectTurned(t, row.from, row.day, row.minute, true)
	}
}

func TestPromise25TurnedDaysOutOfLimitsFail(t *testing.T) {
	for _, from := range [][3]int{
		{0, 0, -1}, {0, 0, -840}, {0, 1, -2}, {0, 839, -840}, {0, 59, -60}, {0, 719, -720},
		{999, 1439, 1}, {999, 1439, 840}, {999, 1438, 2}, {999, 600, 840}, {999, 1380, 60}, {999, 720, 720},
	} {
		expectTurned(t, from, 0, 0, false)
	}
}

// TestPromise25ZoneAndBack compares times with the minutes from the first one
// of all on. It has so many times that it checks them without a helper.
func TestPromise25ZoneAndBack(t *testing.T) {
	for _, day := range []int{0, 1, 500, 998, 999} {
		for minute := 0; minute <= lastMinute; minute++ {
			for zone := -farZone; zone <= farZone; zone++ {
				moment := 1440*day + minute + zone
				fine := 0 <= moment && moment <= lastMoment
				newDay, newMinute, ok := impl.HourTurn(day, minute, zone)
				if ok != fine || ok && 1440*newDay+newMinute != moment || newMinute < 0 || newMinute > lastMinute || !ok && (newDay != 0 || newMinute != 0) {
					t.Fatalf("HourTurn of %d, %d, %d is %d, %d, %v", day, minute, zone, newDay, newMinute, ok)
				}
				if !ok {
					continue
				}
				if oldDay, oldMinute, back := impl.HourTurn(newDay, newMinute, -zone); !back || oldDay != day || oldMinute != minute {
					t.Fatalf("HourTurn of %d, %d, %d is %d, %d, and that leads back to %d, %d, %v", day, minute, zone, newDay, newMinute, oldDay, oldMinute, back)
				}
			}
		}
	}
}

func TestPromise25EachDay(t *testing.T) {
	for day := 1; day < lastDay; day++ {
		expectTurned(t, [3]int{day, 0, -1}, day-1, 1439, true)
		expectTurned(t, [3]int{day, 1439, 1}, day+1, 0, true)
		expectTurned(t, [3]int{day, 720, 60}, day, 780, true)
	}
}

// TestPromise25InvalidTimesFail also has times that are out of the limits
// before they are turned, but not behind.
func TestPromise25InvalidTimesFail(t *testing.T) {
	for _, zone := range []int{-farZone, -60, -1, 0, 1, 60, farZone} {
		for _, day := range noDaysOfReports() {
			for _, minute := range []int{0, 1, 720, lastMinute - 1, lastMinute} {
				expectTurned(t, [3]int{day, minute, zone}, 0, 0, false)
			}
		}
		for _, minute := range noMinutes() {
			for _, day := range []int{0, 1, 500, lastDay - 1, lastDay} {
				expectTurned(t, [3]int{day, minute, zone}, 0, 0, false)
			}
			for _, day := range noDaysOfReports() {
				expectTurned(t, [3]int{day, minute, zone}, 0, 0, false)
			}
		}
	}
}

func TestPromise25InvalidZonesFail(t *testing.T) {
	for _, zone := range noZones() {
		for _, day := range append(noDaysOfReports(), 0, 1, 500, lastDay) {
			for _, minute := range append(noMinutes(), 0, 1, 720, lastMinute) {
				expectTurned(t, [3]int{day, minute, zone}, 0, 0, false)
			}
		}
	}
}

func TestPromise26DaysDifferByOneAtMost(t *testing.T) {
	seen := map[int]bool{}
	for day := 0; day <= lastDay; day += 37 {
		for minute := 0; minute <= lastMinute; minute += 7 {
			for _, zone := range []int{-farZone, -720, -60, -30, -1, 0, 1, 45, 60, 720, farZone} {
				newDay, _, ok := impl.HourTurn(day, minute, zone)
				if ok && (newDay < day-1 || newDay > day+1) {
					t.Fatalf("HourTurn of %d, %d, %d has the day %d", day, minute, zone, newDay)
				}
				if ok {
					seen[newDay-day] = true
				}
			}
		}
	}
	if len(seen) != 3 {
		t.Errorf("the days differ by %v", seen)
	}
}

func TestPromise26ZoneZeroChangesNothing(t *testing.T) {
	for day := 0; day <= lastDay; day++ {
		for minute := 0; minute <= lastMinute; minute++ {
			expectTurned(t, [3]int{day, minute, 0}, day, minute, true)
		}
	}
}

func TestPromise27Halves(t *testing.T) {
	for _, row := range [][3]int{
		{1, 2, 0}, {3, 2, 2}, {5, 2, 2}, {7, 2, 4}, {9, 2, 4}, {11, 2, 6},
		{-1, 2, 0}, {-3, 2, -2}, {-5, 2, -2}, {-7, 2, -4}, {-9, 2, -4}, {-11, 2, -6},
		{2, 4, 0}, {6, 4, 2}, {10, 4, 2}, {14, 4, 4}, {-2, 4, 0}, {-6, 4, -2}, {-10, 4, -2}, {-14, 4, -4},
		{3, 6, 0}, {9, 6, 2}, {15, 6, 2}, {-3, 6, 0}, {-9, 6, -2}, {-15, 6, -2},
		{499, 998, 0}, {1497, 998, 2}, {2495, 998, 2}, {-499, 998, 0}, {-1497, 998, -2}, {-2495, 998, -2},
		{999999, 2, 500000}, {999997, 2, 499998}, {-999999, 2, -500000}, {-999997, 2, -499998},
	} {
		expectRound(t, row[0], row[1], row[2], true)
	}
}

func TestPromise27OtherQuotients(t *testing.T) {
	for _, row := range [][3]int{
		{0, 1, 0}, {0, 2, 0}, {0, 3, 0}, {0, 999, 0},
		{1, 3, 0}, {2, 3, 1}, {4, 3, 1}, {5, 3, 2}, {-1, 3, 0}, {-2, 3, -1}, {-4, 3, -1}, {-5, 3, -2},
		{1, 4, 0}, {3, 4, 1}, {5, 4, 1}, {7, 4, 2}, {-1, 4, 0}, {-3, 4, -1}, {-5, 4, -1}, {-7, 4, -2},
		{498, 998, 0}, {500, 998, 1}, {-498, 998, 0}, {-500, 998, -1}, {499, 999, 0}, {500, 999, 1}, {-499, 999, 0}, {-500, 999, -1}, {1498, 999, 1}, {1499, 999, 2}, {-1498, 999, -1}, {-1499, 999, -2},
		{999999, 1, 999999}, {-999999, 1, -999999}, {999998, 1, 999998}, {-999998, 1, -999998},
		{999999, 999, 1001}, {-999999, 999, -1001}, {999999, 998, 1002}, {-999999, 998, -1002}, {999999, 4, 250000}, {-999999, 4, -250000},
	} {
		expectRound(t, row[0], row[1], row[2], true)
	}
}

// isNearest tells whether a quotient is the one that the document defines.
func isNearest(n int, d int, quotient int) bool {
	rest := n - quotient*d
	twice := max(2*rest, -2*rest)
	return twice < d || twice == d && quotient%2 == 0
}

func TestPromise27NearestNumbers(t *testing.T) {
	for d := 1; d <= lastDivisor; d++ {
		for n := -3000; n <= 3000; n++ {
			if got, ok := impl.RoundOf(n, d); !ok || !isNearest(n, d, got) {
				t.Fatalf("RoundOf of %d and %d is %d, %v", n, d, got, ok)
			}
		}
	}
	for _, d := range []int{1, 2, 3, 4, 6, 10, 24, 216, 997, 998, 999} {
		for n := -lastDividend; n <= lastDividend; n++ {
			if got, ok := impl.RoundOf(n, d); !ok || !isNearest(n, d, got) || got != quotientOf(n, d) {
				t.Fatalf("RoundOf of %d and %d is %d, %v", n, d, got, ok)
			}
		}
	}
}

func TestPromise27OtherNumbersFail(t *testing.T) {
	noDividends := []int{
		math.MinInt, math.MinInt + 1, -1 << 62, -1<<32 + 5, -1 << 31, -9999999, -1000001, -lastDividend - 1,
		lastDividend + 1, 1000001, 9999999, 1 << 31, 1<<32 + 5, 1 << 62, math.MaxInt - 1, math.MaxInt,
	}
	noDivisors := []int{math.MinInt, math.MinInt + 1, -1<<32 + 5, -1 << 31, -999, -2, -1, 0, lastDivisor + 1, 1001, 1 << 31, 1 << 32, 1<<32 + 5, math.MaxInt - 1, math.MaxInt}
	for _, n := range noDividends {
		for _, d := range append(noDivisors, 1, 2, 3, 998, 999) {
			expectRound(t, n, d, 0, false)
		}
	}
	for _, d := range noDivisors {
		for _, n := range []int{-lastDividend, -1000, -2, -1, 0, 1, 2, 1000, lastDividend} {
			expectRound(t, n, d, 0, false)
		}
	}
}

func TestPromise28OtherSign(t *testing.T) {
	for d := 1; d <= lastDivisor; d++ {
		step := 1
		for n := 0; n <= lastDividend; n += step {
			if n > 3*d { // all rests were there
				step = 211
			}
			quotient, ok := impl.RoundOf(n, d)
			other, fine := impl.RoundOf(-n, d)
			if !ok || !fine || other != -quotient {
				t.Fatalf("RoundOf of %d and %d is %d, %v, and that of %d is %d, %v", n, d, quotient, ok, -n, other, fine)
			}
		}
	}
}

func TestPromise28WholeQuotients(t *testing.T) {
	for d := 1; d <= lastDivisor; d++ {
		most := lastDividend / d
		for quotient := -most; quotient <= most; quotient += 1 + most/500 {
			expectRound(t, quotient*d, d, quotient, true)
		}
		expectRound(t, most*d, d, most, true)
	}
}

func TestPromise29Examples(t *testing.T) {
	for _, row := range []struct {
		list []int
		want int
	}{
		{[]int{10, 20, 14}, 14}, // 14.5
		{[]int{10, 20, 16}, 16}, // 15.5
		{[]int{10, 20, 15}, 15},
		{[]int{-10, -20, -14}, -14}, // -14.5
		{[]int{-10, -20, -16}, -16}, // -15.5
		{[]int{0, 1, 0}, 0},
		{[]int{0, 0, 1}, 0},
		{[]int{0, 1, 1}, 1},
		{[]int{0, -1, 0}, 0},
		{[]int{0, 0, -1}, 0},
		{[]int{0, -1, -1}, -1},
		{[]int{0, 0, 3}, 2},
		{[]int{0, 0, -3}, -2},
		{[]int{0, 0, 100}, 50},
		{[]int{0, 100, 0}, 25},
		{[]int{100, 0, 0}, 25},
		{[]int{-5, 7, -1}, 0},
		{[]int{-999, -999, -999}, -999},
		{[]int{10999, 10999, 10999}, 10999},
		{[]int{-999, 10999, 10999}, 8000}, // 7999.5
		{[]int{10999, -999, -999}, 2000},  // 2000.5
		{[]int{10998, 10999, 10999}, 10999},
		{[]int{-998, -999, -999}, -999},
	} {
		expectMean(t, row.list, row.want, true)
	}
}

func TestPromise29FourQuarters(t *testing.T) {
	for _, a := range someReadings() {
		for _, b := range someReadings() {
			for _, c := range someReadings() {
				quarters := a + b + c + c
				want, fine := impl.RoundOf(quarters, 4)
				if !fine || want != quotientOf(quarters, 4) || want < min(a, b, c) || want > max(a, b, c) {
					t.Fatalf("the mean of %d, %d and %d is %d, %v", a, b, c, want, fine)
				}
				expectMean(t, []int{a, b, c}, want, true)
			}
		}
	}
}

func TestPromise29OtherNumbersOfReadingsFail(t *testing.T) {
	expectMean(t, nil, 0, false)
	expectMean(t, []int{}, 0, false)
	for many := 1; many <= mostReadings+2; many++ {
		if many != 3 {
			expectMean(t, make([]int, many), 0, false)
			expectMean(t, manyReadings(many, 5), 0, false)
		}
	}
	expectMean(t, make([]int, 256+3), 0, false)
	expectMean(t, make([]int, 1<<16+3), 0, false)
}

func TestPromise29NoReadingsFail(t *testing.T) {
	for _, bad := range noReadings() {
		for place := range 3 {
			list := []int{10, 20, 14}
			list[place] = bad
			expectMean(t, list, 0, false)
		}
		expectMean(t, []int{bad, bad, bad}, 0, false)
		expectMean(t, []int{bad, -bad, 0}, 0, false) // only the sum of these is like that of readings
	}
}

func TestPromise30FirstReadingsExchanged(t *testing.T) {
	for _, a := range someReadings() {
		for _, b := range someReadings() {
			for _, c := range []int{leastReading, -2, -1, 0, 1, 7, 500, mostReading} {
				want, ok := impl.HourMean([]int{a, b, c})
				if !ok {
					t.Fatalf("HourMean of %d, %d and %d fails", a, b, c)
				}
				expectMean(t, []int{b, a, c}, want, true)
			}
		}
	}
}

func TestPromise30EqualReadings(t *testing.T) {
	for reading := leastReading; reading <= mostReading; reading++ {
		expectMean(t, []int{reading, reading, reading}, reading, true)
	}
}

func TestPromise30LastReadingCountsTwice(t *testing.T) {
	expectMean(t, []int{40, 0, 0}, 10, true)
	expectMean(t, []int{0, 40, 0}, 10, true)
	expectMean(t, []int{0, 0, 40}, 20, true)
}

func TestPromise31Examples(t *testing.T) {
	for _, row := range []struct {
		list []int
		want int
	}{
		{[]int{3, 9, 8}, 6},
		{[]int{9, 8, 3}, 6},
		{[]int{8, 3, 9, 8, 8, 8}, 6},
		{[]int{5}, 5},
		{[]int{-5}, -5},
		{[]int{0}, 0},
		{[]int{-999}, -999},
		{[]int{10999}, 10999},
		{[]int{0, 1}, 0},
		{[]int{1, 2}, 2},
		{[]int{2, 3}, 2},
		{[]int{3, 4}, 4},
		{[]int{0, -1}, 0},
		{[]int{-1, -2}, -2},
		{[]int{-2, -3}, -2},
		{[]int{-3, -4}, -4},
		{[]int{-1, 1}, 0},
		{[]int{-1, 2}, 0},
		{[]int{-2, 1}, 0},
		{[]int{-1, 4}, 2},
		{[]int{-999, 10999}, 5000},
		{[]int{-999, 10998}, 5000}, // 4999.5
		{[]int{-998, 10999}, 5000}, // 5000.5
		{[]int{10998, 10999}, 10998},
		{[]int{-999, -998}, -998},
	} {
		expectMiddle(t, row.list, row.want, true)
		expectMiddle(t, reversed(row.list), row.want, true)
	}
}

func TestPromise31TwoReadings(t *testing.T) {
	for _, a := range someReadings() {
		for _, b := range someReadings() {
			want := quotientOf(a+b, 2)
			if want < min(a, b) || want > max(a, b) {
				t.Fatalf("the middle of %d and %d is %d", a, b, want)
			}
			expectMiddle(t, []int{a, b}, want, true)
			expectMiddle(t, []int{b, a}, want, true)
			expectMiddle(t, []int{a, a, b, a}, want, true)
		}
	}
}

// TestPromise31EndsAtEachPlace moves the least and the greatest reading
// through lists of each length.
func TestPromise31EndsAtEachPlace(t *testing.T) {
	for many := 2; many <= mostReadings; many++ {
		for low := range many {
			for high := range many {
				if low == high {
					continue
				}
				list := make([]int, many)
				for i := range list {
					list[i] = 100 + i
				}
				list[low], list[high] = -21, 130
				expectMiddle(t, list, 54, true) // 54.5
				list[low], list[high] = leastReading, mostReading
				expectMiddle(t, list, 5000, true)
			}
		}
	}
}

func TestPromise31OtherDirection(t *testing.T) {
	for many := 1; many <= mostReadings; many++ {
		for seed := range 50 {
			list := manyReadings(many, seed)
			sorted := slices.Sorted(slices.Values(list))
			want := quotientOf(sorted[0]+sorted[many-1], 2)
			got, ok := impl.HourMiddle(list)
			if !ok || got != want || got < sorted[0] || got > sorted[many-1] {
				t.Fatalf("HourMiddle of %v is %d, %v, not %d", list, got, ok, want)
			}
			expectMiddle(t, reversed(list), want, true)
			expectMiddle(t, sorted, want, true)
		}
	}
}

func TestPromise31OtherNumbersOfReadingsFail(t *testing.T) {
	expectMiddle(t, nil, 0, false)
	expectMiddle(t, []int{}, 0, false)
	for many := 1; many <= mostReadings+2; many++ {
		expectMiddle(t, make([]int, many), 0, many <= mostReadings)
	}
	for _, many := range []int{mostReadings + 1, 48, 100, 256 + 3, 1<<16 + 3} {
		expectMiddle(t, make([]int, many), 0, false)
		expectMiddle(t, manyReadings(many, 5), 0, false)
	}
}

func TestPromise31NoReadingsFail(t *testing.T) {
	for _, bad := range noReadings() {
		for _, many := range []int{1, 2, 3, mostReadings} {
			for place := range many {
				list := manyReadings(many, 2)
				list[place] = bad
				expectMiddle(t, list, 0, false)
			}
		}
		expectMiddle(t, []int{bad, -bad}, 0, false)
	}
}

func TestPromise32Examples(t *testing.T) {
	for _, row := range []struct {
		list    []int
		weights []int
		want    int
	}{
		{[]int{10, 40}, []int{2, 1}, 20},
		{[]int{10, 40}, []int{1, 2}, 30},
		{[]int{10, 40}, []int{0, 9}, 40},
		{[]int{10, 40}, []int{9, 0}, 10},
		{[]int{7}, []int{1}, 7},
		{[]int{7}, []int{9}, 7},
		{[]int{-7}, []int{9}, -7},
		{[]int{0}, []int{1}, 0},
		{[]int{1, 2}, []int{1, 1}, 2}, // 1.5
		{[]int{2, 3}, []int{4, 4}, 2}, // 2.5
		{[]int{-1, -2}, []int{3, 3}, -2},
		{[]int{-2, -3}, []int{5, 5}, -2},
		{[]int{1, 2}, []int{2, 1}, 1},
		{[]int{1, 2}, []int{1, 2}, 2},
		{[]int{-1, -2}, []int{2, 1}, -1},
		{[]int{-1, -2}, []int{1, 2}, -2},
		{[]int{-10, 10, 0}, []int{1, 1, 1}, 0},
		{[]int{-999, 10999}, []int{1, 1}, 5000},
		{[]int{-999, 10999}, []int{9, 1}, 201},   // 200.8
		{[]int{-999, 10999}, []int{1, 9}, 9799},  // 9799.2
		{[]int{0, 0, 3}, []int{1, 1, 4}, 2},      // 2.0
		{[]int{0, 5, 3}, []int{8, 0, 8}, 2},      // 1.5
		{[]int{0, -500, 5}, []int{8, 0, 8}, 2},   // 2.5
		{[]int{0, 500, -5}, []int{8, 0, 8}, -2},  // -2.5
		{[]int{0, 500, -35}, []int{9, 0, 1}, -4}, // -3.5
	} {
		expectWeights(t, row.list, row.weights, row.want, true)
		expectWeights(t, reversed(row.list), reversed(row.weights), row.want, true)
	}
}

// weightedBy tells by other means than the program what HourWeights returns.
func weightedBy(list []int, weights []int) int {
	total, many := 0, 0
	for i, weight := range weights {
		for range weight {
			total += list[i]
			many++
		}
	}
	return quotientOf(total, many)
}

func TestPromise32BetweenReadingsWithWeights(t *testing.T) {
	for many := 1; many <= mostReadings; many++ {
		for seed := range 60 {
			list := manyReadings(many, seed)
			weights := manyWeights(many, seed)
			var counted []int
			for i, weight := range weights {
				if weight > 0 {
					counted = append(counted, list[i])
				}
			}
			got, ok := impl.HourWeights(list, weights)
			if !ok || got < slices.Min(counted) || got > slices.Max(counted) || got != weightedBy(list, weights) {
				t.Fatalf("HourWeights of %v and %v is %d, %v", list, weights, got, ok)
			}
		}
	}
}

func TestPromise32FurtherReadingWithoutWeight(t *testing.T) {
	for many := 1; many <= mostReadings; many++ {
		for seed := range 8 {
			list := manyReadings(many, seed)
			weights := manyWeights(many, seed)
			want, ok := impl.HourWeights(list, weights)
			if !ok {
				t.Fatalf("HourWeights of %v and %v fails", list, weights)
			}
			for place := 0; place <= many; place++ {
				for _, reading := range []int{leastReading, 0, mostReading} {
					longer := slices.Insert(slices.Clone(list), place, reading)
					further := slices.Insert(slices.Clone(weights), place, 0)
					if many == mostReadings {
						expectWeights(t, longer, further, 0, false)
					} else {
						expectWeights(t, longer, further, want, true)
					}
				}
			}
		}
	}
}

// TestPromise32GreatSums has sums that are greater than what RoundOf divides.
func TestPromise32GreatSums(t *testing.T) {
	for many := 1; many <= mostReadings; many++ {
		weights := slices.Repeat([]int{mostWeight}, many)
		for _, reading := range []int{leastReading, -1, 0, 1, 4629, 4630, 4631, 10998, mostReading} {
			list := slices.Repeat([]int{reading}, many)
			expectWeights(t, list, weights, reading, true)
			list[many-1] = mostReading
			expectWeights(t, list, weights, weightedBy(list, weights), true)
		}
	}
	half := slices.Repeat([]int{10999, 10998}, 12)
	expectWeights(t, half, slices.Repeat([]int{9}, 24), 10998, true) // 10998.5
	half = slices.Repeat([]int{10997, 10998}, 12)
	expectWeights(t, half, slices.Repeat([]int{9}, 24), 10998, true) // 10997.5
}

func TestPromise32OneWeight(t *testing.T) {
	for many := 1; many <= mostReadings; many++ {
		list := manyReadings(many, 3)
		for place := range many {
			for weight := 0; weight <= mostWeight; weight++ {
				weights := make([]int, many)
				weights[place] = weight
				if weight == 0 {
					expectWeights(t, list, weights, 0, false)
				} else {
					expectWeights(t, list, weights, list[place], true)
				}
			}
		}
	}
}

func TestPromise32OtherNumbersFail(t *testing.T) {
	for _, list := range [][]int{nil, {}} {
		for _, weights := range [][]int{nil, {}, {1}, {0}, {1, 1, 2}} {
			expectWeights(t, list, weights, 0, false)
		}
	}
	for many := 1; many <= mostReadings+2; many++ {
		list := slices.Repeat([]int{6}, many)
		expectWeights(t, list, nil, 0, false)
		expectWeights(t, list, []int{}, 0, false)
		for weights := 1; weights <= mostReadings+2; weights++ {
			if weights == many && many <= mostReadings {
				expectWeights(t, list, slices.Repeat([]int{1}, weights), 6, true)
			} else {
				expectWeights(t, list, slices.Repeat([]int{1}, weights), 0, false)
			}
		}
	}
	for _, many := range []int{mostReadings + 1, 48, 111, 112, 256 + 3, 1<<16 + 3} {
		expectWeights(t, make([]int, many), slices.Repeat([]int{1}, many), 0, false)
		expectWeights(t, make([]int, many), slices.Repeat([]int{9}, many), 0, false)
	}
}

func TestPromise32NoReadingsFail(t *testing.T) {
	for _, bad := range noReadings() {
		for _, many := range []int{1, 2, 3, mostReadings} {
			for place := range many {
				list := manyReadings(many, 2)
				list[place] = bad
				weights := slices.Repeat([]int{1}, many)
				expectWeights(t, list, weights, 0, false)
				weights[place] = 0
				expectWeights(t, list, weights, 0, false)
			}
		}
		expectWeights(t, []int{bad, -bad}, []int{1, 1}, 0, false)
	}
}

func TestPromise32NoWeightsFail(t *testing.T) {
	for _, bad := range noWeights() {
		for _, many := range []int{1, 2, 3, mostReadings} {
			for place := range many {
				list := manyReadings(many, 2)
				weights := slices.Repeat([]int{4}, many)
				weights[place] = bad
				expectWeights(t, list, weights, 0, false)
				list[place] = 0
				expectWeights(t, list, weights, 0, false)
			}
		}
		expectWeights(t, []int{5, 5, 5}, []int{bad, -bad, 1}, 0, false)
	}
}

func TestPromise33MeanHasWeights(t *testing.T) {
	for _, a := range someReadings() {
		for _, b := range someReadings() {
			for _, c := range someReadings() {
				list := []int{a, b, c}
				want, ok := impl.HourMean(list)
				if !ok {
					t.Fatalf("HourMean of %v fails", list)
				}
				expectWeights(t, list, []int{1, 1, 2}, want, true)
				expectWeights(t, list, []int{2, 2, 4}, want, true)
				expectWeights(t, list, []int{3, 3, 6}, want, true)
			}
		}
	}
}

// TestHoursKeepArguments has lists that are parts of longer ones, too, and
// calls each function twice, since nothing is kept between calls.
func TestHoursKeepArguments(t *testing.T) {
	for _, many := range []int{1, 2, 3, 4, 24, 25} {
		list := append(manyReadings(many, 6), 70, 60, 50)
		weights := append(manyWeights(many, 6), 7, 6, 5)
		oldList, oldWeights := slices.Clone(list), slices.Clone(weights)
		for range 2 {
			_, ok := impl.HourMean(list[:many])
			_, fine := impl.HourMiddle(list[:many])
			_, good := impl.HourWeights(list[:many], weights[:many])
			if ok != (many == 3) || fine != (many <= 24) || good != (many <= 24) {
				t.Errorf("the functions return %v, %v and %v for %d readings", ok, fine, good, many)
			}
		}
		if !slices.Equal(list, oldList) || !slices.Equal(weights, oldWeights) {
			t.Errorf("%v and %v have become %v and %v", oldList, oldWeights, list, weights)
		}
	}
}

func TestHoursKeepOneListForBothArguments(t *testing.T) {
	list := []int{3, 0, 9}
	for range 2 {
		expectWeights(t, list, list, 8, true) // 7.5
	}
	if !slices.Equal(list, []int{3, 0, 9}) {
		t.Errorf("the list has become %v", list)
	}
}
