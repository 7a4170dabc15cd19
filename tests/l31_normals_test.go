package tests

import (
	"math"
	"slices"
	"testing"

	"loop.example/weatherarchive/impl"
)

// normalSeries has valid series of all kinds, among them all short ones of few
// values.
func normalSeries() [][]int {
	rows := extremeSeries()
	for days := 1; days <= 4; days++ {
		rows = append(rows, smallSeries(days, []int{noValue, -3, 0, 1, 2})...)
	}
	return rows
}

// gapsNear has the numbers of gaps at which a mean can begin to fail.
func gapsNear(list []int) []int {
	missing := missingOf(list)
	return []int{
		math.MinInt, math.MinInt + 1, -1 << 62, -1<<32 + mostDays, -1 << 31, noValue, -missing, -2, -1, 0, 1,
		missing - 1, missing, missing + 1, len(list) - 1, len(list), len(list) + 1, mostDays, mostDays + 1, 99, 1 << 31, 1 << 32, 1 << 62, math.MaxInt - 1, math.MaxInt,
	}
}

// noDaysOf has numbers that are no days of a series.
func noDaysOf(list []int) []int {
	many := len(list)
	return []int{math.MinInt, math.MinInt + 1, -1 << 62, -1 << 32, -1 << 31, noValue, -many, -2, -1, many, many + 1, mostDays, mostDays + 1, 256, 1 << 16, 1 << 31, 1 << 32, 1 << 62, math.MaxInt - 1, math.MaxInt}
}

func missingOf(list []int) int {
	return len(list) - len(knownOf(list))
}

func totalOf(list []int) int {
	total := 0
	for _, value := range knownOf(list) {
		total += value
	}
	return total
}

// meanBy tells by the words of the document what MeanOf returns for a valid
// series.
func meanBy(list []int, gaps int) (int, bool) {
	known := knownOf(list)
	if len(known) == 0 || missingOf(list) > gaps {
		return 0, false
	}
	return quotientOf(totalOf(list), len(known)), true
}

// firstDayBy returns the first day with a value than which no other one is
// better.
func firstDayBy(list []int, better func(a int, b int) bool) int {
	for day, value := range list {
		best := value != noValue
		for _, other := range knownOf(list) {
			best = best && !better(other, value)
		}
		if best {
			return day
		}
	}
	return 0
}

func isLess(a int, b int) bool {
	return a < b
}

func isGreater(a int, b int) bool {
	return a > b
}

// degreesBy counts one by one by how much each value is below a base.
func degreesBy(list []int, base int) int {
	degrees := 0
	for _, value := range knownOf(list) {
		for ; value < base; value++ {
			degrees++
		}
	}
	return degrees
}

// rankBy tells the place of the first value that is not less, among all in
// order.
func rankBy(list []int, day int) int {
	return slices.Index(sortedBy(list), list[day])
}

func expectMeanOf(t *testing.T, list []int, gaps int, want int, fine bool) {
	t.Helper()
	if got, ok := impl.MeanOf(list, gaps); got != want || ok != fine {
		t.Fatalf("MeanOf of %v and %d is %d, %v, not %d, %v", list, gaps, got, ok, want, fine)
	}
}

func expectExtremes(t *testing.T, list []int, wantLeast int, wantGreatest int, fine bool) {
	t.Helper()
	if least, greatest, ok := impl.ExtremesOf(list); least != wantLeast || greatest != wantGreatest || ok != fine {
		t.Fatalf("ExtremesOf of %v is %d, %d, %v, not %d, %d, %v", list, least, greatest, ok, wantLeast, wantGreatest, fine)
	}
}

func expectDegrees(t *testing.T, list []int, base int, want int) {
	t.Helper()
	if got := impl.DegreeDays(list, base); got != want {
		t.Fatalf("DegreeDays of %v and %d is %d, not %d", list, base, got, want)
	}
}

func expectRank(t *testing.T, list []int, day int, want int) {
	t.Helper()
	if got := impl.RankOf(list, day); got != want {
		t.Fatalf("RankOf of %v and %d is %d, not %d", list, day, got, want)
	}
}

func TestPromise99Examples(t *testing.T) {
	n := noValue
	for _, row := range []struct {
		list []int
		gaps int
		want int
	}{
		{[]int{4, 9, n, 9}, 1, 7}, {[]int{5}, 0, 5}, {[]int{0}, 0, 0}, {[]int{-7}, 0, -7},
		{[]int{leastReading}, 0, leastReading}, {[]int{mostReading}, 0, mostReading},
		{[]int{n, 5}, 1, 5}, {[]int{5, n}, 1, 5}, {[]int{n, 5, n}, 2, 5}, {[]int{1, n, 3}, 1, 2}, {[]int{n, n, 1, 3, n}, 3, 2},
		{[]int{1, 2, 3}, 0, 2}, {[]int{1, 1, 2}, 0, 1}, {[]int{1, 2, 2}, 0, 2}, {[]int{-1, -1, -2}, 0, -1}, {[]int{-1, -2, -2}, 0, -2},
		{[]int{-5, 5}, 0, 0}, {[]int{-5, n, 5}, 1, 0}, {[]int{leastReading, mostReading}, 0, 5000},
		{[]int{leastReading, n, mostReading}, 12, 5000}, {slices.Repeat([]int{mostReading}, mostDays), 0, mostReading}, {slices.Repeat([]int{leastReading}, mostDays), 0, leastReading},
		{[]int{1, 2, 3, 4, 5, 6, 7, 8, 9, 10, 11, 13}, 0, 7}, {[]int{1, 2, 3, 4, 5, 6, 7, 8, 9, 10, 11, 12}, 0, 6},
	} {
		expectMeanOf(t, row.list, row.gaps, row.want, true)
	}
}

// TestPromise99Halves has sums of both signs that divide into a half.
func TestPromise99Halves(t *testing.T) {
	n := noValue
	for _, row := range []struct {
		list []int
		want int
	}{
		{[]int{0, 1}, 0}, {[]int{1, 2}, 2}, {[]int{2, 3}, 2}, {[]int{3, 4}, 4}, {[]int{4, 5}, 4},
		{[]int{0, -1}, 0}, {[]int{-1, -2}, -2}, {[]int{-2, -3}, -2}, {[]int{-3, -4}, -4}, {[]int{-4, -5}, -4},
		{[]int{n, 2, 3}, 2}, {[]int{2, n, 3}, 2}, {[]int{2, 3, n}, 2}, {[]int{n, -3, n, -2}, -2}, {[]int{-6, 5}, 0}, {[]int{6, -5}, 0}, {[]int{7, -4}, 2}, {[]int{-7, 4}, -2},
		{[]int{0, 0, 0, 2}, 0}, {[]int{0, 0, 0, 6}, 2}, {[]int{0, 0, 0, -2}, 0}, {[]int{0, 0, 0, -6}, -2}, {[]int{1, 2, 3, 4}, 2}, {[]int{2, 3, 4, 5}, 4},
		{[]int{1, 1, 1, 1, 1, 4}, 2}, {[]int{1, 1, 1, 1, 1, -2}, 0}, {[]int{mostReading, mostReading - 1}, mostReading - 1}, {[]int{leastReading, leastReading + 1}, leastReading + 1},
		{[]int{0, 0, 0, 0, 0, 0, 0, 0, 0, 0, 0, 6}, 0}, {[]int{0, 0, 0, 0, 0, 0, 0, 0, 0, 0, 0, 18}, 2}, {[]int{0, 0, 0, 0, 0, 0, 0, 0, 0, 0, 0, -6}, 0}, {[]int{0, 0, 0, 0, 0, 0, 0, 0, 0, 0, 0, -18}, -2},
	} {
		expectMeanOf(t, row.list, mostDays, row.want, true)
	}
}

func TestPromise99RoundOfSumAndNumber(t *testing.T) {
	for _, list := range normalSeries() {
		known := knownOf(list)
		mean, ok := impl.MeanOf(list, missingOf(list))
		if ok != (len(known) > 0) {
			t.Fatalf("MeanOf of %v and %d is %d, %v", list, missingOf(list), mean, ok)
		}
		if !ok {
			continue
		}
		expectRound(t, totalOf(list), len(known), mean, true)
		if mean < slices.Min(known) || mean > slices.Max(known) {
			t.Fatalf("the mean of %v is %d", list, mean)
		}
	}
}

func TestPromise99AllSmallSeries(t *testing.T) {
	for days := 1; days <= 6; days++ {
		for _, list := range smallSeries(days, []int{noValue, -2, -1, 0, 3}) {
			for gaps := -1; gaps <= days+1; gaps++ {
				want, fine := meanBy(list, gaps)
				expectMeanOf(t, list, gaps, want, fine)
			}
		}
	}
}

func TestPromise99InvalidSeriesHaveNoMean(t *testing.T) {
	for _, list := range invalidSeries() {
		for _, gaps := range []int{math.MinInt, -1, 0, 1, mostDays, mostDays + 1, len(list), math.MaxInt} {
			expectMeanOf(t, list, gaps, 0, false)
		}
	}
}

func TestPromise100GapsThatAreAllowed(t *testing.T) {
	for _, list := range normalSeries() {
		for _, gaps := range gapsNear(list) {
			want, fine := meanBy(list, gaps)
			expectMeanOf(t, list, gaps, want, fine)
		}
	}
}

// TestPromise100AllNumbersOfGaps has gaps at the beginning, in the middle, at
// the end, and between all values.
func TestPromise100AllNumbersOfGaps(t *testing.T) {
	for days := 1; days <= mostDays; days++ {
		for missing := 0; missing <= days; missing++ {
			for first := 0; first+missing <= days; first++ {
				list := slices.Repeat([]int{40}, days)
				for day := first; day < first+missing; day++ {
					list[day] = noValue
				}
				for gaps := -2; gaps <= mostDays+2; gaps++ {
					if missing < days && missing <= gaps {
						expectMeanOf(t, list, gaps, 40, true)
					} else {
						expectMeanOf(t, list, gaps, 0, false)
					}
				}
			}
		}
	}
	n := noValue
	expectMeanOf(t, []int{n, 1, n, 2, n, 3, n, 4, n, 5, n, 6}, 5, 0, false)
	expectMeanOf(t, []int{n, 1, n, 2, n, 3, n, 4, n, 5, n, 6}, 6, 4, true)
	expectMeanOf(t, []int{n, 1, n, 2, n, 3, n, 4, n, 5, n, 6}, 7, 4, true)
}

func TestPromise100NoValueAtAll(t *testing.T) {
	for days := 1; days <= mostDays; days++ {
		list := slices.Repeat([]int{noValue}, days)
		for _, gaps := range gapsNear(list) {
			expectMeanOf(t, list, gaps, 0, false)
		}
	}
}

func TestPromise101OtherDirectionAndGreaterValues(t *testing.T) {
	for _, list := range normalSeries() {
		for _, gaps := range []int{-1, 0, 1, 2, missingOf(list), mostDays} {
			mean, ok := impl.MeanOf(list, gaps)
			expectMeanOf(t, reversed(list), gaps, mean, ok)
			if !ok {
				continue
			}
			if slices.Max(knownOf(list))+2 > mostReading {
				expectMeanOf(t, shifted(list, 2), gaps, 0, false)
			} else {
				expectMeanOf(t, shifted(list, 2), gaps, mean+2, true)
			}
		}
	}
}

func TestPromise102Examples(t *testing.T) {
	n := noValue
	for _, row := range []struct {
		list     []int
		least    int
		greatest int
		fine     bool
	}{
		{[]int{4, 9, n, 9}, 0, 1, true}, {[]int{5}, 0, 0, true}, {[]int{leastReading}, 0, 0, true}, {[]int{mostReading}, 0, 0, true},
		{[]int{n}, 0, 0, false}, {[]int{n, n, n}, 0, 0, false}, {[]int{n, 5}, 1, 1, true}, {[]int{5, n}, 0, 0, true}, {[]int{n, n, 5, n}, 2, 2, true},
		{[]int{1, 2}, 0, 1, true}, {[]int{2, 1}, 1, 0, true}, {[]int{2, 2}, 0, 0, true}, {[]int{n, 2, 2}, 1, 1, true}, {[]int{n, 1, n, 2, n}, 1, 3, true},
		{[]int{1, 3, 1, 3}, 0, 1, true}, {[]int{3, 1, 3, 1}, 1, 0, true}, {[]int{2, 1, 3, 1, 3, 2}, 1, 2, true}, {[]int{2, 3, n, 1, 1, 3}, 3, 1, true},
		{[]int{1, 2, 3, 4, 5, 6, 7, 8, 9, 10, 11, 12}, 0, 11, true}, {[]int{12, 11, 10, 9, 8, 7, 6, 5, 4, 3, 2, 1}, 11, 0, true},
		{[]int{0, -1, n, -1, 0}, 1, 0, true}, {[]int{-5, -6, -4}, 1, 2, true}, {[]int{leastReading, mostReading, leastReading, mostReading}, 0, 1, true},
		{slices.Repeat([]int{7}, 12), 0, 0, true}, {slices.Repeat([]int{7}, 13), 0, 0, false},
		{nil, 0, 0, false}, {[]int{}, 0, 0, false}, {[]int{5, 11000}, 0, 0, false}, {[]int{9, 5, -9998}, 0, 0, false},
	} {
		expectExtremes(t, row.list, row.least, row.greatest, row.fine)
	}
}

func TestPromise102NoneBeforeIsEqual(t *testing.T) {
	for _, list := range normalSeries() {
		if len(knownOf(list)) == 0 {
			expectExtremes(t, list, 0, 0, false)
		} else {
			expectExtremes(t, list, firstDayBy(list, isLess), firstDayBy(list, isGreater), true)
		}
	}
	for days := 5; days <= 7; days++ {
		for _, list := range smallSeries(days, []int{noValue, 0, 1}) {
			expectExtremes(t, list, firstDayBy(list, isLess), firstDayBy(list, isGreater), len(knownOf(list)) > 0)
		}
	}
}

func TestPromise102InvalidSeriesHaveNoExtremes(t *testing.T) {
	for _, list := range invalidSeries() {
		expectExtremes(t, list, 0, 0, false)
	}
}

func TestPromise103RankAndRecords(t *testing.T) {
	for _, list := range normalSeries() {
		least, greatest, ok := impl.ExtremesOf(list)
		records := impl.RecordDays(list)
		if ok != (len(records) > 0) {
			t.Fatalf("ExtremesOf of %v is %d, %d, %v, and RecordDays %v", list, least, greatest, ok, records)
		}
		if ok {
			expectRank(t, list, least, 0)
			if greatest != records[len(records)-1] {
				t.Fatalf("ExtremesOf of %v is %d, %d, and RecordDays %v", list, least, greatest, records)
			}
		}
	}
}

func TestPromise104Examples(t *testing.T) {
	n := noValue
	for _, row := range []struct {
		list []int
		base int
		want int
	}{
		{[]int{4, 9, n, 9}, 8, 4}, {[]int{4, 9, n, 9}, 9, 5}, {[]int{4, 9, n, 9}, 10, 8}, {[]int{4, 9, n, 9}, 4, 0}, {[]int{4, 9, n, 9}, 3, 0}, {[]int{4, 9, n, 9}, 5, 1},
		{[]int{5}, 5, 0}, {[]int{5}, 6, 1}, {[]int{5}, 4, 0}, {[]int{0}, 0, 0}, {[]int{-1}, 0, 1}, {[]int{1}, 0, 0}, {[]int{-3, 3}, 0, 3}, {[]int{-3, -4}, -3, 1},
		{[]int{n}, 0, 0}, {[]int{n}, mostReading, 0}, {[]int{n, n}, leastReading, 0}, {[]int{n, 5}, 7, 2}, {[]int{5, n}, 7, 2}, {[]int{n, 5, n, 6}, 7, 3},
		{[]int{leastReading}, leastReading, 0}, {[]int{leastReading}, leastReading + 1, 1}, {[]int{leastReading}, mostReading, 11998}, {[]int{mostReading}, mostReading, 0}, {[]int{mostReading - 1}, mostReading, 1},
		{slices.Repeat([]int{leastReading}, mostDays), mostReading, 12 * 11998}, {[]int{1, 2, 3, 4, 5, 6, 7, 8, 9, 10, 11, 12}, 12, 66},
		{[]int{5}, leastReading - 1, -1}, {[]int{5}, mostReading + 1, -1}, {[]int{5}, n, -1}, {[]int{n}, n, -1}, {[]int{5}, math.MinInt, -1}, {[]int{5}, math.MaxInt, -1},
		{nil, 5, -1}, {[]int{}, 5, -1}, {[]int{11000}, 5, -1}, {[]int{1, -1000}, 5, -1}, {slices.Repeat([]int{5}, 13), 6, -1}, {slices.Repeat([]int{5}, 12), 6, 12},
	} {
		expectDegrees(t, row.list, row.base, row.want)
	}
}

func TestPromise104AllValues(t *testing.T) {
	for _, list := range normalSeries() {
		for _, base := range levelsNear(list) {
			if base < leastReading || base > mostReading {
				expectDegrees(t, list, base, -1)
			} else {
				expectDegrees(t, list, base, degreesBy(list, base))
			}
		}
	}
}

func TestPromise104GreaterBases(t *testing.T) {
	n := noValue
	for _, list := range [][]int{{5}, {n}, {leastReading, n, mostReading}, {-1, 0, 1, n, 1}, manyReadings(mostDays, 1), {n, 700, 700, n, 701}} {
		before := impl.DegreeDays(list, leastReading)
		if before != 0 {
			t.Fatalf("DegreeDays of %v is %d for the least base", list, before)
		}
		for base := leastReading; base < mostReading; base++ {
			next := impl.DegreeDays(list, base+1)
			if next-before != countUpTo(knownOf(list), base) {
				t.Fatalf("DegreeDays of %v is %d for the base %d, and %d for the next one", list, before, base, next)
			}
			before = next
		}
	}
}

func TestPromise104BasesThatAreNoReadings(t *testing.T) {
	for _, base := range noReadings() {
		for _, list := range normalSeries() {
			expectDegrees(t, list, base, -1)
		}
	}
}

func TestPromise104InvalidSeries(t *testing.T) {
	for _, list := range invalidSeries() {
		for _, base := range []int{leastReading, 0, 5, mostReading, mostReading + 1, math.MaxInt} {
			expectDegrees(t, list, base, -1)
		}
	}
}

func TestPromise105Examples(t *testing.T) {
	n := noValue
	for _, row := range []struct {
		list []int
		day  int
		want int
	}{
		{[]int{4, 9, n, 9}, 0, 0}, {[]int{4, 9, n, 9}, 1, 1}, {[]int{4, 9, n, 9}, 2, -1}, {[]int{4, 9, n, 9}, 3, 1}, {[]int{4, 9, n, 9}, 4, -1}, {[]int{4, 9, n, 9}, -1, -1},
		{[]int{5}, 0, 0}, {[]int{5}, 1, -1}, {[]int{n}, 0, -1}, {[]int{leastReading}, 0, 0}, {[]int{n, leastReading}, 1, 0}, {[]int{leastReading, mostReading}, 1, 1}, {[]int{mostReading, leastReading}, 0, 1},
		{[]int{7, 7, 7}, 0, 0}, {[]int{7, 7, 7}, 2, 0}, {[]int{7, 7, 6}, 0, 1}, {[]int{7, 7, 8}, 2, 2}, {[]int{1, 2, 1, 2}, 1, 2}, {[]int{1, 2, 1, 2}, 3, 2},
		{[]int{-1, -2, -3}, 0, 2}, {[]int{-1, -2, -3}, 1, 1}, {[]int{-1, -2, -3}, 2, 0}, {[]int{0, n, n, -1}, 0, 1}, {[]int{0, n, n, -1}, 3, 0},
		{[]int{1, 2, 3, 4, 5, 6, 7, 8, 9, 10, 11, 12}, 11, 11}, {[]int{12, 11, 10, 9, 8, 7, 6, 5, 4, 3, 2, 1}, 0, 11}, {[]int{1, 2, 3, 4, 5, 6, 7, 8, 9, 10, 11, 12}, 12, -1}, {[]int{1, 2, 3, 4, 5, 6, 7, 8, 9, 10, 11, 12}, 0, 0},
		{nil, 0, -1}, {[]int{}, 0, -1}, {[]int{5, 11000}, 0, -1}, {[]int{5, -1000}, 0, -1}, {slices.Repeat([]int{5}, 13), 0, -1}, {slices.Repeat([]int{5}, 12), 11, 0},
	} {
		expectRank(t, row.list, row.day, row.want)
	}
}

func TestPromise105PlacesAmongSortedValues(t *testing.T) {
	for _, list := range normalSeries() {
		sorted := impl.SortedOf(list)
		for day, value := range list {
			rank := impl.RankOf(list, day)
			if value == noValue {
				continue
			}
			if rank < 0 || rank >= len(sorted) || sorted[rank] != value || rank > 0 && sorted[rank-1] >= value {
				t.Fatalf("RankOf of %v and %d is %d", list, day, rank)
			}
			expectRank(t, list, day, rankBy(list, day))
		}
	}
}

func TestPromise106DaysWithoutValueAndOtherDays(t *testing.T) {
	for _, list := range normalSeries() {
		for day, value := range list {
			if rank := impl.RankOf(list, day); (rank == -1) != (value == noValue) || rank < -1 {
				t.Fatalf("RankOf of %v and %d is %d", list, day, rank)
			}
		}
		for _, day := range noDaysOf(list) {
			expectRank(t, list, day, -1)
		}
	}
}

func TestPromise106InvalidSeries(t *testing.T) {
	for _, list := range invalidSeries() {
		for _, day := range []int{math.MinInt, -1, 0, 1, 2, len(list) - 1, len(list), math.MaxInt} {
			expectRank(t, list, day, -1)
		}
	}
}

// TestNormalsKeepArguments has lists that are parts of longer ones, so that
// what is behind them could be overwritten, or taken for a part of them.
func TestNormalsKeepArguments(t *testing.T) {
	for many := 0; many <= mostDays+1; many++ {
		list := []int{9, noValue, 8, 30, 31, noValue, 7, 7, 50, -3, 6, 60, 5, 900, -900}
		old := slices.Clone(list)
		for range 2 {
			_, ok := impl.MeanOf(list[:many], mostDays)
			least, greatest, fine := impl.ExtremesOf(list[:many])
			degrees := impl.DegreeDays(list[:many], 10)
			rank := impl.RankOf(list[:many], 0)
			if valid := 1 <= many && many <= mostDays; ok != valid || fine != valid || (degrees > 0) != valid || (rank >= 0) != valid || max(least, greatest) >= max(many, 1) {
				t.Errorf("the functions return %v, %d, %d, %v, %d and %d for %d days", ok, least, greatest, fine, degrees, rank, many)
			}
		}
		if !slices.Equal(list, old) {
			t.Errorf("%v has become %v", old, list)
		}
	}
}
