package tests

import (
	"math"
	"math/big"
	"math/rand"
	"slices"
	"testing"

	"loop.example/weatherarchive/impl"
)

// mostDiff is written out here as the document has it, so that a wrong
// constant of the program is noticed.
const mostDiff = 9998

func noDiffs() []int {
	return []int{math.MinInt, math.MinInt + 1, -1 << 62, -1<<32 + 5, -1 << 31, -19999, -11998, noValue - 1, noValue, mostDiff + 1, mostDiff + 2, 11998, 19999, 1 << 31, 1<<32 + 5, 1 << 62, math.MaxInt - 1, math.MaxInt}
}

// noRuns has numbers of days that no run of so many days has.
func noRuns(days int) []int {
	return []int{math.MinInt, math.MinInt + 1, -1 << 62, -1<<32 + 1, -1 << 31, -days, -2, -1, 0, days + 1, days + 2, mostDays + 1, 256 + 1, 1<<16 + 1, 1 << 31, 1<<32 + 1, 1 << 62, math.MaxInt - 1, math.MaxInt}
}

// trendSeries has valid series of all kinds, among them some with great
// differences.
func trendSeries() [][]int {
	n := noValue
	rows := append(normalSeries(),
		[]int{1, 3, 5, n, 8}, []int{1, n, 4}, []int{3, 1, 3}, []int{0, 9998}, []int{9998, 0}, []int{0, 9999}, []int{9999, 0}, []int{0, n, 10999}, []int{10999, n, n, -999},
		[]int{0, 2, 4, 6, 8, 10}, []int{10, 7, 4, 1, -2}, []int{5, 5, 5, n, 5, 5}, []int{0, 0, 1}, []int{0, 1, 0, 1, 0, 1}, []int{n, 7, n, n, 1, n},
	)
	source := rand.New(rand.NewSource(34))
	for days := 1; days <= mostDays; days++ {
		for range 30 {
			list := make([]int, days)
			for i := range list {
				list[i] = leastReading + source.Intn(mostReading-leastReading+1)
				if source.Intn(4) == 0 {
					list[i] = n
				}
			}
			rows = append(rows, list)
		}
	}
	return rows
}

// diffsBy returns nothing if the differences of a valid series are refused.
func diffsBy(list []int) []int {
	var diffs []int
	for day := 1; day < len(list); day++ {
		switch difference := list[day] - list[day-1]; {
		case list[day] == noValue || list[day-1] == noValue:
			diffs = append(diffs, noValue)
		case apart(list[day], list[day-1]) > mostDiff:
			return nil
		default:
			diffs = append(diffs, difference)
		}
	}
	return diffs
}

// runningBy takes the means of all runs by the words of the document.
func runningBy(list []int, days int) []int {
	var means []int
	for first := 0; first+days <= len(list); first++ {
		mean := noValue
		if run := list[first : first+days]; !slices.Contains(run, noValue) {
			mean = quotientOf(totalOf(run), days)
		}
		means = append(means, mean)
	}
	return means
}

// slopeBy tells by other means than the program what a slope is: it sums over
// all pairs of days the products of both differences, and the squares of those
// of the days. The quotient is that of the document, since each pair is there
// once in both sums.
func slopeBy(list []int) (int, int, bool) {
	products, squares := int64(0), int64(0)
	for b, later := range list {
		for a, earlier := range list[:b] {
			if earlier != noValue && later != noValue {
				products += int64((b - a) * (later - earlier))
				squares += int64((b - a) * (b - a))
			}
		}
	}
	if squares == 0 {
		return 0, 0, false
	}
	slope := big.NewRat(products, squares)
	return int(slope.Num().Int64()), int(slope.Denom().Int64()), true
}

// pairsBy looks at all pairs.
func pairsBy(list []int) (int, int) {
	up, down := 0, 0
	known := knownOf(list)
	for b, later := range known {
		for _, earlier := range known[:b] {
			if later > earlier {
				up++
			}
			if later < earlier {
				down++
			}
		}
	}
	return up, down
}

func signOf(n int) int {
	return max(min(n, 1), -1)
}

// lineBy adds all steps at once. It returns nothing if a line is refused.
func lineBy(first int, step int, days int) []int {
	if first < leastReading || first > mostReading || step < -mostDiff || step > mostDiff || days < 1 || days > mostDays {
		return nil
	}
	if last := first + step*(days-1); last < leastReading || last > mostReading {
		return nil
	}
	var line []int
	for day := range days {
		line = append(line, first+step*day)
	}
	return line
}

// expectDiffs takes nothing as a want that is a failure.
func expectDiffs(t *testing.T, list []int, want []int) {
	t.Helper()
	if got, ok := impl.DiffsOf(list); !slices.Equal(got, want) || ok != (len(want) > 0) {
		t.Fatalf("DiffsOf of %v is %v, %v, not %v", list, got, ok, want)
	}
}

// expectRunning takes nothing as a want that is a failure.
func expectRunning(t *testing.T, list []int, days int, want []int) {
	t.Helper()
	if got, ok := impl.RunningOf(list, days); !slices.Equal(got, want) || ok != (len(want) > 0) {
		t.Fatalf("RunningOf of %v and %d is %v, %v, not %v", list, days, got, ok, want)
	}
}

func expectSlope(t *testing.T, list []int, wantNum int, wantDen int, fine bool) {
	t.Helper()
	if num, den, ok := impl.SlopeOf(list); num != wantNum || den != wantDen || ok != fine {
		t.Fatalf("SlopeOf of %v is %d, %d, %v, not %d, %d, %v", list, num, den, ok, wantNum, wantDen, fine)
	}
}

func expectPairs(t *testing.T, list []int, wantUp int, wantDown int) {
	t.Helper()
	if up, down := impl.PairsOf(list); up != wantUp || down != wantDown {
		t.Fatalf("PairsOf of %v is %d, %d, not %d, %d", list, up, down, wantUp, wantDown)
	}
}

func expectTrend(t *testing.T, list []int, want int) {
	t.Helper()
	if got := impl.TrendOf(list); got != want {
		t.Fatalf("TrendOf of %v is %d, not %d", list, got, want)
	}
}

// expectLine takes nothing as a want that is a failure.
func expectLine(t *testing.T, first int, step int, days int, want []int) {
	t.Helper()
	if got, ok := impl.LineOf(first, step, days); !slices.Equal(got, want) || ok != (len(want) > 0) {
		t.Fatalf("LineOf of %d, %d and %d is %v, %v, not %v", first, step, days, got, ok, want)
	}
}

func TestPromise125SumOfDifferences(t *testing.T) {
	for _, list := range trendSeries() {
		diffs, ok := impl.DiffsOf(list)
		if !ok || slices.Contains(list, noValue) {
			continue
		}
		sum := 0
		for _, difference := range diffs {
			sum += difference
		}
		if sum != list[len(list)-1]-list[0] {
			t.Fatalf("DiffsOf of %v is %v", list, diffs)
		}
	}
}

func TestPromise126DifferenceExamples(t *testing.T) {
	n := noValue
	for _, row := range []struct {
		list []int
		want []int
	}{
		{[]int{1, 3, 5, n, 8}, []int{2, 2, n, n}}, {[]int{5, 3}, []int{-2}}, {[]int{5, 5}, []int{0}}, {[]int{-5, 5}, []int{10}}, {[]int{5, -5}, []int{-10}},
		{[]int{n, 5}, []int{n}}, {[]int{5, n}, []int{n}}, {[]int{n, n}, []int{n}}, {[]int{n, n, n}, []int{n, n}}, {[]int{n, 5, 6}, []int{n, 1}}, {[]int{6, 5, n}, []int{-1, n}}, {[]int{6, n, 5}, []int{n, n}},
		{[]int{1, 2, 4, 8, 16, 32, 64, 128, 256, 512, 1024, 2048}, []int{1, 2, 4, 8, 16, 32, 64, 128, 256, 512, 1024}},
		{[]int{0, 9998}, []int{9998}}, {[]int{9998, 0}, []int{-9998}}, {[]int{-999, 8999}, []int{9998}}, {[]int{1001, 10999}, []int{9998}}, {[]int{10999, 1001}, []int{-9998}}, {[]int{8999, -999}, []int{-9998}},
		{[]int{0, 9999}, nil}, {[]int{9999, 0}, nil}, {[]int{-999, 9000}, nil}, {[]int{9000, -999}, nil}, {[]int{1000, 10999}, nil}, {[]int{10999, 1000}, nil}, {[]int{-999, 10999}, nil}, {[]int{10999, -999}, nil},
		{[]int{-999, n, 10999}, []int{n, n}}, {[]int{10999, n, -999}, []int{n, n}}, {[]int{n, 10999, n, n}, []int{n, n, n}},
		{[]int{n, 0, 9999}, nil}, {[]int{0, 9999, n}, nil}, {[]int{1, 2, n, 9999, 0, n, 5}, nil}, {[]int{9999, 0, 1, 2, 3}, nil}, {[]int{3, 2, 1, 0, 9999}, nil},
		{[]int{5}, nil}, {[]int{n}, nil}, {nil, nil}, {[]int{}, nil}, {[]int{11000}, nil}, {[]int{5, 11000}, nil}, {[]int{-1000, 5}, nil}, {slices.Repeat([]int{5}, mostDays+1), nil},
		{slices.Repeat([]int{5}, mostDays), slices.Repeat([]int{0}, mostDays-1)},
	} {
		expectDiffs(t, row.list, row.want)
	}
}

func TestPromise126DifferencesOfAllSeries(t *testing.T) {
	for _, list := range trendSeries() {
		expectDiffs(t, list, diffsBy(list))
	}
	for days := 1; days <= 5; days++ {
		for _, list := range smallSeries(days, []int{noValue, -999, 0, 8999, 9000}) {
			expectDiffs(t, list, diffsBy(list))
		}
	}
}

// TestPromise126GreatDifferences has one at each place, with and without days
// that have no value.
func TestPromise126GreatDifferences(t *testing.T) {
	for days := 2; days <= mostDays; days++ {
		for place := 1; place < days; place++ {
			for _, difference := range []int{-11998, -10000, -9999, -9998, -9997, 9997, 9998, 9999, 10000, 11998} {
				before := leastReading + max(-difference, 0)
				list := slices.Repeat([]int{before}, days)
				for day := place; day < days; day++ {
					list[day] = before + difference
				}
				expectDiffs(t, list, diffsBy(list))
				if fine := apart(difference, 0) <= mostDiff; fine != (diffsBy(list) != nil) {
					t.Fatalf("the differences of %v are %v", list, diffsBy(list))
				}
				for gap := range days {
					with := slices.Clone(list)
					with[gap] = noValue
					expectDiffs(t, with, diffsBy(with))
				}
			}
		}
	}
}

func TestPromise126SeriesOfOneDayAndInvalidOnesHaveNoDifferences(t *testing.T) {
	for _, value := range []int{leastReading, -1, 0, 1, mostReading, noValue} {
		expectDiffs(t, []int{value}, nil)
	}
	for _, list := range invalidSeries() {
		expectDiffs(t, list, nil)
	}
}

func TestPromise127DifferencesInOtherDirection(t *testing.T) {
	for _, list := range trendSeries() {
		diffs, ok := impl.DiffsOf(list)
		if !ok {
			expectDiffs(t, reversed(list), nil)
			continue
		}
		want := reversed(diffs)
		for i := range want {
			if want[i] != noValue {
				want[i] = -want[i]
			}
		}
		expectDiffs(t, reversed(list), want)
		if slices.Contains(list, mostReading) {
			expectDiffs(t, shifted(list, 1), nil)
		} else {
			expectDiffs(t, shifted(list, 1), diffs)
		}
	}
}

func TestPromise128RunningExamples(t *testing.T) {
	n := noValue
	for _, row := range []struct {
		list []int
		days int
		want []int
	}{
		{[]int{1, 3, 5, n, 8}, 3, []int{3, n, n}}, {[]int{1, 3, 5, n, 8}, 2, []int{2, 4, n, n}}, {[]int{1, 3, 5, n, 8}, 1, []int{1, 3, 5, n, 8}}, {[]int{1, 3, 5, n, 8}, 5, []int{n}}, {[]int{1, 3, 5, n, 8}, 6, nil}, {[]int{1, 3, 5, n, 8}, 0, nil}, {[]int{1, 3, 5, n, 8}, -1, nil},
		{[]int{5}, 1, []int{5}}, {[]int{n}, 1, []int{n}}, {[]int{5}, 2, nil}, {[]int{5}, 0, nil}, {[]int{n, n}, 2, []int{n}}, {[]int{n, n}, 1, []int{n, n}},
		{[]int{1, 2, 3, 4}, 2, []int{2, 2, 4}}, {[]int{-1, -2, -3, -4}, 2, []int{-2, -2, -4}}, {[]int{0, 1, 0, -1}, 2, []int{0, 0, 0}}, {[]int{1, 2, 3, 4}, 4, []int{2}}, {[]int{2, 3, 4, 5}, 4, []int{4}}, {[]int{1, 2, 3, 4}, 3, []int{2, 3}},
		{[]int{n, 1, 2, 3}, 3, []int{n, 2}}, {[]int{1, 2, 3, n}, 3, []int{2, n}}, {[]int{1, n, 2, 3, 4}, 2, []int{n, n, 2, 4}}, {[]int{n, 7, n}, 2, []int{n, n}},
		{[]int{mostReading, mostReading, leastReading}, 2, []int{mostReading, 5000}}, {slices.Repeat([]int{7}, mostDays), mostDays, []int{7}}, {slices.Repeat([]int{7}, mostDays), mostDays - 1, []int{7, 7}}, {slices.Repeat([]int{7}, mostDays), mostDays + 1, nil}, {slices.Repeat([]int{7}, mostDays+1), 2, nil},
		{nil, 0, nil}, {nil, 1, nil}, {[]int{}, 1, nil}, {[]int{11000}, 1, nil}, {[]int{5, -1000}, 1, nil},
	} {
		expectRunning(t, row.list, row.days, row.want)
	}
}

func TestPromise128MeansOfAllRuns(t *testing.T) {
	for _, list := range trendSeries() {
		for days := 1; days <= len(list); days++ {
			means, _ := impl.RunningOf(list, days)
			expectRunning(t, list, days, runningBy(list, days))
			for first, got := range means {
				mean, ok := impl.MeanOf(list[first:first+days], 0)
				if ok && got != mean || !ok && got != noValue {
					t.Fatalf("RunningOf of %v and %d is %v", list, days, means)
				}
			}
		}
	}
}

func TestPromise128OtherNumbersOfDaysHaveNoRuns(t *testing.T) {
	for _, list := range trendSeries() {
		for _, days := range noRuns(len(list)) {
			expectRunning(t, list, days, nil)
		}
	}
}

func TestPromise128InvalidSeriesHaveNoRuns(t *testing.T) {
	for _, list := range invalidSeries() {
		for _, days := range []int{math.MinInt, -1, 0, 1, 2, len(list) - 1, len(list), mostDays, mostDays + 1, math.MaxInt} {
			expectRunning(t, list, days, nil)
		}
	}
}

func TestPromise129RunsOfOneDayAndOfAllDays(t *testing.T) {
	for _, list := range trendSeries() {
		expectRunning(t, list, 1, list)
		mean, ok := impl.MeanOf(list, 0)
		if !ok {
			mean = noValue
		}
		expectRunning(t, list, len(list), []int{mean})
	}
}

func TestPromise130RunsInOtherDirection(t *testing.T) {
	for _, list := range trendSeries() {
		for days := 1; days <= len(list); days++ {
			means, ok := impl.RunningOf(list, days)
			if !ok || len(means) != len(list)-days+1 {
				t.Fatalf("RunningOf of %v and %d is %v, %v", list, days, means, ok)
			}
			expectRunning(t, reversed(list), days, reversed(means))
		}
	}
}

func TestPromise131SlopeExamples(t *testing.T) {
	n := noValue
	for _, row := range []struct {
		list []int
		num  int
		den  int
		fine bool
	}{
		{[]int{1, n, 4}, 3, 2, true}, {[]int{4, n, 1}, -3, 2, true}, {[]int{1, n, 3}, 1, 1, true}, {[]int{3, n, 1}, -1, 1, true}, {[]int{1, n, n, 7}, 2, 1, true}, {[]int{1, n, n, 6}, 5, 3, true}, {[]int{n, n, 1, 6, n}, 5, 1, true},
		{[]int{5, 5}, 0, 1, true}, {[]int{5, n, 5}, 0, 1, true}, {[]int{5, 5, 5, 5}, 0, 1, true}, {[]int{1, 2, 1}, 0, 1, true}, {[]int{0, 0}, 0, 1, true}, {slices.Repeat([]int{leastReading}, mostDays), 0, 1, true},
		{[]int{0, 2, 4, 6}, 2, 1, true}, {[]int{6, 4, 2, 0}, -2, 1, true}, {[]int{0, 0, 1}, 1, 2, true}, {[]int{1, 0, 0}, -1, 2, true}, {[]int{0, 1, 0, 1}, 1, 5, true}, {[]int{1, 0, 1, 0}, -1, 5, true}, {[]int{0, 0, 0, 1}, 3, 10, true}, {[]int{1, 0, 0, 0}, -3, 10, true},
		{[]int{leastReading, mostReading}, 11998, 1, true}, {[]int{mostReading, leastReading}, -11998, 1, true}, {[]int{leastReading, n, n, n, mostReading}, 5999, 2, true},
		{[]int{0, n, n, n, n, n, n, n, n, n, n, 22}, 2, 1, true}, {[]int{0, n, n, n, n, n, n, n, n, n, n, 21}, 21, 11, true}, {[]int{22, n, n, n, n, n, n, n, n, n, n, 0}, -2, 1, true},
		{[]int{5}, 0, 0, false}, {[]int{n}, 0, 0, false}, {[]int{5, n}, 0, 0, false}, {[]int{n, 5}, 0, 0, false}, {[]int{n, 5, n}, 0, 0, false}, {[]int{n, n}, 0, 0, false}, {slices.Repeat([]int{n}, mostDays), 0, 0, false},
		{nil, 0, 0, false}, {[]int{}, 0, 0, false}, {[]int{1, 2, 11000}, 0, 0, false}, {[]int{-1000, 1, 2}, 0, 0, false}, {slices.Repeat([]int{5}, mostDays+1), 0, 0, false},
		{[]int{0, 1, 2, 3, 4, 5, 6, 7, 8, 9, 10, 11}, 1, 1, true}, {[]int{0, 0, 0, 0, 0, 0, 0, 0, 0, 0, 0, 1}, 1, 26, true},
	} {
		expectSlope(t, row.list, row.num, row.den, row.fine)
	}
}

func TestPromise131SlopesOfAllSmallSeries(t *testing.T) {
	for days := 1; days <= 6; days++ {
		for _, list := range smallSeries(days, []int{noValue, -3, 0, 1, 4}) {
			num, den, fine := slopeBy(list)
			expectSlope(t, list, num, den, fine)
		}
	}
}

func TestPromise131SlopesHaveNoCommonFactors(t *testing.T) {
	for _, list := range trendSeries() {
		wantNum, wantDen, fine := slopeBy(list)
		expectSlope(t, list, wantNum, wantDen, fine)
		num, den, ok := impl.SlopeOf(list)
		if ok != (len(knownOf(list)) >= 2) || ok && den < 1 {
			t.Fatalf("SlopeOf of %v is %d, %d, %v", list, num, den, ok)
		}
		for factor := 2; factor <= den; factor++ {
			if num%factor == 0 && den%factor == 0 {
				t.Fatalf("SlopeOf of %v is %d, %d, and %d divides both", list, num, den, factor)
			}
		}
	}
}

// TestPromise131SlopesByTheWordsOfTheDocument has all four sums as they are
// written there.
func TestPromise131SlopesByTheWordsOfTheDocument(t *testing.T) {
	for _, list := range trendSeries() {
		n, sumDays, sumValues, sumSquares, sumProducts := 0, 0, 0, 0, 0
		for day, value := range list {
			if value == noValue {
				continue
			}
			n++
			sumDays += day
			sumValues += value
			sumSquares += day * day
			sumProducts += day * value
		}
		num, den, ok := impl.SlopeOf(list)
		if ok && num*(n*sumSquares-sumDays*sumDays) != den*(n*sumProducts-sumDays*sumValues) {
			t.Fatalf("SlopeOf of %v is %d, %d", list, num, den)
		}
	}
}

func TestPromise131InvalidSeriesHaveNoSlope(t *testing.T) {
	for _, list := range invalidSeries() {
		expectSlope(t, list, 0, 0, false)
	}
	for days := 1; days <= mostDays; days++ {
		expectSlope(t, slices.Repeat([]int{noValue}, days), 0, 0, false)
		for day := range days {
			list := slices.Repeat([]int{noValue}, days)
			list[day] = 5
			expectSlope(t, list, 0, 0, false)
		}
	}
}

func TestPromise132SlopesInOtherDirection(t *testing.T) {
	for _, list := range trendSeries() {
		num, den, ok := impl.SlopeOf(list)
		expectSlope(t, reversed(list), -num, den, ok)
		if !ok {
			continue
		}
		if slices.Contains(list, mostReading) {
			expectSlope(t, shifted(list, 1), 0, 0, false)
		} else {
			expectSlope(t, shifted(list, 1), num, den, true)
		}
	}
}

func TestPromise133SlopesOfLines(t *testing.T) {
	for _, step := range []int{-9998, -1200, -999, -77, -2, -1, 0, 1, 2, 90, 999, 1090, 1091, 5999, 9998} {
		for _, first := range []int{leastReading, -998, -1, 0, 1, 5000, 8999, 10998, mostReading} {
			for days := 2; days <= mostDays; days++ {
				line, ok := impl.LineOf(first, step, days)
				if ok {
					expectSlope(t, line, step, 1, true)
					expectDiffs(t, line, slices.Repeat([]int{step}, days-1))
				}
			}
		}
	}
}

// TestPromise134SlopesOfTwoValues has them on all days.
func TestPromise134SlopesOfTwoValues(t *testing.T) {
	for _, values := range [][2]int{{0, 0}, {5, 5}, {0, 1}, {0, 2}, {0, 6}, {0, 12}, {1, 0}, {6, 0}, {-3, 3}, {3, -3}, {leastReading, mostReading}, {mostReading, leastReading}, {0, 2520}, {2520, 0}, {0, 27720 / 4}} {
		for days := 2; days <= mostDays; days++ {
			for b := 1; b < days; b++ {
				for a := range b {
					list := slices.Repeat([]int{noValue}, days)
					list[a], list[b] = values[0], values[1]
					want := big.NewRat(int64(values[1]-values[0]), int64(b-a))
					expectSlope(t, list, int(want.Num().Int64()), int(want.Denom().Int64()), true)
				}
			}
		}
	}
}

func TestPromise135PairExamples(t *testing.T) {
	n := noValue
	for _, row := range []struct {
		list []int
		up   int
		down int
	}{
		{[]int{3, 1, 3}, 1, 1}, {[]int{1, 3, 5, n, 8}, 6, 0}, {[]int{8, n, 5, 3, 1}, 0, 6}, {[]int{5}, 0, 0}, {[]int{n}, 0, 0}, {[]int{n, n, n}, 0, 0}, {[]int{n, 5, n}, 0, 0},
		{[]int{1, 2}, 1, 0}, {[]int{2, 1}, 0, 1}, {[]int{2, 2}, 0, 0}, {[]int{1, n, 2}, 1, 0}, {[]int{2, n, n, 1}, 0, 1}, {[]int{n, 2, 2, n}, 0, 0}, {[]int{n, 1, 2}, 1, 0}, {[]int{2, 1, n}, 0, 1},
		{[]int{1, 1, 2, 2}, 4, 0}, {[]int{2, 2, 1, 1}, 0, 4}, {[]int{1, 2, 1, 2}, 3, 1}, {[]int{2, 1, 2, 1}, 1, 3}, {[]int{2, 1, 3}, 2, 1}, {[]int{2, 3, 1}, 1, 2}, {[]int{1, 3, 2}, 2, 1}, {[]int{3, 1, 2}, 1, 2},
		{[]int{2, 1, 3, 2, 1, 3, 2}, 9, 7}, {[]int{-1, 0, -1}, 1, 1}, {[]int{leastReading, mostReading, leastReading, mostReading}, 3, 1},
		{[]int{1, 2, 3, 4, 5, 6, 7, 8, 9, 10, 11, 12}, 66, 0}, {[]int{12, 11, 10, 9, 8, 7, 6, 5, 4, 3, 2, 1}, 0, 66}, {slices.Repeat([]int{7}, mostDays), 0, 0}, {[]int{6, 3, 9, 1, 4, 8, 11, 2, 5, 7, 10, 12}, 45, 21},
		{nil, -1, -1}, {[]int{}, -1, -1}, {[]int{1, 11000}, -1, -1}, {[]int{-1000, 1, 2}, -1, -1}, {slices.Repeat([]int{7}, mostDays+1), -1, -1},
	} {
		expectPairs(t, row.list, row.up, row.down)
	}
}

func TestPromise135AllPairs(t *testing.T) {
	for _, list := range trendSeries() {
		up, down := pairsBy(list)
		expectPairs(t, list, up, down)
		known := knownOf(list)
		all := len(known) * (len(known) - 1) / 2
		different := len(slices.Compact(sortedBy(list))) == len(known)
		if up+down > all || different && up+down != all {
			t.Fatalf("PairsOf of %v is %d, %d, of %d pairs", list, up, down, all)
		}
	}
}

func TestPromise135PairsOfAllSmallSeries(t *testing.T) {
	for days := 1; days <= 7; days++ {
		numbers := []int{noValue, -2, 0, 1, 5}
		if days > 5 {
			numbers = []int{noValue, 0, 1, 2}
		}
		for _, list := range smallSeries(days, numbers) {
			up, down := pairsBy(list)
			expectPairs(t, list, up, down)
		}
	}
}

// TestPromise135PairsOfAllOrders has five different values, and equal ones
// among them, in all orders, since each order makes another tree.
func TestPromise135PairsOfAllOrders(t *testing.T) {
	for _, list := range smallSeries(6, []int{10, 20, 30, 40, 50}) {
		up, down := pairsBy(list)
		expectPairs(t, list, up, down)
	}
	source := rand.New(rand.NewSource(135))
	for range 3000 {
		list := source.Perm(mostDays)
		up, down := pairsBy(list)
		expectPairs(t, list, up, down)
	}
}

func TestPromise135InvalidSeriesHaveNoPairs(t *testing.T) {
	for _, list := range invalidSeries() {
		expectPairs(t, list, -1, -1)
	}
}

func TestPromise136PairsInOtherDirection(t *testing.T) {
	for _, list := range trendSeries() {
		up, down := impl.PairsOf(list)
		expectPairs(t, reversed(list), down, up)
		if sorted := impl.SortedOf(list); len(sorted) > 0 {
			expectPairs(t, sorted, up+down, 0)
			expectPairs(t, reversed(sorted), 0, up+down)
		}
	}
}

func TestPromise137TrendExamples(t *testing.T) {
	n := noValue
	for _, row := range []struct {
		list []int
		want int
	}{
		{[]int{1, 3, 5, n, 8}, 1}, {[]int{8, n, 5, 3, 1}, -1}, {[]int{3, 1, 3}, 0}, {[]int{5}, 0}, {[]int{n}, 0}, {[]int{n, n}, 0}, {[]int{5, 5, 5}, 0}, {[]int{1, 2}, 1}, {[]int{2, 1}, -1}, {[]int{2, n, 2}, 0},
		{[]int{2, 1, 3}, 1}, {[]int{2, 3, 1}, -1}, {[]int{1, 2, 1}, 0}, {[]int{1, 2, 1, 2}, 1}, {[]int{2, 1, 2, 1}, -1}, {[]int{10, 1, 2, 3}, 0}, {[]int{10, 1, 2, 3, 4}, 1}, {[]int{10, 1, 2}, -1}, {[]int{1, 2, 3, 0}, 0},
		{[]int{leastReading, mostReading}, 1}, {[]int{mostReading, leastReading}, -1}, {[]int{0, -1}, -1}, {[]int{-1, 0}, 1},
		{nil, -9}, {[]int{}, -9}, {[]int{1, 2, 11000}, -9}, {[]int{2, 1, -1000}, -9}, {slices.Repeat([]int{7}, mostDays+1), -9}, {slices.Repeat([]int{7}, mostDays), 0},
	} {
		expectTrend(t, row.list, row.want)
	}
}

func TestPromise137PairsThatGoUpAndDown(t *testing.T) {
	for _, list := range append(trendSeries(), smallSeries(5, []int{noValue, 0, 1, 2})...) {
		up, down := pairsBy(list)
		expectTrend(t, list, signOf(up-down))
		expectTrend(t, reversed(list), signOf(down-up))
	}
}

func TestPromise137InvalidSeriesHaveNoTrend(t *testing.T) {
	for _, list := range invalidSeries() {
		expectTrend(t, list, -9)
	}
}

func TestPromise138LineExamples(t *testing.T) {
	for _, row := range []struct {
		first int
		step  int
		days  int
		want  []int
	}{
		{5, -2, 3, []int{5, 3, 1}}, {5, 0, 3, []int{5, 5, 5}}, {5, 2, 1, []int{5}}, {0, 0, 1, []int{0}}, {-5, 5, 3, []int{-5, 0, 5}}, {5, 5, 0, nil}, {5, 5, -1, nil}, {5, 5, 13, nil},
		{0, 1, 12, []int{0, 1, 2, 3, 4, 5, 6, 7, 8, 9, 10, 11}}, {11, -1, 12, []int{11, 10, 9, 8, 7, 6, 5, 4, 3, 2, 1, 0}},
		{0, 9998, 2, []int{0, 9998}}, {0, 9999, 2, nil}, {9998, -9998, 2, []int{9998, 0}}, {9999, -9999, 2, nil}, {5, 9998, 1, []int{5}}, {5, 9999, 1, nil}, {5, -9998, 1, []int{5}}, {5, -9999, 1, nil},
		{leastReading, 0, 2, []int{leastReading, leastReading}}, {leastReading, -1, 2, nil}, {leastReading, -1, 1, []int{leastReading}}, {leastReading - 1, 1, 2, nil}, {leastReading - 1, 0, 1, nil}, {leastReading, 9998, 2, []int{-999, 8999}}, {leastReading, 9998, 3, nil},
		{mostReading, 0, 2, []int{mostReading, mostReading}}, {mostReading, 1, 2, nil}, {mostReading, 1, 1, []int{mostReading}}, {mostReading + 1, -1, 2, nil}, {mostReading + 1, 0, 1, nil}, {mostReading, -9998, 2, []int{10999, 1001}}, {mostReading, -9998, 3, nil},
		{noValue, 0, 1, nil}, {noValue, 9000, 2, nil}, {1, -10000, 2, nil}, {math.MaxInt, 1, 2, nil}, {math.MinInt, -1, 2, nil}, {math.MaxInt, 0, 1, nil}, {math.MinInt, 0, 1, nil}, {5, math.MaxInt, 1, nil}, {5, math.MinInt, 1, nil}, {5, 0, math.MaxInt, nil}, {5, 0, math.MinInt, nil},
	} {
		expectLine(t, row.first, row.step, row.days, row.want)
	}
}

// TestPromise138LinesThatLeaveTheReadings also has those of which only the
// last value is no reading.
func TestPromise138LinesThatLeaveTheReadings(t *testing.T) {
	for days := 2; days <= mostDays; days++ {
		for _, step := range []int{1, 2, 10, 333, 999, 1000} {
			up := mostReading - step*(days-1)
			down := leastReading + step*(days-1)
			for off := -step - 1; off <= step+1; off++ {
				expectLine(t, up+off, step, days, lineBy(up+off, step, days))
				expectLine(t, down+off, -step, days, lineBy(down+off, -step, days))
			}
			if lineBy(up, step, days) == nil || lineBy(up+1, step, days) != nil || lineBy(down, -step, days) == nil || lineBy(down-1, -step, days) != nil {
				t.Fatalf("the lines of %d days with the step %d end elsewhere", days, step)
			}
		}
	}
}

func TestPromise138AllLines(t *testing.T) {
	for _, first := range append(someReadings(), append(noReadings(), noValue)...) {
		for _, step := range append(noDiffs(), -mostDiff, -9997, -5000, -1091, -1090, -2, -1, 0, 1, 2, 1090, 1091, 5999, 6000, 9997, mostDiff) {
			for days := -1; days <= mostDays+2; days++ {
				expectLine(t, first, step, days, lineBy(first, step, days))
			}
			for _, days := range []int{math.MinInt, -1<<32 + 2, 256 + 2, 1<<16 + 2, 1<<32 + 2, math.MaxInt} {
				expectLine(t, first, step, days, nil)
			}
		}
	}
}

func TestPromise138TrendsOfLines(t *testing.T) {
	for _, step := range []int{-9998, -1200, -999, -2, -1, 0, 1, 2, 90, 1090, 9998} {
		for _, first := range []int{leastReading, -1, 0, 1, 5000, mostReading} {
			for days := 2; days <= mostDays; days++ {
				if line, ok := impl.LineOf(first, step, days); ok {
					expectTrend(t, line, signOf(step))
				}
			}
		}
	}
}

// TestPromise139LinesFillGaps knows only the first and the last value.
func TestPromise139LinesFillGaps(t *testing.T) {
	for _, step := range []int{0, 1, 2, 7, 90, 999, 1090, 1091, 5999} {
		for _, first := range []int{leastReading, -998, -1, 0, 1, 5000, 8999, mostReading} {
			for days := 3; days <= mostDays; days++ {
				line, ok := impl.LineOf(first, step, days)
				if !ok {
					continue
				}
				ends := slices.Repeat([]int{noValue}, days)
				ends[0], ends[days-1] = line[0], line[days-1]
				var want []impl.Range
				for _, value := range line {
					want = append(want, impl.Range{Low: value, High: value})
				}
				expectFill(t, fillRow{ends, leastReading, mostReading, step}, want)
			}
		}
	}
}

// TestTrendsKeepArguments has lists that are parts of longer ones, so that
// what is behind them could be overwritten, or taken for a part of them.
func TestTrendsKeepArguments(t *testing.T) {
	for many := 0; many <= mostDays+1; many++ {
		list := []int{9, 10, 8, 30, 31, noValue, 7, 7, 50, -3, 6, 60, 5, 900, -900}
		old := slices.Clone(list)
		for range 2 {
			diffs, _ := impl.DiffsOf(list[:many])
			means, _ := impl.RunningOf(list[:many], 1)
			_, _, ok := impl.SlopeOf(list[:many])
			up, down := impl.PairsOf(list[:many])
			trend := impl.TrendOf(list[:many])
			valid := 1 <= many && many <= mostDays
			two := valid && many >= 2
			if (len(diffs) > 0) != two || (len(means) > 0) != valid || ok != two || (up >= 0) != valid || (down >= 0) != valid || (trend >= -1) != valid {
				t.Errorf("the functions return %v, %v, %v, %d, %d and %d for %d days", diffs, means, ok, up, down, trend, many)
			}
		}
		if !slices.Equal(list, old) {
			t.Errorf("%v has become %v", old, list)
		}
	}
}

func TestTrendsThatAreReturnedShareNoMemory(t *testing.T) {
	for days := 2; days <= mostDays; days++ {
		longer := make([]int, mostDays+4)
		for i := range longer {
			longer[i] = i * i
		}
		list := longer[:days]
		old := slices.Clone(longer)
		keptDiffs, _ := impl.DiffsOf(list)
		keptMeans, _ := impl.RunningOf(list, 1)
		keptLine, _ := impl.LineOf(5, 7, days)
		for range 2 {
			diffs, _ := impl.DiffsOf(list)
			means, _ := impl.RunningOf(list, 1)
			line, _ := impl.LineOf(5, 7, days)
			all, _ := impl.RunningOf(list, days)
			if !slices.Equal(diffs, diffsBy(list)) || !slices.Equal(means, list) || !slices.Equal(line, lineBy(5, 7, days)) || len(all) != 1 {
				t.Fatalf("the results are %v, %v, %v and %v", diffs, means, line, all)
			}
			overwrite(diffs, 66)
			overwrite(means, 66)
			overwrite(line, 66)
			overwrite(all, 66)
			if !slices.Equal(longer, old) || !slices.Equal(keptDiffs, diffsBy(list)) || !slices.Equal(keptMeans, list) || !slices.Equal(keptLine, lineBy(5, 7, days)) {
				t.Fatalf("%v has become %v, and the results %v, %v and %v", old, longer, keptDiffs, keptMeans, keptLine)
			}
		}
	}
}
