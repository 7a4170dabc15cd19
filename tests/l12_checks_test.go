package tests

import (
	"math"
	"math/rand"
	"slices"
	"testing"

	"loop.example/weatherarchive/impl"
)

// The limits are written out here as the document has them, so that a wrong
// constant of the program is noticed.
const (
	flagNone  = 1
	flagLimit = 2
	flagStep  = 4
	flagSame  = 8
	mostFlags = 15
	sameRun   = 4
	mostStep  = 19999
)

func noSteps() []int {
	return []int{math.MinInt, math.MinInt + 1, -1 << 62, -1<<32 + 5, -19999, -5, -2, -1, mostStep + 1, mostStep + 2, 99999, 1 << 31, 1<<32 + 5, 1 << 62, math.MaxInt - 1, math.MaxInt}
}

func noFlags() []int {
	return []int{math.MinInt, math.MinInt + 1, -1<<32 + 5, -256, -16, -15, -8, -2, -1, mostFlags + 1, mostFlags + 2, 24, 31, 32, 128, 256 + 1, 1<<32 + 1, 1 << 62, math.MaxInt - 1, math.MaxInt}
}

// noValues has numbers that are neither readings nor noValue.
func noValues() []int {
	return append(slices.DeleteFunc(noReadings(), func(n int) bool { return n == noValue }), noValue-1, noValue+1)
}

// randomSeries returns a series of few different values, so that runs of equal
// ones are frequent. The values are next to each other, so that small steps
// divide them.
func randomSeries(days int, source *rand.Rand) []int {
	base := []int{leastReading, -1, 0, 500, mostReading - 2}[source.Intn(5)]
	list := make([]int, days)
	for i := range list {
		switch {
		case source.Intn(5) == 0:
			list[i] = noValue
		case i > 0 && source.Intn(2) == 0:
			list[i] = list[i-1]
		default:
			list[i] = base + source.Intn(3)
		}
	}
	return list
}

// validSeries has series of all lengths.
func validSeries() [][]int {
	n := noValue
	rows := [][]int{
		{leastReading}, {mostReading}, {0}, {n},
		{n, 5, 5}, {5, n, 5}, {5, 5, n}, {n, n, 5}, {5, n, n}, {n, 5, n},
		{5, 5, 5, 5, n, 90}, {leastReading, mostReading, leastReading, n, mostReading},
	}
	source := rand.New(rand.NewSource(12))
	for days := 1; days <= mostDays; days++ {
		rows = append(rows, slices.Repeat([]int{n}, days), slices.Repeat([]int{7}, days), manyReadings(days, days))
		for range 40 {
			rows = append(rows, randomSeries(days, source))
		}
	}
	return rows
}

// invalidSeries has series that are too short or too long, and others with a
// number that is no value at their beginning, in their middle and at their end.
func invalidSeries() [][]int {
	rows := [][]int{nil, {}}
	for _, many := range []int{mostDays + 1, mostDays + 2, 2 * mostDays, 100, 256, 256 + 3, 1<<16 + 3} {
		rows = append(rows, slices.Repeat([]int{5}, many), slices.Repeat([]int{noValue}, many))
	}
	for _, bad := range noValues() {
		for _, many := range []int{1, 2, 3, mostDays} {
			for _, place := range []int{0, many / 2, many - 1} {
				list := manyReadings(many, 4)
				list[place] = bad
				rows = append(rows, list)
			}
		}
	}
	return rows
}

// smallSeries has all series of so many days with the given numbers.
func smallSeries(days int, numbers []int) [][]int {
	rows := [][]int{{}}
	for range days {
		var longer [][]int
		for _, row := range rows {
			for _, n := range numbers {
				longer = append(longer, append(slices.Clone(row), n))
			}
		}
		rows = longer
	}
	return rows
}

// shifted adds a number to all values, but not to days without one.
func shifted(list []int, by int) []int {
	list = slices.Clone(list)
	for i := range list {
		if list[i] != noValue {
			list[i] += by
		}
	}
	return list
}

func knownOf(list []int) []int {
	var known []int
	for _, value := range list {
		if value != noValue {
			known = append(known, value)
		}
	}
	return known
}

func apart(a int, b int) int {
	if a < b {
		return b - a
	}
	return a - b
}

// inRun tells by other means than the program whether a day is one of sameRun
// equal ones: it tries all places where these could be.
func inRun(list []int, day int) bool {
	for start := max(day-sameRun+1, 0); start <= day && start+sameRun <= len(list); start++ {
		if len(slices.Compact(slices.Clone(list[start:start+sameRun]))) == 1 {
			return true
		}
	}
	return false
}

func flagsBy(list []int, low int, high int, step int) []int {
	flags := make([]int, len(list))
	for day, value := range list {
		if value == noValue {
			flags[day] = flagNone
			continue
		}
		if !(low <= value && value <= high) {
			flags[day] += flagLimit
		}
		if day > 0 && list[day-1] != noValue && apart(value, list[day-1]) > step {
			flags[day] += flagStep
		}
		if inRun(list, day) {
			flags[day] += flagSame
		}
	}
	return flags
}

func cleanBy(list []int, flags []int) []int {
	clean := []int{}
	for day, value := range list {
		if flags[day] == 0 {
			clean = append(clean, value)
		} else {
			clean = append(clean, noValue)
		}
	}
	return clean
}

// expectFlags checks what FlagsOf returns if it must succeed with want, or, if
// want is nil, fail.
func expectFlags(t *testing.T, list []int, low int, high int, step int, want []int) {
	t.Helper()
	got, ok := impl.FlagsOf(list, low, high, step)
	if !slices.Equal(got, want) || ok != (want != nil) {
		t.Fatalf("FlagsOf of %v, %d, %d, %d is %v, %v, not %v", list, low, high, step, got, ok, want)
	}
}

// expectClean does the same for FlagsClean.
func expectClean(t *testing.T, list []int, flags []int, want []int) {
	t.Helper()
	got, ok := impl.FlagsClean(list, flags)
	if !slices.Equal(got, want) || ok != (want != nil) {
		t.Fatalf("FlagsClean of %v and %v is %v, %v, not %v", list, flags, got, ok, want)
	}
}

func expectKnown(t *testing.T, list []int, want int) {
	t.Helper()
	if got := impl.SeriesKnown(list); got != want {
		t.Fatalf("SeriesKnown of %v is %d, not %d", list, got, want)
	}
}

func TestConstantsOfChecks(t *testing.T) {
	got := [5]int{impl.FlagNone, impl.FlagLimit, impl.FlagStep, impl.FlagSame, impl.SameLeast}
	if want := [5]int{1, 2, 4, 8, 4}; got != want {
		t.Errorf("the constants are %v, not %v", got, want)
	}
}

func TestPromise43Examples(t *testing.T) {
	n := noValue
	for _, row := range []struct {
		list []int
		low  int
		high int
		step int
		want []int
	}{
		{[]int{5}, 0, 10, 0, []int{0}},
		{[]int{5}, 5, 5, 0, []int{0}},
		{[]int{5}, 6, 10, 0, []int{2}},
		{[]int{5}, 0, 4, 0, []int{2}},
		{[]int{n}, 0, 10, 0, []int{1}},
		{[]int{n}, -20000, 20000, 0, []int{1}},
		{[]int{5, 5, 5, 5, n, 90}, 0, 50, 10, []int{8, 8, 8, 8, 1, 2}},
		{[]int{0, 10, 20, 31, 20, 10}, 0, 30, 10, []int{0, 0, 0, 6, 4, 0}},
		{[]int{0, 90, 90, 90, 90, 0}, 0, 50, 10, []int{0, 14, 10, 10, 10, 4}},
		{[]int{90, 90, 90, 0, 0, 0, 0}, 0, 50, 10, []int{2, 2, 2, 12, 8, 8, 8}},
		{[]int{n, 90, n, 90, n}, 0, 50, 10, []int{1, 2, 1, 2, 1}},
		{[]int{-999, 10999}, -999, 10999, 11997, []int{0, 4}},
		{[]int{-999, 10999}, -998, 10998, 11998, []int{2, 2}},
	} {
		expectFlags(t, row.list, row.low, row.high, row.step, row.want)
	}
}

func TestPromise43LimitsAreInclusive(t *testing.T) {
	for _, value := range []int{leastReading, -998, -1, 0, 1, 500, 10998, mostReading} {
		list := []int{value}
		expectFlags(t, list, value, value, 0, []int{0})
		expectFlags(t, list, value-1, value+1, 0, []int{0})
		expectFlags(t, list, value+1, value+1, 0, []int{flagLimit})
		expectFlags(t, list, value-1, value-1, 0, []int{flagLimit})
		expectFlags(t, list, value, math.MaxInt, 0, []int{0})
		expectFlags(t, list, value+1, math.MaxInt, 0, []int{flagLimit})
		expectFlags(t, list, math.MinInt, value, 0, []int{0})
		expectFlags(t, list, math.MinInt, value-1, 0, []int{flagLimit})
	}
}

// TestPromise43ExchangedLimits has limits between which nothing is, and values
// below, between and above them.
func TestPromise43ExchangedLimits(t *testing.T) {
	list := []int{4, 5, 6, 7, 8, 9, 10, 11}
	expectFlags(t, list, 10, 5, 1, []int{2, 2, 2, 2, 2, 2, 2, 2})
	expectFlags(t, list, 5, 10, 1, []int{2, 0, 0, 0, 0, 0, 0, 2})
	expectFlags(t, list, 8, 7, 1, []int{2, 2, 2, 2, 2, 2, 2, 2})
	expectFlags(t, list, 7, 8, 1, []int{2, 2, 2, 0, 0, 2, 2, 2})
}

func TestPromise43LeastAndLargestLimits(t *testing.T) {
	list := []int{leastReading, noValue, 0, noValue, mostReading}
	for _, row := range []struct {
		low  int
		high int
		want []int
	}{
		{math.MinInt, math.MaxInt, []int{0, 1, 0, 1, 0}},
		{math.MaxInt, math.MinInt, []int{2, 1, 2, 1, 2}},
		{math.MinInt, math.MinInt, []int{2, 1, 2, 1, 2}},
		{math.MaxInt, math.MaxInt, []int{2, 1, 2, 1, 2}},
		{math.MinInt, 0, []int{0, 1, 0, 1, 2}},
		{0, math.MaxInt, []int{2, 1, 0, 1, 0}},
		{math.MaxInt, 0, []int{2, 1, 2, 1, 2}},
		{0, math.MinInt, []int{2, 1, 2, 1, 2}},
		{-1<<32 - 999, 1<<32 + 10999, []int{0, 1, 0, 1, 0}},
		{1<<32 - 999, 1<<32 + 10999, []int{2, 1, 2, 1, 2}},
	} {
		expectFlags(t, list, row.low, row.high, mostStep, row.want)
	}
}

func TestPromise43DaysWithoutAValue(t *testing.T) {
	limits := []int{math.MinInt, -20000, noValue - 1, noValue, noValue + 1, 0, 20000, math.MaxInt}
	for days := 1; days <= mostDays; days++ {
		for place := range days {
			list := manyReadings(days, 3)
			list[place] = noValue
			alone := slices.Repeat([]int{noValue}, days)
			for _, low := range limits {
				for _, high := range limits {
					for _, step := range []int{0, mostStep} {
						expectFlags(t, list, low, high, step, flagsBy(list, low, high, step))
						expectFlags(t, alone, low, high, step, slices.Repeat([]int{flagNone}, days))
					}
				}
			}
		}
	}
}

func TestPromise44StepsAreInclusive(t *testing.T) {
	for _, a := range []int{leastReading, -998, -1, 0, 1, 700, 10998, mostReading} {
		for _, b := range []int{leastReading, -997, -2, 0, 1, 701, 10997, mostReading} {
			difference := apart(a, b)
			list := []int{a, b}
			expectFlags(t, list, leastReading, mostReading, difference, []int{0, 0})
			expectFlags(t, list, leastReading, mostReading, difference+1, []int{0, 0})
			if difference > 0 {
				expectFlags(t, list, leastReading, mostReading, difference-1, []int{0, flagStep})
			}
		}
	}
}

func TestPromise44NeighboursAlone(t *testing.T) {
	n := noValue
	for _, row := range []struct {
		list []int
		want []int
	}{
		{[]int{0, 11}, []int{0, 4}},
		{[]int{11, 0}, []int{0, 4}},
		{[]int{0, 10}, []int{0, 0}},
		{[]int{10, 0}, []int{0, 0}},
		{[]int{0, n, 50}, []int{0, 1, 0}},
		{[]int{0, n, 50, 61}, []int{0, 1, 0, 4}},
		{[]int{0, n, n, 50, 60}, []int{0, 1, 1, 0, 0}},
		{[]int{n, 50}, []int{1, 0}},
		{[]int{n, n, 50, 39}, []int{1, 1, 0, 4}},
		{[]int{50, n}, []int{0, 1}},
		{[]int{0, 5, 10, 15}, []int{0, 0, 0, 0}},
		{[]int{0, 11, 22, 11, 0}, []int{0, 4, 4, 4, 4}},
		{[]int{0, 11, 11, 0}, []int{0, 4, 0, 4}},
		{[]int{50, 0, 0}, []int{0, 4, 0}},
	} {
		expectFlags(t, row.list, leastReading, mostReading, 10, row.want)
	}
}

func TestPromise44LeastAndLargestStep(t *testing.T) {
	list := []int{leastReading, mostReading, leastReading, -998, -998}
	expectFlags(t, list, leastReading, mostReading, 0, []int{0, 4, 4, 4, 0})
	expectFlags(t, list, leastReading, mostReading, 1, []int{0, 4, 4, 0, 0})
	expectFlags(t, list, leastReading, mostReading, 11997, []int{0, 4, 4, 0, 0})
	expectFlags(t, list, leastReading, mostReading, 11998, []int{0, 0, 0, 0, 0})
	expectFlags(t, list, leastReading, mostReading, mostStep, []int{0, 0, 0, 0, 0})
}

func TestPromise44OtherStepsFail(t *testing.T) {
	for _, step := range noSteps() {
		for _, list := range [][]int{{5}, {noValue}, {0, 90}, manyReadings(mostDays, 1)} {
			expectFlags(t, list, 0, 50, step, nil)
			expectFlags(t, list, math.MinInt, math.MaxInt, step, nil)
		}
	}
}

// TestPromise45Runs has runs of all lengths at all places, among values that
// differ from each other.
func TestPromise45Runs(t *testing.T) {
	for days := 1; days <= mostDays; days++ {
		for run := 1; run <= days; run++ {
			for first := 0; first+run <= days; first++ {
				list := manyReadings(days, 2)
				want := make([]int, days)
				for day := first; day < first+run; day++ {
					list[day] = 4321
					if run >= sameRun {
						want[day] = flagSame
					}
				}
				expectFlags(t, list, leastReading, mostReading, mostStep, want)
			}
		}
	}
}

func TestPromise45RunsSideBySide(t *testing.T) {
	n := noValue
	for _, row := range []struct {
		list []int
		want []int
	}{
		{[]int{5, 5, 5, 6, 6, 6}, []int{0, 0, 0, 0, 0, 0}},
		{[]int{5, 5, 5, 5, 6, 6, 6, 6}, []int{8, 8, 8, 8, 8, 8, 8, 8}},
		{[]int{5, 5, 5, 5, 6, 6, 6}, []int{8, 8, 8, 8, 0, 0, 0}},
		{[]int{5, 5, 5, 6, 6, 6, 6}, []int{0, 0, 0, 8, 8, 8, 8}},
		{[]int{5, 5, 5, 5, 5, 4, 4, 4, 4, 4}, []int{8, 8, 8, 8, 8, 8, 8, 8, 8, 8}},
		{[]int{5, 5, 6, 5, 5, 5}, []int{0, 0, 0, 0, 0, 0}},
		{[]int{5, 6, 5, 6, 5, 6, 5, 6}, []int{0, 0, 0, 0, 0, 0, 0, 0}},
		{[]int{5, 5, n, 5, 5}, []int{0, 0, 1, 0, 0}},
		{[]int{5, 5, 5, n, 5, 5, 5, 5}, []int{0, 0, 0, 1, 8, 8, 8, 8}},
		{[]int{5, 5, 5, 5, n, 5}, []int{8, 8, 8, 8, 1, 0}},
		{[]int{n, n, n, n}, []int{1, 1, 1, 1}},
		{[]int{n, n, n, n, n}, []int{1, 1, 1, 1, 1}},
		{[]int{n, n, n, 5, 5, 5}, []int{1, 1, 1, 0, 0, 0}},
		{[]int{n, n, n, n, 5, 5, 5, 5, n, n, n, n}, []int{1, 1, 1, 1, 8, 8, 8, 8, 1, 1, 1, 1}},
		{[]int{0, 0, 0, 0}, []int{8, 8, 8, 8}},
		{[]int{-999, -999, -999, -999, 10999, 10999, 10999, 10999}, []int{8, 8, 8, 8, 8, 8, 8, 8}},
	} {
		expectFlags(t, row.list, leastReading, mostReading, mostStep, row.want)
	}
}

// TestPromise45SeveralFlags also has the flags of a day that is out of the
// limits, too far from the day before and one of several equal ones.
func TestPromise45SeveralFlags(t *testing.T) {
	expectFlags(t, []int{0, 60, 60, 60, 60}, 0, 50, 59, []int{0, 14, 10, 10, 10})
	expectFlags(t, []int{0, 60, 60, 60, 60}, 0, 50, 60, []int{0, 10, 10, 10, 10})
	expectFlags(t, []int{0, 60, 60, 60, 60}, 0, 60, 59, []int{0, 12, 8, 8, 8})
	expectFlags(t, []int{0, 60, 60, 60, 61}, 0, 50, 59, []int{0, 6, 2, 2, 2})
	expectFlags(t, []int{0, 60, 60, 60, 61}, 0, 60, 59, []int{0, 4, 0, 0, 2})
}

func TestPromises43To45AllSmallSeries(t *testing.T) {
	for days := 1; days <= 6; days++ {
		for _, list := range smallSeries(days, []int{noValue, -1, 0, 2}) {
			for step := 0; step <= 3; step++ {
				expectFlags(t, list, 0, 1, step, flagsBy(list, 0, 1, step))
				expectFlags(t, list, -1, 0, step, flagsBy(list, -1, 0, step))
			}
		}
	}
}

func TestPromises43To45AllLengths(t *testing.T) {
	for _, list := range validSeries() {
		for _, low := range []int{math.MinInt, leastReading, leastReading + 1, 0, 1, 501, mostReading} {
			for _, high := range []int{leastReading, -1, 0, 1, 501, mostReading - 1, mostReading, math.MaxInt} {
				for _, step := range []int{0, 1, 2, 11997, mostStep} {
					expectFlags(t, list, low, high, step, flagsBy(list, low, high, step))
				}
			}
		}
	}
}

func TestPromises43To45InvalidSeriesFail(t *testing.T) {
	for _, list := range invalidSeries() {
		for _, step := range []int{-1, 0, 10, mostStep, mostStep + 1} {
			expectFlags(t, list, 0, 50, step, nil)
			expectFlags(t, list, math.MinInt, math.MaxInt, step, nil)
		}
	}
}

func TestPromise46GreaterSeriesAndLimits(t *testing.T) {
	for _, list := range validSeries() {
		for _, low := range []int{math.MinInt, leastReading, 0, 500, mostReading} {
			for _, high := range []int{leastReading, 0, 501, mostReading, math.MaxInt - 1} {
				for _, step := range []int{0, 1, mostStep} {
					flags, ok := impl.FlagsOf(list, low, high, step)
					if !ok {
						t.Fatalf("FlagsOf of %v fails", list)
					}
					if greater := shifted(list, 1); slices.Contains(list, mostReading) {
						expectFlags(t, greater, low+1, high+1, step, nil)
					} else {
						expectFlags(t, greater, low+1, high+1, step, flags)
					}
				}
			}
		}
	}
}

func TestPromise47Examples(t *testing.T) {
	n := noValue
	for _, row := range []struct {
		list  []int
		flags []int
		want  []int
	}{
		{[]int{5, 5, 5, 5, n, 90}, []int{0, 0, 0, 0, 0, 2}, []int{5, 5, 5, 5, n, n}},
		{[]int{5}, []int{0}, []int{5}},
		{[]int{5}, []int{15}, []int{n}},
		{[]int{n}, []int{0}, []int{n}},
		{[]int{n}, []int{1}, []int{n}},
		{[]int{1, 2, 3, 4}, []int{1, 2, 4, 8}, []int{n, n, n, n}},
		{[]int{1, 2, 3, 4}, []int{8, 0, 0, 0}, []int{n, 2, 3, 4}},
		{[]int{1, 2, 3, 4}, []int{0, 0, 0, 3}, []int{1, 2, 3, n}},
		{[]int{0, 0, 0}, []int{0, 9, 0}, []int{0, n, 0}},
		{[]int{-999, 10999}, []int{0, 0}, []int{-999, 10999}},
	} {
		expectClean(t, row.list, row.flags, row.want)
	}
}

func TestPromise47EachFlag(t *testing.T) {
	for days := 1; days <= mostDays; days++ {
		for place := range days {
			for flag := 0; flag <= mostFlags; flag++ {
				list := manyReadings(days, 5)
				flags := make([]int, days)
				flags[place] = flag
				want := slices.Clone(list)
				if flag > 0 {
					want[place] = noValue
				}
				expectClean(t, list, flags, want)
			}
		}
	}
}

func TestPromise47NoFlagsChangeNothing(t *testing.T) {
	for _, list := range validSeries() {
		expectClean(t, list, make([]int, len(list)), list)
		expectClean(t, list, slices.Repeat([]int{mostFlags}, len(list)), slices.Repeat([]int{noValue}, len(list)))
	}
}

func TestPromise47FlagsThatWereFound(t *testing.T) {
	for _, list := range validSeries() {
		for _, step := range []int{0, 1, 2, mostStep} {
			flags, ok := impl.FlagsOf(list, 0, 501, step)
			if !ok {
				t.Fatalf("FlagsOf of %v fails", list)
			}
			expectClean(t, list, flags, cleanBy(list, flags))
		}
	}
}

func TestPromise47OtherFlagsFail(t *testing.T) {
	for _, bad := range noFlags() {
		for _, days := range []int{1, 2, 3, mostDays} {
			for place := range days {
				flags := make([]int, days)
				flags[place] = bad
				expectClean(t, manyReadings(days, 1), flags, nil)
				expectClean(t, slices.Repeat([]int{noValue}, days), flags, nil)
			}
		}
	}
}

func TestPromise47OtherNumbersOfFlagsFail(t *testing.T) {
	for days := 1; days <= mostDays; days++ {
		list := manyReadings(days, 1)
		expectClean(t, list, nil, nil)
		expectClean(t, list, []int{}, nil)
		for many := 1; many <= mostDays+2; many++ {
			if many != days {
				expectClean(t, list, make([]int, many), nil)
				expectClean(t, list, slices.Repeat([]int{mostFlags}, many), nil)
			}
		}
		expectClean(t, list, make([]int, 256+days), nil)
	}
}

func TestPromise47InvalidSeriesFail(t *testing.T) {
	for _, list := range invalidSeries() {
		expectClean(t, list, make([]int, len(list)), nil)
		expectClean(t, list, slices.Repeat([]int{flagLimit}, len(list)), nil)
		expectClean(t, list, []int{0}, nil)
		expectClean(t, list, nil, nil)
	}
}

func TestPromise48CleanedSeriesStay(t *testing.T) {
	source := rand.New(rand.NewSource(48))
	for _, list := range validSeries() {
		for range 10 {
			flags := make([]int, len(list))
			for day := range flags {
				flags[day] = source.Intn(2) * source.Intn(mostFlags+1)
			}
			clean, ok := impl.FlagsClean(list, flags)
			if !ok || !slices.Equal(clean, cleanBy(list, flags)) {
				t.Fatalf("FlagsClean of %v and %v is %v, %v", list, flags, clean, ok)
			}
			expectClean(t, clean, flags, clean)
			if before, now := impl.SeriesKnown(list), impl.SeriesKnown(clean); now > before || now != len(knownOf(clean)) {
				t.Fatalf("SeriesKnown of %v is %d, and of %v %d", list, before, clean, now)
			}
		}
	}
}

func TestPromise49Examples(t *testing.T) {
	n := noValue
	for _, row := range []struct {
		list []int
		want int
	}{
		{nil, -1}, {[]int{}, -1},
		{[]int{5}, 1}, {[]int{0}, 1}, {[]int{n}, 0}, {[]int{n, n, n}, 0},
		{[]int{n, 5, 5}, 2}, {[]int{5, n, 5}, 2}, {[]int{5, 5, n}, 2}, {[]int{n, 5, n}, 1},
		{[]int{5, 5, 5, 5, n, 90}, 5},
		{slices.Repeat([]int{7}, 12), 12}, {slices.Repeat([]int{n}, 12), 0}, {slices.Repeat([]int{7}, 13), -1}, {slices.Repeat([]int{n}, 13), -1},
		{[]int{-999, 10999, n}, 2}, {[]int{-1000}, -1}, {[]int{11000}, -1}, {[]int{-9998}, -1}, {[]int{-10000}, -1},
	} {
		expectKnown(t, row.list, row.want)
	}
}

func TestPromise49NumberOfValues(t *testing.T) {
	for _, list := range validSeries() {
		expectKnown(t, list, len(knownOf(list)))
		expectKnown(t, reversed(list), len(knownOf(list)))
	}
	for _, list := range invalidSeries() {
		expectKnown(t, list, -1)
		expectKnown(t, reversed(list), -1)
	}
}

func TestPromise50WithoutTheFirstDay(t *testing.T) {
	for _, list := range validSeries() {
		if !impl.SeriesValid(list) {
			t.Fatalf("the series %v is invalid", list)
		}
		for first := range list {
			if !impl.SeriesValid(list[first:]) || !impl.SeriesValid(list[:first+1]) {
				t.Fatalf("a part of the series %v is invalid", list)
			}
		}
		if impl.SeriesValid(list[:0]) {
			t.Fatalf("a series without days is valid")
		}
	}
}

func TestPromise50EachNumber(t *testing.T) {
	for n := -10100; n <= 11100; n++ {
		want := leastReading <= n && n <= mostReading || n == noValue
		if valid := impl.SeriesValid([]int{n}); valid != want {
			t.Fatalf("the validity of a series with %d is %v", n, valid)
		}
	}
}

func TestPromise50WithANumberThatIsNoValue(t *testing.T) {
	for _, list := range validSeries() {
		for place := range list {
			for _, bad := range []int{mostReading + 1, leastReading - 1, noValue - 1, noValue + 1, math.MaxInt, math.MinInt} {
				with := slices.Clone(list)
				with[place] = bad
				if impl.SeriesValid(with) {
					t.Fatalf("the series %v is valid", with)
				}
			}
		}
	}
	for _, list := range invalidSeries() {
		if impl.SeriesValid(list) {
			t.Fatalf("the series %v is valid", list)
		}
	}
}

func TestPromise50Lengths(t *testing.T) {
	for days := 0; days <= 3*mostDays; days++ {
		for _, value := range []int{7, noValue} {
			if valid := impl.SeriesValid(slices.Repeat([]int{value}, days)); valid != (1 <= days && days <= mostDays) {
				t.Errorf("the validity of a series of %d days is %v", days, valid)
			}
		}
	}
}

func TestPromise51WiderChecks(t *testing.T) {
	for _, list := range validSeries() {
		for _, limits := range [][2]int{{0, 501}, {leastReading, mostReading}, {0, 0}, {501, 0}} {
			for _, step := range []int{0, 1, 2, 19990} {
				flags, ok := impl.FlagsOf(list, limits[0], limits[1], step)
				for _, wider := range []int{0, 1, 2, 9} {
					fewer, fine := impl.FlagsOf(list, limits[0]-wider, limits[1]+wider, step+wider)
					if !ok || !fine {
						t.Fatalf("FlagsOf of %v fails", list)
					}
					for day := range list {
						if fewer[day]&^flags[day] != 0 {
							t.Fatalf("FlagsOf of %v with %v and %d is %v, and %v with checks that are wider by %d", list, limits, step, flags, fewer, wider)
						}
					}
				}
			}
		}
	}
}

// TestChecksKeepArguments has lists that are parts of longer ones, so that
// what is behind them could be overwritten.
func TestChecksKeepArguments(t *testing.T) {
	for many := 0; many <= mostDays+1; many++ {
		list := []int{5, 5, 5, 5, noValue, 90, -3, noValue, noValue, 0, 0, 7, 8, 9, 10}
		flags := []int{0, 1, 2, 4, 8, 15, 0, 0, 3, 0, 0, 1, 0, 2, 3}
		oldList, oldFlags := slices.Clone(list), slices.Clone(flags)
		for range 2 {
			impl.SeriesValid(list[:many])
			impl.SeriesKnown(list[:many])
			_, ok := impl.FlagsOf(list[:many], 0, 50, 10)
			_, fine := impl.FlagsClean(list[:many], flags[:many])
			if ok != fine || ok != (1 <= many && many <= mostDays) {
				t.Errorf("the functions return %v and %v for %d days", ok, fine, many)
			}
		}
		if !slices.Equal(list, oldList) || !slices.Equal(flags, oldFlags) {
			t.Errorf("%v and %v have become %v and %v", oldList, oldFlags, list, flags)
		}
	}
}

func TestChecksTakeOneListForBothArguments(t *testing.T) {
	list := []int{3, 0, 9, 15, 0}
	expectClean(t, list, list, []int{noValue, 0, noValue, noValue, 0})
	if !slices.Equal(list, []int{3, 0, 9, 15, 0}) {
		t.Errorf("the list has become %v", list)
	}
}

func TestSeriesThatAreReturnedShareNoMemory(t *testing.T) {
	longer := []int{5, 5, 5, 5, noValue, 90, 77, 77}
	list := longer[:6]
	flags := []int{0, 0, 0, 0, 0, 2, 0, 0}
	oldFlags := slices.Clone(flags)
	old := slices.Clone(longer)
	for range 2 {
		found, ok := impl.FlagsOf(list, 0, 50, 10)
		if !ok || !slices.Equal(found, []int{8, 8, 8, 8, 1, 2}) {
			t.Fatalf("FlagsOf is %v, %v", found, ok)
		}
		overwrite(found, 66)
		for _, given := range [][]int{flags[:6], make([]int, 6)} {
			clean, ok := impl.FlagsClean(list, given)
			if !ok || !slices.Equal(clean, cleanBy(list, given)) {
				t.Fatalf("FlagsClean is %v, %v", clean, ok)
			}
			overwrite(clean, 66)
		}
		if !slices.Equal(longer, old) || !slices.Equal(flags, oldFlags) {
			t.Fatalf("%v and %v have become %v and %v", old, oldFlags, longer, flags)
		}
	}
	kept, _ := impl.FlagsClean(list, flags[:6])
	overwrite(longer, 66)
	if !slices.Equal(kept, []int{5, 5, 5, 5, noValue, noValue}) {
		t.Errorf("FlagsClean keeps the series: %v", kept)
	}
}
