package tests

import (
	"math"
	"math/rand"
	"slices"
	"testing"

	"loop.example/weatherarchive/impl"
)

// fillRow is what FillOf is asked.
type fillRow struct {
	list []int
	low  int
	high int
	step int
}

func ranges(ends ...[2]int) []impl.Range {
	list := []impl.Range{}
	for _, e := range ends {
		list = append(list, impl.Range{Low: e[0], High: e[1]})
	}
	return list
}

func lowsOf(list []impl.Range) []int {
	var lows []int
	for _, r := range list {
		lows = append(lows, r.Low)
	}
	return lows
}

func highsOf(list []impl.Range) []int {
	var highs []int
	for _, r := range list {
		highs = append(highs, r.High)
	}
	return highs
}

// agree tells by the words of the document whether values agree with a series.
func agree(f fillRow, days []int) bool {
	if len(days) != len(f.list) {
		return false
	}
	for i, value := range days {
		within := f.low <= value && value <= f.high
		same := f.list[i] == noValue || f.list[i] == value
		near := i == 0 || apart(days[i-1], value) <= f.step
		if !within || !same || !near {
			return false
		}
	}
	return true
}

// searchFill tries all values within the limits. It returns nil if none agree.
func searchFill(f fillRow) []impl.Range {
	var found []impl.Range
	days := make([]int, 0, len(f.list))
	var try func()
	try = func() {
		if len(days) == len(f.list) {
			found = joinDays(found, days)
			return
		}
		for value := f.low; value <= f.high; value++ {
			days = append(days, value)
			part := fillRow{f.list[:len(days)], f.low, f.high, f.step}
			if agree(part, days) {
				try()
			}
			days = days[:len(days)-1]
		}
	}
	try()
	return found
}

func joinDays(found []impl.Range, days []int) []impl.Range {
	if found == nil {
		for _, value := range days {
			found = append(found, impl.Range{Low: value, High: value})
		}
		return found
	}
	for i, value := range days {
		found[i] = impl.Range{Low: min(found[i].Low, value), High: max(found[i].High, value)}
	}
	return found
}

// fillBy tells by other means than the program what can be on each day: what
// each single value of the series allows there. It returns nil if nothing can.
func fillBy(f fillRow) []impl.Range {
	var found []impl.Range
	for day := range f.list {
		r := impl.Range{Low: f.low, High: f.high}
		for other, value := range f.list {
			if value != noValue {
				way := f.step * apart(day, other)
				r = impl.Range{Low: max(r.Low, value-way), High: min(r.High, value+way)}
			}
		}
		if r.Low > r.High {
			return nil
		}
		found = append(found, r)
	}
	return found
}

// expectFill checks what FillOf returns if it must succeed with want, or, if
// want is nil, fail.
func expectFill(t *testing.T, f fillRow, want []impl.Range) {
	t.Helper()
	got, ok := impl.FillOf(f.list, f.low, f.high, f.step)
	if !slices.Equal(got, want) || ok != (want != nil) {
		t.Fatalf("FillOf of %v is %v, %v, not %v", f, got, ok, want)
	}
}

func expectFits(t *testing.T, f fillRow, days []int, want bool) {
	t.Helper()
	if got := impl.FillFits(f.list, f.low, f.high, f.step, days); got != want {
		t.Fatalf("FillFits of %v and %v is %v", f, days, got)
	}
}

func expectWidth(t *testing.T, list []impl.Range, want int) {
	t.Helper()
	if got := impl.FillWidth(list); got != want {
		t.Fatalf("FillWidth of %v is %d, not %d", list, got, want)
	}
}

// fillOf returns what FillOf does, or nil if it fails.
func fillOf(f fillRow) []impl.Range {
	found, ok := impl.FillOf(f.list, f.low, f.high, f.step)
	if !ok {
		return nil
	}
	return found
}

// fillRows has questions of all lengths, of which many have an answer.
func fillRows() []fillRow {
	var rows []fillRow
	for _, list := range validSeries() {
		known := append(knownOf(list), 0)
		low, high := slices.Min(known), slices.Max(known)
		for _, limits := range [][2]int{
			{leastReading, mostReading}, {low, high}, {max(low-1, leastReading), min(high+1, mostReading)},
			{low, max(high-1, low)}, {min(low+1, high), high}, {0, 501}, {0, 0},
		} {
			for _, step := range []int{0, 1, 2, 11997, 11998, mostStep} {
				rows = append(rows, fillRow{list, limits[0], limits[1], step})
			}
		}
	}
	source := rand.New(rand.NewSource(21))
	for days := 1; days <= mostDays; days++ {
		for range 60 {
			rows = append(rows, fillableRow(days, source))
		}
	}
	return rows
}

// fillableRow returns a question that has an answer: it hides some values of
// days that differ by a step at most.
func fillableRow(days int, source *rand.Rand) fillRow {
	step := []int{1, 3, 10, 400}[source.Intn(4)]
	list := make([]int, days)
	value := source.Intn(5000)
	for i := range list {
		list[i] = value
		value += source.Intn(2*step+1) - step
		value = min(max(value, leastReading), mostReading)
	}
	f := fillRow{list, slices.Min(list) - source.Intn(3), slices.Max(list) + source.Intn(3), step}
	for i := range list {
		if source.Intn(3) > 0 {
			list[i] = noValue
		}
	}
	return f
}

// wrongFills has questions with a single invalid argument each.
func wrongFills() []fillRow {
	var rows []fillRow
	for _, list := range invalidSeries() {
		rows = append(rows, fillRow{list, leastReading, mostReading, mostStep}, fillRow{list, 5, 5, 0})
	}
	for _, list := range [][]int{{5}, {noValue}, {5, noValue, 5}, slices.Repeat([]int{noValue}, mostDays)} {
		for _, step := range noSteps() {
			rows = append(rows, fillRow{list, leastReading, mostReading, step}, fillRow{list, 5, 5, step})
		}
		for _, bad := range noReadings() {
			rows = append(rows, fillRow{list, bad, mostReading, 10}, fillRow{list, leastReading, bad, 10}, fillRow{list, bad, bad, 10})
		}
		for _, limits := range [][2]int{{6, 5}, {1, 0}, {0, -1}, {mostReading, leastReading}, {mostReading, mostReading - 1}, {leastReading + 1, leastReading}} {
			rows = append(rows, fillRow{list, limits[0], limits[1], mostStep}, fillRow{list, limits[0], limits[1], 0})
		}
	}
	return rows
}

func TestPromise66Examples(t *testing.T) {
	n := noValue
	for _, row := range []struct {
		f    fillRow
		want []impl.Range
	}{
		{fillRow{[]int{10, n, n, 25}, 0, 100, 10}, ranges([2]int{10, 10}, [2]int{5, 20}, [2]int{15, 30}, [2]int{25, 25})},
		{fillRow{[]int{5}, 0, 10, 0}, ranges([2]int{5, 5})},
		{fillRow{[]int{n}, 0, 10, 0}, ranges([2]int{0, 10})},
		{fillRow{[]int{n, n, n}, 0, 10, 3}, ranges([2]int{0, 10}, [2]int{0, 10}, [2]int{0, 10})},
		{fillRow{[]int{n, 5}, 0, 10, 3}, ranges([2]int{2, 8}, [2]int{5, 5})},
		{fillRow{[]int{5, n}, 0, 10, 3}, ranges([2]int{5, 5}, [2]int{2, 8})},
		{fillRow{[]int{n, n, 5, n, n}, 0, 10, 3}, ranges([2]int{0, 10}, [2]int{2, 8}, [2]int{5, 5}, [2]int{2, 8}, [2]int{0, 10})},
		{fillRow{[]int{n, n, 5, n, n}, 4, 7, 3}, ranges([2]int{4, 7}, [2]int{4, 7}, [2]int{5, 5}, [2]int{4, 7}, [2]int{4, 7})},
		{fillRow{[]int{0, n, n, n, 8}, 0, 10, 2}, ranges([2]int{0, 0}, [2]int{2, 2}, [2]int{4, 4}, [2]int{6, 6}, [2]int{8, 8})},
		{fillRow{[]int{0, n, n, n, 9}, 0, 10, 2}, nil},
		{fillRow{[]int{0, n, n, n, 7}, 0, 10, 2}, ranges([2]int{0, 0}, [2]int{1, 2}, [2]int{3, 4}, [2]int{5, 6}, [2]int{7, 7})},
		{fillRow{[]int{8, n, n, n, 0}, 0, 10, 2}, ranges([2]int{8, 8}, [2]int{6, 6}, [2]int{4, 4}, [2]int{2, 2}, [2]int{0, 0})},
		{fillRow{[]int{n, n, n}, 7, 7, 0}, ranges([2]int{7, 7}, [2]int{7, 7}, [2]int{7, 7})},
		{fillRow{[]int{n, 3, n}, 0, 10, 0}, ranges([2]int{3, 3}, [2]int{3, 3}, [2]int{3, 3})},
		{fillRow{[]int{3, n, 4}, 0, 10, 0}, nil},
		{fillRow{[]int{-5, n, -9}, -20, -3, 4}, ranges([2]int{-5, -5}, [2]int{-9, -5}, [2]int{-9, -9})},
		{fillRow{[]int{5, n, n, 5}, 5, 5, 100}, ranges([2]int{5, 5}, [2]int{5, 5}, [2]int{5, 5}, [2]int{5, 5})},
		{fillRow{[]int{2, n, 9, n, n, 4}, 0, 10, 4}, ranges([2]int{2, 2}, [2]int{5, 6}, [2]int{9, 9}, [2]int{5, 10}, [2]int{1, 8}, [2]int{4, 4})},
		{fillRow{[]int{leastReading, n, mostReading}, leastReading, mostReading, 5999}, ranges([2]int{-999, -999}, [2]int{5000, 5000}, [2]int{10999, 10999})},
		{fillRow{[]int{leastReading, n, mostReading}, leastReading, mostReading, 5998}, nil},
		{fillRow{[]int{leastReading, n, mostReading}, leastReading, mostReading, mostStep}, ranges([2]int{-999, -999}, [2]int{-999, 10999}, [2]int{10999, 10999})},
	} {
		expectFill(t, row.f, row.want)
	}
}

func TestPromise66SearchThroughAllValues(t *testing.T) {
	for days := 1; days <= 5; days++ {
		for _, list := range smallSeries(days, []int{noValue, 0, 1, 3, 4}) {
			for step := 0; step <= 4; step++ {
				for _, limits := range [][2]int{{0, 3}, {1, 4}, {-1, 3}, {2, 2}} {
					f := fillRow{list, limits[0], limits[1], step}
					want := searchFill(f)
					if other := fillBy(f); !slices.Equal(other, want) {
						t.Fatalf("the searches for %v find %v and %v", f, want, other)
					}
					expectFill(t, f, want)
				}
			}
		}
	}
}

func TestPromise66LongSearches(t *testing.T) {
	source := rand.New(rand.NewSource(66))
	for days := 6; days <= 8; days++ {
		for range 60 {
			list := make([]int, days)
			for i := range list {
				list[i] = []int{noValue, noValue, noValue, source.Intn(5)}[source.Intn(4)]
			}
			for step := 0; step <= 2; step++ {
				f := fillRow{list, 0, 4, step}
				expectFill(t, f, searchFill(f))
			}
		}
	}
}

func TestPromise66AllLengths(t *testing.T) {
	succeeded := 0
	rows := fillRows()
	for _, f := range rows {
		want := fillBy(f)
		if want != nil {
			succeeded++
		}
		expectFill(t, f, want)
	}
	if succeeded < len(rows)/4 || succeeded > len(rows)*9/10 {
		t.Errorf("%d of %d questions have an answer", succeeded, len(rows))
	}
}

// TestPromise66AgreeingValues tries all values of few days, also those that do
// not agree, and some that are no readings.
func TestPromise66AgreeingValues(t *testing.T) {
	n := noValue
	numbers := []int{n, -1, 0, 1, 2, 3, 4}
	for days := 1; days <= 3; days++ {
		for _, list := range smallSeries(days, []int{n, 0, 2, 3}) {
			for step := 0; step <= 3; step++ {
				f := fillRow{list, 0, 3, step}
				found := fillOf(f)
				for _, values := range smallSeries(days, numbers) {
					fits := agree(f, values)
					expectFits(t, f, values, fits)
					if fits && found == nil {
						t.Fatalf("FillOf of %v fails, but %v agree", f, values)
					}
					for day := range values {
						if fits && !has(found[day], values[day]) {
							t.Fatalf("FillOf of %v is %v, but %v agree", f, found, values)
						}
					}
				}
			}
		}
	}
}

// TestPromise66StepsNextToEachOther has values that differ by the step, by one
// less and by one more, with no gap and with gaps of all lengths between them.
func TestPromise66StepsNextToEachOther(t *testing.T) {
	for gap := 0; gap <= mostDays-2; gap++ {
		for _, step := range []int{1, 2, 7, 500} {
			for _, from := range []int{leastReading, 0, 4321} {
				if from+(gap+1)*step+1 > mostReading {
					continue
				}
				list := slices.Repeat([]int{noValue}, gap+2)
				list[0], list[gap+1] = from, from+(gap+1)*step
				f := fillRow{list, leastReading, mostReading, step}
				var want []impl.Range
				for day := range list {
					want = append(want, impl.Range{Low: from + day*step, High: from + day*step})
				}
				expectFill(t, f, want)
				list[gap+1]--
				expectFill(t, f, fillBy(f))
				list[gap+1] += 2
				expectFill(t, f, nil)
				slices.Reverse(list)
				expectFill(t, f, nil)
				list[0]--
				slices.Reverse(want)
				expectFill(t, f, want)
			}
		}
	}
}

func TestPromise66LeastAndLargestStep(t *testing.T) {
	n := noValue
	for _, row := range []struct {
		list []int
		step int
		want []impl.Range
	}{
		{[]int{5, n, 5}, 0, ranges([2]int{5, 5}, [2]int{5, 5}, [2]int{5, 5})},
		{[]int{5, n, 6}, 0, nil},
		{[]int{5, n, 6}, 1, ranges([2]int{5, 5}, [2]int{5, 6}, [2]int{6, 6})},
		{[]int{5, n, 5}, 1, ranges([2]int{5, 5}, [2]int{4, 6}, [2]int{5, 5})},
		{[]int{5, n, 8}, 1, nil},
		{[]int{leastReading, mostReading}, 11997, nil},
		{[]int{leastReading, mostReading}, 11998, ranges([2]int{-999, -999}, [2]int{10999, 10999})},
		{[]int{leastReading, mostReading}, mostStep, ranges([2]int{-999, -999}, [2]int{10999, 10999})},
		{[]int{n, mostReading, n, leastReading}, mostStep, ranges([2]int{-999, 10999}, [2]int{10999, 10999}, [2]int{-999, 10999}, [2]int{-999, -999})},
	} {
		expectFill(t, fillRow{row.list, leastReading, mostReading, row.step}, row.want)
	}
}

func TestPromise66InvalidArgumentsFail(t *testing.T) {
	for _, f := range wrongFills() {
		expectFill(t, f, nil)
		expectFits(t, f, f.list, false)
		expectFits(t, f, slices.Repeat([]int{5}, len(f.list)), false)
		expectFits(t, f, slices.Repeat([]int{f.low}, len(f.list)), false)
		expectFits(t, f, slices.Repeat([]int{f.high}, len(f.list)), false)
	}
}

func TestPromise67FirstAndLastValuesFit(t *testing.T) {
	for _, f := range fillRows() {
		found := fillOf(f)
		if found == nil {
			continue
		}
		expectFits(t, f, lowsOf(found), true)
		expectFits(t, f, highsOf(found), true)
	}
}

// TestPromise67EachConditionAlone has numbers that break a single condition.
func TestPromise67EachConditionAlone(t *testing.T) {
	n := noValue
	f := fillRow{[]int{10, n, n, 25}, 0, 20 + 10, 10}
	for _, row := range []struct {
		days []int
		want bool
	}{
		{[]int{10, 15, 20, 25}, true},
		{[]int{10, 5, 15, 25}, true},
		{[]int{10, 20, 30, 25}, true},
		{[]int{10, 20, 15, 25}, true},
		{[]int{10, 20, 31, 25}, false}, // above the upper limit, and too far
		{[]int{10, 4, 14, 24}, false},
		{[]int{10, 5, 20, 25}, false}, // one step is too great
		{[]int{10, 21, 25, 25}, false},
		{[]int{10, 15, 14, 25}, false},
		{[]int{11, 15, 20, 25}, false}, // not the same as the series
		{[]int{10, 15, 20, 24}, false},
		{[]int{10, n, n, 25}, false}, // no values
		{[]int{10, 15, n, 25}, false},
		{[]int{10, 15, 20}, false}, // fewer and more numbers than days
		{[]int{15, 20, 25}, false},
		{[]int{10, 15, 20, 25, 25}, false},
		{[]int{10, 10, 15, 20, 25}, false},
		{nil, false},
		{[]int{}, false},
	} {
		expectFits(t, f, row.days, row.want)
	}
}

// TestPromise67Limits also has values of the series itself that are out of the
// limits; then no numbers agree.
func TestPromise67Limits(t *testing.T) {
	n := noValue
	for _, limits := range [][2]int{{leastReading, leastReading}, {leastReading, -500}, {-3, 4}, {0, 0}, {7, 7}, {7, 8}, {700, mostReading}, {mostReading, mostReading}, {leastReading, mostReading}} {
		low, high := limits[0], limits[1]
		free := fillRow{[]int{n}, low, high, 0}
		for _, number := range []int{low - 1, low, low + 1, high - 1, high, high + 1} {
			within := low <= number && number <= high
			expectFits(t, free, []int{number}, within)
			if number < leastReading || number > mostReading {
				continue
			}
			for _, days := range []int{1, 2, 5, mostDays} {
				for _, place := range []int{0, days / 2, days - 1} {
					list := slices.Repeat([]int{n}, days)
					list[place] = number
					f := fillRow{list, low, high, 0}
					same := slices.Repeat([]int{number}, days)
					expectFits(t, f, same, within)
					if within {
						expectFill(t, f, slices.Repeat(ranges([2]int{number, number}), days))
					} else {
						expectFill(t, f, nil)
						f.step = mostStep
						expectFill(t, f, nil)
						expectFits(t, f, slices.Repeat([]int{low}, days), false)
					}
				}
			}
		}
		expectFill(t, free, ranges(limits))
	}
}

func TestPromise67StepsOfNumbers(t *testing.T) {
	for _, step := range []int{0, 1, 2, 700, 11997, 11998, mostStep} {
		for days := 2; days <= mostDays; days++ {
			for place := 1; place < days; place++ {
				for _, difference := range []int{step - 1, step, step + 1, -step + 1, -step, -step - 1} {
					numbers := slices.Repeat([]int{5000}, days)
					if difference > 5000 || difference < -5000 {
						numbers = slices.Repeat([]int{leastReading}, days)
					}
					for day := place; day < days; day++ {
						numbers[day] += difference
					}
					f := fillRow{slices.Repeat([]int{noValue}, days), leastReading, mostReading, step}
					within := leastReading <= numbers[place] && numbers[place] <= mostReading
					expectFits(t, f, numbers, within && apart(0, difference) <= step)
				}
			}
		}
	}
}

func TestPromise67NumbersThatAreNoReadings(t *testing.T) {
	for _, bad := range append(noReadings(), noValues()...) {
		for days := 1; days <= mostDays; days++ {
			for place := range days {
				f := fillRow{slices.Repeat([]int{noValue}, days), leastReading, mostReading, mostStep}
				numbers := manyReadings(days, place)
				expectFits(t, f, numbers, true)
				numbers[place] = bad
				expectFits(t, f, numbers, false)
				expectFits(t, f, slices.Repeat([]int{bad}, days), false)
			}
		}
	}
}

// TestPromise67LargestAndLeastNumbers has numbers whose difference exceeds an
// int.
func TestPromise67LargestAndLeastNumbers(t *testing.T) {
	f := fillRow{[]int{noValue, noValue}, leastReading, mostReading, mostStep}
	for _, numbers := range [][]int{{math.MinInt, math.MaxInt}, {math.MaxInt, math.MinInt}, {5, math.MaxInt}, {math.MinInt, 5}, {leastReading, math.MaxInt}} {
		expectFits(t, f, numbers, false)
	}
}

func TestPromise67OtherNumbersOfNumbers(t *testing.T) {
	for days := 1; days <= mostDays; days++ {
		for _, list := range [][]int{slices.Repeat([]int{noValue}, days), slices.Repeat([]int{5}, days)} {
			f := fillRow{list, 0, 10, 1}
			for many := 0; many <= mostDays+2; many++ {
				expectFits(t, f, slices.Repeat([]int{5}, many), many == days)
			}
			expectFits(t, f, slices.Repeat([]int{5}, 256+days), false)
			expectFits(t, f, nil, false)
		}
	}
}

func TestPromise68ValuesStandAlone(t *testing.T) {
	for _, f := range fillRows() {
		for day, r := range fillOf(f) {
			if value := f.list[day]; value != noValue && (r.Low != value || r.High != value) {
				t.Fatalf("FillOf of %v has %v for day %d", f, r, day)
			}
			if r.Low < f.low || r.High > f.high || !impl.RangeValid(r) {
				t.Fatalf("FillOf of %v has %v for day %d, out of the limits", f, r, day)
			}
		}
	}
}

func TestPromise69OtherDirection(t *testing.T) {
	for _, f := range fillRows() {
		want := slices.Clone(fillOf(f))
		slices.Reverse(want)
		expectFill(t, fillRow{reversed(f.list), f.low, f.high, f.step}, want)
	}
}

// TestPromise70ValuesInPlace puts each end of each range, and what is in the
// middle of it, in place of its day.
func TestPromise70ValuesInPlace(t *testing.T) {
	for _, f := range fillRows() {
		for day, r := range fillOf(f) {
			for _, value := range []int{r.Low, r.High, (r.Low + r.High) / 2} {
				with := f
				with.list = slices.Clone(f.list)
				with.list[day] = value
				narrower := fillOf(with)
				if narrower == nil {
					t.Fatalf("FillOf of %v fails", with)
				}
				expectWithin(t, narrower, fillOf(f))
			}
			for _, value := range []int{r.Low - 1, r.High + 1} {
				if f.list[day] != noValue {
					continue // the other days need not know this value
				}
				with := f
				with.list = slices.Clone(f.list)
				with.list[day] = value
				expectFill(t, with, nil)
			}
		}
	}
}

func expectWithin(t *testing.T, narrow []impl.Range, wide []impl.Range) {
	t.Helper()
	if len(narrow) != len(wide) {
		t.Fatalf("%v and %v have different numbers of days", narrow, wide)
	}
	for day := range narrow {
		if narrow[day].Low < wide[day].Low || narrow[day].High > wide[day].High {
			t.Fatalf("%v is not within %v", narrow, wide)
		}
	}
}

func TestPromise71GreaterSteps(t *testing.T) {
	for _, f := range fillRows() {
		found := fillOf(f)
		wider := f
		wider.step++
		if f.step == mostStep {
			expectFill(t, wider, nil)
		} else if found != nil {
			expectWithin(t, found, fillOf(wider))
		}
	}
}

func TestPromise72FittingValuesAsTheSeries(t *testing.T) {
	for _, f := range fillRows() {
		found := fillOf(f)
		if found == nil {
			continue
		}
		for _, values := range [][]int{lowsOf(found), highsOf(found)} {
			expectFits(t, f, values, true)
			full := fillRow{values, f.low, f.high, f.step}
			expectFits(t, full, values, true)
			var want []impl.Range
			for _, value := range values {
				want = append(want, impl.Range{Low: value, High: value})
			}
			expectFill(t, full, want)
			expectWidth(t, fillOf(full), 0)
		}
	}
}

func TestPromise73Examples(t *testing.T) {
	widest := impl.Range{Low: -lastOfRange, High: lastOfRange}
	for _, row := range []struct {
		list []impl.Range
		want int
	}{
		{nil, 0}, {ranges(), 0},
		{ranges([2]int{5, 5}), 0}, {ranges([2]int{5, 6}), 1}, {ranges([2]int{-5, 5}), 10}, {ranges([2]int{0, 0}), 0},
		{ranges([2]int{10, 10}, [2]int{5, 20}, [2]int{15, 30}, [2]int{25, 25}), 30},
		{ranges([2]int{-9, -4}, [2]int{-4, -4}, [2]int{-1, 1}), 7},
		{[]impl.Range{widest}, 199998},
		{slices.Repeat([]impl.Range{widest}, mostDays), 2399976},
		{slices.Repeat([]impl.Range{widest}, mostDays+1), -1},
		{slices.Repeat(ranges([2]int{3, 3}), mostDays), 0},
		{slices.Repeat(ranges([2]int{3, 3}), mostDays+1), -1},
		{ranges([2]int{6, 5}), -1}, {ranges([2]int{5, 5}, [2]int{6, 5}), -1}, {ranges([2]int{6, 5}, [2]int{5, 9}), -1},
		{ranges([2]int{0, 1}, [2]int{0, 100000}), -1}, {ranges([2]int{-100000, 0}, [2]int{0, 1}), -1},
	} {
		expectWidth(t, row.list, row.want)
	}
}

func TestPromise73SumOfEachRangeAlone(t *testing.T) {
	source := rand.New(rand.NewSource(73))
	valid := validRanges()
	for many := 0; many <= mostDays; many++ {
		for range 100 {
			var list []impl.Range
			sum := 0
			for range many {
				r := valid[source.Intn(len(valid))]
				list = append(list, r)
				sum += r.High - r.Low
				expectWidth(t, []impl.Range{r}, r.High-r.Low)
			}
			expectWidth(t, list, sum)
		}
	}
	for _, f := range fillRows() {
		sum := 0
		found := fillOf(f)
		for _, r := range found {
			sum += impl.FillWidth([]impl.Range{r})
		}
		expectWidth(t, found, sum)
	}
}

func TestPromise73InvalidRanges(t *testing.T) {
	for _, bad := range invalidRanges() {
		for many := 1; many <= mostDays; many++ {
			for place := range many {
				list := slices.Repeat(ranges([2]int{0, 3}), many)
				list[place] = bad
				expectWidth(t, list, -1)
			}
		}
	}
}

func TestPromise73NumbersOfRanges(t *testing.T) {
	for many := 0; many <= 3*mostDays; many++ {
		want := 3 * many
		if many > mostDays {
			want = -1
		}
		expectWidth(t, slices.Repeat(ranges([2]int{-2, 1}), many), want)
	}
	for _, many := range []int{100, 256, 256 + 3, 1<<16 + 3} {
		expectWidth(t, make([]impl.Range, many), -1)
	}
}

// TestGapsKeepArguments has lists that are parts of longer ones, so that what
// is behind them could be overwritten.
func TestGapsKeepArguments(t *testing.T) {
	n := noValue
	for many := 0; many <= mostDays+1; many++ {
		list := []int{n, 5, n, n, 7, n, 4, n, n, n, 9, n, n, 8, 7}
		days := []int{5, 5, 6, 6, 7, 6, 4, 5, 6, 7, 9, 8, 8, 8, 7}
		widths := ranges([2]int{0, 1}, [2]int{5, 5}, [2]int{2, 4}, [2]int{0, 9}, [2]int{0, 1}, [2]int{5, 5}, [2]int{2, 4}, [2]int{0, 9}, [2]int{0, 1}, [2]int{5, 5}, [2]int{2, 4}, [2]int{0, 9}, [2]int{1, 1}, [2]int{3, 3})
		oldList, oldDays, oldWidths := slices.Clone(list), slices.Clone(days), slices.Clone(widths)
		for range 2 {
			_, ok := impl.FillOf(list[:many], 0, 10, 2)
			fits := impl.FillFits(list[:many], 0, 10, 2, days[:many])
			width := impl.FillWidth(widths[:many])
			valid := 1 <= many && many <= mostDays
			if ok != valid || fits != valid || (width >= 0) != (many <= mostDays) {
				t.Errorf("the functions return %v, %v and %d for %d days", ok, fits, width, many)
			}
		}
		if !slices.Equal(list, oldList) || !slices.Equal(days, oldDays) || !slices.Equal(widths, oldWidths) {
			t.Errorf("%v, %v and %v have become %v, %v and %v", oldList, oldDays, oldWidths, list, days, widths)
		}
	}
}

func TestFillFitsTakesOneListForBothArguments(t *testing.T) {
	list := []int{3, 5, 4}
	expectFits(t, fillRow{list, 0, 10, 2}, list, true)
	expectFits(t, fillRow{list, 0, 10, 1}, list, false)
	if !slices.Equal(list, []int{3, 5, 4}) {
		t.Errorf("the list has become %v", list)
	}
}

func TestRangesThatAreReturnedShareNoMemory(t *testing.T) {
	longer := []int{10, noValue, noValue, 25, 77, 77}
	list := longer[:4]
	old := slices.Clone(longer)
	want := ranges([2]int{10, 10}, [2]int{5, 20}, [2]int{15, 30}, [2]int{25, 25})
	f := fillRow{list, 0, 100, 10}
	kept := fillOf(f)
	for range 2 {
		found := fillOf(f)
		if !slices.Equal(found, want) {
			t.Fatalf("FillOf is %v", found)
		}
		overwrite(found, impl.Range{Low: 66, High: 66})
		if !slices.Equal(longer, old) || !slices.Equal(kept, want) {
			t.Fatalf("%v and %v have become %v and %v", old, want, longer, kept)
		}
	}
}
