package tests

import (
	"math"
	"math/rand"
	"slices"
	"testing"

	"loop.example/weatherarchive/impl"
)

// mostParts is written out here as the document has it, so that a wrong
// constant of the program is noticed.
const mostParts = 100

func noParts() []int {
	return []int{math.MinInt, math.MinInt + 1, -1 << 62, -1<<32 + 1, -100, -2, -1, 0, mostParts + 1, mostParts + 2, 1000, 256 + 50, 1 << 31, 1<<32 + 50, 1 << 62, math.MaxInt - 1, math.MaxInt}
}

// levelsNear has the levels at which anything about a series can change.
func levelsNear(list []int) []int {
	levels := []int{math.MinInt, math.MinInt + 1, -1<<32 + 5, -20000, noValue - 1, noValue, noValue + 1, leastReading - 1, 0, mostReading + 1, 20000, 1<<32 + 5, math.MaxInt - 1, math.MaxInt}
	for _, value := range list {
		levels = append(levels, value-1, value, value+1)
	}
	return levels
}

// lineSeries has values that ascend, descend, and stay, with and without days
// that have none.
func lineSeries() [][]int {
	var rows [][]int
	for days := 1; days <= mostDays; days++ {
		for _, step := range []int{-900, -1, 0, 1, 900} {
			for _, every := range []int{2, 3, 100} {
				for _, first := range []int{0, 1, 2} {
					list := make([]int, days)
					for i := range list {
						list[i] = 5000 + step*(i-mostDays/2)
						if i%every == first {
							list[i] = noValue
						}
					}
					rows = append(rows, list)
				}
			}
		}
	}
	return rows
}

// extremeSeries has valid series of all kinds.
func extremeSeries() [][]int {
	n := noValue
	rows := append(validSeries(), lineSeries()...)
	return append(rows,
		[]int{4, 9, n, 9, 12, 3}, []int{n, n, 3, n, 3, n, n}, []int{9, 9, n, 9, 9}, []int{5, 1, 5, 2, 5, 3, 5},
		[]int{1, 2, 3, 4, 5, 6, 7, 8, 9, 10, 11, 12}, []int{12, 11, 10, 9, 8, 7, 6, 5, 4, 3, 2, 1},
		[]int{mostReading, n, leastReading}, []int{leastReading, n, mostReading}, []int{leastReading, leastReading, n, leastReading},
	)
}

// sortedBy tells by other means than the program which values there are: it
// takes away the least one again and again.
func sortedBy(list []int) []int {
	rest := knownOf(list)
	var sorted []int
	for len(rest) > 0 {
		least := slices.Min(rest)
		sorted = append(sorted, least)
		place := slices.Index(rest, least)
		rest = slices.Delete(rest, place, place+1)
	}
	return sorted
}

func countUpTo(values []int, most int) int {
	many := 0
	for _, value := range values {
		if value <= most {
			many++
		}
	}
	return many
}

// quantileBy tries all values by the words of the document.
func quantileBy(list []int, num int, den int) (int, bool) {
	values := knownOf(list)
	found, ok := 0, false
	for _, value := range values {
		if countUpTo(values, value)*den >= len(values)*num && (!ok || value < found) {
			found, ok = value, true
		}
	}
	return found, ok
}

func aboveBy(list []int, level int) int {
	many := 0
	for _, value := range knownOf(list) {
		if value >= level {
			many++
		}
	}
	return many
}

// spellBy tries all runs, the longest ones first, and of these the first ones.
func spellBy(list []int, level int) (int, int) {
	for days := len(list); days > 0; days-- {
		for first := 0; first+days <= len(list); first++ {
			run := list[first : first+days]
			if !slices.Contains(run, noValue) && slices.Min(run) >= level {
				return first, days
			}
		}
	}
	return 0, 0
}

func recordsBy(list []int) []int {
	var days []int
	for day, value := range list {
		before := knownOf(list[:day])
		if value != noValue && (len(before) == 0 || value > slices.Max(before)) {
			days = append(days, day)
		}
	}
	return days
}

func expectSorted(t *testing.T, list []int, want []int) {
	t.Helper()
	if got := impl.SortedOf(list); !slices.Equal(got, want) {
		t.Fatalf("SortedOf of %v is %v, not %v", list, got, want)
	}
}

func expectQuantile(t *testing.T, list []int, num int, den int, want int, fine bool) {
	t.Helper()
	if got, ok := impl.QuantileOf(list, num, den); got != want || ok != fine {
		t.Fatalf("QuantileOf of %v, %d, %d is %d, %v, not %d, %v", list, num, den, got, ok, want, fine)
	}
}

func expectAbove(t *testing.T, list []int, level int, want int) {
	t.Helper()
	if got := impl.AboveOf(list, level); got != want {
		t.Fatalf("AboveOf of %v and %d is %d, not %d", list, level, got, want)
	}
}

func expectSpell(t *testing.T, list []int, level int, wantFirst int, wantDays int) {
	t.Helper()
	if first, days := impl.SpellOf(list, level); first != wantFirst || days != wantDays {
		t.Fatalf("SpellOf of %v and %d is %d, %d, not %d, %d", list, level, first, days, wantFirst, wantDays)
	}
}

func expectRecords(t *testing.T, list []int, want []int) {
	t.Helper()
	if got := impl.RecordDays(list); !slices.Equal(got, want) {
		t.Fatalf("RecordDays of %v is %v, not %v", list, got, want)
	}
}

func TestPromise90Examples(t *testing.T) {
	n := noValue
	for _, row := range []struct {
		list []int
		want []int
	}{
		{[]int{4, 9, n, 9, 12, 3}, []int{3, 4, 9, 9, 12}},
		{[]int{5}, []int{5}}, {[]int{n}, nil}, {[]int{n, n, n}, nil},
		{[]int{2, 1}, []int{1, 2}}, {[]int{1, 2}, []int{1, 2}}, {[]int{1, 1}, []int{1, 1}},
		{[]int{n, 2, 1}, []int{1, 2}}, {[]int{2, n, 1}, []int{1, 2}}, {[]int{2, 1, n}, []int{1, 2}},
		{[]int{3, 1, 2, 3, 1, 2}, []int{1, 1, 2, 2, 3, 3}},
		{[]int{0, -5, 5, -10, 10}, []int{-10, -5, 0, 5, 10}},
		{[]int{mostReading, leastReading, 0}, []int{leastReading, 0, mostReading}},
		{[]int{12, 11, 10, 9, 8, 7, 6, 5, 4, 3, 2, 1}, []int{1, 2, 3, 4, 5, 6, 7, 8, 9, 10, 11, 12}},
		{[]int{1, 2, 3, 4, 5, 6, 7, 8, 9, 10, 11, 12}, []int{1, 2, 3, 4, 5, 6, 7, 8, 9, 10, 11, 12}},
		{[]int{7, 7, 7, n, 7, 7}, []int{7, 7, 7, 7, 7}},
		{nil, nil}, {[]int{}, nil}, {[]int{11000}, nil}, {[]int{-1000, 5}, nil}, {slices.Repeat([]int{5}, 13), nil},
	} {
		expectSorted(t, row.list, row.want)
	}
}

func TestPromise90ValuesInOrder(t *testing.T) {
	for _, list := range extremeSeries() {
		sorted := impl.SortedOf(list)
		if known := impl.SeriesKnown(list); known < 0 || len(sorted) != known {
			t.Fatalf("SortedOf of %v is %v, but SeriesKnown %d", list, sorted, known)
		}
		sum := 0
		for _, value := range knownOf(list) {
			sum += value
		}
		for i, value := range sorted {
			sum -= value
			if i > 0 && value < sorted[i-1] {
				t.Fatalf("SortedOf of %v is %v", list, sorted)
			}
		}
		if sum != 0 {
			t.Fatalf("SortedOf of %v is %v, with another sum", list, sorted)
		}
		expectSorted(t, list, sortedBy(list))
	}
}

func TestPromise90AllSmallSeries(t *testing.T) {
	for days := 1; days <= 6; days++ {
		for _, list := range smallSeries(days, []int{noValue, -2, 0, 1}) {
			expectSorted(t, list, sortedBy(list))
		}
	}
}

func TestPromise90InvalidSeriesHaveNoValues(t *testing.T) {
	for _, list := range invalidSeries() {
		expectSorted(t, list, nil)
	}
}

func TestPromise91OtherDirection(t *testing.T) {
	source := rand.New(rand.NewSource(91))
	for _, list := range extremeSeries() {
		sorted := impl.SortedOf(list)
		expectSorted(t, reversed(list), sorted)
		mixed := slices.Clone(list)
		source.Shuffle(len(mixed), func(i int, j int) { mixed[i], mixed[j] = mixed[j], mixed[i] })
		expectSorted(t, mixed, sorted)
		for _, value := range append(slices.Clone(list), 4, 5) {
			often := func(in []int) int {
				return len(slices.DeleteFunc(slices.Clone(in), func(n int) bool { return n != value }))
			}
			if value != noValue && often(sorted) != often(list) || value == noValue && often(sorted) > 0 {
				t.Fatalf("SortedOf of %v is %v, with another number of %d", list, sorted, value)
			}
		}
	}
}

func TestPromise92Examples(t *testing.T) {
	n := noValue
	list := []int{4, 9, n, 9, 12, 3}
	for _, row := range []struct {
		list []int
		num  int
		den  int
		want int
		fine bool
	}{
		{list, 3, 4, 9, true}, {list, 1, 5, 3, true}, {list, 2, 5, 4, true}, {list, 3, 5, 9, true}, {list, 4, 5, 9, true}, {list, 5, 5, 12, true},
		{list, 20, 100, 3, true}, {list, 21, 100, 4, true}, {list, 40, 100, 4, true}, {list, 41, 100, 9, true}, {list, 80, 100, 9, true}, {list, 81, 100, 12, true},
		{list, 1, 2, 9, true}, {list, 1, 1, 12, true}, {list, 1, 100, 3, true}, {list, 99, 100, 12, true}, {list, 100, 100, 12, true},
		{list, 0, 1, 0, false}, {list, 101, 100, 0, false}, {list, 1, 101, 0, false}, {list, 101, 101, 0, false}, {list, 2, 1, 0, false},
		{list, -1, 2, 0, false}, {list, 1, -2, 0, false}, {list, -1, -2, 0, false}, {list, 1, 0, 0, false}, {list, 0, 0, 0, false},
		{[]int{5}, 1, 100, 5, true}, {[]int{5}, 1, 1, 5, true}, {[]int{5, 6}, 1, 2, 5, true}, {[]int{5, 6}, 51, 100, 6, true}, {[]int{6, 5}, 50, 100, 5, true},
		{[]int{n, 6, n, 5}, 1, 2, 5, true}, {[]int{n}, 1, 2, 0, false}, {[]int{n, n, n}, 1, 1, 0, false},
		{[]int{7, 7, 7, 8}, 1, 100, 7, true}, {[]int{7, 7, 7, 8}, 75, 100, 7, true}, {[]int{7, 7, 7, 8}, 76, 100, 8, true},
		{[]int{-3, -2, -1}, 1, 3, -3, true}, {[]int{-3, -2, -1}, 34, 100, -2, true}, {[]int{-3, -2, -1}, 33, 100, -3, true}, {[]int{-3, -2, -1}, 67, 100, -1, true}, {[]int{-3, -2, -1}, 2, 3, -2, true},
		{nil, 1, 2, 0, false}, {[]int{}, 1, 2, 0, false}, {[]int{11000}, 1, 2, 0, false},
	} {
		expectQuantile(t, row.list, row.num, row.den, row.want, row.fine)
	}
}

func TestPromise92AllParts(t *testing.T) {
	n := noValue
	for _, list := range [][]int{{5}, {n}, {6, 5}, {4, 9, n, 9, 12, 3}, {1, 2, 3, 4, 5, 6, 7}, {7, 7, 7, 8, n, 2}, {12, 11, 10, 9, 8, 7, 6, 5, 4, 3, 2, 1}, {1, 1, 1, 1, 1, 1, 1, 1, 1, 1, 2}} {
		for den := -1; den <= mostParts+1; den++ {
			for num := -1; num <= mostParts+2; num++ {
				if 1 <= den && den <= mostParts && 1 <= num && num <= den {
					want, fine := quantileBy(list, num, den)
					expectQuantile(t, list, num, den, want, fine)
				} else {
					expectQuantile(t, list, num, den, 0, false)
				}
			}
		}
	}
}

func TestPromise92PartsOfAllSeries(t *testing.T) {
	for _, list := range extremeSeries() {
		values := knownOf(list)
		for _, part := range [][2]int{{1, 1}, {1, 2}, {1, 3}, {2, 3}, {1, 4}, {3, 4}, {1, 12}, {11, 12}, {5, 7}, {6, 11}, {1, 100}, {8, 100}, {9, 100}, {50, 100}, {51, 100}, {91, 100}, {92, 100}, {99, 100}, {100, 100}} {
			num, den := part[0], part[1]
			want, fine := quantileBy(list, num, den)
			expectQuantile(t, list, num, den, want, fine)
			if fine && (countUpTo(values, want)*den < len(values)*num || countUpTo(values, want-1)*den >= len(values)*num) {
				t.Fatalf("the quantile of %v, %d, %d is %d", list, num, den, want)
			}
		}
	}
}

// TestPromise92JustEnough has parts for which the number of values is just
// enough, and one too few.
func TestPromise92JustEnough(t *testing.T) {
	for many := 1; many <= mostDays; many++ {
		list := make([]int, many)
		for i := range list {
			list[i] = 10 * (many - i)
		}
		for enough := 1; enough <= many; enough++ {
			expectQuantile(t, list, enough, many, 10*enough, true)
			if num := enough*8 + 1; num <= many*8 {
				expectQuantile(t, list, num, many*8, 10*(enough+1), true)
			}
			expectQuantile(t, list, enough*8-1, many*8, 10*enough, true)
			expectQuantile(t, list, enough*8, many*8, 10*enough, true)
		}
	}
}

func TestPromise92OtherPartsFail(t *testing.T) {
	for _, list := range [][]int{{5}, {5, 9}, {noValue}, manyReadings(mostDays, 1)} {
		for _, bad := range noParts() {
			for _, good := range []int{1, 2, 50, mostParts} {
				expectQuantile(t, list, good, bad, 0, false)
				expectQuantile(t, list, bad, good, 0, false)
			}
			for _, other := range noParts() {
				expectQuantile(t, list, bad, other, 0, false)
			}
		}
	}
}

func TestPromise92InvalidSeriesFail(t *testing.T) {
	for _, list := range invalidSeries() {
		for _, part := range [][2]int{{1, 2}, {1, 1}, {100, 100}, {0, 1}} {
			expectQuantile(t, list, part[0], part[1], 0, false)
		}
	}
	for days := 1; days <= mostDays; days++ {
		expectQuantile(t, slices.Repeat([]int{noValue}, days), 1, 1, 0, false)
	}
}

func TestPromise93MedianAndGreatest(t *testing.T) {
	for _, list := range extremeSeries() {
		median, ok := impl.MedianOf(list)
		expectQuantile(t, list, 1, 2, median, ok)
		expectQuantile(t, list, 50, 100, median, ok)
		greatest := 0
		if ok {
			greatest = slices.Max(knownOf(list))
		}
		for _, whole := range []int{1, 2, 7, mostParts} {
			expectQuantile(t, list, whole, whole, greatest, ok)
		}
	}
}

func TestPromise93GreaterParts(t *testing.T) {
	for i, list := range extremeSeries() {
		if len(knownOf(list)) == 0 {
			continue
		}
		for _, den := range []int{1, 2, 3, 10, 12, 1 + i%mostParts, mostParts} {
			before := slices.Min(knownOf(list))
			for num := 1; num <= den; num++ {
				quantile, ok := impl.QuantileOf(list, num, den)
				if !ok || quantile < before {
					t.Fatalf("QuantileOf of %v, %d, %d is %d, %v, and %d for a lesser part", list, num, den, quantile, ok, before)
				}
				before = quantile
			}
		}
	}
}

func TestPromise94Examples(t *testing.T) {
	n := noValue
	list := []int{4, 9, n, 9, 12, 3}
	for _, row := range []struct {
		list  []int
		level int
		want  int
	}{
		{list, 9, 3}, {list, 8, 3}, {list, 10, 1}, {list, 3, 5}, {list, 2, 5}, {list, 4, 4}, {list, 5, 3}, {list, 12, 1}, {list, 13, 0},
		{list, math.MinInt, 5}, {list, math.MaxInt, 0}, {list, n, 5}, {list, n - 1, 5}, {list, n + 1, 5},
		{[]int{n}, 0, 0}, {[]int{n}, n, 0}, {[]int{n, n}, math.MinInt, 0}, {[]int{n}, n - 1, 0},
		{[]int{5}, 5, 1}, {[]int{5}, 6, 0}, {[]int{5}, 4, 1}, {[]int{0, 0, 0}, 0, 3}, {[]int{-1, 0, 1}, 0, 2},
		{[]int{leastReading, mostReading}, leastReading, 2}, {[]int{leastReading, mostReading}, leastReading + 1, 1}, {[]int{leastReading, mostReading}, mostReading, 1}, {[]int{leastReading, mostReading}, mostReading + 1, 0},
		{nil, 0, -1}, {[]int{}, 0, -1}, {[]int{11000}, 0, -1}, {[]int{5, -1000}, 0, -1}, {slices.Repeat([]int{5}, 13), 0, -1}, {slices.Repeat([]int{5}, 12), 0, 12},
	} {
		expectAbove(t, row.list, row.level, row.want)
	}
}

func TestPromise94ValuesAndThoseThatAreLess(t *testing.T) {
	for _, list := range extremeSeries() {
		for _, level := range levelsNear(list) {
			less := 0
			for _, value := range knownOf(list) {
				if value < level {
					less++
				}
			}
			expectAbove(t, list, level, impl.SeriesKnown(list)-less)
			expectAbove(t, list, level, aboveBy(list, level))
		}
	}
}

func TestPromise94InvalidSeries(t *testing.T) {
	for _, list := range invalidSeries() {
		for _, level := range []int{math.MinInt, noValue, 0, 5, math.MaxInt} {
			expectAbove(t, list, level, -1)
		}
	}
}

func TestPromise95Examples(t *testing.T) {
	n := noValue
	list := []int{4, 9, n, 9, 12, 3}
	for _, row := range []struct {
		list  []int
		level int
		first int
		days  int
	}{
		{list, 9, 3, 2}, {list, 4, 0, 2}, {list, 3, 3, 3}, {list, 12, 4, 1}, {list, 13, 0, 0}, {list, 10, 4, 1}, {list, math.MinInt, 3, 3}, {list, math.MaxInt, 0, 0},
		{[]int{5}, 5, 0, 1}, {[]int{5}, 6, 0, 0}, {[]int{n}, 0, 0, 0}, {[]int{n, n}, math.MinInt, 0, 0}, {[]int{n}, n, 0, 0},
		{[]int{9, 9, 1, 9, 9}, 5, 0, 2}, {[]int{9, 1, 9, 9, 1, 9, 9}, 5, 2, 2}, {[]int{9, 9, 1, 9, 9, 9}, 5, 3, 3}, {[]int{9, 9, 9, 1, 9, 9}, 5, 0, 3},
		{[]int{9, 9, n, 9}, 5, 0, 2}, {[]int{9, n, 9, 9}, 5, 2, 2}, {[]int{9, n, 9, n, 9}, 5, 0, 1}, {[]int{9, 9, n, 9, 9}, n, 0, 2},
		{[]int{1, 9, 1}, 5, 1, 1}, {[]int{1, 1, 9}, 5, 2, 1}, {[]int{9, 1, 1}, 5, 0, 1}, {[]int{9, 9, 9}, 5, 0, 3}, {[]int{1, 9, 9, 9, 1}, 5, 1, 3},
		{[]int{n, n, 9, 9}, 5, 2, 2}, {[]int{9, 9, n, n}, 5, 0, 2}, {[]int{n, 9, n, 9, n}, 5, 1, 1},
		{slices.Repeat([]int{7}, 12), 7, 0, 12}, {slices.Repeat([]int{7}, 12), 8, 0, 0}, {slices.Repeat([]int{7}, 13), 7, 0, 0},
		{[]int{-5, -6, -5, -5}, -5, 2, 2}, {[]int{-5, -6, -5, -5}, -6, 0, 4},
		{nil, 0, 0, 0}, {[]int{}, 0, 0, 0}, {[]int{9, 9, 11000}, 5, 0, 0}, {[]int{9, 9, -9998}, 5, 0, 0},
	} {
		expectSpell(t, row.list, row.level, row.first, row.days)
	}
}

// TestPromise95RunsAtAllPlaces has a run of each length at each place, among
// days with lesser values or without any.
func TestPromise95RunsAtAllPlaces(t *testing.T) {
	for days := 1; days <= mostDays; days++ {
		for run := 1; run <= days; run++ {
			for first := 0; first+run <= days; first++ {
				for _, other := range []int{noValue, 49} {
					list := slices.Repeat([]int{other}, days)
					for day := first; day < first+run; day++ {
						list[day] = 50 + day%3
					}
					expectSpell(t, list, 50, first, run)
				}
			}
		}
	}
}

func TestPromise95DaysBeforeAndBehind(t *testing.T) {
	for _, list := range extremeSeries() {
		for _, level := range levelsNear(list) {
			first, days := impl.SpellOf(list, level)
			if days == 0 && first != 0 || first < 0 || first+days > len(list) {
				t.Fatalf("SpellOf of %v and %d is %d, %d", list, level, first, days)
			}
			for day, value := range list {
				inside := first <= day && day < first+days
				beside := days > 0 && (day == first-1 || day == first+days)
				reaches := value != noValue && value >= level
				if inside && !reaches || beside && reaches {
					t.Fatalf("SpellOf of %v and %d is %d, %d", list, level, first, days)
				}
			}
		}
	}
}

func TestPromise95InvalidSeries(t *testing.T) {
	for _, list := range invalidSeries() {
		for _, level := range []int{math.MinInt, noValue, 0, 5, math.MaxInt} {
			expectSpell(t, list, level, 0, 0)
		}
	}
}

func TestPromise96LongestRuns(t *testing.T) {
	for _, list := range extremeSeries() {
		for _, level := range levelsNear(list) {
			first, days := spellBy(list, level)
			expectSpell(t, list, level, first, days)
			if days > impl.AboveOf(list, level) {
				t.Fatalf("SpellOf of %v and %d has %d days, more than AboveOf", list, level, days)
			}
		}
	}
}

func TestPromise96AllSmallSeries(t *testing.T) {
	for days := 1; days <= 8; days++ {
		for _, list := range smallSeries(days, []int{noValue, 0, 1}) {
			for level := 0; level <= 1; level++ {
				first, days := spellBy(list, level)
				expectSpell(t, list, level, first, days)
			}
		}
	}
}

func TestPromise97Examples(t *testing.T) {
	n := noValue
	for _, row := range []struct {
		list []int
		want []int
	}{
		{[]int{4, 9, n, 9, 12, 3}, []int{0, 1, 4}},
		{[]int{5}, []int{0}}, {[]int{n}, nil}, {[]int{n, n, n}, nil},
		{[]int{leastReading}, []int{0}}, {[]int{n, leastReading}, []int{1}}, {[]int{leastReading, leastReading}, []int{0}}, {[]int{leastReading, leastReading + 1}, []int{0, 1}},
		{[]int{n, n, 5, 4, 6}, []int{2, 4}}, {[]int{5, n, n, 6}, []int{0, 3}}, {[]int{5, n, n, 5}, []int{0}}, {[]int{5, n, n, 4}, []int{0}},
		{[]int{7, 7, 7}, []int{0}}, {[]int{1, 2, 3}, []int{0, 1, 2}}, {[]int{3, 2, 1}, []int{0}}, {[]int{2, 1, 2, 3}, []int{0, 3}}, {[]int{2, 3, 1, 2}, []int{0, 1}},
		{[]int{-3, -2, -3, -1, 0}, []int{0, 1, 3, 4}}, {[]int{0, mostReading, n, mostReading}, []int{0, 1}},
		{[]int{1, 2, 3, 4, 5, 6, 7, 8, 9, 10, 11, 12}, []int{0, 1, 2, 3, 4, 5, 6, 7, 8, 9, 10, 11}},
		{[]int{1, 2, 3, 4, 5, 6, 7, 8, 9, 10, 11, 12, 13}, nil},
		{[]int{1, 5, 3, 6, 4, 7}, []int{0, 1, 3, 5}},
		{nil, nil}, {[]int{}, nil}, {[]int{1, 2, 11000}, nil}, {[]int{1, 2, -9998}, nil},
	} {
		expectRecords(t, row.list, row.want)
	}
}

func TestPromise97GreaterThanAllBefore(t *testing.T) {
	for _, list := range extremeSeries() {
		expectRecords(t, list, recordsBy(list))
	}
	for days := 1; days <= 6; days++ {
		for _, list := range smallSeries(days, []int{noValue, leastReading, 0, 1}) {
			expectRecords(t, list, recordsBy(list))
		}
	}
}

func TestPromise97InvalidSeriesHaveNoRecords(t *testing.T) {
	for _, list := range invalidSeries() {
		expectRecords(t, list, nil)
	}
}

func TestPromise98LastRecord(t *testing.T) {
	for _, list := range extremeSeries() {
		days := impl.RecordDays(list)
		known := knownOf(list)
		if (len(days) == 0) != (len(known) == 0) {
			t.Fatalf("RecordDays of %v is %v", list, days)
		}
		if len(days) > 0 && list[days[len(days)-1]] != slices.Max(known) {
			t.Fatalf("RecordDays of %v is %v, without the greatest value", list, days)
		}
	}
}

// TestExtremesKeepArguments has lists that are parts of longer ones, so that
// what is behind them could be overwritten.
func TestExtremesKeepArguments(t *testing.T) {
	for many := 0; many <= mostDays+1; many++ {
		list := []int{9, noValue, 8, 30, 31, noValue, 7, 7, 50, -3, 6, 60, 5, 4, 3}
		old := slices.Clone(list)
		for range 2 {
			sorted := impl.SortedOf(list[:many])
			_, ok := impl.QuantileOf(list[:many], 1, 2)
			above := impl.AboveOf(list[:many], 5)
			_, days := impl.SpellOf(list[:many], 5)
			records := impl.RecordDays(list[:many])
			valid := 1 <= many && many <= mostDays
			if (len(sorted) > 0) != valid || ok != valid || (above > 0) != valid || (days > 0) != valid || (len(records) > 0) != valid {
				t.Errorf("the functions return %v, %v, %d, %d and %v for %d days", sorted, ok, above, days, records, many)
			}
		}
		if !slices.Equal(list, old) {
			t.Errorf("%v has become %v", old, list)
		}
	}
}

func TestValuesThatAreReturnedShareNoMemory(t *testing.T) {
	for _, longer := range [][]int{{4, 9, noValue, 9, 12, 3, 77, 77}, {1, 2, 3, 4, 5, 6, 77, 77}, {6, 5, 4, 3, 2, 1, 77, 77}} {
		list := longer[:6]
		old := slices.Clone(longer)
		keptSorted, keptDays := impl.SortedOf(list), impl.RecordDays(list)
		for range 2 {
			sorted, days := impl.SortedOf(list), impl.RecordDays(list)
			if !slices.Equal(sorted, sortedBy(list)) || !slices.Equal(days, recordsBy(list)) {
				t.Fatalf("the results are %v and %v", sorted, days)
			}
			overwrite(sorted, 66)
			overwrite(days, 66)
			if !slices.Equal(longer, old) || !slices.Equal(keptSorted, sortedBy(list)) || !slices.Equal(keptDays, recordsBy(list)) {
				t.Fatalf("%v has become %v, and the results %v and %v", old, longer, keptSorted, keptDays)
			}
		}
	}
}
