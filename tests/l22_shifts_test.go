package tests

import (
	"math"
	"math/rand"
	"slices"
	"testing"

	"loop.example/weatherarchive/impl"
)

// The limits are written out here as the document has them, so that a wrong
// constant of the program is noticed.
const (
	mostShiftDays = 8
	mostPrice     = 9999
)

func noPrices() []int {
	return []int{math.MinInt, math.MinInt + 1, -1 << 62, -1<<32 + 5, -mostPrice, -5, -2, -1, mostPrice + 1, mostPrice + 2, 99999, 1 << 31, 1<<32 + 5, 1 << 62, math.MaxInt - 1, math.MaxInt}
}

// allCuts has all valid cuts of n days: those of a lesser number ahead of
// those of a greater one, and in order among the same number.
func allCuts(n int) [][]int {
	var rows [][]int
	for many := 0; many < n; many++ {
		var extend func(cuts []int, next int)
		extend = func(cuts []int, next int) {
			if len(cuts) == many {
				rows = append(rows, slices.Clone(cuts))
				return
			}
			for cut := next; cut < n; cut++ {
				extend(append(cuts, cut), cut+1)
			}
		}
		extend(nil, 1)
	}
	return rows
}

// invalidCuts has cuts that are not valid for n days, among them valid ones
// with a single one changed, added or exchanged.
func invalidCuts(n int) [][]int {
	rows := [][]int{{0}, {n}, {n + 1}, {-1}, {-n}, {math.MinInt}, {math.MaxInt}, {1<<32 + 1}, {-1<<32 + 1}}
	for _, cuts := range allCuts(n) {
		rows = append(rows, append(slices.Clone(cuts), n), slices.Insert(slices.Clone(cuts), 0, 0), slices.Insert(slices.Clone(cuts), 0, -1))
		for place, cut := range cuts {
			rows = append(rows, slices.Insert(slices.Clone(cuts), place, cut))
			for _, bad := range []int{math.MinInt, -1 << 32, -cut, -1, 0, n, n + 1, cut + 256, 1<<32 + cut, math.MaxInt} {
				with := slices.Clone(cuts)
				with[place] = bad
				rows = append(rows, with)
			}
		}
		if len(cuts) > 1 {
			rows = append(rows, reversed(cuts))
		}
	}
	return rows
}

// validShifts has series with a value on each day, of all lengths.
func validShifts() [][]int {
	rows := [][]int{
		{leastReading}, {mostReading}, {0}, {5, 5}, {5, 6}, {1, 2, 1, 20, 21, 20},
		{leastReading, mostReading, leastReading, mostReading, leastReading, mostReading, leastReading, mostReading},
		{leastReading, leastReading, leastReading, leastReading, mostReading, mostReading, mostReading, mostReading},
		{0, 0, 10, 10, 0, 0, 10, 10}, {1, 2, 3, 4, 5, 6, 7, 8}, {8, 7, 6, 5, 4, 3, 2, 1}, {0, 10, 0, 10, 0},
	}
	source := rand.New(rand.NewSource(22))
	for days := 1; days <= mostShiftDays; days++ {
		rows = append(rows, slices.Repeat([]int{7}, days), slices.Repeat([]int{mostReading}, days), manyReadings(days, days))
		for range 25 {
			rows = append(rows, levelSeries(days, source))
		}
	}
	return rows
}

// levelSeries returns values around levels that change sometimes.
func levelSeries(days int, source *rand.Rand) []int {
	list := make([]int, days)
	level := source.Intn(4) * 10
	spread := []int{1, 2, 10}[source.Intn(3)]
	for i := range list {
		if source.Intn(3) == 0 {
			level = source.Intn(4) * 10
		}
		list[i] = level + source.Intn(spread)
	}
	return list
}

// invalidShifts has series that are not valid here, though some of them are
// series of chapter 12.
func invalidShifts() [][]int {
	rows := invalidSeries()
	for many := mostShiftDays + 1; many <= mostDays; many++ {
		rows = append(rows, slices.Repeat([]int{5}, many), manyReadings(many, 1))
	}
	for days := 1; days <= mostDays; days++ {
		rows = append(rows, slices.Repeat([]int{noValue}, days))
		for place := range days {
			list := manyReadings(days, 2)
			list[place] = noValue
			rows = append(rows, list)
		}
	}
	return rows
}

// cutInto returns the parts of a series: a day begins one if it is a cut.
func cutInto(list []int, cuts []int) [][]int {
	parts := [][]int{nil}
	for day, value := range list {
		if slices.Contains(cuts, day) {
			parts = append(parts, nil)
		}
		last := len(parts) - 1
		parts[last] = append(parts[last], value)
	}
	return parts
}

// partCostBy tells by other means than the program what a part costs: it adds
// the differences of the outermost values, then of those within them, and so
// on, since each median is between all of them.
func partCostBy(values []int) int {
	sorted := slices.Sorted(slices.Values(values))
	cost := 0
	for i := 0; i < len(sorted)/2; i++ {
		cost += sorted[len(sorted)-1-i] - sorted[i]
	}
	return cost
}

func cutsCostBy(list []int, cuts []int, price int) int {
	cost := price * len(cuts)
	for _, part := range cutInto(list, cuts) {
		cost += partCostBy(part)
	}
	return cost
}

// bestBy takes the first cuts of the least cost, since allCuts has them in the
// order that the document wants.
func bestBy(list []int, price int) []int {
	var best []int
	least := math.MaxInt
	for _, cuts := range allCuts(len(list)) {
		if cost := cutsCostBy(list, cuts, price); cost < least {
			best, least = cuts, cost
		}
	}
	return best
}

// isAheadOf tells by the words of the document which ones of two cuts with
// different costs are better.
func isAheadOf(a []int, b []int) bool {
	if len(a) != len(b) {
		return len(a) < len(b)
	}
	return slices.Compare(a, b) < 0
}

func expectCutsValid(t *testing.T, cuts []int, n int, want bool) {
	t.Helper()
	if got := impl.CutsValid(cuts, n); got != want {
		t.Fatalf("CutsValid of %v and %d is %v", cuts, n, got)
	}
}

func expectPartCost(t *testing.T, list []int, want int) {
	t.Helper()
	if got := impl.PartCost(list); got != want {
		t.Fatalf("PartCost of %v is %d, not %d", list, got, want)
	}
}

func expectCost(t *testing.T, list []int, cuts []int, price int, want int) {
	t.Helper()
	if got := impl.CutsCost(list, cuts, price); got != want {
		t.Fatalf("CutsCost of %v, %v, %d is %d, not %d", list, cuts, price, got, want)
	}
}

func expectBest(t *testing.T, list []int, price int, want []int, fine bool) {
	t.Helper()
	if got, ok := impl.CutsBest(list, price); !slices.Equal(got, want) || ok != fine {
		t.Fatalf("CutsBest of %v and %d is %v, %v, not %v, %v", list, price, got, ok, want, fine)
	}
}

func mustBest(t *testing.T, list []int, price int) []int {
	t.Helper()
	cuts, ok := impl.CutsBest(list, price)
	if !ok {
		t.Fatalf("CutsBest of %v and %d fails", list, price)
	}
	return cuts
}

func TestConstantsOfShifts(t *testing.T) {
	if impl.ShiftMax != mostShiftDays {
		t.Errorf("ShiftMax is %d", impl.ShiftMax)
	}
}

func TestPromise74Examples(t *testing.T) {
	n := noValue
	for _, row := range []struct {
		list []int
		want int
	}{
		{[]int{1, 2, 1}, 1}, {[]int{5}, 0}, {[]int{0}, 0}, {[]int{-999}, 0}, {[]int{10999}, 0},
		{[]int{5, 9}, 4}, {[]int{9, 5}, 4}, {[]int{-5, 5}, 10}, {[]int{7, 7, 7, 7}, 0},
		{[]int{1, 2, 3}, 2}, {[]int{3, 1, 2}, 2}, {[]int{1, 2, 3, 4}, 4}, {[]int{4, 2, 3, 1}, 4}, {[]int{0, 0, 9}, 9}, {[]int{0, 9, 9}, 9},
		{[]int{1, 2, 1, 20, 21, 20}, 57},
		{[]int{-999, 10999}, 11998},
		{[]int{-999, 10999, -999, 10999, -999, 10999, -999, 10999}, 47992},
		{[]int{1, 2, 3, 4, 5, 6, 7, 8}, 16},
		{nil, -1}, {[]int{}, -1}, {[]int{n}, -1}, {[]int{1, n, 3}, -1}, {[]int{n, 1}, -1}, {[]int{1, n}, -1},
		{[]int{1, 2, 3, 4, 5, 6, 7, 8, 9}, -1}, {[]int{11000}, -1}, {[]int{-1000}, -1},
	} {
		expectPartCost(t, row.list, row.want)
	}
}

func TestPromise74AllSmallSeries(t *testing.T) {
	for days := 1; days <= 6; days++ {
		for _, list := range smallSeries(days, []int{-2, 0, 1, 10}) {
			expectPartCost(t, list, partCostBy(list))
		}
	}
}

func TestPromise74DifferencesFromOtherValues(t *testing.T) {
	for _, list := range validShifts() {
		cost := impl.PartCost(list)
		median, ok := impl.MedianOf(list)
		if !ok {
			t.Fatalf("MedianOf of %v fails", list)
		}
		for _, from := range append(slices.Clone(list), median) {
			sum := 0
			for _, value := range list {
				sum += apart(value, from)
			}
			if sum < cost || from == median && sum != cost {
				t.Fatalf("PartCost of %v is %d, but all differences from %d are %d", list, cost, from, sum)
			}
		}
		expectPartCost(t, list, partCostBy(list))
	}
}

func TestPromise74InvalidSeries(t *testing.T) {
	for _, list := range invalidShifts() {
		expectPartCost(t, list, -1)
	}
}

func TestPromise75GreaterValuesAndOtherDirection(t *testing.T) {
	for _, list := range validShifts() {
		cost := partCostBy(list)
		expectPartCost(t, reversed(list), cost)
		if slices.Contains(list, mostReading) {
			expectPartCost(t, shifted(list, 1), -1)
		} else {
			expectPartCost(t, shifted(list, 1), cost)
		}
		if slices.Contains(list, leastReading) {
			expectPartCost(t, shifted(list, -1), -1)
		} else {
			expectPartCost(t, shifted(list, -1), cost)
		}
	}
}

func TestPromise76Examples(t *testing.T) {
	list := []int{1, 2, 1, 20, 21, 20}
	for _, row := range []struct {
		list  []int
		cuts  []int
		price int
		want  int
	}{
		{list, []int{3}, 5, 7}, {list, nil, 5, 57}, {list, []int{}, 5, 57}, {list, []int{3}, 0, 2}, {list, []int{3}, 9999, 10001},
		{list, []int{1}, 5, 43}, {list, []int{5}, 5, 44}, {list, []int{1, 2}, 1, 22}, {list, []int{1, 3}, 5, 12}, {list, []int{1, 2, 3, 4, 5}, 7, 35},
		{list, []int{0}, 5, -1}, {list, []int{6}, 5, -1}, {list, []int{3, 3}, 5, -1}, {list, []int{4, 3}, 5, -1}, {list, []int{-3}, 5, -1},
		{list, []int{3}, -1, -1}, {list, []int{3}, 10000, -1}, {list, nil, -1, -1}, {list, nil, 10000, -1},
		{[]int{5}, nil, 0, 0}, {[]int{5}, nil, 9999, 0}, {[]int{5}, []int{1}, 0, -1}, {[]int{5}, []int{0}, 0, -1},
		{nil, nil, 0, -1}, {[]int{}, []int{}, 0, -1}, {[]int{noValue}, nil, 0, -1}, {[]int{1, noValue}, []int{1}, 0, -1},
		{[]int{1, 2, 3, 4, 5, 6, 7, 8}, []int{1, 2, 3, 4, 5, 6, 7}, 9999, 69993},
		{[]int{-999, 10999, -999, 10999, -999, 10999, -999, 10999}, []int{4}, 9999, 57991},
	} {
		expectCost(t, row.list, row.cuts, row.price, row.want)
	}
}

func TestPromise76PriceAndParts(t *testing.T) {
	for _, list := range validShifts() {
		for _, cuts := range allCuts(len(list)) {
			for _, price := range []int{0, 1, 7, 9998, mostPrice} {
				want := price * len(cuts)
				for _, part := range cutInto(list, cuts) {
					want += impl.PartCost(part)
				}
				expectCost(t, list, cuts, price, want)
				expectCost(t, list, cuts, price, cutsCostBy(list, cuts, price))
			}
		}
	}
}

func TestPromise76InvalidArguments(t *testing.T) {
	for _, list := range invalidShifts() {
		expectCost(t, list, nil, 0, -1)
		expectCost(t, list, []int{}, 5, -1)
		expectCost(t, list, []int{1}, 5, -1)
	}
	for days := 1; days <= mostShiftDays; days++ {
		list := manyReadings(days, 1)
		for _, cuts := range invalidCuts(days) {
			expectCost(t, list, cuts, 5, -1)
		}
		for _, price := range noPrices() {
			for _, cuts := range allCuts(days) {
				expectCost(t, list, cuts, price, -1)
			}
		}
	}
}

func TestPromise77FurtherCuts(t *testing.T) {
	for _, list := range validShifts() {
		for _, cuts := range allCuts(len(list)) {
			for _, price := range []int{0, 3, mostPrice} {
				before := impl.CutsCost(list, cuts, price)
				for cut := 1; cut < len(list); cut++ {
					if slices.Contains(cuts, cut) {
						continue
					}
					further := append(slices.Clone(cuts), cut)
					slices.Sort(further)
					if cost := impl.CutsCost(list, further, price); cost < 0 || cost > before+price {
						t.Fatalf("CutsCost of %v, %v, %d is %d, and %d with %v", list, cuts, price, before, cost, further)
					}
				}
			}
		}
	}
}

func TestPromise78Examples(t *testing.T) {
	for _, row := range []struct {
		list  []int
		price int
		want  []int
	}{
		{[]int{1, 2, 1, 20, 21, 20}, 5, []int{3}},
		{[]int{1, 2, 1, 20, 21, 20}, 1, []int{3}},
		{[]int{1, 2, 1, 20, 21, 20}, 0, []int{1, 2, 3, 4, 5}},
		{[]int{1, 2, 1, 20, 21, 20}, 54, []int{3}},
		{[]int{1, 2, 1, 20, 21, 20}, 55, nil}, // both cost 57, and no cut is fewer
		{[]int{1, 2, 1, 20, 21, 20}, 56, nil},
		{[]int{1, 2, 1, 20, 21, 20}, 9999, nil},
		{[]int{5}, 0, nil}, {[]int{5}, 9999, nil},
		{[]int{5, 6}, 0, []int{1}}, {[]int{5, 6}, 1, nil}, {[]int{5, 5}, 0, nil},
		{[]int{0, 0, 10, 10, 0, 0}, 9, []int{2, 4}},
		{[]int{0, 0, 10, 10, 0, 0}, 10, nil},
		{[]int{0, 0, 10, 10, 20, 20}, 10, []int{2, 4}},
		{[]int{0, 0, 10, 10, 20, 20}, 19, []int{2, 4}},
		{[]int{0, 0, 10, 10, 20, 20}, 20, nil},
		{[]int{0, 10, 20}, 10, nil},
		{[]int{0, 10, 20}, 9, []int{1, 2}},
		{[]int{0, 10, 10, 20}, 9, []int{1, 3}},
		{[]int{0, 5, 10}, 5, nil},
		{[]int{0, 5, 0, 5}, 5, nil},
		{[]int{0, 4, 8, 12, 16, 20, 24, 28}, 8, []int{2, 5}},
		{[]int{leastReading, mostReading}, 9999, []int{1}},
		{[]int{leastReading, leastReading, mostReading, mostReading, leastReading, leastReading}, 9999, []int{2, 4}},
		{[]int{leastReading, mostReading, leastReading, mostReading, leastReading, mostReading, leastReading, mostReading}, 9999, []int{1}}, // a part of an odd number of days has one value less that differs
		{[]int{0, 9999}, 9999, nil}, {[]int{0, 9999}, 9998, []int{1}}, {[]int{0, 10000}, 9999, []int{1}},
	} {
		if want := bestBy(row.list, row.price); !slices.Equal(want, row.want) {
			t.Fatalf("the best cuts of %v and %d are %v, not %v", row.list, row.price, want, row.want)
		}
		expectBest(t, row.list, row.price, row.want, true)
	}
}

func TestPromise78SearchThroughAllCuts(t *testing.T) {
	for _, list := range validShifts() {
		for _, price := range []int{0, 1, 2, 3, 4, 5, 8, 9, 10, 11, 15, 20, 21, 30, 100, 9998, mostPrice} {
			expectBest(t, list, price, bestBy(list, price), true)
		}
	}
}

func TestPromise78AllSmallSeries(t *testing.T) {
	for days := 1; days <= 6; days++ {
		for _, list := range smallSeries(days, []int{0, 1, 3}) {
			for price := 0; price <= 4; price++ {
				expectBest(t, list, price, bestBy(list, price), true)
			}
		}
	}
}

// TestPromise78NoCutsAreBetter compares with CutsCost of the program.
func TestPromise78NoCutsAreBetter(t *testing.T) {
	for _, list := range validShifts() {
		for _, price := range []int{0, 1, 5, 10, 30, mostPrice} {
			best := mustBest(t, list, price)
			least := impl.CutsCost(list, best, price)
			for _, cuts := range allCuts(len(list)) {
				cost := impl.CutsCost(list, cuts, price)
				if cost < least || cost == least && isAheadOf(cuts, best) {
					t.Fatalf("CutsBest of %v and %d is %v, which cost %d, but %v cost %d", list, price, best, least, cuts, cost)
				}
			}
		}
	}
}

func TestPromise78InvalidArgumentsFail(t *testing.T) {
	for _, list := range invalidShifts() {
		expectBest(t, list, 0, nil, false)
		expectBest(t, list, 5, nil, false)
		expectBest(t, list, mostPrice, nil, false)
	}
	for _, list := range [][]int{{5}, {5, 90}, manyReadings(mostShiftDays, 1)} {
		for _, price := range noPrices() {
			expectBest(t, list, price, nil, false)
		}
	}
}

// TestPromise79SameCost has series with several best cuts: of different
// numbers, and of the same number.
func TestPromise79SameCost(t *testing.T) {
	for _, row := range []struct {
		list  []int
		price int
		same  int // how many cuts have the least cost
		want  []int
	}{
		{[]int{7, 7, 7}, 0, 4, nil},
		{[]int{7, 7, 9, 9}, 0, 4, []int{2}},
		{[]int{0, 5, 10}, 5, 4, nil},
		{[]int{10, 0, 5}, 5, 3, nil},
		{[]int{0, 0, 10, 10, 20, 20}, 20, 5, nil},
		{[]int{0, 0, 0, 10, 10, 20}, 10, 2, []int{3}},
		{[]int{0, 0, 10, 20, 20}, 10, 3, []int{2}},
		{[]int{0, 0, 10, 20, 20}, 12, 2, []int{2}},
		{[]int{1, 2, 3, 4}, 1, 7, []int{1}},
		{[]int{0, 4, 8, 12}, 5, 3, []int{1}},
		{[]int{1, 2, 3, 4, 5}, 2, 2, []int{2}},
		{[]int{1, 2, 3, 4, 5}, 1, 13, []int{2}},
		{[]int{1, 2, 3, 4, 5, 6, 7, 8}, 1, 81, []int{2, 5}},
		{[]int{1, 2, 3, 4, 5, 6, 7, 8}, 2, 3, []int{2, 5}},
		{[]int{1, 2, 3, 4, 5, 6, 7, 8}, 3, 6, []int{3}},
		{[]int{0, 4, 8, 12, 16, 20, 24, 28}, 8, 3, []int{2, 5}},
	} {
		least := cutsCostBy(row.list, bestBy(row.list, row.price), row.price)
		same := 0
		for _, cuts := range allCuts(len(row.list)) {
			if cutsCostBy(row.list, cuts, row.price) == least {
				same++
			}
		}
		if same != row.same {
			t.Errorf("%d cuts of %v and %d have the least cost, not %d", same, row.list, row.price, row.same)
		}
		expectBest(t, row.list, row.price, row.want, true)
	}
}

func TestPromise79OneDayEarlier(t *testing.T) {
	for _, list := range validShifts() {
		for price := 0; price <= 30; price++ {
			best := mustBest(t, list, price)
			least := impl.CutsCost(list, best, price)
			for place, cut := range best {
				earlier := slices.Clone(best)
				earlier[place] = cut - 1
				if cut == 1 || slices.Contains(best, cut-1) {
					continue
				}
				if cost := impl.CutsCost(list, earlier, price); cost <= least {
					t.Fatalf("CutsBest of %v and %d is %v, which cost %d, but %v cost %d", list, price, best, least, earlier, cost)
				}
			}
		}
	}
}

func TestPromise80PriceOfNothing(t *testing.T) {
	for _, list := range validShifts() {
		best := mustBest(t, list, 0)
		expectCost(t, list, best, 0, 0)
		var want []int
		for day := 1; day < len(list); day++ {
			if list[day] != list[day-1] {
				want = append(want, day)
			}
		}
		expectBest(t, list, 0, want, true)
	}
}

func TestPromise81GreaterPrices(t *testing.T) {
	for i, list := range validShifts() {
		last := 60
		if i%20 == 0 {
			last = mostPrice
		}
		before := len(list)
		for price := 0; price <= last; price++ {
			many := len(mustBest(t, list, price))
			if many > before {
				t.Fatalf("CutsBest of %v and %d has %d cuts, more than the %d of the price before", list, price, many, before)
			}
			before = many
		}
	}
}

func TestPromise82WithoutAnyCut(t *testing.T) {
	for n := 1; n <= mostShiftDays; n++ {
		for _, cuts := range allCuts(n) {
			expectCutsValid(t, cuts, n, true)
			for place, cut := range cuts {
				expectCutsValid(t, slices.Delete(slices.Clone(cuts), place, place+1), n, true)
				expectCutsValid(t, slices.Insert(slices.Clone(cuts), place, cut), n, false)
			}
			expectCutsValid(t, append(slices.Clone(cuts), n), n, false)
			expectCutsValid(t, append(slices.Clone(cuts), n), n+1, n < mostShiftDays)
		}
	}
}

func TestPromise82InvalidCuts(t *testing.T) {
	for n := 1; n <= mostShiftDays; n++ {
		for _, cuts := range invalidCuts(n) {
			expectCutsValid(t, cuts, n, false)
		}
	}
}

// TestPromise82AllSmallCuts tries all lists of few numbers, in any order.
func TestPromise82AllSmallCuts(t *testing.T) {
	for n := -1; n <= 5; n++ {
		valid := allCuts(n)
		for many := 0; many <= 4; many++ {
			for _, cuts := range smallSeries(many, []int{-1, 0, 1, 2, 3, 4, 5}) {
				want := slices.ContainsFunc(valid, func(row []int) bool { return slices.Equal(row, cuts) })
				expectCutsValid(t, cuts, n, want)
			}
		}
	}
}

func TestPromise82NumbersOfDays(t *testing.T) {
	for _, n := range []int{math.MinInt, math.MinInt + 1, -1<<32 + 3, -8, -2, -1, 0, mostShiftDays + 1, mostShiftDays + 2, mostDays, mostDays + 1, 100, 256 + 3, 1<<32 + 3, math.MaxInt - 1, math.MaxInt} {
		for _, cuts := range [][]int{nil, {}, {0}, {1}, {2}, {1, 2}, {-1}, {-3}} {
			expectCutsValid(t, cuts, n, false)
		}
	}
	for n := 1; n <= mostShiftDays; n++ {
		expectCutsValid(t, nil, n, true)
		expectCutsValid(t, []int{}, n, true)
		for cut := -2; cut <= n+2; cut++ {
			expectCutsValid(t, []int{cut}, n, 1 <= cut && cut < n)
		}
		var each []int
		for cut := 1; cut < n; cut++ {
			each = append(each, cut)
		}
		expectCutsValid(t, each, n, true)
		expectCutsValid(t, each, n-1, false)
	}
}

// TestShiftsKeepArguments has lists that are parts of longer ones, so that
// what is behind them could be overwritten.
func TestShiftsKeepArguments(t *testing.T) {
	for many := 0; many <= mostShiftDays+1; many++ {
		list := []int{9, 1, 8, 30, 31, 2, 7, 7, 5, 66, 67}
		cuts := []int{1, 3, 5, 6, 7, 8, 9}
		oldList, oldCuts := slices.Clone(list), slices.Clone(cuts)
		for range 2 {
			part := impl.PartCost(list[:many])
			_, ok := impl.CutsBest(list[:many], 3)
			valid := 1 <= many && many <= mostShiftDays
			if ok != valid || (part >= 0) != valid {
				t.Errorf("the functions return %d and %v for %d days", part, ok, many)
			}
			for some := range cuts {
				cost := impl.CutsCost(list[:many], cuts[:some], 3)
				fine := impl.CutsValid(cuts[:some], many)
				if fine != (cost >= 0) {
					t.Errorf("CutsCost is %d for %d days and %d cuts", cost, many, some)
				}
			}
		}
		if !slices.Equal(list, oldList) || !slices.Equal(cuts, oldCuts) {
			t.Errorf("%v and %v have become %v and %v", oldList, oldCuts, list, cuts)
		}
	}
}

func TestShiftsTakeOneListForBothArguments(t *testing.T) {
	list := []int{1, 2, 3, 4}
	expectCost(t, list, list[:3], 10, 30)
	expectCost(t, list, list[:1], 10, 12)
	expectCost(t, list, list, 10, -1)
	if !slices.Equal(list, []int{1, 2, 3, 4}) {
		t.Errorf("the list has become %v", list)
	}
}

func TestCutsThatAreReturnedShareNoMemory(t *testing.T) {
	longer := []int{1, 2, 1, 20, 21, 20, 77, 77}
	list := longer[:6]
	old := slices.Clone(longer)
	kept := mustBest(t, list, 0)
	for range 2 {
		cuts := mustBest(t, list, 0)
		if !slices.Equal(cuts, []int{1, 2, 3, 4, 5}) {
			t.Fatalf("CutsBest is %v", cuts)
		}
		overwrite(cuts, 66)
		if !slices.Equal(longer, old) || !slices.Equal(kept, []int{1, 2, 3, 4, 5}) {
			t.Fatalf("%v has become %v, and the cuts %v", old, longer, kept)
		}
	}
}
