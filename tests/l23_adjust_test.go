package tests

import (
	"math"
	"math/rand"
	"slices"
	"testing"

	"loop.example/weatherarchive/impl"
)

// mostBackStep is written out here as the document has it, so that a wrong
// constant of the program is noticed.
const mostBackStep = 19999

// cutRow is a series that was divided by cuts.
type cutRow struct {
	list []int
	cuts []int
}

func noBackSteps() []int {
	return []int{
		math.MinInt, math.MinInt + 1, -1 << 62, -1<<32 - 5, -1<<32 + 5, -1 << 31, -99999, -20001, -mostBackStep - 1,
		mostBackStep + 1, 20001, 99999, 1 << 31, 1<<32 - 5, 1<<32 + 5, 1 << 62, math.MaxInt - 1, math.MaxInt,
	}
}

// cutRows has series of all lengths with all of their cuts.
func cutRows() []cutRow {
	var rows []cutRow
	for _, list := range validShifts() {
		for _, cuts := range allCuts(len(list)) {
			rows = append(rows, cutRow{list, cuts})
		}
	}
	source := rand.New(rand.NewSource(23))
	for range 2000 { // values so far apart that adjusting them often fails
		list := make([]int, 2+source.Intn(mostShiftDays-1))
		for i := range list {
			list[i] = leastReading + source.Intn(mostReading-leastReading+1)
		}
		all := allCuts(len(list))
		rows = append(rows, cutRow{list, all[source.Intn(len(all))]})
	}
	return rows
}

// wrongCutRows has invalid series, and invalid cuts of valid ones.
func wrongCutRows() []cutRow {
	var rows []cutRow
	for _, list := range invalidShifts() {
		rows = append(rows, cutRow{list, nil}, cutRow{list, []int{}}, cutRow{list, []int{1}}, cutRow{list, []int{1, 2}})
	}
	for days := 1; days <= mostShiftDays; days++ {
		for _, cuts := range invalidCuts(days) {
			rows = append(rows, cutRow{slices.Repeat([]int{7}, days), cuts})
		}
	}
	return rows
}

func isShiftSeries(list []int) bool {
	for _, value := range list {
		if value < leastReading || value > mostReading {
			return false
		}
	}
	return 1 <= len(list) && len(list) <= mostShiftDays
}

func stepsBy(r cutRow) []int {
	parts := cutInto(r.list, r.cuts)
	steps := []int{}
	for _, part := range parts {
		steps = append(steps, medianBy(parts[len(parts)-1])-medianBy(part))
	}
	return steps
}

// movedBy adds the step of its part to each value: as many cuts as are not
// behind a day are the place of its part. It returns nil if the result is no
// valid series.
func movedBy(r cutRow, steps []int) []int {
	moved := slices.Clone(r.list)
	for day := range moved {
		place := 0
		for _, cut := range r.cuts {
			if cut <= day {
				place++
			}
		}
		moved[day] += steps[place]
	}
	if !isShiftSeries(moved) {
		return nil
	}
	return moved
}

func negated(list []int) []int {
	list = slices.Clone(list)
	for i := range list {
		list[i] = -list[i]
	}
	return list
}

// expectSteps checks what AdjustSteps returns if it must succeed with want,
// or, if want is nil, fail.
func expectSteps(t *testing.T, r cutRow, want []int) {
	t.Helper()
	got, ok := impl.AdjustSteps(r.list, r.cuts)
	if !slices.Equal(got, want) || ok != (want != nil) {
		t.Fatalf("AdjustSteps of %v is %v, %v, not %v", r, got, ok, want)
	}
}

// expectAdjusted does the same for AdjustOf.
func expectAdjusted(t *testing.T, r cutRow, want []int) {
	t.Helper()
	got, ok := impl.AdjustOf(r.list, r.cuts)
	if !slices.Equal(got, want) || ok != (want != nil) {
		t.Fatalf("AdjustOf of %v is %v, %v, not %v", r, got, ok, want)
	}
}

// expectBack does the same for AdjustBack.
func expectBack(t *testing.T, r cutRow, steps []int, want []int) {
	t.Helper()
	got, ok := impl.AdjustBack(r.list, r.cuts, steps)
	if !slices.Equal(got, want) || ok != (want != nil) {
		t.Fatalf("AdjustBack of %v and %v is %v, %v, not %v", r, steps, got, ok, want)
	}
}

func mustSteps(t *testing.T, r cutRow) []int {
	t.Helper()
	steps, ok := impl.AdjustSteps(r.list, r.cuts)
	if !ok {
		t.Fatalf("AdjustSteps of %v fails", r)
	}
	return steps
}

func TestPromise83Examples(t *testing.T) {
	for _, row := range []struct {
		r    cutRow
		want []int
	}{
		{cutRow{[]int{1, 2, 1, 20, 21, 20}, []int{3}}, []int{20, 21, 20, 20, 21, 20}},
		{cutRow{[]int{20, 21, 20, 1, 2, 1}, []int{3}}, []int{1, 2, 1, 1, 2, 1}},
		{cutRow{[]int{5}, nil}, []int{5}},
		{cutRow{[]int{5, 9}, nil}, []int{5, 9}},
		{cutRow{[]int{5, 9}, []int{1}}, []int{9, 9}},
		{cutRow{[]int{9, 5}, []int{1}}, []int{5, 5}},
		{cutRow{[]int{5, 5, 7}, []int{2}}, []int{7, 7, 7}},
		{cutRow{[]int{5, 7, 6}, []int{2}}, []int{6, 8, 6}}, // the lower one of two values is the median
		{cutRow{[]int{6, 5, 7}, []int{1}}, []int{5, 5, 7}},
		{cutRow{[]int{0, 10, 20, 30, 40, 50}, []int{2, 4}}, []int{40, 50, 40, 50, 40, 50}},
		{cutRow{[]int{0, 10, 20, 30, 40, 50}, []int{1, 2, 3, 4, 5}}, []int{50, 50, 50, 50, 50, 50}},
		{cutRow{[]int{3, 1, 2, 9, -4, -5, -6, 7}, []int{3, 4, 7}}, []int{8, 6, 7, 7, 8, 7, 6, 7}},
		{cutRow{[]int{4, 4, 4, 4}, []int{1, 2}}, []int{4, 4, 4, 4}},
	} {
		expectAdjusted(t, row.r, row.want)
	}
}

// TestPromise83Limits has results that are just the least and the greatest
// reading, and one beyond, at the first, a middle and the last day of a part.
// The median of the part is always that of its two equal values.
func TestPromise83Limits(t *testing.T) {
	for _, row := range []struct {
		median int // of the first part
		target int // the last part
		limit  int
	}{
		{500, 0, leastReading}, {10000, 9000, leastReading}, {mostReading, mostReading - 1, leastReading}, {0, -1, leastReading}, {700, -600, leastReading},
		{0, 500, mostReading}, {-900, 9000, mostReading}, {leastReading, leastReading + 1, mostReading}, {0, 1, mostReading}, {-999, 10998, mostReading},
	} {
		for place := range 3 {
			beyond := 1
			if row.limit == leastReading {
				beyond = -1
			}
			list := []int{row.median, row.median, row.median, row.target}
			list[place] = row.limit - (row.target - row.median)
			r := cutRow{list, []int{3}}
			want := []int{row.target, row.target, row.target, row.target}
			want[place] = row.limit
			expectAdjusted(t, r, want)
			list[place] += beyond
			expectAdjusted(t, r, nil)
			list[place] -= 2 * beyond
			want[place] -= beyond
			expectAdjusted(t, r, want)
		}
	}
}

// TestPromise83LimitsOfLaterParts has the same in the middle of several parts.
func TestPromise83LimitsOfLaterParts(t *testing.T) {
	list := []int{40, 40, 500, 500, -499, 7, 0, 0}
	r := cutRow{list, []int{2, 5, 6}}
	expectAdjusted(t, r, []int{0, 0, 0, 0, -999, 0, 0, 0})
	list[4]--
	expectAdjusted(t, r, nil)
	expectSteps(t, r, []int{-40, -500, -7, 0})
	list[4], list[2] = 500, -499
	expectAdjusted(t, r, []int{0, 0, -999, 0, 0, 0, 0, 0})
	list[2]--
	expectAdjusted(t, r, nil)
	list[2] = 500
	expectAdjusted(t, r, []int{0, 0, 0, 0, 0, 0, 0, 0})
}

// TestPromise83ResultsThatAreNone has values that would become the number of a
// day without a value, and others one beside it.
func TestPromise83ResultsThatAreNone(t *testing.T) {
	for _, beside := range []int{-1, 0, 1} {
		r := cutRow{[]int{leastReading, mostReading, mostReading, 1999 + beside}, []int{3}}
		if result := leastReading + mustSteps(t, r)[0]; result != noValue+beside {
			t.Fatalf("the first value would become %d", result)
		}
		expectAdjusted(t, r, nil)
		expectAdjusted(t, cutRow{reversedParts(r), []int{3}}, nil)
	}
}

// reversedParts exchanges the values of the first part.
func reversedParts(r cutRow) []int {
	list := slices.Clone(r.list)
	slices.Reverse(list[:r.cuts[0]])
	return list
}

func TestPromise83MediansOfAllParts(t *testing.T) {
	succeeded, failed := 0, 0
	for _, r := range cutRows() {
		want := movedBy(r, stepsBy(r))
		expectAdjusted(t, r, want)
		if want == nil {
			failed++
			continue
		}
		succeeded++
		parts := cutInto(r.list, r.cuts)
		target := medianBy(parts[len(parts)-1])
		got, _ := impl.AdjustOf(r.list, r.cuts)
		for _, part := range cutInto(got, r.cuts) {
			expectMedian(t, part, target, true)
		}
	}
	if succeeded < 100 || failed < 100 {
		t.Errorf("AdjustOf succeeds %d times and fails %d times", succeeded, failed)
	}
}

func TestPromise83AllSmallSeries(t *testing.T) {
	for days := 1; days <= 5; days++ {
		for _, list := range smallSeries(days, []int{leastReading, leastReading + 1, 0, mostReading}) {
			for _, cuts := range allCuts(days) {
				r := cutRow{list, cuts}
				expectSteps(t, r, stepsBy(r))
				expectAdjusted(t, r, movedBy(r, stepsBy(r)))
			}
		}
	}
}

func TestPromise83InvalidArgumentsFail(t *testing.T) {
	for _, r := range wrongCutRows() {
		expectAdjusted(t, r, nil)
	}
}

func TestPromise84DoneAgain(t *testing.T) {
	for _, r := range cutRows() {
		once, ok := impl.AdjustOf(r.list, r.cuts)
		if !ok {
			continue
		}
		again := cutRow{once, r.cuts}
		expectAdjusted(t, again, once)
		expectSteps(t, again, make([]int, len(r.cuts)+1))
	}
}

func TestPromise85BackAgain(t *testing.T) {
	for _, r := range cutRows() {
		adjusted, ok := impl.AdjustOf(r.list, r.cuts)
		if ok {
			expectBack(t, cutRow{adjusted, r.cuts}, mustSteps(t, r), r.list)
		}
	}
	expectBack(t, cutRow{[]int{20, 21, 20, 20, 21, 20}, []int{3}}, []int{19, 0}, []int{1, 2, 1, 20, 21, 20})
}

func TestPromise86StepOfTheLastPart(t *testing.T) {
	for _, r := range cutRows() {
		steps := mustSteps(t, r)
		if len(steps) != len(r.cuts)+1 || steps[len(steps)-1] != 0 {
			t.Fatalf("AdjustSteps of %v is %v", r, steps)
		}
	}
}

func TestPromise86WithoutCuts(t *testing.T) {
	for _, list := range validShifts() {
		for _, cuts := range [][]int{nil, {}} {
			expectAdjusted(t, cutRow{list, cuts}, list)
			expectSteps(t, cutRow{list, cuts}, []int{0})
			expectBack(t, cutRow{list, cuts}, []int{0}, list)
		}
	}
}

func TestPromise87SameCost(t *testing.T) {
	for _, r := range cutRows() {
		adjusted, ok := impl.AdjustOf(r.list, r.cuts)
		if !ok {
			continue
		}
		for _, price := range []int{0, 5, mostPrice} {
			expectCost(t, adjusted, r.cuts, price, impl.CutsCost(r.list, r.cuts, price))
			expectCost(t, adjusted, r.cuts, price, cutsCostBy(r.list, r.cuts, price))
		}
	}
}

func TestPromise88Examples(t *testing.T) {
	for _, row := range []struct {
		r    cutRow
		want []int
	}{
		{cutRow{[]int{1, 2, 1, 20, 21, 20}, []int{3}}, []int{19, 0}},
		{cutRow{[]int{5}, nil}, []int{0}},
		{cutRow{[]int{5, 9}, []int{1}}, []int{4, 0}},
		{cutRow{[]int{9, 5}, []int{1}}, []int{-4, 0}},
		{cutRow{[]int{5, 5}, []int{1}}, []int{0, 0}},
		{cutRow{[]int{leastReading, mostReading}, []int{1}}, []int{11998, 0}},
		{cutRow{[]int{mostReading, leastReading}, []int{1}}, []int{-11998, 0}},
		{cutRow{[]int{0, 10, 20, 30, 40, 50}, []int{2, 4}}, []int{40, 20, 0}},
		{cutRow{[]int{0, 10, 20, 30, 40, 50}, []int{3}}, []int{30, 0}},
		{cutRow{[]int{0, 10, 20, 30, 40, 50}, []int{1, 4}}, []int{40, 20, 0}},
		{cutRow{[]int{3, 1, 2, 9, -4, -5, -6, 7}, []int{3, 4, 7}}, []int{5, -2, 12, 0}},
		{cutRow{[]int{1, 2, 3, 4, 5, 6, 7, 8}, []int{1, 2, 3, 4, 5, 6, 7}}, []int{7, 6, 5, 4, 3, 2, 1, 0}},
	} {
		expectSteps(t, row.r, row.want)
	}
}

func TestPromise88StepsToTheLastPart(t *testing.T) {
	for _, r := range cutRows() {
		steps := mustSteps(t, r)
		parts := cutInto(r.list, r.cuts)
		target, _ := impl.MedianOf(parts[len(parts)-1])
		for i, part := range parts {
			expectMedian(t, part, target-steps[i], true)
		}
		expectSteps(t, r, stepsBy(r))
	}
}

func TestPromise88InvalidArgumentsFail(t *testing.T) {
	for _, r := range wrongCutRows() {
		expectSteps(t, r, nil)
	}
}

func TestPromise89Examples(t *testing.T) {
	for _, row := range []struct {
		r     cutRow
		steps []int
		want  []int
	}{
		{cutRow{[]int{5}, nil}, []int{3}, []int{2}},
		{cutRow{[]int{5}, nil}, []int{-3}, []int{8}},
		{cutRow{[]int{5, 6, 7}, nil}, []int{10}, []int{-5, -4, -3}},
		{cutRow{[]int{5, 6, 7}, []int{1}}, []int{10, 0}, []int{-5, 6, 7}},
		{cutRow{[]int{5, 6, 7}, []int{1}}, []int{0, 10}, []int{5, -4, -3}},
		{cutRow{[]int{5, 6, 7}, []int{2}}, []int{1, -1}, []int{4, 5, 8}},
		{cutRow{[]int{5, 6, 7}, []int{1, 2}}, []int{1, 2, 3}, []int{4, 4, 4}},
		{cutRow{[]int{1, 2, 3, 4, 5, 6, 7, 8}, []int{1, 2, 3, 4, 5, 6, 7}}, []int{8, 7, 6, 5, 4, 3, 2, 1}, []int{-7, -5, -3, -1, 1, 3, 5, 7}},
		{cutRow{[]int{leastReading, mostReading}, []int{1}}, []int{-11998, 11998}, []int{mostReading, leastReading}},
		{cutRow{[]int{leastReading, mostReading}, []int{1}}, []int{-11999, 11998}, nil},
		{cutRow{[]int{leastReading, mostReading}, []int{1}}, []int{-11998, 11999}, nil},
		{cutRow{[]int{leastReading, mostReading}, []int{1}}, []int{1, 0}, nil},
		{cutRow{[]int{leastReading, mostReading}, []int{1}}, []int{0, -1}, nil},
		{cutRow{[]int{leastReading, mostReading}, []int{1}}, []int{-1, 1}, []int{leastReading + 1, mostReading - 1}},
		{cutRow{[]int{0}, nil}, []int{9999}, nil}, // the result is the number of a day without a value
		{cutRow{[]int{9, 0}, []int{1}}, []int{9, 9999}, nil},
		{cutRow{[]int{9, 0}, []int{1}}, []int{9, 9998}, nil},
		{cutRow{[]int{9, 0}, []int{1}}, []int{9, 10000}, nil},
		{cutRow{[]int{mostReading}, nil}, []int{11998}, []int{leastReading}},
		{cutRow{[]int{mostReading}, nil}, []int{mostBackStep}, nil},
		{cutRow{[]int{leastReading}, nil}, []int{-mostBackStep}, nil},
	} {
		expectBack(t, row.r, row.steps, row.want)
	}
}

// TestPromise89AllSteps has results of all kinds for a single value.
func TestPromise89AllSteps(t *testing.T) {
	for _, value := range []int{leastReading, -1, 0, 5000, mostReading} {
		for step := -20010; step <= 20010; step++ {
			var want []int
			if result := value - step; leastReading <= result && result <= mostReading {
				want = []int{result}
			}
			expectBack(t, cutRow{[]int{value}, nil}, []int{step}, want)
		}
	}
}

// TestPromise89Limits has results that are a limit and one beyond, on each day
// of each part.
func TestPromise89Limits(t *testing.T) {
	for days := 1; days <= 5; days++ {
		for _, cuts := range allCuts(days) {
			for place := range len(cuts) + 1 {
				for _, step := range []int{-4000, -1, 0, 1, 2500} {
					steps := make([]int, len(cuts)+1)
					steps[place] = step
					for day := range days {
						list := slices.Repeat([]int{5000}, days)
						r := cutRow{list, cuts}
						for _, result := range []int{leastReading - 1, leastReading, leastReading + 1, mostReading - 1, mostReading, mostReading + 1, noValue} {
							list[day] = result + step
							if isShiftSeries(list) {
								expectBack(t, r, steps, movedBy(r, negated(steps)))
							}
						}
					}
				}
			}
		}
	}
}

func TestPromise89TakenBackWithTheOtherSign(t *testing.T) {
	source := rand.New(rand.NewSource(89))
	for _, r := range cutRows() {
		for range 3 {
			steps := make([]int, len(r.cuts)+1)
			for i := range steps {
				steps[i] = source.Intn(2000) - 1000
			}
			want := movedBy(r, negated(steps))
			expectBack(t, r, steps, want)
			if want != nil {
				expectBack(t, cutRow{want, r.cuts}, negated(steps), r.list)
			}
		}
	}
}

func TestPromise89OtherNumbersOfStepsFail(t *testing.T) {
	for days := 1; days <= mostShiftDays; days++ {
		list := manyReadings(days, 1)
		for _, cuts := range allCuts(days) {
			r := cutRow{list, cuts}
			expectBack(t, r, nil, nil)
			for many := 0; many <= mostShiftDays+2; many++ {
				if many == len(cuts)+1 {
					expectBack(t, r, make([]int, many), list)
				} else {
					expectBack(t, r, make([]int, many), nil)
				}
			}
			expectBack(t, r, make([]int, 256+len(cuts)+1), nil)
		}
	}
}

func TestPromise89OtherStepsFail(t *testing.T) {
	for _, bad := range noBackSteps() {
		for days := 1; days <= mostShiftDays; days++ {
			for _, cuts := range allCuts(days) {
				for place := range len(cuts) + 1 {
					steps := make([]int, len(cuts)+1)
					steps[place] = bad
					expectBack(t, cutRow{manyReadings(days, 1), cuts}, steps, nil)
				}
			}
		}
	}
}

func TestPromise89InvalidArgumentsFail(t *testing.T) {
	for _, r := range wrongCutRows() {
		expectBack(t, r, make([]int, len(r.cuts)+1), nil)
		expectBack(t, r, make([]int, 1), nil)
		expectBack(t, r, nil, nil)
	}
}

// TestAdjustmentsKeepArguments has lists that are parts of longer ones, so
// that what is behind them could be overwritten.
func TestAdjustmentsKeepArguments(t *testing.T) {
	for days := 0; days <= mostShiftDays+1; days++ {
		for many := range 5 {
			list := []int{9, 1, 8, 30, 31, 2, 7, 7, 5, 66, 67}
			cuts := []int{1, 3, 5, 6, 7, 8}
			steps := []int{1, -2, 3, 0, 5, 6, 7, 8}
			oldList, oldCuts, oldSteps := slices.Clone(list), slices.Clone(cuts), slices.Clone(steps)
			valid := impl.CutsValid(cuts[:many], days)
			for range 2 {
				_, first := impl.AdjustSteps(list[:days], cuts[:many])
				_, second := impl.AdjustOf(list[:days], cuts[:many])
				_, third := impl.AdjustBack(list[:days], cuts[:many], steps[:many+1])
				if first != valid || second != valid || third != valid {
					t.Errorf("the functions return %v, %v and %v for %d days and %d cuts", first, second, third, days, many)
				}
			}
			if !slices.Equal(list, oldList) || !slices.Equal(cuts, oldCuts) || !slices.Equal(steps, oldSteps) {
				t.Errorf("%v, %v and %v have become %v, %v and %v", oldList, oldCuts, oldSteps, list, cuts, steps)
			}
		}
	}
}

func TestAdjustmentsTakeOneListForAllArguments(t *testing.T) {
	list := []int{1, 2, 3, 4}
	expectBack(t, cutRow{list, list[:3]}, list, []int{0, 0, 0, 0})
	expectBack(t, cutRow{list, list[:1]}, list[:2], []int{0, 0, 1, 2})
	expectAdjusted(t, cutRow{list, list[:1]}, []int{3, 2, 3, 4})
	if !slices.Equal(list, []int{1, 2, 3, 4}) {
		t.Errorf("the list has become %v", list)
	}
}

func TestAdjustmentsThatAreReturnedShareNoMemory(t *testing.T) {
	longer := []int{1, 2, 1, 20, 21, 20, 77, 77}
	cuts := []int{3, 78, 78}
	back := []int{1, 0, 79, 79}
	old, oldCuts, oldBack := slices.Clone(longer), slices.Clone(cuts), slices.Clone(back)
	for _, many := range []int{0, 1} {
		r := cutRow{longer[:6], cuts[:many]}
		for range 2 {
			steps := mustSteps(t, r)
			adjusted, _ := impl.AdjustOf(r.list, r.cuts)
			earlier, _ := impl.AdjustBack(r.list, r.cuts, back[:many+1])
			if !slices.Equal(steps, stepsBy(r)) || !slices.Equal(adjusted, movedBy(r, stepsBy(r))) || !slices.Equal(earlier, movedBy(r, negated(back[:many+1]))) {
				t.Fatalf("the results are %v, %v and %v", steps, adjusted, earlier)
			}
			for _, list := range [][]int{steps, adjusted, earlier} {
				overwrite(list, 66)
			}
			if !slices.Equal(longer, old) || !slices.Equal(cuts, oldCuts) || !slices.Equal(back, oldBack) {
				t.Fatalf("%v, %v and %v have become %v, %v and %v", old, oldCuts, oldBack, longer, cuts, back)
			}
		}
	}
}
