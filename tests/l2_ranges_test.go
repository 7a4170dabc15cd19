package tests

import (
	"math"
	"testing"

	"loop.example/weatherarchive/impl"
)

// The limits are written out here as the document has them, so that a wrong
// constant of the program is noticed.
const (
	lastOfRange = 99999
	lastTenths  = 2000
)

// noTemperatures has numbers that are no temperatures, among them some whose
// multiples become those of a temperature if they exceed 32 or 64 bits.
func noTemperatures() []int {
	return []int{
		math.MinInt, math.MinInt + 1, -1 << 62, -1<<32 - 10, -1 << 31, -99999, -20000, -2002, -2001,
		2001, 2002, 20000, 99999, 1 << 31, 1<<32 + 10, 1 << 62, 1<<63 - 10, math.MaxInt - 1, math.MaxInt,
	}
}

// rangesWithin returns all ranges within two numbers.
func rangesWithin(low int, high int) []impl.Range {
	var list []impl.Range
	for l := low; l <= high; l++ {
		for h := l; h <= high; h++ {
			list = append(list, impl.Range{Low: l, High: h})
		}
	}
	return list
}

// validRanges has all ranges around zero and around both ends, so that each
// way in which two ranges can lie is among their pairs, and some long ones.
func validRanges() []impl.Range {
	list := rangesWithin(-4, 4)
	list = append(list, rangesWithin(-lastOfRange, -lastOfRange+3)...)
	list = append(list, rangesWithin(lastOfRange-3, lastOfRange)...)
	return append(list,
		impl.Range{Low: -lastOfRange, High: lastOfRange},
		impl.Range{Low: -lastOfRange, High: -1},
		impl.Range{Low: -lastOfRange, High: 0},
		impl.Range{Low: 0, High: lastOfRange},
		impl.Range{Low: 1, High: lastOfRange},
		impl.Range{Low: -lastOfRange + 1, High: lastOfRange - 1},
		impl.Range{Low: -36009, High: 36009},
		impl.Range{Low: -50000, High: -40000},
		impl.Range{Low: 40000, High: 50000},
		impl.Range{Low: -120, High: 350},
	)
}

func invalidRanges() []impl.Range {
	return []impl.Range{
		{Low: 1, High: 0}, {Low: 0, High: -1}, {Low: -4, High: -5}, {Low: 5, High: -5}, {Low: 189, High: 171},
		{Low: lastOfRange, High: lastOfRange - 1}, {Low: -lastOfRange + 1, High: -lastOfRange}, {Low: lastOfRange, High: -lastOfRange},
		{Low: -lastOfRange - 1, High: -lastOfRange - 1}, {Low: -lastOfRange - 1, High: -lastOfRange}, {Low: -lastOfRange - 1, High: 0}, {Low: -lastOfRange - 1, High: lastOfRange},
		{Low: lastOfRange + 1, High: lastOfRange + 1}, {Low: lastOfRange, High: lastOfRange + 1}, {Low: 0, High: lastOfRange + 1}, {Low: -lastOfRange, High: lastOfRange + 1},
		{Low: -lastOfRange, High: -lastOfRange - 1}, {Low: lastOfRange + 1, High: lastOfRange}, {Low: -lastOfRange - 1, High: lastOfRange + 1},
		{Low: -1 << 32, High: 1 << 32}, {Low: 1<<32 + 1, High: 1<<32 + 2}, {Low: -1<<32 + 1, High: -1<<32 + 2}, {Low: 0, High: 1<<32 + 5}, {Low: 0, High: 1 << 17}, {Low: 1 << 16, High: 1 << 20},
		{Low: math.MinInt, High: math.MinInt}, {Low: math.MinInt, High: math.MinInt + 5}, {Low: math.MinInt, High: -1}, {Low: math.MinInt, High: 0}, {Low: math.MinInt, High: math.MaxInt},
		{Low: math.MaxInt, High: math.MaxInt}, {Low: math.MaxInt - 5, High: math.MaxInt}, {Low: 0, High: math.MaxInt}, {Low: 1, High: math.MaxInt},
		{Low: math.MaxInt, High: math.MinInt}, {Low: math.MaxInt, High: 0}, {Low: 0, High: math.MinInt},
	}
}

func has(r impl.Range, n int) bool {
	return r.Low <= n && n <= r.High
}

// numbersNear returns the numbers at which anything about two ranges can
// change.
func numbersNear(a impl.Range, b impl.Range) []int {
	var list []int
	for _, end := range []int{a.Low, a.High, b.Low, b.High} {
		list = append(list, end-1, end, end+1)
	}
	return list
}

// haveCommon tells by other means than the program whether two ranges meet:
// if they do, one of them has an end of the other one.
func haveCommon(a impl.Range, b impl.Range) bool {
	return has(a, b.Low) || has(a, b.High) || has(b, a.Low) || has(b, a.High)
}

// expectRange checks what a function returned if it must succeed with want,
// or, without fine, fail.
func expectRange(t *testing.T, call string, argument any, got impl.Range, ok bool, want impl.Range, fine bool) {
	t.Helper()
	if !fine {
		want = impl.Range{}
	}
	if got != want || ok != fine {
		t.Errorf("%s of %v is %v, %v, not %v, %v", call, argument, got, ok, want, fine)
	}
}

func expectMeet(t *testing.T, a impl.Range, b impl.Range, want impl.Range, fine bool) {
	t.Helper()
	got, ok := impl.RangeMeet(a, b)
	expectRange(t, "RangeMeet", [2]impl.Range{a, b}, got, ok, want, fine)
}

func expectJoin(t *testing.T, a impl.Range, b impl.Range, want impl.Range, fine bool) {
	t.Helper()
	got, ok := impl.RangeJoin(a, b)
	expectRange(t, "RangeJoin", [2]impl.Range{a, b}, got, ok, want, fine)
}

func expectTenths(t *testing.T, r impl.Range, want impl.Range, fine bool) {
	t.Helper()
	got, ok := impl.RangeTenths(r)
	expectRange(t, "RangeTenths", r, got, ok, want, fine)
}

func TestConstantsOfRanges(t *testing.T) {
	if impl.RangeMax != 99999 {
		t.Errorf("RangeMax is %d", impl.RangeMax)
	}
}

func TestPromise7RangesOfCelsius(t *testing.T) {
	for _, row := range []struct {
		tenths int
		want   impl.Range
	}{
		{10, impl.Range{Low: 171, High: 189}},
		{-10, impl.Range{Low: -189, High: -171}},
		{0, impl.Range{Low: -9, High: 9}},
		{1, impl.Range{Low: 9, High: 27}},
		{-1, impl.Range{Low: -27, High: -9}},
		{-153, impl.Range{Low: -2763, High: -2745}},
		{2000, impl.Range{Low: 35991, High: 36009}},
		{-2000, impl.Range{Low: -36009, High: -35991}},
	} {
		got, ok := impl.RangeOfC(row.tenths)
		expectRange(t, "RangeOfC", row.tenths, got, ok, row.want, true)
	}
}

func TestPromise7CelsiusAndBack(t *testing.T) {
	for tenths := -lastTenths; tenths <= lastTenths; tenths++ {
		r, ok := impl.RangeOfC(tenths)
		if !ok || !impl.RangeValid(r) || r.High-r.Low != 18 {
			t.Fatalf("RangeOfC(%d) is %v, %v", tenths, r, ok)
		}
		expectTenths(t, impl.Range{Low: r.Low + 1, High: r.High - 1}, impl.Range{Low: tenths, High: tenths}, true)
		expectTenths(t, r, impl.Range{Low: tenths - 1, High: tenths + 1}, true)
		if next, fine := impl.RangeOfC(tenths + 1); fine != (tenths < lastTenths) || fine && next.Low != r.High {
			t.Fatalf("RangeOfC(%d) is %v, %v, and the one before is %v", tenths+1, next, fine, r)
		}
		if t.Failed() {
			return
		}
	}
}

func TestPromise7OtherTemperaturesFail(t *testing.T) {
	for _, tenths := range noTemperatures() {
		got, ok := impl.RangeOfC(tenths)
		expectRange(t, "RangeOfC", tenths, got, ok, impl.Range{}, false)
	}
}

func TestPromise8RangesOfFahrenheit(t *testing.T) {
	for _, row := range []struct {
		tenths int
		want   impl.Range
	}{
		{338, impl.Range{Low: 175, High: 185}},
		{320, impl.Range{Low: -5, High: 5}},
		{321, impl.Range{Low: 5, High: 15}},
		{319, impl.Range{Low: -15, High: -5}},
		{302, impl.Range{Low: -185, High: -175}},
		{0, impl.Range{Low: -3205, High: -3195}},
		{1, impl.Range{Low: -3195, High: -3185}},
		{-1, impl.Range{Low: -3215, High: -3205}},
		{-400, impl.Range{Low: -7205, High: -7195}},
		{986, impl.Range{Low: 6655, High: 6665}},
		{2000, impl.Range{Low: 16795, High: 16805}},
		{-2000, impl.Range{Low: -23205, High: -23195}},
	} {
		got, ok := impl.RangeOfF(row.tenths)
		expectRange(t, "RangeOfF", row.tenths, got, ok, row.want, true)
	}
}

func TestPromise8MiddleOfFahrenheit(t *testing.T) {
	for tenths := -lastTenths; tenths <= lastTenths; tenths++ {
		r, ok := impl.RangeOfF(tenths)
		if !ok || !impl.RangeValid(r) || r.High-r.Low != 10 {
			t.Fatalf("RangeOfF(%d) is %v, %v", tenths, r, ok)
		}
		if middle := (r.Low + r.High) / 2; 9*middle != 18*5*(tenths-320) {
			t.Fatalf("RangeOfF(%d) is %v, with the middle %d", tenths, r, middle)
		}
		if next, fine := impl.RangeOfF(tenths + 1); fine != (tenths < lastTenths) || fine && next.Low != r.High {
			t.Fatalf("RangeOfF(%d) is %v, %v, and the one before is %v", tenths+1, next, fine, r)
		}
	}
}

func TestPromise8OtherTemperaturesFail(t *testing.T) {
	for _, tenths := range noTemperatures() {
		got, ok := impl.RangeOfF(tenths)
		expectRange(t, "RangeOfF", tenths, got, ok, impl.Range{}, false)
	}
}

// TestPromise8BothScales has the temperatures that are whole tenths on both
// scales: five tenths on one of them are nine on the other one.
func TestPromise8BothScales(t *testing.T) {
	for tenths := -1285; tenths <= 930; tenths += 5 {
		c, _ := impl.RangeOfC(tenths)
		f, ok := impl.RangeOfF(tenths/5*9 + 320)
		if !ok || f.Low != c.Low+4 || f.High != c.High-4 {
			t.Fatalf("the range of %d tenths is %v in Celsius, and %v, %v in Fahrenheit", tenths, c, f, ok)
		}
	}
}

func TestPromise9FahrenheitWithinZeroCelsius(t *testing.T) {
	zero, _ := impl.RangeOfC(0)
	for tenths := -lastTenths; tenths <= lastTenths; tenths++ {
		r, _ := impl.RangeOfF(tenths)
		if within := zero.Low <= r.Low && r.High <= zero.High; within != (tenths == 320) {
			t.Errorf("RangeOfF(%d) is %v, and RangeOfC(0) is %v", tenths, r, zero)
		}
	}
}

func TestPromise9TenthsOfFahrenheit(t *testing.T) {
	for _, row := range []struct {
		tenths int
		want   impl.Range
	}{
		{338, impl.Range{Low: 10, High: 10}},
		{320, impl.Range{Low: 0, High: 0}},
		{321, impl.Range{Low: 0, High: 1}},
		{319, impl.Range{Low: -1, High: 0}},
		{311, impl.Range{Low: -5, High: -5}},
		{0, impl.Range{Low: -178, High: -177}},
		{-1, impl.Range{Low: -179, High: -178}},
		{-2000, impl.Range{Low: -1289, High: -1289}},
		{2000, impl.Range{Low: 933, High: 934}},
		{1999, impl.Range{Low: 932, High: 933}},
	} {
		r, _ := impl.RangeOfF(row.tenths)
		expectTenths(t, r, row.want, true)
	}
	several := 0
	for tenths := -lastTenths; tenths <= lastTenths; tenths++ {
		r, _ := impl.RangeOfF(tenths)
		got, ok := impl.RangeTenths(r)
		if !ok || got.High-got.Low < 0 || got.High-got.Low > 1 {
			t.Fatalf("RangeTenths of RangeOfF(%d) is %v, %v", tenths, got, ok)
		}
		several += got.High - got.Low
	}
	if several == 0 {
		t.Error("no temperature in Fahrenheit can be rounded to two in Celsius")
	}
}

func TestPromise10MeetExamples(t *testing.T) {
	for _, row := range []struct{ a, b, want impl.Range }{
		{impl.Range{Low: 171, High: 189}, impl.Range{Low: 175, High: 185}, impl.Range{Low: 175, High: 185}},
		{impl.Range{Low: 171, High: 189}, impl.Range{Low: 180, High: 200}, impl.Range{Low: 180, High: 189}},
		{impl.Range{Low: 171, High: 189}, impl.Range{Low: 189, High: 207}, impl.Range{Low: 189, High: 189}},
		{impl.Range{Low: -27, High: -9}, impl.Range{Low: -9, High: 9}, impl.Range{Low: -9, High: -9}},
		{impl.Range{Low: -27, High: -9}, impl.Range{Low: -20, High: 20}, impl.Range{Low: -20, High: -9}},
		{impl.Range{Low: -27, High: -9}, impl.Range{Low: -20, High: -12}, impl.Range{Low: -20, High: -12}},
		{impl.Range{Low: -5, High: 5}, impl.Range{Low: 0, High: 0}, impl.Range{Low: 0, High: 0}},
		{impl.Range{Low: -99999, High: 99999}, impl.Range{Low: 99999, High: 99999}, impl.Range{Low: 99999, High: 99999}},
		{impl.Range{Low: -99999, High: 0}, impl.Range{Low: -99999, High: 99999}, impl.Range{Low: -99999, High: 0}},
	} {
		expectMeet(t, row.a, row.b, row.want, true)
		expectMeet(t, row.b, row.a, row.want, true)
		expectMeet(t, row.a, row.a, row.a, true)
	}
}

func TestPromise10MeetHasWhatIsInBoth(t *testing.T) {
	list := validRanges()
	for _, a := range list {
		for _, b := range list {
			m, ok := impl.RangeMeet(a, b)
			for _, n := range numbersNear(a, b) {
				if ok && has(m, n) != (has(a, n) && has(b, n)) {
					t.Fatalf("RangeMeet of %v and %v is %v, which is wrong about %d", a, b, m, n)
				}
			}
			if ok && !impl.RangeValid(m) {
				t.Fatalf("RangeMeet of %v and %v is %v", a, b, m)
			}
			expectMeet(t, b, a, m, ok)
		}
	}
}

func TestPromise11MeetFailsForRangesApart(t *testing.T) {
	for _, row := range [][2]impl.Range{
		{{Low: 171, High: 189}, {Low: 190, High: 200}},
		{{Low: -27, High: -10}, {Low: -9, High: 9}},
		{{Low: -9, High: -1}, {Low: 0, High: 9}},
		{{Low: -9, High: 0}, {Low: 1, High: 9}},
		{{Low: -3, High: -3}, {Low: -2, High: -2}},
		{{Low: -189, High: -171}, {Low: 171, High: 189}},
		{{Low: -99999, High: -99999}, {Low: 99999, High: 99999}},
		{{Low: -99999, High: -99999}, {Low: -99998, High: 99999}},
	} {
		expectMeet(t, row[0], row[1], impl.Range{}, false)
		expectMeet(t, row[1], row[0], impl.Range{}, false)
	}
}

func TestPromise11MeetFailsForNoOthers(t *testing.T) {
	list := validRanges()
	apart := 0
	for _, a := range list {
		for _, b := range list {
			m, ok := impl.RangeMeet(a, b)
			if ok != haveCommon(a, b) || !ok && m != (impl.Range{}) {
				t.Fatalf("RangeMeet of %v and %v is %v, %v", a, b, m, ok)
			}
			if !ok {
				apart++
			}
		}
	}
	if apart == 0 || apart == len(list)*len(list) {
		t.Errorf("%d pairs of ranges are apart", apart)
	}
}

func TestPromise11MeetOfInvalidRanges(t *testing.T) {
	for _, bad := range invalidRanges() {
		for _, other := range append(validRanges(), invalidRanges()...) {
			expectMeet(t, bad, other, impl.Range{}, false)
			expectMeet(t, other, bad, impl.Range{}, false)
		}
	}
}

func TestPromise12JoinExamples(t *testing.T) {
	for _, row := range []struct{ a, b, want impl.Range }{
		{impl.Range{Low: 171, High: 189}, impl.Range{Low: 175, High: 185}, impl.Range{Low: 171, High: 189}},
		{impl.Range{Low: 171, High: 189}, impl.Range{Low: 180, High: 200}, impl.Range{Low: 171, High: 200}},
		{impl.Range{Low: 171, High: 189}, impl.Range{Low: 189, High: 207}, impl.Range{Low: 171, High: 207}},
		{impl.Range{Low: 171, High: 189}, impl.Range{Low: 190, High: 207}, impl.Range{Low: 171, High: 207}},
		{impl.Range{Low: -27, High: -9}, impl.Range{Low: 9, High: 27}, impl.Range{Low: -27, High: 27}},
		{impl.Range{Low: -27, High: -20}, impl.Range{Low: -5, High: -1}, impl.Range{Low: -27, High: -1}},
		{impl.Range{Low: -3, High: -3}, impl.Range{Low: 0, High: 0}, impl.Range{Low: -3, High: 0}},
		{impl.Range{Low: -99999, High: -99999}, impl.Range{Low: 99999, High: 99999}, impl.Range{Low: -99999, High: 99999}},
	} {
		expectJoin(t, row.a, row.b, row.want, true)
		expectJoin(t, row.b, row.a, row.want, true)
		expectJoin(t, row.a, row.a, row.a, true)
	}
}

func TestPromise12JoinHasBoth(t *testing.T) {
	list := validRanges()
	for _, a := range list {
		for _, b := range list {
			j, ok := impl.RangeJoin(a, b)
			if !ok || !impl.RangeValid(j) {
				t.Fatalf("RangeJoin of %v and %v is %v, %v", a, b, j, ok)
			}
			if j.Low != a.Low && j.Low != b.Low || j.High != a.High && j.High != b.High {
				t.Fatalf("RangeJoin of %v and %v is %v, which is not the least", a, b, j)
			}
			expectMeet(t, j, a, a, true)
			expectMeet(t, b, j, b, true)
			expectJoin(t, j, a, j, true)
			expectJoin(t, b, j, j, true)
			expectJoin(t, b, a, j, true)
		}
	}
}

func TestPromise12JoinOfInvalidRanges(t *testing.T) {
	for _, bad := range invalidRanges() {
		for _, other := range append(validRanges(), invalidRanges()...) {
			expectJoin(t, bad, other, impl.Range{}, false)
			expectJoin(t, other, bad, impl.Range{}, false)
		}
	}
}

func TestPromise13TenthsExamples(t *testing.T) {
	for _, row := range []struct{ r, want impl.Range }{
		{impl.Range{Low: 175, High: 185}, impl.Range{Low: 10, High: 10}},
		{impl.Range{Low: 0, High: 0}, impl.Range{Low: 0, High: 0}},
		{impl.Range{Low: -8, High: 8}, impl.Range{Low: 0, High: 0}},
		{impl.Range{Low: 8, High: 8}, impl.Range{Low: 0, High: 0}},
		{impl.Range{Low: 9, High: 9}, impl.Range{Low: 0, High: 1}},
		{impl.Range{Low: 10, High: 10}, impl.Range{Low: 1, High: 1}},
		{impl.Range{Low: -8, High: -8}, impl.Range{Low: 0, High: 0}},
		{impl.Range{Low: -9, High: -9}, impl.Range{Low: -1, High: 0}},
		{impl.Range{Low: -10, High: -10}, impl.Range{Low: -1, High: -1}},
		{impl.Range{Low: -9, High: 9}, impl.Range{Low: -1, High: 1}},
		{impl.Range{Low: -27, High: -9}, impl.Range{Low: -2, High: 0}},
		{impl.Range{Low: -26, High: -10}, impl.Range{Low: -1, High: -1}},
		{impl.Range{Low: -28, High: -27}, impl.Range{Low: -2, High: -1}},
		{impl.Range{Low: -185, High: -175}, impl.Range{Low: -10, High: -10}},
		{impl.Range{Low: -100, High: 250}, impl.Range{Low: -6, High: 14}},
		{impl.Range{Low: 36009, High: 36009}, impl.Range{Low: 2000, High: 2001}},
		{impl.Range{Low: -36009, High: -36009}, impl.Range{Low: -2001, High: -2000}},
		{impl.Range{Low: -99999, High: 99999}, impl.Range{Low: -5556, High: 5556}},
		{impl.Range{Low: 99999, High: 99999}, impl.Range{Low: 5555, High: 5556}},
		{impl.Range{Low: 99998, High: 99998}, impl.Range{Low: 5555, High: 5555}},
		{impl.Range{Low: -99999, High: -99999}, impl.Range{Low: -5556, High: -5555}},
		{impl.Range{Low: -99998, High: -99998}, impl.Range{Low: -5555, High: -5555}},
	} {
		expectTenths(t, row.r, row.want, true)
	}
}

// tenthsOf tells by other means than the program what RangeTenths returns:
// it looks at each tenth that can come into question.
func tenthsOf(r impl.Range) impl.Range {
	var list []int
	for tenths := -6000; tenths <= 6000; tenths++ {
		if haveCommon(r, impl.Range{Low: 18*tenths - 9, High: 18*tenths + 9}) {
			list = append(list, tenths)
		}
	}
	return impl.Range{Low: list[0], High: list[len(list)-1]}
}

func TestPromise13TenthsAreThoseThatMeet(t *testing.T) {
	list := append(rangesWithin(-40, 40), validRanges()...)
	list = append(list, rangesWithin(-36020, -35985)...)
	list = append(list, rangesWithin(35985, 36020)...)
	for _, r := range list {
		if got, ok := impl.RangeTenths(r); !ok || got != tenthsOf(r) {
			t.Fatalf("RangeTenths of %v is %v, %v", r, got, ok)
		}
	}
}

func TestPromise13TenthsAndCelsius(t *testing.T) {
	for low := -lastOfRange; low <= lastOfRange; low++ {
		for _, high := range []int{low, low + 1, low + 17, low + 18, low + 19, low + 400, lastOfRange} {
			r := impl.Range{Low: low, High: min(high, lastOfRange)}
			tenths, ok := impl.RangeTenths(r)
			if !ok || tenths.Low > tenths.High {
				t.Fatalf("RangeTenths of %v is %v, %v", r, tenths, ok)
			}
			for _, row := range []struct {
				tenths int
				meets  bool
			}{{tenths.Low, true}, {tenths.High, true}, {tenths.Low - 1, false}, {tenths.High + 1, false}} {
				c, fine := impl.RangeOfC(row.tenths)
				if fine && haveCommon(c, r) != row.meets {
					t.Fatalf("RangeTenths of %v is %v, and RangeOfC(%d) is %v", r, tenths, row.tenths, c)
				}
			}
		}
	}
}

func TestPromise13TenthsOfInvalidRanges(t *testing.T) {
	for _, bad := range invalidRanges() {
		expectTenths(t, bad, impl.Range{}, false)
	}
}

func TestPromise14ValidRanges(t *testing.T) {
	for _, r := range append(validRanges(), impl.Range{}) {
		for _, end := range []int{r.Low, r.High} {
			if alone := (impl.Range{Low: end, High: end}); !impl.RangeValid(r) || !impl.RangeValid(alone) {
				t.Errorf("%v has the validity %v, and %v has %v", r, impl.RangeValid(r), alone, impl.RangeValid(alone))
			}
		}
		if exchanged := (impl.Range{Low: r.High, High: r.Low}); impl.RangeValid(exchanged) != (r.Low == r.High) {
			t.Errorf("%v has the validity %v", exchanged, impl.RangeValid(exchanged))
		}
	}
}

func TestPromise14InvalidRanges(t *testing.T) {
	for _, r := range invalidRanges() {
		if impl.RangeValid(r) {
			t.Errorf("%v is valid", r)
		}
	}
}
