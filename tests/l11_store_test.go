package tests

import (
	"math"
	"math/rand"
	"slices"
	"testing"

	"loop.example/weatherarchive/impl"
)

// The limits are written out here as the document has them, so that a wrong
// constant of the program is noticed.
const (
	fullStore  = 40
	mostDays   = 12
	noValue    = -9999
	temps      = 1
	rains      = 2
	pressures  = 3
	middleDay  = 120
	middleTemp = 25
)

// keyRow is what has a value: a station, a day and a kind.
type keyRow struct {
	station int
	day     int
	kind    int
}

func keyOf(r impl.Report) keyRow {
	return keyRow{r.Station, r.Day, r.Kind}
}

func temp(station int, day int, value int) impl.Report {
	return impl.Report{Station: station, Day: day, Kind: temps, Value: value}
}

// randomStore returns so many reports of few stations, days and values, so
// that many of them tell something about the same.
func randomStore(many int, seed int64) []impl.Report {
	source := rand.New(rand.NewSource(seed))
	rows := kindRows()
	list := make([]impl.Report, many)
	for i := range list {
		k := rows[source.Intn(len(rows))]
		list[i] = impl.Report{Station: 1 + 8*source.Intn(2), Day: []int{0, 1, 998, 999}[source.Intn(4)], Kind: k.kind, Value: k.low + source.Intn(2)}
	}
	return list
}

// spreadStore returns so many reports, each of another station, day or kind.
func spreadStore(many int) []impl.Report {
	rows := kindRows()
	list := make([]impl.Report, many)
	for i := range list {
		k := rows[i%len(rows)]
		list[i] = impl.Report{Station: 1 + i%lastStation, Day: i * 25 % (lastDay + 1), Kind: k.kind, Value: k.high - i}
	}
	return list
}

// validStores has stores of all lengths.
func validStores() [][]impl.Report {
	stores := [][]impl.Report{
		nil, {},
		{temp(1, 4, 20), temp(1, 4, 25)},
		{temp(1, 4, 20), temp(1, 4, 20)},
		{temp(1, 4, 20), temp(1, 4, 25), temp(1, 4, 20)},
		{temp(1, 4, 0), temp(2, 4, 1), temp(1, 5, 2), {Station: 1, Day: 4, Kind: rains, Value: 3}, temp(1, 4, 4)},
		{temp(9, 999, 600), temp(9, 998, -600), temp(1, 0, -600), temp(1, 1, 600)},
	}
	for many := 1; many <= fullStore; many++ {
		stores = append(stores, spreadStore(many), randomStore(many, int64(many)), slices.Repeat([]impl.Report{temp(5, middleDay, middleTemp)}, many))
	}
	return stores
}

// invalidStores has stores that are too long, and stores with an invalid
// report at their beginning, in their middle and at their end.
func invalidStores() [][]impl.Report {
	var stores [][]impl.Report
	for _, many := range []int{fullStore + 1, fullStore + 2, 2 * fullStore, 256, 256 + 3, 1<<16 + 3} {
		stores = append(stores, spreadStore(many), slices.Repeat([]impl.Report{temp(5, middleDay, middleTemp)}, many))
	}
	for _, bad := range invalidReports() {
		for _, many := range []int{1, 2, 3, fullStore - 1, fullStore} {
			for _, place := range []int{0, many / 2, many - 1} {
				list := randomStore(many, 7)
				list[place] = bad
				stores = append(stores, list)
			}
		}
		stores = append(stores, append(randomStore(fullStore, 8), bad))
	}
	return stores
}

// reportsToAdd has reports that tell what stores know already, others about
// the same, and others that no store has.
func reportsToAdd() []impl.Report {
	return []impl.Report{
		temp(1, 4, 20), temp(1, 4, 25), temp(5, middleDay, middleTemp), temp(5, middleDay, middleTemp+1), temp(1, 0, -600), temp(9, 999, 600),
		{Station: 9, Day: 998, Kind: pressures, Value: 10900}, {Station: 1, Day: 999, Kind: rains, Value: 0}, {Station: 9, Day: 0, Kind: rains, Value: 1},
		{Station: 4, Day: 75, Kind: temps, Value: 0}, {Station: 3, Day: 50, Kind: pressures, Value: 8500},
	}
}

// keysToAsk has those of a store, those that differ from them in the station,
// the day or the kind alone, and others that are no keys of valid reports.
func keysToAsk(list []impl.Report) []keyRow {
	keys := []keyRow{
		{1, 4, temps}, {5, middleDay, temps}, {0, 0, 0}, {math.MinInt, math.MinInt, math.MinInt}, {math.MaxInt, math.MaxInt, math.MaxInt},
		{1, 0, math.MaxInt}, {1, math.MinInt, 1}, {math.MaxInt, 0, 1}, {10, 0, 1}, {-1, 0, 1}, {1, -1, 1}, {1, 1000, 1}, {1, 0, 4}, {1, 0, -1},
	}
	for _, r := range list[:min(len(list), fullStore)] {
		k := keyOf(r)
		keys = append(keys, k, keyRow{k.station + 1, k.day, k.kind}, keyRow{k.station - 1, k.day, k.kind}, keyRow{k.station, k.day + 1, k.kind}, keyRow{k.station, k.day - 1, k.kind}, keyRow{k.station, k.day, k.kind%3 + 1}, keyRow{k.day, k.station, k.kind})
	}
	slices.SortFunc(keys, func(a keyRow, b keyRow) int {
		return slices.Compare([]int{a.station, a.day, a.kind}, []int{b.station, b.day, b.kind})
	})
	return slices.Compact(keys)
}

// toldBy tells by other means than the program what reports tell: later ones
// replace earlier ones.
func toldBy(list []impl.Report) map[keyRow]int {
	told := map[keyRow]int{}
	for _, r := range list {
		told[keyOf(r)] = r.Value
	}
	return told
}

func valueOf(told map[keyRow]int, k keyRow) int {
	if value, ok := told[k]; ok {
		return value
	}
	return noValue
}

func expectValue(t *testing.T, list []impl.Report, version int, k keyRow, want int) {
	t.Helper()
	if got := impl.StoreValue(list, version, k.station, k.day, k.kind); got != want {
		t.Fatalf("StoreValue of version %d and %v is %d, not %d; the store is %v", version, k, got, want, list)
	}
}

// expectSeries checks what StoreSeries returns if it must succeed with want,
// or, if want is nil, fail.
func expectSeries(t *testing.T, list []impl.Report, version int, station int, kind int, first int, days int, want []int) {
	t.Helper()
	got, ok := impl.StoreSeries(list, version, station, kind, first, days)
	if !slices.Equal(got, want) || ok != (want != nil) {
		t.Fatalf("StoreSeries of version %d, %d, %d, %d, %d is %v, %v, not %v; the store is %v", version, station, kind, first, days, got, ok, want, list)
	}
}

func expectChanges(t *testing.T, list []impl.Report, want []int) {
	t.Helper()
	if got := impl.StoreChanges(list); !slices.Equal(got, want) {
		t.Fatalf("StoreChanges is %v, not %v; the store is %v", got, want, list)
	}
}

func expectAdded(t *testing.T, list []impl.Report, r impl.Report, want []impl.Report, fine bool) {
	t.Helper()
	if got, ok := impl.StoreAdd(list, r); !slices.Equal(got, want) || ok != fine {
		t.Fatalf("StoreAdd of %v is %v, %v, not %v, %v; the store is %v", r, got, ok, want, fine, list)
	}
}

// mustAdd returns a store with a further report.
func mustAdd(t *testing.T, list []impl.Report, r impl.Report) []impl.Report {
	t.Helper()
	added, ok := impl.StoreAdd(list, r)
	if !ok {
		t.Fatalf("StoreAdd of %v fails for the store %v", r, list)
	}
	return added
}

func TestConstantsOfTheStore(t *testing.T) {
	got := [3]int{impl.StoreMax, impl.SeriesMax, impl.None}
	if want := [3]int{40, 12, -9999}; got != want {
		t.Errorf("the constants are %v, not %v", got, want)
	}
}

func TestPromise34ReportsAreAdded(t *testing.T) {
	for _, list := range validStores() {
		for _, r := range reportsToAdd() {
			added, ok := impl.StoreAdd(list, r)
			if ok != (len(list) < fullStore) {
				t.Fatalf("StoreAdd of %v is %v, %v", r, added, ok)
			}
			if !ok {
				continue
			}
			if len(added) != len(list)+1 || !slices.Equal(added[:len(list)], list) || added[len(list)] != r || !impl.StoreValid(added) {
				t.Fatalf("StoreAdd of %v is %v; the store is %v", r, added, list)
			}
			expectValue(t, added, len(added), keyOf(r), r.Value)
		}
	}
}

func TestPromise34ReportByReport(t *testing.T) {
	for _, want := range [][]impl.Report{spreadStore(fullStore), randomStore(fullStore, 5), slices.Repeat([]impl.Report{temp(1, 4, 20), temp(1, 4, 25)}, fullStore/2)} {
		var list []impl.Report
		for i, r := range want {
			list = mustAdd(t, list, r)
			if !slices.Equal(list, want[:i+1]) {
				t.Fatalf("the store is %v, not %v", list, want[:i+1])
			}
			expectValue(t, list, i+1, keyOf(r), r.Value)
		}
	}
}

func TestPromise35OldVersionsStay(t *testing.T) {
	for _, list := range validStores() {
		if len(list) == fullStore {
			continue
		}
		for _, r := range reportsToAdd() {
			added := mustAdd(t, list, r)
			for k := range toldBy(added) {
				for version := 0; version <= len(list); version++ {
					if before, now := impl.StoreValue(list, version, k.station, k.day, k.kind), impl.StoreValue(added, version, k.station, k.day, k.kind); now != before {
						t.Fatalf("StoreValue of version %d and %v was %d, and is %d with %v behind; the store is %v", version, k, before, now, r, list)
					}
				}
			}
		}
	}
}

func TestPromise35VersionsOfOneKey(t *testing.T) {
	list := []impl.Report{temp(1, 4, 20), temp(1, 4, 25), temp(1, 4, 25), temp(1, 4, -600), temp(1, 4, 20)}
	for version, want := range []int{noValue, 20, 25, 25, -600, 20} {
		expectValue(t, list, version, keyRow{1, 4, temps}, want)
		expectSeries(t, list, version, 1, temps, 3, 3, []int{noValue, want, noValue})
	}
}

func TestPromise36FullStoresStayUnchanged(t *testing.T) {
	for _, list := range validStores() {
		for _, r := range append(reportsToAdd(), validReports()[:20]...) {
			if len(list) == fullStore {
				expectAdded(t, list, r, list, false)
			} else {
				expectAdded(t, list, r, append(slices.Clone(list), r), true)
			}
		}
	}
}

func TestPromise36LastPlace(t *testing.T) {
	r := temp(1, 4, 20)
	list := spreadStore(fullStore - 1)
	full := append(slices.Clone(list), r)
	expectAdded(t, list, r, full, true)
	expectAdded(t, full, r, full, false)
	expectAdded(t, append(slices.Clone(full), r), r, nil, false)
}

func TestPromise36InvalidReportsAreNotAdded(t *testing.T) {
	for _, bad := range invalidReports() {
		for _, many := range []int{0, 1, 2, fullStore - 1, fullStore, fullStore + 1} {
			expectAdded(t, randomStore(many, 3), bad, nil, false)
		}
		expectAdded(t, nil, bad, nil, false)
	}
}

func TestPromise36NothingIsAddedToInvalidStores(t *testing.T) {
	for _, list := range invalidStores() {
		for _, r := range []impl.Report{temp(1, 4, 20), temp(5, middleDay, middleTemp), {}, temp(1, 4, 601)} {
			expectAdded(t, list, r, nil, false)
		}
	}
}

func TestPromise37Examples(t *testing.T) {
	list := []impl.Report{
		temp(1, 4, 20), temp(2, 4, 21), temp(1, 5, 22), {Station: 1, Day: 4, Kind: rains, Value: 23}, {Station: 1, Day: 4, Kind: pressures, Value: 8500},
		temp(1, 4, -1), temp(9, 999, 0), temp(4, 1, 24),
	}
	for _, row := range []struct {
		version int
		key     keyRow
		want    int
	}{
		{0, keyRow{1, 4, temps}, noValue}, {1, keyRow{1, 4, temps}, 20}, {5, keyRow{1, 4, temps}, 20}, {6, keyRow{1, 4, temps}, -1}, {8, keyRow{1, 4, temps}, -1},
		{1, keyRow{2, 4, temps}, noValue}, {2, keyRow{2, 4, temps}, 21}, {8, keyRow{2, 4, temps}, 21},
		{2, keyRow{1, 5, temps}, noValue}, {3, keyRow{1, 5, temps}, 22}, {8, keyRow{1, 5, temps}, 22},
		{3, keyRow{1, 4, rains}, noValue}, {4, keyRow{1, 4, rains}, 23}, {8, keyRow{1, 4, rains}, 23},
		{4, keyRow{1, 4, pressures}, noValue}, {5, keyRow{1, 4, pressures}, 8500}, {8, keyRow{1, 4, pressures}, 8500},
		{6, keyRow{9, 999, temps}, noValue}, {7, keyRow{9, 999, temps}, 0},
		{8, keyRow{4, 1, temps}, 24}, {8, keyRow{2, 5, temps}, noValue}, {8, keyRow{2, 4, rains}, noValue}, {8, keyRow{1, 5, rains}, noValue}, {8, keyRow{1, 3, temps}, noValue},
		{8, keyRow{0, 4, temps}, noValue}, {8, keyRow{10, 4, temps}, noValue}, {8, keyRow{1, -1, temps}, noValue}, {8, keyRow{1, 1000, temps}, noValue}, {8, keyRow{1, 4, 0}, noValue}, {8, keyRow{1, 4, 4}, noValue},
		{8, keyRow{}, noValue}, {0, keyRow{}, noValue},
	} {
		expectValue(t, list, row.version, row.key, row.want)
	}
}

func TestPromise37LastReportTells(t *testing.T) {
	for _, list := range validStores() {
		keys := keysToAsk(list)
		for version := 0; version <= len(list); version++ {
			told := toldBy(list[:version])
			for _, k := range keys {
				expectValue(t, list, version, k, valueOf(told, k))
			}
		}
	}
}

func TestPromise37OtherVersionsHaveNoValues(t *testing.T) {
	for _, list := range validStores() {
		for _, version := range []int{math.MinInt, -1 << 32, -fullStore, -2, -1, len(list) + 1, len(list) + 2, fullStore + 1, 1 << 32, 1<<32 + 1, math.MaxInt} {
			for _, k := range keysToAsk(list) {
				expectValue(t, list, version, k, noValue)
			}
		}
	}
}

// TestPromise37InvalidStoresHaveNoValues also asks for versions that end
// ahead of the invalid report.
func TestPromise37InvalidStoresHaveNoValues(t *testing.T) {
	for _, list := range invalidStores() {
		versions := []int{math.MinInt, -1, 0, 1, len(list) / 2, len(list) - 1, len(list), len(list) + 1, math.MaxInt}
		for _, r := range []impl.Report{list[0], list[len(list)/2], list[len(list)-1]} {
			for _, version := range versions {
				expectValue(t, list, version, keyOf(r), noValue)
			}
		}
	}
}

func TestPromise38Examples(t *testing.T) {
	list := []impl.Report{temp(1, 4, 20), temp(1, 6, -5), temp(2, 5, 30), {Station: 1, Day: 5, Kind: rains, Value: 7}, temp(1, 4, 25), temp(1, 998, 1), temp(1, 999, 2), temp(1, 0, 3), temp(1, 15, 4)}
	n := noValue
	for _, row := range []struct {
		version int
		station int
		kind    int
		first   int
		days    int
		want    []int
	}{
		{2, 1, temps, 3, 2, []int{n, 20}},
		{9, 1, temps, 4, 1, []int{25}},
		{9, 1, temps, 5, 1, []int{n}},
		{9, 1, temps, 3, 4, []int{n, 25, n, -5}},
		{4, 1, temps, 3, 4, []int{n, 20, n, -5}},
		{1, 1, temps, 3, 4, []int{n, 20, n, n}},
		{0, 1, temps, 3, 4, []int{n, n, n, n}},
		{9, 1, rains, 3, 4, []int{n, n, 7, n}},
		{9, 2, temps, 3, 4, []int{n, n, 30, n}},
		{9, 1, pressures, 3, 2, []int{n, n}},
		{9, 9, temps, 0, 1, []int{n}},
		{9, 1, temps, 0, 12, []int{3, n, n, n, 25, n, -5, n, n, n, n, n}},
		{9, 1, temps, 4, 12, []int{25, n, -5, n, n, n, n, n, n, n, n, 4}},
		{9, 1, temps, 998, 2, []int{1, 2}},
		{9, 1, temps, 998, 3, []int{1, 2, n}},
		{9, 1, temps, 999, 1, []int{2}},
		{9, 1, temps, 999, 2, []int{2, n}},
		{9, 1, temps, 999, 12, []int{2, n, n, n, n, n, n, n, n, n, n, n}},
		{9, 1, temps, 988, 12, []int{n, n, n, n, n, n, n, n, n, n, 1, 2}},
		{9, 1, temps, 989, 12, []int{n, n, n, n, n, n, n, n, n, 1, 2, n}},
		{9, 2, pressures, 999, 3, []int{n, n, n}},
	} {
		expectSeries(t, list, row.version, row.station, row.kind, row.first, row.days, row.want)
	}
}

// seriesOf tells what StoreSeries returns, by the values alone.
func seriesOf(told map[keyRow]int, station int, kind int, first int, days int) []int {
	values := []int{}
	for day := first; day < first+days; day++ {
		values = append(values, valueOf(told, keyRow{station, day, kind}))
	}
	return values
}

func TestPromise38ValuesOfAllDays(t *testing.T) {
	for _, list := range validStores() {
		for _, version := range []int{0, len(list) / 2, len(list)} {
			told := toldBy(list[:version])
			for _, first := range []int{0, 1, 4, 114, middleDay, 987, 988, 994, 998, 999} {
				for station := 1; station <= lastStation; station += 4 {
					for kind := temps; kind <= pressures; kind++ {
						for days := 1; days <= mostDays; days += 1 + days%3 {
							expectSeries(t, list, version, station, kind, first, days, seriesOf(told, station, kind, first, days))
							got, _ := impl.StoreSeries(list, version, station, kind, first, days)
							expectValue(t, list, version, keyRow{station, first + days - 1, kind}, got[days-1])
						}
					}
				}
			}
		}
	}
}

func TestPromise38AllStationsAndFirstDays(t *testing.T) {
	list := randomStore(fullStore, 11)
	told := toldBy(list)
	for station := 1; station <= lastStation; station++ {
		for first := 0; first <= lastDay; first++ {
			expectSeries(t, list, fullStore, station, rains, first, mostDays, seriesOf(told, station, rains, first, mostDays))
		}
	}
}

func TestPromise38OtherArgumentsFail(t *testing.T) {
	for _, list := range [][]impl.Report{nil, {temp(1, 4, 20)}, randomStore(fullStore, 4)} {
		many := len(list)
		for _, version := range []int{math.MinInt, -1 << 32, -1, many + 1, many + 2, fullStore + 1, 1<<32 + many, math.MaxInt} {
			expectSeries(t, list, version, 1, temps, 4, 3, nil)
		}
		for _, station := range []int{math.MinInt, -1, 0, lastStation + 1, 99, 256 + 1, 1<<32 + 1, math.MaxInt} {
			expectSeries(t, list, many, station, temps, 4, 3, nil)
		}
		for _, kind := range noKinds() {
			expectSeries(t, list, many, 1, kind, 4, 3, nil)
		}
		for _, first := range append(noDaysOfReports(), -12, -11) {
			expectSeries(t, list, many, 1, temps, first, 3, nil)
			expectSeries(t, list, many, 1, temps, first, mostDays, nil)
		}
		for _, days := range []int{math.MinInt, -1 << 32, -12, -1, 0, mostDays + 1, mostDays + 2, 100, 256 + 3, 1<<32 + 3, 1 << 62, math.MaxInt} {
			for _, first := range []int{0, 4, 988, 999} {
				expectSeries(t, list, many, 1, temps, first, days, nil)
			}
		}
		for station := 1; station <= lastStation; station += 8 {
			for _, first := range []int{0, lastDay} {
				for _, kind := range []int{temps, pressures} {
					expectSeries(t, nil, 0, station, kind, first, 1, []int{noValue})
					expectSeries(t, []impl.Report{}, 0, station, kind, first, mostDays, slices.Repeat([]int{noValue}, mostDays))
				}
			}
		}
	}
}

func TestPromise38InvalidStoresHaveNoSeries(t *testing.T) {
	for _, list := range invalidStores() {
		for _, version := range []int{math.MinInt, -1, 0, 1, len(list) / 2, len(list), len(list) + 1, math.MaxInt} {
			expectSeries(t, list, version, 5, temps, middleDay, 3, nil)
		}
	}
}

func TestPromise39FirstDayAndOthers(t *testing.T) {
	for _, list := range validStores() {
		for _, first := range []int{0, 3, 4, 119, 990, 997, 998, 999} {
			for _, station := range []int{1, 5, 9} {
				for days := 2; days <= mostDays; days++ {
					whole, ok := impl.StoreSeries(list, len(list), station, temps, first, days)
					if !ok || len(whole) != days {
						t.Fatalf("StoreSeries of %d, %d, %d is %v, %v; the store is %v", station, first, days, whole, ok, list)
					}
					expectSeries(t, list, len(list), station, temps, first, 1, whole[:1])
					if first < lastDay {
						expectSeries(t, list, len(list), station, temps, first+1, days-1, whole[1:])
					} else {
						expectSeries(t, list, len(list), station, temps, first+1, days-1, nil)
					}
				}
			}
		}
	}
}

func TestPromise40Examples(t *testing.T) {
	rain := impl.Report{Station: 1, Day: 4, Kind: rains, Value: 20}
	for _, row := range []struct {
		list []impl.Report
		want []int
	}{
		{nil, nil},
		{[]impl.Report{}, nil},
		{[]impl.Report{temp(1, 4, 20)}, nil},
		{[]impl.Report{temp(1, 4, 20), temp(1, 4, 25)}, []int{1}},
		{[]impl.Report{temp(1, 4, 20), temp(1, 4, 20)}, nil},
		{[]impl.Report{temp(1, 4, 20), temp(1, 4, 20), temp(1, 4, 25)}, []int{2}},
		{[]impl.Report{temp(1, 4, 20), temp(1, 4, 25), temp(1, 4, 25)}, []int{1}},
		{[]impl.Report{temp(1, 4, 20), temp(1, 4, 25), temp(1, 4, 20)}, []int{1, 2}},
		{[]impl.Report{temp(1, 4, 20), temp(1, 4, 25), temp(1, 4, 20), temp(1, 4, 20), temp(1, 4, 25)}, []int{1, 2, 4}},
		{[]impl.Report{temp(1, 4, 20), temp(2, 4, 25), temp(1, 5, 25), rain}, nil},
		{[]impl.Report{temp(1, 4, 20), temp(2, 4, 25), temp(1, 4, 21)}, []int{2}},
		{[]impl.Report{temp(1, 4, 20), temp(1, 5, 25), temp(1, 4, 25)}, []int{2}},
		{[]impl.Report{temp(1, 4, 25), rain, temp(1, 4, 20)}, []int{2}},
		{[]impl.Report{temp(1, 4, 0), temp(1, 4, -1), temp(1, 4, 0)}, []int{1, 2}},
		{[]impl.Report{temp(1, 0, 5), temp(9, 999, 5), temp(9, 999, 6), temp(1, 0, 6)}, []int{2, 3}},
	} {
		expectChanges(t, row.list, row.want)
	}
}

func TestPromise40ChangesAreThoseOfValues(t *testing.T) {
	for _, list := range validStores() {
		var want []int
		for i, r := range list {
			before := valueOf(toldBy(list[:i]), keyOf(r))
			if told := impl.StoreValue(list, i, r.Station, r.Day, r.Kind); told != before {
				t.Fatalf("StoreValue of version %d and %v is %d, not %d", i, keyOf(r), told, before)
			}
			if before != noValue && before != r.Value {
				want = append(want, i)
			}
		}
		expectChanges(t, list, want)
	}
}

func TestPromise40AllReportsChange(t *testing.T) {
	list := slices.Repeat([]impl.Report{temp(1, 4, 20), temp(1, 4, 25)}, fullStore/2)
	var want []int
	for i := 1; i < fullStore; i++ {
		want = append(want, i)
	}
	expectChanges(t, list, want)
	expectChanges(t, append(list, temp(1, 4, 20)), nil)
}

func TestPromise40InvalidStoresHaveNoChanges(t *testing.T) {
	for _, list := range invalidStores() {
		expectChanges(t, list, nil)
	}
	for _, bad := range invalidReports() {
		for place := 0; place <= 4; place++ {
			list := []impl.Report{temp(1, 4, 20), temp(1, 4, 25), temp(1, 4, 20), temp(1, 4, 25)}
			expectChanges(t, slices.Insert(list, place, bad), nil)
		}
	}
}

func TestPromise41WithoutAnyReport(t *testing.T) {
	for _, list := range validStores() {
		if !impl.StoreValid(list) {
			t.Fatalf("the store %v is invalid", list)
		}
		for i := range list {
			if without := slices.Delete(slices.Clone(list), i, i+1); !impl.StoreValid(without) {
				t.Fatalf("the store %v is invalid", without)
			}
		}
	}
}

func TestPromise41WithAReportOfNoKind(t *testing.T) {
	for _, list := range validStores() {
		for place := 0; place <= len(list); place++ {
			for _, kind := range noKinds() {
				for _, value := range []int{0, 20, noValue} {
					bad := impl.Report{Station: 1, Day: 4, Kind: kind, Value: value}
					if with := slices.Insert(slices.Clone(list), place, bad); impl.StoreValid(with) {
						t.Fatalf("the store %v is valid", with)
					}
				}
			}
		}
	}
}

func TestPromise41InvalidStores(t *testing.T) {
	for _, list := range invalidStores() {
		if impl.StoreValid(list) {
			t.Fatalf("the store %v is valid", list)
		}
	}
}

func TestPromise41Lengths(t *testing.T) {
	for many := 0; many <= 2*fullStore; many++ {
		list := slices.Repeat([]impl.Report{temp(1, 4, 20)}, many)
		if valid := impl.StoreValid(list); valid != (many <= fullStore) {
			t.Errorf("the validity of a store with %d reports is %v", many, valid)
		}
	}
}

func TestPromise41EachValidReport(t *testing.T) {
	for _, r := range validReports() {
		if !impl.StoreValid([]impl.Report{r}) || !impl.StoreValid([]impl.Report{temp(1, 4, 20), r}) {
			t.Fatalf("a store with %v is invalid", r)
		}
	}
}

func TestPromise42KnownValuesChangeNoSeries(t *testing.T) {
	for _, list := range validStores() {
		if len(list) == fullStore {
			continue
		}
		for k, value := range toldBy(list) {
			added := mustAdd(t, list, impl.Report{Station: k.station, Day: k.day, Kind: k.kind, Value: value})
			for _, first := range []int{max(k.day-11, 0), max(k.day-1, 0), k.day, 0, 988, 999} {
				for _, days := range []int{1, 2, mostDays} {
					before, ok := impl.StoreSeries(list, len(list), k.station, k.kind, first, days)
					if !ok {
						t.Fatalf("StoreSeries of %v from %d on fails; the store is %v", k, first, list)
					}
					expectSeries(t, added, len(added), k.station, k.kind, first, days, before)
				}
			}
		}
	}
}

func TestPromise42OtherValuesChangeTheirDay(t *testing.T) {
	list := []impl.Report{temp(1, 4, 20), temp(1, 5, 21), temp(1, 6, 22)}
	added := mustAdd(t, list, temp(1, 5, -7))
	expectSeries(t, added, 4, 1, temps, 4, 3, []int{20, -7, 22})
	expectSeries(t, added, 3, 1, temps, 4, 3, []int{20, 21, 22})
}

// TestStoreKeepsArguments has lists that are parts of longer ones, so that
// what is behind them could be overwritten.
func TestStoreKeepsArguments(t *testing.T) {
	for _, many := range []int{0, 1, 2, fullStore - 1, fullStore, fullStore + 1} {
		for _, r := range []impl.Report{temp(1, 4, 20), {}} {
			list := randomStore(fullStore+5, 9)
			old := slices.Clone(list)
			impl.StoreValid(list[:many])
			impl.StoreAdd(list[:many], r)
			impl.StoreValue(list[:many], many, 1, 0, temps)
			impl.StoreSeries(list[:many], many, 1, temps, 0, mostDays)
			impl.StoreChanges(list[:many])
			if !slices.Equal(list, old) {
				t.Errorf("%v has become %v", old, list)
			}
		}
	}
}

// overwrite changes all memory that a result reaches.
func overwrite[E any](list []E, with E) {
	list = list[:cap(list)]
	for i := range list {
		list[i] = with
	}
}

func TestStoresThatAreReturnedShareNoMemory(t *testing.T) {
	other := impl.Report{Station: -1, Day: -1, Kind: -1, Value: -1}
	for _, many := range []int{0, 1, 2, fullStore - 1, fullStore, fullStore + 1} {
		for _, r := range []impl.Report{temp(1, 4, 20), {}} {
			list := randomStore(fullStore+5, 9)
			old := slices.Clone(list)
			one, _ := impl.StoreAdd(list[:many], r)
			two, _ := impl.StoreAdd(list[:many], r)
			want := slices.Clone(two)
			overwrite(one, other)
			if !slices.Equal(list, old) || !slices.Equal(two, want) {
				t.Errorf("StoreAdd shares memory for a store with %d reports and the report %v", many, r)
			}
			overwrite(list, other)
			if !slices.Equal(two, want) {
				t.Errorf("StoreAdd keeps a store with %d reports for the report %v", many, r)
			}
		}
	}
}

func TestListsThatTheStoreReturnsShareNoMemory(t *testing.T) {
	list := slices.Repeat([]impl.Report{temp(1, 4, 20), temp(1, 4, 25)}, 4)
	old := slices.Clone(list)
	for range 2 {
		series, ok := impl.StoreSeries(list, 8, 1, temps, 3, 2)
		if !ok || !slices.Equal(series, []int{noValue, 25}) {
			t.Fatalf("StoreSeries is %v, %v", series, ok)
		}
		overwrite(series, 77)
		changes := impl.StoreChanges(list)
		if !slices.Equal(changes, []int{1, 2, 3, 4, 5, 6, 7}) {
			t.Fatalf("StoreChanges is %v", changes)
		}
		overwrite(changes, 77)
	}
	if !slices.Equal(list, old) {
		t.Errorf("%v has become %v", old, list)
	}
}

func TestStoreKeepsNothingBetweenCalls(t *testing.T) {
	a := []impl.Report{temp(1, 4, 20), temp(1, 4, 25)}
	b := []impl.Report{temp(1, 4, 30)}
	for range 2 {
		expectValue(t, a, 2, keyRow{1, 4, temps}, 25)
		expectValue(t, b, 1, keyRow{1, 4, temps}, 30)
		expectValue(t, nil, 0, keyRow{1, 4, temps}, noValue)
		expectChanges(t, a, []int{1})
		expectChanges(t, b, nil)
	}
}
