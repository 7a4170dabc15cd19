package tests

import (
	"math"
	"math/big"
	"math/rand"
	"slices"
	"testing"

	"loop.example/weatherarchive/impl"
)

// These are written out here as the document has them, so that a wrong constant
// of the program is noticed.
const (
	chainStart   = 1
	chainFactor  = 31
	chainModulus = 9973
)

func keyAt(station int, day int, kind int) impl.Key {
	return impl.Key{Station: station, Day: day, Kind: kind}
}

func rain(station int, day int, value int) impl.Report {
	return impl.Report{Station: station, Day: day, Kind: rains, Value: value}
}

// versionStores has stores of all lengths, among them all short ones of few
// reports, and others whose values often come back.
func versionStores() [][]impl.Report {
	stores := validStores()
	few := []impl.Report{temp(1, 4, 20), temp(1, 4, 25), temp(1, 5, 20), rain(2, 4, 20)}
	shorter := [][]impl.Report{nil}
	for range 4 {
		var longer [][]impl.Report
		for _, list := range shorter {
			for _, r := range few {
				longer = append(longer, append(slices.Clone(list), r))
			}
		}
		stores = append(stores, longer...)
		shorter = longer
	}
	source := rand.New(rand.NewSource(42))
	for many := 5; many <= fullStore; many++ {
		list := denseStore(many, 500, source)
		for i := range list {
			low := kindRows()[list[i].Kind-1].low
			list[i].Value = low + (list[i].Value-low)/4
		}
		stores = append(stores, list)
	}
	return stores
}

// askedKeys has the keys of a store, others that differ from them by one number
// alone, and others that no report can have.
func askedKeys(list []impl.Report) []impl.Key {
	var keys []impl.Key
	for _, k := range keysToAsk(list) {
		keys = append(keys, keyAt(k.station, k.day, k.kind))
	}
	return keys
}

// historyBy asks the reports of each version, by other means than the program.
func historyBy(list []impl.Report, k impl.Key) []int {
	var values []int
	last := noValue
	for version := range len(list) + 1 {
		value := valueOf(toldBy(list[:version]), keyRow{k.Station, k.Day, k.Kind})
		if value != last {
			values = append(values, value)
		}
		last = value
	}
	return values
}

// isKeyAhead tells the order of keys: by station, then by kind, then by day.
func isKeyAhead(a impl.Key, b impl.Key) bool {
	return slices.Compare([]int{a.Station, a.Kind, a.Day}, []int{b.Station, b.Kind, b.Day}) < 0
}

// diffBy puts each key that differs at its place among those that it has.
func diffBy(list []impl.Report, a int, b int) []impl.Key {
	one, other := toldBy(list[:a]), toldBy(list[:b])
	var keys []impl.Key
	for k := range toldBy(list) {
		if valueOf(one, k) == valueOf(other, k) {
			continue
		}
		key := keyAt(k.station, k.day, k.kind)
		place := 0
		for place < len(keys) && isKeyAhead(keys[place], key) {
			place++
		}
		keys = slices.Insert(keys, place, key)
	}
	return keys
}

// versionBy goes through all versions from the first one on.
func versionBy(list []impl.Report, version int, k impl.Key) int {
	first, last := -1, noValue
	for v := range version + 1 {
		value := valueOf(toldBy(list[:v]), keyRow{k.Station, k.Day, k.Kind})
		if value != last {
			first = v
		}
		last = value
	}
	return first
}

func compactBy(list []impl.Report) []impl.Report {
	var news []impl.Report
	told := map[keyRow]int{}
	for _, r := range list {
		if valueOf(told, keyOf(r)) != r.Value {
			news = append(news, r)
		}
		told[keyOf(r)] = r.Value
	}
	return news
}

// chainBy takes the texts of reports as one great number whose digits are
// bytes, and divides it once.
func chainBy(list []impl.Report) []int {
	var sums []int
	n := big.NewInt(chainStart)
	for _, r := range list {
		for _, b := range []byte(impl.ReportText(r)) {
			n.Mul(n, big.NewInt(chainFactor))
			n.Add(n, big.NewInt(int64(b)))
		}
		sums = append(sums, int(new(big.Int).Mod(n, big.NewInt(chainModulus)).Int64()))
	}
	return sums
}

// checkBy returns how many sums are right ahead of the first one that is not.
func checkBy(list []impl.Report, sums []int) int {
	right := 0
	for i, sum := range chainBy(list) {
		if right == i && i < len(sums) && sums[i] == sum {
			right++
		}
	}
	return right
}

func expectHistory(t *testing.T, list []impl.Report, k impl.Key, want []int) {
	t.Helper()
	if got := impl.HistoryOf(list, k); !slices.Equal(got, want) {
		t.Fatalf("HistoryOf of %v is %v, not %v; the store is %v", k, got, want, list)
	}
}

func expectDiff(t *testing.T, list []impl.Report, a int, b int, want []impl.Key) {
	t.Helper()
	if got := impl.DiffOf(list, a, b); !slices.Equal(got, want) {
		t.Fatalf("DiffOf of %d and %d is %v, not %v; the store is %v", a, b, got, want, list)
	}
}

func expectVersion(t *testing.T, list []impl.Report, version int, k impl.Key, want int) {
	t.Helper()
	if got := impl.VersionOf(list, version, k); got != want {
		t.Fatalf("VersionOf of %d and %v is %d, not %d; the store is %v", version, k, got, want, list)
	}
}

func expectCompact(t *testing.T, list []impl.Report, want []impl.Report) {
	t.Helper()
	if got := impl.CompactOf(list); !slices.Equal(got, want) {
		t.Fatalf("CompactOf is %v, not %v; the store is %v", got, want, list)
	}
}

func expectChain(t *testing.T, list []impl.Report, want []int) {
	t.Helper()
	if got := impl.ChainOf(list); !slices.Equal(got, want) {
		t.Fatalf("ChainOf is %v, not %v; the store is %v", got, want, list)
	}
}

func expectCheck(t *testing.T, list []impl.Report, sums []int, want int) {
	t.Helper()
	if got := impl.ChainCheck(list, sums); got != want {
		t.Fatalf("ChainCheck of %v is %d, not %d; the store is %v", sums, got, want, list)
	}
}

func TestPromise150HistoryExamples(t *testing.T) {
	list := []impl.Report{temp(1, 4, 20), temp(1, 4, 20), temp(1, 5, 7), temp(1, 4, 25), rain(1, 4, 25), temp(1, 4, 20), temp(2, 4, 20), temp(1, 4, 20), temp(1, 5, 7), temp(1, 4, -600)}
	for many, want := range [][]int{nil, {20}, {20}, {20}, {20, 25}, {20, 25}, {20, 25, 20}, {20, 25, 20}, {20, 25, 20}, {20, 25, 20}, {20, 25, 20, -600}} {
		expectHistory(t, list[:many], keyAt(1, 4, temps), want)
	}
	for _, row := range []struct {
		key  impl.Key
		want []int
	}{
		{keyAt(1, 5, temps), []int{7}}, {keyAt(1, 4, rains), []int{25}}, {keyAt(2, 4, temps), []int{20}},
		{keyAt(1, 4, pressures), nil}, {keyAt(2, 5, temps), nil}, {keyAt(3, 4, temps), nil}, {keyAt(4, 1, temps), nil}, {keyAt(1, 1, temps), nil}, {keyAt(1, 6, temps), nil}, {keyAt(1, 3, temps), nil},
		{impl.Key{}, nil}, {keyAt(0, 4, temps), nil}, {keyAt(10, 4, temps), nil}, {keyAt(1, -1, temps), nil}, {keyAt(1, 1000, temps), nil}, {keyAt(1, 4, 0), nil}, {keyAt(1, 4, 4), nil}, {keyAt(-1, -4, -1), nil},
		{keyAt(1<<32+1, 4, temps), nil}, {keyAt(1, 1<<32+4, temps), nil}, {keyAt(1, 4, 1<<32+1), nil}, {keyAt(256+1, 4, temps), nil}, {keyAt(math.MinInt, math.MinInt, math.MinInt), nil}, {keyAt(math.MaxInt, math.MaxInt, math.MaxInt), nil},
	} {
		expectHistory(t, list, row.key, row.want)
		expectHistory(t, nil, row.key, nil)
		expectHistory(t, []impl.Report{}, row.key, nil)
	}
}

func TestPromise150HistoriesEndWithTheLastValue(t *testing.T) {
	for _, list := range versionStores() {
		for _, k := range askedKeys(list) {
			history := impl.HistoryOf(list, k)
			value := impl.StoreValue(list, len(list), k.Station, k.Day, k.Kind)
			if (len(history) == 0) != (value == noValue) || value != noValue && history[len(history)-1] != value {
				t.Fatalf("HistoryOf of %v is %v, and StoreValue %d; the store is %v", k, history, value, list)
			}
			if len(slices.Compact(slices.Clone(history))) != len(history) {
				t.Fatalf("HistoryOf of %v is %v; the store is %v", k, history, list)
			}
		}
	}
}

func TestPromise150InvalidStoresHaveNoHistory(t *testing.T) {
	for _, list := range invalidStores() {
		for _, r := range []impl.Report{list[0], list[len(list)/2], list[len(list)-1]} {
			expectHistory(t, list, keyAt(r.Station, r.Day, r.Kind), nil)
		}
		expectHistory(t, list, impl.Key{}, nil)
	}
	for _, bad := range invalidReports() {
		expectHistory(t, []impl.Report{bad}, keyAt(bad.Station, bad.Day, bad.Kind), nil)
		for place := range 4 {
			list := slices.Insert([]impl.Report{temp(1, 4, 20), temp(1, 4, 25), temp(1, 4, 20)}, place, bad)
			expectHistory(t, list, keyAt(1, 4, temps), nil)
		}
	}
}

func TestPromise151HistoriesHaveAllValues(t *testing.T) {
	for _, list := range versionStores() {
		for _, k := range askedKeys(list) {
			expectHistory(t, list, k, historyBy(list, k))
		}
	}
}

func TestPromise151HistoriesAndChanges(t *testing.T) {
	for _, list := range versionStores() {
		changes := map[keyRow]int{}
		for _, i := range impl.StoreChanges(list) {
			changes[keyOf(list[i])]++
		}
		for k := range toldBy(list) {
			if history := impl.HistoryOf(list, keyAt(k.station, k.day, k.kind)); len(history) != changes[k]+1 {
				t.Fatalf("HistoryOf of %v is %v, and there are %d changes; the store is %v", k, history, changes[k], list)
			}
		}
	}
}

func TestPromise151LongestHistory(t *testing.T) {
	list := slices.Repeat([]impl.Report{temp(1, 4, 20), temp(1, 4, 25)}, fullStore/2)
	expectHistory(t, list, keyAt(1, 4, temps), slices.Repeat([]int{20, 25}, fullStore/2))
	expectHistory(t, append(list, temp(1, 4, 20)), keyAt(1, 4, temps), nil)
	expectHistory(t, slices.Repeat([]impl.Report{temp(1, 4, 20)}, fullStore), keyAt(1, 4, temps), []int{20})
}

func TestPromise152DiffExamples(t *testing.T) {
	list := []impl.Report{temp(1, 4, 20), temp(1, 4, 20), temp(1, 4, 25), rain(1, 4, 3), temp(1, 4, 20), temp(1, 3, 5)}
	a, b, c := keyAt(1, 4, temps), keyAt(1, 4, rains), keyAt(1, 3, temps)
	for _, row := range []struct {
		one   int
		other int
		want  []impl.Key
	}{
		{0, 0, nil}, {0, 1, []impl.Key{a}}, {1, 2, nil}, {0, 2, []impl.Key{a}}, {2, 3, []impl.Key{a}}, {1, 3, []impl.Key{a}}, {3, 4, []impl.Key{b}}, {4, 5, []impl.Key{a}}, {3, 5, []impl.Key{a, b}}, {2, 4, []impl.Key{a, b}},
		{2, 5, []impl.Key{b}}, {1, 5, []impl.Key{b}}, {5, 6, []impl.Key{c}}, {4, 6, []impl.Key{c, a}}, {3, 6, []impl.Key{c, a, b}}, {1, 6, []impl.Key{c, b}}, {0, 6, []impl.Key{c, a, b}}, {6, 6, nil}, {5, 5, nil},
	} {
		expectDiff(t, list, row.one, row.other, row.want)
		expectDiff(t, list, row.other, row.one, row.want)
	}
	expectDiff(t, nil, 0, 0, nil)
	expectDiff(t, []impl.Report{}, 0, 0, nil)
}

// TestPromise152KeysAscend has keys whose days and kinds are in another order
// than their stations.
func TestPromise152KeysAscend(t *testing.T) {
	want := []impl.Key{
		keyAt(1, 0, temps), keyAt(1, 998, temps), keyAt(1, 999, temps), keyAt(1, 0, rains), keyAt(1, 999, rains), keyAt(1, 4, pressures),
		keyAt(2, 3, rains), keyAt(2, 2, pressures), keyAt(8, 1, temps), keyAt(8, 10, temps), keyAt(8, 100, temps), keyAt(8, 9, rains), keyAt(9, 0, pressures),
	}
	source := rand.New(rand.NewSource(152))
	for range 50 {
		var list []impl.Report
		for _, i := range source.Perm(len(want)) {
			list = append(list, impl.Report{Station: want[i].Station, Day: want[i].Day, Kind: want[i].Kind, Value: kindRows()[want[i].Kind-1].low})
		}
		expectDiff(t, list, 0, len(list), want)
		expectDiff(t, list, len(list), 0, want)
		expectDiff(t, slices.Concat(list, list), 0, 2*len(list), want)
		expectDiff(t, slices.Concat(list, list, list), len(list), 3*len(list), nil)
	}
}

func TestPromise152AllPairsOfVersions(t *testing.T) {
	for _, list := range versionStores() {
		step := 1 + len(list)/8
		for a := 0; a <= len(list); a += step {
			for b := 0; b <= len(list); b += step {
				expectDiff(t, list, a, b, diffBy(list, a, b))
			}
			expectDiff(t, list, a, len(list), diffBy(list, a, len(list)))
		}
	}
}

func TestPromise152DiffsOfOtherVersions(t *testing.T) {
	for _, many := range []int{0, 1, 2, 3, fullStore - 1, fullStore} {
		list := spreadStore(many)
		for _, version := range noVersions(many) {
			for _, other := range []int{0, many / 2, many, version, version + 1} {
				expectDiff(t, list, version, other, nil)
				expectDiff(t, list, other, version, nil)
			}
		}
	}
}

func TestPromise152InvalidStoresHaveNoDiff(t *testing.T) {
	for _, list := range invalidStores() {
		for _, version := range []int{math.MinInt, -1, 0, 1, len(list) / 2, len(list) - 1, len(list), len(list) + 1, math.MaxInt} {
			expectDiff(t, list, 0, version, nil)
			expectDiff(t, list, version, 0, nil)
			expectDiff(t, list, version, len(list), nil)
		}
	}
}

func TestPromise153ExchangedAndEqualVersions(t *testing.T) {
	for _, list := range versionStores() {
		for a := 0; a <= len(list); a++ {
			expectDiff(t, list, a, a, nil)
			for b := 0; b < a; b += 1 + len(list)/6 {
				expectDiff(t, list, a, b, impl.DiffOf(list, b, a))
			}
		}
	}
}

func TestPromise154VersionExamples(t *testing.T) {
	list := []impl.Report{temp(2, 4, 20), temp(1, 4, 20), temp(1, 4, 20), temp(1, 4, 25), rain(1, 4, 20), temp(1, 5, 20), temp(1, 4, 20), temp(1, 4, 20)}
	for version, want := range []int{-1, -1, 2, 2, 4, 4, 4, 7, 7} {
		expectVersion(t, list, version, keyAt(1, 4, temps), want)
	}
	for version, want := range []int{-1, 1, 1, 1, 1, 1, 1, 1, 1} {
		expectVersion(t, list, version, keyAt(2, 4, temps), want)
	}
	for version, want := range []int{-1, -1, -1, -1, -1, 5, 5, 5, 5} {
		expectVersion(t, list, version, keyAt(1, 4, rains), want)
	}
	for version := range len(list) + 1 {
		for _, k := range []impl.Key{{}, keyAt(1, 4, pressures), keyAt(1, 6, temps), keyAt(3, 4, temps), keyAt(4, 1, temps), keyAt(0, 0, 0), keyAt(1, 1000, temps), keyAt(1, 4, 1<<32+1), keyAt(math.MinInt, math.MaxInt, 0)} {
			expectVersion(t, list, version, k, -1)
		}
	}
	expectVersion(t, nil, 0, keyAt(1, 4, temps), -1)
}

func TestPromise154TheSameValueSinceTheVersion(t *testing.T) {
	for _, list := range versionStores() {
		for version := range len(list) + 1 {
			for k := range toldBy(list) {
				value := impl.StoreValue(list, version, k.station, k.day, k.kind)
				first := impl.VersionOf(list, version, keyAt(k.station, k.day, k.kind))
				if first == -1 {
					continue
				}
				if first < 1 || first > version {
					t.Fatalf("VersionOf of %d and %v is %d; the store is %v", version, k, first, list)
				}
				for v := first; v <= version; v++ {
					expectValue(t, list, v, k, value)
				}
				if before := impl.StoreValue(list, first-1, k.station, k.day, k.kind); before == value {
					t.Fatalf("VersionOf of %d and %v is %d, but the value is %d before; the store is %v", version, k, first, before, list)
				}
			}
		}
	}
}

func TestPromise154ValuesThatComeBack(t *testing.T) {
	for many := 1; many <= fullStore; many++ {
		list := slices.Repeat([]impl.Report{temp(1, 4, 20), temp(1, 4, 25)}, fullStore/2)[:many]
		expectVersion(t, list, many, keyAt(1, 4, temps), many)
		list = slices.Repeat([]impl.Report{temp(1, 4, 20)}, many)
		expectVersion(t, list, many, keyAt(1, 4, temps), 1)
		list[many/2].Value = 25
		expectVersion(t, list, many, keyAt(1, 4, temps), versionBy(list, many, keyAt(1, 4, temps)))
	}
}

func TestPromise155NoVersionExactlyIfThereIsNoValue(t *testing.T) {
	for _, list := range versionStores() {
		keys := askedKeys(list)
		for version := 0; version <= len(list); version += 1 + len(list)/9 {
			for _, k := range keys {
				value := impl.StoreValue(list, version, k.Station, k.Day, k.Kind)
				first := impl.VersionOf(list, version, k)
				if (first == -1) != (value == noValue) {
					t.Fatalf("VersionOf of %d and %v is %d, and the value %d; the store is %v", version, k, first, value, list)
				}
				if value != noValue {
					expectVersion(t, list, version, k, versionBy(list, version, k))
				}
			}
		}
	}
}

func TestPromise155OtherVersions(t *testing.T) {
	for _, many := range []int{0, 1, 2, 3, fullStore - 1, fullStore} {
		list := slices.Repeat([]impl.Report{temp(1, 4, 20)}, many)
		for _, version := range noVersions(many) {
			expectVersion(t, list, version, keyAt(1, 4, temps), -1)
			expectVersion(t, list, version, impl.Key{}, -1)
		}
	}
}

func TestPromise155InvalidStoresHaveNoVersion(t *testing.T) {
	for _, list := range invalidStores() {
		for _, version := range []int{math.MinInt, -1, 0, 1, len(list) / 2, len(list) - 1, len(list), len(list) + 1, math.MaxInt} {
			for _, r := range []impl.Report{list[0], list[len(list)-1]} {
				expectVersion(t, list, version, keyAt(r.Station, r.Day, r.Kind), -1)
			}
		}
	}
}

func TestPromise156CompactExamples(t *testing.T) {
	a, b, c, d := temp(1, 4, 20), temp(1, 4, 25), temp(1, 5, 20), rain(1, 4, 20)
	for _, row := range []struct {
		list []impl.Report
		want []impl.Report
	}{
		{nil, nil}, {[]impl.Report{}, nil}, {[]impl.Report{a}, []impl.Report{a}}, {[]impl.Report{a, a}, []impl.Report{a}}, {[]impl.Report{a, a, a}, []impl.Report{a}},
		{[]impl.Report{a, b}, []impl.Report{a, b}}, {[]impl.Report{a, b, a}, []impl.Report{a, b, a}}, {[]impl.Report{a, a, b, b, a, a}, []impl.Report{a, b, a}},
		{[]impl.Report{a, c, a}, []impl.Report{a, c}}, {[]impl.Report{a, d, a, d}, []impl.Report{a, d}}, {[]impl.Report{c, a, d, c, b, d, c, a, c}, []impl.Report{c, a, d, b, a}},
		{[]impl.Report{a, c, d, temp(2, 4, 20)}, []impl.Report{a, c, d, temp(2, 4, 20)}}, {[]impl.Report{temp(1, 4, 0), temp(1, 4, 0), temp(1, 4, -1), temp(1, 4, 0)}, []impl.Report{temp(1, 4, 0), temp(1, 4, -1), temp(1, 4, 0)}},
	} {
		expectCompact(t, row.list, row.want)
	}
}

func TestPromise156LastValuesAndHistoriesStay(t *testing.T) {
	for _, list := range versionStores() {
		compact := impl.CompactOf(list)
		for _, k := range askedKeys(list) {
			value := impl.StoreValue(list, len(list), k.Station, k.Day, k.Kind)
			expectValue(t, compact, len(compact), keyRow{k.Station, k.Day, k.Kind}, value)
			expectHistory(t, compact, k, impl.HistoryOf(list, k))
		}
	}
}

func TestPromise156StoresWithoutRepeatedValues(t *testing.T) {
	for many := 0; many <= fullStore; many++ {
		expectCompact(t, spreadStore(many), spreadStore(many))
		list := slices.Repeat([]impl.Report{temp(1, 4, 20), temp(1, 4, 25)}, fullStore/2)[:many]
		expectCompact(t, list, list)
	}
}

func TestPromise156InvalidStoresHaveNoCompactOne(t *testing.T) {
	for _, list := range invalidStores() {
		expectCompact(t, list, nil)
	}
	for _, bad := range invalidReports() {
		expectCompact(t, []impl.Report{bad}, nil)
		expectCompact(t, []impl.Report{temp(1, 4, 20), bad, temp(1, 4, 20)}, nil)
	}
}

func TestPromise157CompactStores(t *testing.T) {
	for _, list := range versionStores() {
		compact := compactBy(list)
		expectCompact(t, list, compact)
		expectCompact(t, compact, compact)
		if !impl.StoreValid(compact) || len(impl.StoreChanges(compact)) != len(impl.StoreChanges(list)) {
			t.Fatalf("CompactOf is %v; the store is %v", compact, list)
		}
	}
}

func TestPromise157OneRepeatedValueAlone(t *testing.T) {
	for many := 1; many <= fullStore; many++ {
		expectCompact(t, slices.Repeat([]impl.Report{temp(9, 999, 600)}, many), []impl.Report{temp(9, 999, 600)})
	}
}

// TestPromise158ChainExamples has sums that were computed without this program.
func TestPromise158ChainExamples(t *testing.T) {
	a, b := temp(1, 4, 20), rain(9, 999, 2000)
	expectChain(t, nil, nil)
	expectChain(t, []impl.Report{}, nil)
	expectChain(t, []impl.Report{a}, []int{5638})
	expectChain(t, []impl.Report{b}, []int{3441})
	expectChain(t, []impl.Report{a, a, b}, []int{5638, 4959, 5105})
	expectChain(t, []impl.Report{b, a}, []int{3441, 1687})
}

func TestPromise158BeginningsOfChains(t *testing.T) {
	for _, list := range versionStores() {
		chain := impl.ChainOf(list)
		if len(chain) != len(list) {
			t.Fatalf("ChainOf is %v; the store is %v", chain, list)
		}
		for many := range list {
			expectChain(t, list[:many], chain[:many])
		}
	}
}

func TestPromise158InvalidStoresHaveNoChain(t *testing.T) {
	for _, list := range invalidStores() {
		expectChain(t, list, nil)
	}
	for _, bad := range invalidReports() {
		expectChain(t, []impl.Report{bad}, nil)
		expectChain(t, []impl.Report{temp(1, 4, 20), bad}, nil)
	}
}

func TestPromise159ChainsAreSumsOfTexts(t *testing.T) {
	for _, list := range versionStores() {
		expectChain(t, list, chainBy(list))
	}
}

func TestPromise159ChainsOfAllReports(t *testing.T) {
	for _, r := range validReports() {
		expectChain(t, []impl.Report{r}, chainBy([]impl.Report{r}))
	}
}

func TestPromise159EachSumContinuesTheOneBefore(t *testing.T) {
	for _, list := range versionStores() {
		sum := chainStart
		for i, got := range impl.ChainOf(list) {
			for _, b := range []byte(impl.ReportText(list[i])) {
				sum = (chainFactor*sum + int(b)) % chainModulus
			}
			if got != sum {
				t.Fatalf("sum %d of the store %v is %d, not %d", i, list, got, sum)
			}
		}
	}
}

func TestPromise160CheckExamples(t *testing.T) {
	list := []impl.Report{temp(1, 4, 20), temp(1, 4, 20), rain(9, 999, 2000)}
	for _, row := range []struct {
		sums []int
		want int
	}{
		{[]int{5638, 4959, 5105}, 3}, {[]int{5638, 4959, 5105, 0}, 3}, {[]int{5638, 4959, 5105, 5105, -1, 99999}, 3},
		{nil, 0}, {[]int{}, 0}, {[]int{5638}, 1}, {[]int{5638, 4959}, 2}, {[]int{4959}, 0}, {[]int{4959, 5638, 5105}, 0},
		{[]int{5639, 4959, 5105}, 0}, {[]int{5637, 4959, 5105}, 0}, {[]int{5638, 4960, 5105}, 1}, {[]int{5638, 4958, 5105}, 1}, {[]int{5638, 4959, 5106}, 2}, {[]int{5638, 4959, 5104}, 2},
		{[]int{0, 0, 0}, 0}, {[]int{5638, 0, 0}, 1}, {[]int{0, 4959, 0}, 0}, {[]int{5638, 0, 5105}, 1}, {[]int{0, 0, 5105}, 0}, {[]int{0, 4959, 5105}, 0},
		{[]int{5638 + 9973, 4959, 5105}, 0}, {[]int{5638, 4959 - 9973, 5105}, 1}, {[]int{5638, 4959, -5105}, 2}, {[]int{5638, 4959, 1<<32 + 5105}, 2}, {[]int{5638, math.MinInt, 5105}, 1}, {[]int{math.MaxInt, 4959, 5105}, 0}, {[]int{5638, 4959, 9973}, 2},
		{[]int{4959, 5105}, 0}, {[]int{0, 5638, 4959, 5105}, 0}, {[]int{1, 5638, 4959, 5105}, 0}, {[]int{5638, 5105}, 1}, {[]int{5638, 5638, 4959, 5105}, 1},
	} {
		expectCheck(t, list, row.sums, row.want)
	}
	expectCheck(t, nil, nil, 0)
	expectCheck(t, nil, []int{1}, 0)
	expectCheck(t, []impl.Report{}, []int{5, 6, 7}, 0)
}

func wrongSums(right int) []int {
	return []int{math.MinInt, math.MinInt + right, -1<<32 + right, right - chainModulus, -right - 1, -1, right - 1, right + 1, right + chainModulus, chainModulus + 1, 1<<16 + right, 1<<32 + right, math.MaxInt}
}

func TestPromise160DamagesAtAllPlaces(t *testing.T) {
	for _, list := range versionStores() {
		chain := chainBy(list)
		expectCheck(t, list, chain, len(list))
		for place := 0; place < len(list); place += 1 + len(list)/7 {
			expectCheck(t, list, chain[:place], place)
			for _, wrong := range wrongSums(chain[place]) {
				sums := slices.Clone(chain)
				sums[place] = wrong
				expectCheck(t, list, sums, place)
				expectCheck(t, list, sums[:place+1], place)
				expectCheck(t, list, append(sums, chain...), place)
				sums[len(sums)-1] = wrong
				expectCheck(t, list, sums[:len(list)], checkBy(list, sums))
			}
		}
	}
}

func TestPromise160SeveralDamages(t *testing.T) {
	source := rand.New(rand.NewSource(160))
	for range 2000 {
		list := randomStore(1+source.Intn(fullStore), source.Int63())
		sums := chainBy(list)
		for range source.Intn(4) {
			sums[source.Intn(len(sums))] += source.Intn(3) - 1
		}
		sums = sums[:len(sums)-source.Intn(2)]
		expectCheck(t, list, sums, checkBy(list, sums))
	}
}

func TestPromise160FurtherSumsAreIgnored(t *testing.T) {
	for many := 0; many <= fullStore; many++ {
		list := spreadStore(many)
		for _, further := range [][]int{{0}, {-1}, {math.MaxInt}, {noValue, 9973}, make([]int, 1000)} {
			expectCheck(t, list, append(chainBy(list), further...), many)
		}
		expectCheck(t, list, chainBy(spreadStore(fullStore)), many)
	}
}

func TestPromise160InvalidStoresAreNotChecked(t *testing.T) {
	for _, list := range invalidStores() {
		for _, sums := range [][]int{nil, {}, {0}, {1}, {1, 1, 1}, make([]int, len(list))} {
			expectCheck(t, list, sums, -1)
		}
	}
	for _, bad := range invalidReports() {
		list := []impl.Report{temp(1, 4, 20), bad}
		expectCheck(t, list, chainBy(list), -1)
		expectCheck(t, list, nil, -1)
	}
}

func TestPromise161OneOtherValueIsNoticed(t *testing.T) {
	source := rand.New(rand.NewSource(161))
	for _, list := range versionStores() {
		chain := impl.ChainOf(list)
		for place := 0; place < len(list); place += 1 + len(list)/9 {
			k := kindRows()[list[place].Kind-1]
			for _, value := range []int{k.low, k.high, k.low + source.Intn(k.high-k.low+1)} {
				other := slices.Clone(list)
				other[place].Value = value
				want := place
				if slices.Equal(chainBy(other), chain) {
					want = len(list)
				}
				expectCheck(t, other, chain, want)
			}
		}
	}
}

// TestPromise161OtherValuesWithTheSameSum has two pressures whose texts have
// the same sum, so that the change of one into the other is not noticed.
func TestPromise161OtherValuesWithTheSameSum(t *testing.T) {
	low := impl.Report{Station: 1, Day: 4, Kind: pressures, Value: 8500}
	high := low
	high.Value = 9544
	next := high
	next.Value++
	list := []impl.Report{temp(1, 4, 20), low, low, temp(1, 5, 20)}
	chain := impl.ChainOf(list)
	expectCheck(t, []impl.Report{list[0], high, low, list[3]}, chain, 4)
	expectCheck(t, []impl.Report{list[0], low, high, list[3]}, chain, 4)
	expectCheck(t, []impl.Report{list[0], next, low, list[3]}, chain, 1)
	expectCheck(t, []impl.Report{list[0], low, next, list[3]}, chain, 2)
	expectCheck(t, []impl.Report{list[0], low, low, temp(1, 5, 21)}, chain, 3)
	expectCheck(t, []impl.Report{temp(1, 4, -20), low, low, list[3]}, chain, 0)
}

func TestPromise161EachValueOfAReport(t *testing.T) {
	for _, k := range kindRows() {
		r := impl.Report{Station: 3, Day: middleDay, Kind: k.kind, Value: k.low}
		chain := impl.ChainOf([]impl.Report{r})
		for r.Value = k.low; r.Value <= k.high; r.Value++ {
			list := []impl.Report{r}
			expectCheck(t, list, chain, checkBy(list, chain))
		}
	}
}

// TestVersionsKeepArguments has lists that are parts of longer ones, so that
// what is behind them could be overwritten, or taken for a part of them.
func TestVersionsKeepArguments(t *testing.T) {
	for _, many := range []int{0, 1, 2, 3, fullStore - 1, fullStore, fullStore + 1} {
		list := randomStore(fullStore+5, 9)
		sums := append(chainBy(list), 1, 2, 3)
		oldList, oldSums := slices.Clone(list), slices.Clone(sums)
		k := keyAt(list[0].Station, list[0].Day, list[0].Kind)
		for range 2 {
			history := impl.HistoryOf(list[:many], k)
			diff := impl.DiffOf(list[:many], 0, many)
			version := impl.VersionOf(list[:many], many, k)
			compact := impl.CompactOf(list[:many])
			chain := impl.ChainOf(list[:many])
			check := impl.ChainCheck(list[:many], sums[:many])
			if has := 1 <= many && many <= fullStore; (len(history) > 0) != has || (len(diff) > 0) != has || (version > 0) != has || (len(compact) > 0) != has || (len(chain) == many) != (many <= fullStore) || (check == many) != (many <= fullStore) {
				t.Errorf("the functions return %v, %v, %d, %v, %v and %d for %d reports", history, diff, version, compact, chain, check, many)
			}
		}
		if !slices.Equal(list, oldList) || !slices.Equal(sums, oldSums) {
			t.Errorf("the arguments have become %v and %v", list, sums)
		}
	}
}

func TestVersionsThatAreReturnedShareNoMemory(t *testing.T) {
	for _, list := range [][]impl.Report{spreadStore(fullStore), randomStore(fullStore, 3), slices.Repeat([]impl.Report{temp(1, 4, 20), temp(1, 4, 25)}, 4), {temp(1, 4, 20)}} {
		old := slices.Clone(list)
		k := keyAt(list[0].Station, list[0].Day, list[0].Kind)
		keptHistory, keptDiff, keptCompact, keptChain := impl.HistoryOf(list, k), impl.DiffOf(list, 0, len(list)), impl.CompactOf(list), impl.ChainOf(list)
		expect := func() {
			t.Helper()
			if !slices.Equal(list, old) || !slices.Equal(keptHistory, historyBy(old, k)) || !slices.Equal(keptDiff, diffBy(old, 0, len(old))) || !slices.Equal(keptCompact, compactBy(old)) || !slices.Equal(keptChain, chainBy(old)) {
				t.Fatalf("%v has become %v, and the results %v, %v, %v and %v", old, list, keptHistory, keptDiff, keptCompact, keptChain)
			}
		}
		for range 2 {
			overwrite(impl.HistoryOf(list, k), 66)
			overwrite(impl.DiffOf(list, 0, len(list)), impl.Key{})
			overwrite(impl.CompactOf(list), impl.Report{})
			overwrite(impl.ChainOf(list), 66)
			expect()
		}
		overwrite(list, impl.Report{})
		list = old
		expect()
	}
}

func TestVersionsKeepNothingBetweenCalls(t *testing.T) {
	a := []impl.Report{temp(1, 4, 20), temp(1, 4, 25)}
	b := []impl.Report{temp(1, 4, 30)}
	for range 2 {
		expectHistory(t, a, keyAt(1, 4, temps), []int{20, 25})
		expectHistory(t, b, keyAt(1, 4, temps), []int{30})
		expectVersion(t, a, 2, keyAt(1, 4, temps), 2)
		expectVersion(t, b, 1, keyAt(1, 4, temps), 1)
		expectVersion(t, nil, 0, keyAt(1, 4, temps), -1)
		expectCheck(t, a, chainBy(b), 0)
		expectCheck(t, a, chainBy(a), 2)
		expectCheck(t, b, chainBy(b), 1)
	}
}
