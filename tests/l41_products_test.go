package tests

import (
	"math"
	"math/rand"
	"slices"
	"testing"

	"loop.example/weatherarchive/impl"
)

// The limit is written out here as the document has it, so that a wrong
// constant of the program is noticed.
const mostProducts = 6

func noGaps() []int {
	return []int{math.MinInt, math.MinInt + 1, -1 << 62, -1<<32 + 5, -1 << 31, noValue, -mostDays, -2, -1, mostDays + 1, mostDays + 2, 99, 256 + 5, 1<<16 + 5, 1 << 31, 1<<32 + 5, 1 << 62, math.MaxInt - 1, math.MaxInt}
}

// noVersions has numbers that are no versions of a store with so many reports.
func noVersions(many int) []int {
	return []int{math.MinInt, math.MinInt + 1, -1 << 62, -1 << 32, -1<<32 + many, -1 << 31, noValue, -fullStore, -2, -1, many + 1, many + 2, fullStore + 1, 256 + many, 1 << 31, 1 << 32, 1<<32 + many, 1 << 62, math.MaxInt - 1, math.MaxInt}
}

func product(station int, kind int, first int, days int, gaps int) impl.Product {
	return impl.Product{Station: station, Kind: kind, First: first, Days: days, Gaps: gaps}
}

// validProducts has all limits of all fields, together and with others.
func validProducts() []impl.Product {
	var list []impl.Product
	for _, station := range []int{1, 2, 5, 8, lastStation} {
		for kind := temps; kind <= pressures; kind++ {
			for _, first := range []int{0, 1, 4, middleDay, 988, 998, lastDay} {
				for _, days := range []int{1, 2, 3, 11, mostDays} {
					for _, gaps := range []int{0, 1, 2, 11, mostDays} {
						list = append(list, product(station, kind, first, days, gaps))
					}
				}
			}
		}
	}
	return list
}

// invalidProducts has, for valid products, each field out of its limits.
func invalidProducts() []impl.Product {
	list := []impl.Product{{}, {Station: 1, First: 4, Days: 3}, {Kind: temps, First: 4, Days: 3}, {Station: 1, Kind: temps, First: 4}}
	for _, good := range []impl.Product{
		{Station: 1, Kind: temps, First: 0, Days: 1, Gaps: 0},
		{Station: 1, Kind: temps, First: 4, Days: 3, Gaps: 3},
		{Station: lastStation, Kind: pressures, First: lastDay, Days: mostDays, Gaps: mostDays},
	} {
		with := func(numbers []int, field func(p *impl.Product) *int) {
			for _, n := range numbers {
				bad := good
				*field(&bad) = n
				list = append(list, bad)
			}
		}
		with(noStations(), func(p *impl.Product) *int { return &p.Station })
		with(noKinds(), func(p *impl.Product) *int { return &p.Kind })
		with(noDaysOfReports(), func(p *impl.Product) *int { return &p.First })
		with(noRuns(mostDays), func(p *impl.Product) *int { return &p.Days })
		with(noGaps(), func(p *impl.Product) *int { return &p.Gaps })
	}
	return list
}

// denseStore returns so many reports of two stations, two kinds and few days,
// so that many products have several values.
func denseStore(many int, first int, source *rand.Rand) []impl.Report {
	rows := kindRows()
	list := make([]impl.Report, many)
	for i := range list {
		k := rows[2*source.Intn(2)]
		list[i] = impl.Report{Station: 1 + 8*source.Intn(2), Day: min(first+source.Intn(6), lastDay), Kind: k.kind, Value: k.low + source.Intn(9)}
	}
	return list
}

// productNear returns a product that reports of denseStore can touch.
func productNear(first int, source *rand.Rand) impl.Product {
	return impl.Product{
		Station: 1 + 8*source.Intn(2),
		Kind:    []int{temps, temps, temps, pressures, pressures, pressures, rains}[source.Intn(7)],
		First:   min(max(first-3+source.Intn(8), 0), lastDay),
		Days:    1 + source.Intn(mostDays),
		Gaps:    source.Intn(mostDays + 1),
	}
}

// productRow is a store and products of it.
type productRow struct {
	list     []impl.Report
	products []impl.Product
}

// productRows has stores and products of all lengths.
func productRows() []productRow {
	var rows []productRow
	source := rand.New(rand.NewSource(41))
	for many := 0; many <= fullStore; many++ {
		for range 2 {
			first := []int{0, 4, 500, 988, 994, 998}[source.Intn(6)]
			row := productRow{list: denseStore(many, first, source)}
			for range len(rows) % (mostProducts + 1) {
				row.products = append(row.products, productNear(first, source))
			}
			rows = append(rows, row)
		}
	}
	return rows
}

// productBy tells by other means than the program what ProductValue returns,
// by the values alone.
func productBy(told map[keyRow]int, p impl.Product) int {
	mean, ok := meanBy(seriesOf(told, p.Station, p.Kind, p.First, p.Days), p.Gaps)
	if !ok {
		return noValue
	}
	return mean
}

func productsBy(list []impl.Report, products []impl.Product) []int {
	told := toldBy(list)
	values := []int{}
	for _, p := range products {
		values = append(values, productBy(told, p))
	}
	return values
}

// touchedBy asks each day of a product.
func touchedBy(p impl.Product, r impl.Report) bool {
	for day := p.First; day < p.First+p.Days; day++ {
		if keyOf(r) == (keyRow{p.Station, day, p.Kind}) {
			return true
		}
	}
	return false
}

// nextBy tells what ProductsNext returns for valid arguments.
func nextBy(row productRow, version int, values []int) ([]int, int) {
	next := slices.Clone(values)
	anew := 0
	told := toldBy(row.list[:version+1])
	for i, p := range row.products {
		if touchedBy(p, row.list[version]) {
			next[i] = productBy(told, p)
			anew++
		}
	}
	return next, anew
}

func expectProductValid(t *testing.T, p impl.Product, want bool) {
	t.Helper()
	if got := impl.ProductValid(p); got != want {
		t.Fatalf("ProductValid of %v is %v", p, got)
	}
}

func expectProduct(t *testing.T, list []impl.Report, version int, p impl.Product, want int) {
	t.Helper()
	if got := impl.ProductValue(list, version, p); got != want {
		t.Fatalf("ProductValue of version %d and %v is %d, not %d; the store is %v", version, p, got, want, list)
	}
}

func expectTouched(t *testing.T, p impl.Product, r impl.Report, want bool) {
	t.Helper()
	if got := impl.ProductTouched(p, r); got != want {
		t.Fatalf("ProductTouched of %v and %v is %v", p, r, got)
	}
}

// expectProducts checks what ProductsAll returns if it must succeed with want,
// or, if want is nil, fail.
func expectProducts(t *testing.T, list []impl.Report, version int, products []impl.Product, want []int) {
	t.Helper()
	if got, ok := impl.ProductsAll(list, version, products); !slices.Equal(got, want) || ok != (want != nil) {
		t.Fatalf("ProductsAll of version %d and %v is %v, %v, not %v; the store is %v", version, products, got, ok, want, list)
	}
}

func expectNext(t *testing.T, list []impl.Report, version int, products []impl.Product, values []int, want []int, wantAnew int) {
	t.Helper()
	if got, anew := impl.ProductsNext(list, version, products, values); !slices.Equal(got, want) || anew != wantAnew {
		t.Fatalf("ProductsNext of version %d, %v and %v is %v, %d, not %v, %d; the store is %v", version, products, values, got, anew, want, wantAnew, list)
	}
}

func expectNoNext(t *testing.T, list []impl.Report, version int, products []impl.Product, values []int) {
	t.Helper()
	expectNext(t, list, version, products, values, nil, -1)
}

func TestConstantsOfProducts(t *testing.T) {
	if impl.ProductMax != mostProducts {
		t.Errorf("ProductMax is %d", impl.ProductMax)
	}
}

func TestPromise140ProductExamples(t *testing.T) {
	list := []impl.Report{temp(1, 4, 10), temp(1, 5, 20), temp(1, 7, 40), temp(2, 6, 99), {Station: 1, Day: 6, Kind: rains, Value: 7}, temp(1, 5, 23), temp(1, 999, 5), temp(1, 998, 8), temp(1, 0, -3), temp(1, 1, -4)}
	n := noValue
	for _, row := range []struct {
		version int
		p       impl.Product
		want    int
	}{
		{0, product(1, temps, 4, 1, 0), n}, {0, product(1, temps, 4, 1, 12), n}, {1, product(1, temps, 4, 1, 0), 10}, {10, product(1, temps, 4, 1, 0), 10},
		{1, product(1, temps, 4, 2, 0), n}, {1, product(1, temps, 4, 2, 1), 10}, {2, product(1, temps, 4, 2, 0), 15}, {6, product(1, temps, 4, 2, 0), 16}, {5, product(1, temps, 4, 2, 0), 15},
		{3, product(1, temps, 4, 4, 0), n}, {3, product(1, temps, 4, 4, 1), 23}, {6, product(1, temps, 4, 4, 1), 24}, {6, product(1, temps, 4, 4, 0), n}, {6, product(1, temps, 4, 4, 4), 24},
		{2, product(1, temps, 4, 4, 1), n}, {2, product(1, temps, 4, 4, 2), 15}, {1, product(1, temps, 4, 4, 2), n}, {1, product(1, temps, 4, 4, 3), 10},
		{6, product(1, temps, 3, 12, 8), n}, {6, product(1, temps, 3, 12, 9), 24}, {6, product(1, temps, 3, 1, 12), n}, {6, product(1, temps, 8, 12, 12), n}, {6, product(1, temps, 7, 12, 11), 40},
		{10, product(2, temps, 6, 1, 0), 99}, {10, product(2, temps, 4, 4, 3), 99}, {3, product(2, temps, 4, 4, 3), n}, {10, product(1, rains, 6, 1, 0), 7}, {10, product(1, rains, 5, 3, 2), 7}, {10, product(1, rains, 5, 3, 1), n}, {10, product(1, pressures, 5, 3, 3), n},
		{7, product(1, temps, 999, 1, 0), 5}, {7, product(1, temps, 998, 2, 1), 5}, {8, product(1, temps, 998, 2, 0), 6}, {8, product(1, temps, 998, 3, 0), n}, {8, product(1, temps, 998, 3, 1), 6}, {8, product(1, temps, 999, 12, 11), 5}, {8, product(1, temps, 999, 12, 10), n},
		{9, product(1, temps, 0, 1, 0), -3}, {10, product(1, temps, 0, 2, 0), -4}, {10, product(1, temps, 0, 12, 6), n}, {10, product(1, temps, 0, 12, 7), 13}, {10, product(9, temps, 0, 12, 12), n},
	} {
		expectProduct(t, list, row.version, row.p, row.want)
	}
}

func TestPromise140ProductsAreMeansOfSeries(t *testing.T) {
	for _, row := range productRows() {
		for version := 0; version <= len(row.list); version++ {
			told := toldBy(row.list[:version])
			for _, p := range row.products {
				series, _ := impl.StoreSeries(row.list, version, p.Station, p.Kind, p.First, p.Days)
				mean, ok := impl.MeanOf(series, p.Gaps)
				if !ok {
					mean = noValue
				}
				expectProduct(t, row.list, version, p, mean)
				expectProduct(t, row.list, version, p, productBy(told, p))
			}
		}
	}
}

func TestPromise140ProductsOfAllStores(t *testing.T) {
	products := validProducts()
	for i, list := range validStores() {
		for _, version := range []int{len(list), len(list) / 2} {
			told := toldBy(list[:version])
			for j := i % 7; j < len(products); j += 7 {
				expectProduct(t, list, version, products[j], productBy(told, products[j]))
			}
		}
	}
}

// TestPromise140AllNumbersOfGapsOfProducts has reports of one day after the
// other, in any order.
func TestPromise140AllNumbersOfGapsOfProducts(t *testing.T) {
	source := rand.New(rand.NewSource(140))
	for days := 1; days <= mostDays; days++ {
		var list []impl.Report
		for _, day := range source.Perm(days) {
			list = append(list, temp(3, 20+day, 40))
		}
		for known := 0; known <= days; known++ {
			for gaps := 0; gaps <= mostDays; gaps++ {
				want := noValue
				if known > 0 && days-known <= gaps {
					want = 40
				}
				expectProduct(t, list, known, product(3, temps, 20, days, gaps), want)
			}
		}
	}
}

func TestPromise140InvalidProductsHaveNoValue(t *testing.T) {
	full := slices.Repeat([]impl.Report{temp(1, 4, 20), temp(1, 0, 21), temp(1, 5, 22), {Station: 9, Day: 999, Kind: pressures, Value: 9000}}, 10)
	for _, p := range invalidProducts() {
		for _, list := range [][]impl.Report{nil, full[:1], full} {
			for _, version := range []int{-1, 0, 1, len(list), len(list) + 1} {
				expectProduct(t, list, version, p, noValue)
			}
		}
	}
}

func TestPromise140ProductsOfOtherVersionsHaveNoValue(t *testing.T) {
	p := impl.Product{Station: 1, Kind: temps, First: 4, Days: 3, Gaps: 3}
	for many := 0; many <= fullStore; many++ {
		list := slices.Repeat([]impl.Report{temp(1, 4, 20)}, many)
		for _, version := range noVersions(many) {
			expectProduct(t, list, version, p, noValue)
		}
		expectProduct(t, list, min(many, 1), p, []int{noValue, 20}[min(many, 1)])
	}
}

// TestPromise140ProductsOfInvalidStoresHaveNoValue also asks for versions that
// end ahead of the invalid report.
func TestPromise140ProductsOfInvalidStoresHaveNoValue(t *testing.T) {
	for _, list := range invalidStores() {
		for _, version := range []int{math.MinInt, -1, 0, 1, len(list) / 2, len(list) - 1, len(list), len(list) + 1, math.MaxInt} {
			expectProduct(t, list, version, impl.Product{Station: 1, Kind: temps, First: 0, Days: mostDays, Gaps: mostDays}, noValue)
			expectProduct(t, list, version, impl.Product{Station: 5, Kind: temps, First: middleDay, Days: 1, Gaps: 0}, noValue)
		}
	}
}

func TestPromise141AsManyGapsAsDays(t *testing.T) {
	found := 0
	for _, row := range productRows() {
		for version := 0; version <= len(row.list); version++ {
			for _, p := range row.products {
				value := impl.ProductValue(row.list, version, p)
				if value == noValue {
					continue
				}
				found++
				for p.Gaps = p.Days; p.Gaps <= mostDays; p.Gaps++ {
					expectProduct(t, row.list, version, p, value)
				}
			}
		}
	}
	if found == 0 {
		t.Error("no product has a value")
	}
}

func TestPromise142ProductsOfTheFirstReportsAlone(t *testing.T) {
	for _, row := range productRows() {
		for version := 0; version <= len(row.list); version++ {
			for _, p := range row.products {
				expectProduct(t, row.list[:version], version, p, impl.ProductValue(row.list, version, p))
			}
		}
	}
}

func TestPromise142LaterReportsChangeNoProduct(t *testing.T) {
	p := impl.Product{Station: 1, Kind: temps, First: 4, Days: 2, Gaps: 1}
	list := []impl.Report{temp(1, 4, 20), temp(1, 4, 30), temp(1, 5, 50), temp(1, 4, 20), temp(1, 6, 90)}
	for version, want := range []int{noValue, 20, 30, 40, 35, 35} {
		expectProduct(t, list, version, p, want)
	}
}

// reportsNear has reports of the days at both ends of a product, of the days
// before and behind them, and of other stations and kinds. None of their values
// is out of limits.
func reportsNear(p impl.Product) []impl.Report {
	var list []impl.Report
	for _, day := range []int{p.First - 1, p.First, p.First + p.Days/2, p.First + p.Days - 1, p.First + p.Days, p.Days, 0, lastDay} {
		for _, station := range []int{p.Station, p.Station%lastStation + 1, lastStation, p.Kind} {
			for _, k := range kindRows() {
				if 0 <= day && day <= lastDay {
					list = append(list, impl.Report{Station: station, Day: day, Kind: k.kind, Value: k.high - day%3})
				}
			}
		}
	}
	return list
}

func TestPromise143TouchExamples(t *testing.T) {
	p := impl.Product{Station: 3, Kind: temps, First: 10, Days: 4, Gaps: 0}
	for day, want := range map[int]bool{0: false, 3: false, 4: false, 9: false, 10: true, 11: true, 12: true, 13: true, 14: false, 15: false, 999: false} {
		expectTouched(t, p, temp(3, day, 5), want)
		expectTouched(t, p, temp(4, day, 5), false)
		expectTouched(t, p, temp(2, day, 5), false)
		expectTouched(t, p, impl.Report{Station: 3, Day: day, Kind: rains, Value: 5}, false)
		expectTouched(t, p, impl.Report{Station: 3, Day: day, Kind: pressures, Value: 8500}, false)
		expectTouched(t, p, impl.Report{Station: 3, Day: day, Kind: temps, Value: 601}, false)
	}
	for _, last := range []impl.Product{product(3, temps, 998, 1, 12), product(3, temps, 998, 2, 0), product(3, temps, 998, 12, 0), product(3, temps, 999, 1, 0), product(3, temps, 999, 12, 12)} {
		expectTouched(t, last, temp(3, 997, 5), false)
		expectTouched(t, last, temp(3, 998, 5), last.First == 998)
		expectTouched(t, last, temp(3, 999, 5), last.First == 999 || last.Days > 1)
		expectTouched(t, last, temp(3, 1000, 5), false)
		expectTouched(t, last, temp(3, 0, 5), false)
	}
}

func TestPromise143UntouchedProductsStay(t *testing.T) {
	touched, untouched := 0, 0
	for _, p := range validProducts() {
		for _, r := range reportsNear(p) {
			want := touchedBy(p, r)
			expectTouched(t, p, r, want)
			if want {
				touched++
				continue
			}
			untouched++
			expectProduct(t, []impl.Report{r}, 1, p, impl.ProductValue(nil, 0, p))
		}
	}
	if touched == 0 || untouched == 0 {
		t.Errorf("%d products are touched, and %d are not", touched, untouched)
	}
}

func TestPromise143InvalidReportsTouchNothing(t *testing.T) {
	for _, r := range invalidReports() {
		for _, p := range []impl.Product{product(1, temps, 0, 1, 0), product(3, temps, middleDay, 1, 0), product(3, rains, middleDay-1, 12, 12), product(3, pressures, middleDay, 2, 2), product(9, temps, 990, 12, 12)} {
			expectTouched(t, p, r, false)
			expectProduct(t, []impl.Report{r}, 1, p, noValue)
		}
	}
	// These have the numbers of the report, but the report is out of limits.
	expectTouched(t, product(0, 0, 0, 1, 0), impl.Report{}, false)
	expectTouched(t, product(10, temps, 4, 1, 0), temp(10, 4, 5), false)
	expectTouched(t, product(1, temps, 1000, 1, 0), temp(1, 1000, 5), false)
	expectTouched(t, product(1, temps, 990, 12, 0), temp(1, 1000, 5), false)
	expectTouched(t, product(1, temps, 999, 12, 0), temp(1, 1010, 5), false)
	expectTouched(t, product(1, 4, 4, 1, 0), impl.Report{Station: 1, Day: 4, Kind: 4, Value: 5}, false)
}

func TestPromise143InvalidProductsAreNotTouched(t *testing.T) {
	for _, p := range invalidProducts() {
		for _, r := range []impl.Report{temp(1, 0, 5), temp(1, 4, 20), temp(1, 5, 20), {Station: 1, Day: 4, Kind: rains, Value: 20}, {Station: 9, Day: 999, Kind: pressures, Value: 9000}, temp(9, 999, 5)} {
			expectTouched(t, p, r, false)
		}
	}
}

func TestPromise144ATouchedProductHasTheValue(t *testing.T) {
	for _, p := range validProducts() {
		for _, r := range reportsNear(p) {
			if !touchedBy(p, r) {
				continue
			}
			p.Gaps = mostDays
			expectProduct(t, []impl.Report{r}, 1, p, r.Value)
			p.Gaps = p.Days - 1
			expectProduct(t, []impl.Report{r}, 1, p, r.Value)
			expectProduct(t, []impl.Report{r}, 0, p, noValue)
		}
	}
}

func TestPromise145AllProductExamples(t *testing.T) {
	list := []impl.Report{temp(1, 4, 10), temp(1, 5, 20), temp(2, 4, -7)}
	a, b, c := product(1, temps, 4, 2, 1), product(1, temps, 4, 2, 0), product(2, temps, 4, 1, 0)
	n := noValue
	expectProducts(t, list, 0, []impl.Product{a, b, c}, []int{n, n, n})
	expectProducts(t, list, 1, []impl.Product{a, b, c}, []int{10, n, n})
	expectProducts(t, list, 2, []impl.Product{a, b, c}, []int{15, 15, n})
	expectProducts(t, list, 3, []impl.Product{a, b, c}, []int{15, 15, -7})
	expectProducts(t, list, 3, []impl.Product{c, a}, []int{-7, 15})
	expectProducts(t, list, 1, []impl.Product{a, a, b, a, b, b}, []int{10, 10, n, 10, n, n})
	expectProducts(t, list, 3, nil, []int{})
	expectProducts(t, list, 0, []impl.Product{}, []int{})
	expectProducts(t, nil, 0, nil, []int{})
	expectProducts(t, nil, 0, []impl.Product{a, b}, []int{n, n})
	expectProducts(t, []impl.Report{}, 0, []impl.Product{a, b}, []int{n, n})
}

func TestPromise145EachProductHasItsValue(t *testing.T) {
	for _, row := range productRows() {
		for version := 0; version <= len(row.list); version++ {
			want := productsBy(row.list[:version], row.products)
			expectProducts(t, row.list, version, row.products, want)
			for i, p := range row.products {
				expectProduct(t, row.list, version, p, want[i])
			}
		}
	}
}

func TestPromise145NumbersOfProducts(t *testing.T) {
	p := impl.Product{Station: 1, Kind: temps, First: 4, Days: 2, Gaps: 1}
	list := []impl.Report{temp(1, 4, 20), temp(1, 5, 30)}
	for many := 0; many <= 3*mostProducts; many++ {
		products := slices.Repeat([]impl.Product{p}, many)
		values := slices.Repeat([]int{20}, many)
		if many <= mostProducts {
			expectProducts(t, list, 1, products, values)
			expectNext(t, list, 1, products, values, slices.Repeat([]int{25}, many), many)
		} else {
			expectProducts(t, list, 1, products, nil)
			expectNoNext(t, list, 1, products, values)
		}
	}
	for _, many := range []int{256, 256 + 3, 1<<16 + 3} {
		expectProducts(t, list, 1, slices.Repeat([]impl.Product{p}, many), nil)
		expectNoNext(t, list, 1, slices.Repeat([]impl.Product{p}, many), make([]int, many))
	}
}

// TestPromise145InvalidProductsAmongOthers has no other place for an invalid
// product than one of a valid one, so that their number stays the same.
func TestPromise145InvalidProductsAmongOthers(t *testing.T) {
	list := []impl.Report{temp(1, 4, 20), temp(1, 5, 30)}
	for _, bad := range invalidProducts() {
		for many := 1; many <= mostProducts; many++ {
			for place := range many {
				products := slices.Repeat([]impl.Product{product(1, temps, 4, 2, 1)}, many)
				products[place] = bad
				expectProducts(t, list, 1, products, nil)
				expectNoNext(t, list, 1, products, make([]int, many))
			}
		}
	}
}

func TestPromise145AllProductsOfOtherVersions(t *testing.T) {
	for _, many := range []int{0, 1, 2, 3, fullStore - 1, fullStore} {
		list := slices.Repeat([]impl.Report{temp(1, 4, 20)}, many)
		for _, products := range [][]impl.Product{nil, {}, {product(1, temps, 4, 2, 1)}} {
			for _, version := range noVersions(many) {
				expectProducts(t, list, version, products, nil)
			}
		}
	}
}

func TestPromise145AllProductsOfInvalidStores(t *testing.T) {
	for _, list := range invalidStores() {
		for _, version := range []int{math.MinInt, -1, 0, 1, len(list) / 2, len(list) - 1, len(list), len(list) + 1, math.MaxInt} {
			expectProducts(t, list, version, nil, nil)
			expectProducts(t, list, version, []impl.Product{product(5, temps, middleDay, 1, 0)}, nil)
		}
	}
}

func TestPromise146NextProductExamples(t *testing.T) {
	list := []impl.Report{temp(1, 4, 10), temp(1, 5, 20), temp(2, 4, -7), temp(1, 4, 11), temp(1, 6, 90)}
	a, b, c := product(1, temps, 4, 2, 1), product(1, temps, 4, 2, 0), product(2, temps, 4, 1, 0)
	all := []impl.Product{a, b, c}
	n := noValue
	expectNext(t, list, 0, all, []int{n, n, n}, []int{10, n, n}, 2)
	expectNext(t, list, 1, all, []int{10, n, n}, []int{15, 15, n}, 2)
	expectNext(t, list, 2, all, []int{15, 15, n}, []int{15, 15, -7}, 1)
	expectNext(t, list, 3, all, []int{15, 15, -7}, []int{16, 16, -7}, 2)
	expectNext(t, list, 4, all, []int{16, 16, -7}, []int{16, 16, -7}, 0)
	expectNext(t, list, 2, []impl.Product{c, c, a, c, c, c}, []int{1, 2, 3, 4, 5, 6}, []int{-7, -7, 3, -7, -7, -7}, 5)
	expectNext(t, list, 2, []impl.Product{a, b}, []int{15, 15}, []int{15, 15}, 0)
	expectNext(t, list, 0, nil, nil, nil, 0)
	expectNext(t, list, 4, []impl.Product{}, []int{}, []int{}, 0)
	expectNext(t, list, 0, nil, []int{}, nil, 0)
	expectNext(t, list, 0, []impl.Product{}, nil, nil, 0)
}

func TestPromise146NextProductsAreThoseOfTheNextVersion(t *testing.T) {
	for _, row := range productRows() {
		for version := range row.list {
			before, ok := impl.ProductsAll(row.list, version, row.products)
			after, fine := impl.ProductsAll(row.list, version+1, row.products)
			next, anew := impl.ProductsNext(row.list, version, row.products, before)
			if !ok || !fine || anew < 0 || !slices.Equal(next, after) || !slices.Equal(next, productsBy(row.list[:version+1], row.products)) {
				t.Fatalf("ProductsNext of version %d and %v is %v, %d, and ProductsAll %v; the store is %v", version, row.products, next, anew, after, row.list)
			}
		}
	}
}

func TestPromise147OtherProductsKeepTheirValues(t *testing.T) {
	for _, row := range productRows() {
		for version := range row.list {
			for _, given := range []int{0, -1, noValue, 77, math.MinInt, math.MaxInt} {
				values := slices.Repeat([]int{given}, len(row.products))
				for i := range values {
					values[i] += i % 2
				}
				want, anew := nextBy(row, version, values)
				expectNext(t, row.list, version, row.products, values, want, anew)
			}
		}
	}
}

// TestPromise147ValuesThatBecomeNone gives values that a version does not have:
// what is found anew does not depend on them.
func TestPromise147ValuesThatBecomeNone(t *testing.T) {
	p, other := product(1, temps, 4, 3, 1), product(1, temps, 8, 1, 0)
	list := []impl.Report{temp(1, 4, 10), temp(1, 6, 30), temp(1, 5, 50), temp(1, 8, 7)}
	n := noValue
	expectNext(t, list, 0, []impl.Product{p, other}, []int{77, 78}, []int{n, 78}, 1)
	expectNext(t, list, 1, []impl.Product{p, other}, []int{n, 78}, []int{20, 78}, 1)
	expectNext(t, list, 1, []impl.Product{p, other}, []int{-5, n}, []int{20, n}, 1)
	expectNext(t, list, 2, []impl.Product{p, other}, []int{n, n}, []int{30, n}, 1)
	expectNext(t, list, 3, []impl.Product{p, other}, []int{n, n}, []int{n, 7}, 1)
	expectNext(t, list, 3, []impl.Product{other, p}, []int{n, 30}, []int{7, 30}, 1)
	expectNext(t, list, 0, []impl.Product{p, p}, []int{77, n}, []int{n, n}, 2)
}

func TestPromise147ProductsThatAreTouchedAreCounted(t *testing.T) {
	for touched := 0; touched <= mostProducts; touched++ {
		for place := 0; place+touched <= mostProducts; place++ {
			products := slices.Repeat([]impl.Product{product(2, temps, 4, 2, 1)}, mostProducts)
			want := slices.Repeat([]int{5}, mostProducts)
			for i := place; i < place+touched; i++ {
				products[i].Station = 1
				want[i] = 20
			}
			expectNext(t, []impl.Report{temp(1, 4, 20)}, 0, products, slices.Repeat([]int{5}, mostProducts), want, touched)
		}
	}
}

func TestPromise147ThereIsNoSuchReport(t *testing.T) {
	products := []impl.Product{product(1, temps, 4, 2, 1)}
	for many := 0; many <= fullStore; many++ {
		list := slices.Repeat([]impl.Report{temp(1, 4, 20)}, many)
		for _, version := range append(noVersions(many), many) {
			expectNoNext(t, list, version, products, []int{5})
			expectNoNext(t, list, version, nil, nil)
		}
		if many > 0 {
			expectNext(t, list, 0, products, []int{5}, []int{20}, 1)
			expectNext(t, list, many-1, products, []int{5}, []int{20}, 1)
			expectNext(t, list, many-1, nil, nil, nil, 0)
		}
	}
	expectNoNext(t, []impl.Report{}, 0, products, []int{5})
}

func TestPromise147WrongNumbersOfValues(t *testing.T) {
	list := []impl.Report{temp(1, 4, 20), temp(1, 5, 30)}
	for many := 0; many <= mostProducts; many++ {
		products := slices.Repeat([]impl.Product{product(1, temps, 4, 2, 1)}, many)
		for _, values := range []int{0, 1, 2, 3, 4, 5, 6, 7, 8, 12, many + 256, many + 1<<16} {
			if values != many {
				expectNoNext(t, list, 1, products, make([]int, values))
			}
		}
		expectNext(t, list, 1, products, make([]int, many), slices.Repeat([]int{25}, many), many)
	}
	expectNoNext(t, list, 1, nil, []int{5})
	expectNoNext(t, list, 1, []impl.Product{product(1, temps, 4, 2, 1)}, nil)
}

func TestPromise147InvalidStoresHaveNoNextProducts(t *testing.T) {
	for _, list := range invalidStores() {
		for _, version := range []int{math.MinInt, -1, 0, 1, len(list) / 2, len(list) - 1, len(list), math.MaxInt} {
			expectNoNext(t, list, version, nil, nil)
			expectNoNext(t, list, version, []impl.Product{product(5, temps, middleDay, 1, 0)}, []int{5})
		}
	}
}

func TestPromise148ProductsReportByReport(t *testing.T) {
	rows := productRows()
	source := rand.New(rand.NewSource(148))
	for i := range 60 {
		row := productRow{list: randomStore(fullStore, int64(i))}
		for range mostProducts {
			p := productNear([]int{0, 998}[source.Intn(2)], source)
			p.Gaps = p.Days
			row.products = append(row.products, p)
		}
		rows = append(rows, row)
	}
	for _, row := range rows {
		values, ok := impl.ProductsAll(row.list, 0, row.products)
		if !ok {
			t.Fatalf("ProductsAll of %v fails; the store is %v", row.products, row.list)
		}
		for version := range row.list {
			values, _ = impl.ProductsNext(row.list, version, row.products, values)
			expectProducts(t, row.list, version+1, row.products, append([]int{}, values...))
		}
	}
}

func TestPromise148ProductsOfOneDayAfterTheOther(t *testing.T) {
	var list []impl.Report
	for day := range mostDays {
		list = append(list, temp(1, 100+day, 10*day))
	}
	var products []impl.Product
	for _, gaps := range []int{0, 1, 5, 10, 11, 12} {
		products = append(products, product(1, temps, 100, mostDays, gaps))
	}
	values := slices.Repeat([]int{noValue}, mostProducts)
	for version := range list {
		anew := 0
		values, anew = impl.ProductsNext(list, version, products, values)
		if anew != mostProducts {
			t.Fatalf("%d products are found anew in version %d", anew, version)
		}
		for i, p := range products {
			want := noValue
			if mostDays-1-version <= p.Gaps {
				want = 5 * version
			}
			if values[i] != want {
				t.Fatalf("the value of %v in version %d is %d", p, version+1, values[i])
			}
		}
	}
}

func TestPromise149ValidProducts(t *testing.T) {
	for _, p := range validProducts() {
		expectProductValid(t, p, true)
		p.Days = 1
		expectProductValid(t, p, true)
		p.Days = 0
		expectProductValid(t, p, false)
		p.Days = 1
		for _, kind := range noKinds() {
			p.Kind = kind
			expectProductValid(t, p, false)
		}
	}
}

func TestPromise149InvalidProducts(t *testing.T) {
	for _, p := range invalidProducts() {
		expectProductValid(t, p, false)
	}
}

func TestPromise149EachLimitOfProducts(t *testing.T) {
	good := product(3, rains, 120, 5, 2)
	for _, row := range []struct {
		field func(p *impl.Product) *int
		low   int
		high  int
	}{
		{func(p *impl.Product) *int { return &p.Station }, 1, lastStation},
		{func(p *impl.Product) *int { return &p.Kind }, temps, pressures},
		{func(p *impl.Product) *int { return &p.First }, 0, lastDay},
		{func(p *impl.Product) *int { return &p.Days }, 1, mostDays},
		{func(p *impl.Product) *int { return &p.Gaps }, 0, mostDays},
	} {
		for n := row.low - 20; n <= row.high+20; n++ {
			p := good
			*row.field(&p) = n
			expectProductValid(t, p, row.low <= n && n <= row.high)
		}
	}
}

// TestProductsKeepArguments has lists that are parts of longer ones, so that
// what is behind them could be overwritten, or taken for a part of them.
func TestProductsKeepArguments(t *testing.T) {
	source := rand.New(rand.NewSource(5))
	longStore := denseStore(fullStore+5, 4, source)
	longProducts := make([]impl.Product, mostProducts+3)
	for i := range longProducts {
		longProducts[i] = product(1+8*(i%2), temps, 4, 1+i, mostDays)
	}
	longValues := []int{9, 8, 7, 6, 5, 4, 3, 2, 1, 0}
	oldStore, oldProducts, oldValues := slices.Clone(longStore), slices.Clone(longProducts), slices.Clone(longValues)
	for _, reports := range []int{0, 1, 2, fullStore - 1, fullStore, fullStore + 1} {
		for many := 0; many <= mostProducts+1; many++ {
			list, products := longStore[:reports], longProducts[:many]
			impl.ProductValue(list, reports/2, longProducts[0])
			_, ok := impl.ProductsAll(list, reports/2, products)
			next, anew := impl.ProductsNext(list, reports/2, products, longValues[:many])
			fine := reports <= fullStore && many <= mostProducts
			if ok != fine || (anew >= 0) != (fine && reports > 0) || len(next) != many && anew >= 0 {
				t.Errorf("the functions return %v, %v and %d for %d reports and %d products", ok, next, anew, reports, many)
			}
		}
	}
	if !slices.Equal(longStore, oldStore) || !slices.Equal(longProducts, oldProducts) || !slices.Equal(longValues, oldValues) {
		t.Errorf("the arguments have become %v, %v and %v", longStore, longProducts, longValues)
	}
}

func TestProductsThatAreReturnedShareNoMemory(t *testing.T) {
	for _, row := range productRows() {
		if len(row.list) == 0 {
			continue
		}
		many := len(row.products)
		version := len(row.list) - 1
		longer := []int{1, 2, 3, 4, 5, 6, 7, 8}
		wantAll := productsBy(row.list[:version], row.products)
		wantNext, wantAnew := nextBy(row, version, longer[:many])
		keptAll, _ := impl.ProductsAll(row.list, version, row.products)
		keptNext, _ := impl.ProductsNext(row.list, version, row.products, longer[:many])
		for range 2 {
			all, ok := impl.ProductsAll(row.list, version, row.products)
			next, anew := impl.ProductsNext(row.list, version, row.products, longer[:many])
			if !ok || anew != wantAnew || !slices.Equal(all, wantAll) || !slices.Equal(next, wantNext) {
				t.Fatalf("the results are %v, %v, %v and %d", all, ok, next, anew)
			}
			overwrite(all, 66)
			overwrite(next, 66)
			if !slices.Equal(longer, []int{1, 2, 3, 4, 5, 6, 7, 8}) || !slices.Equal(keptAll, wantAll) || !slices.Equal(keptNext, wantNext) {
				t.Fatalf("the values have become %v, and the results %v and %v", longer, keptAll, keptNext)
			}
		}
		overwrite(longer, 55)
		if !slices.Equal(keptNext, wantNext) {
			t.Fatalf("the result has become %v", keptNext)
		}
	}
}

// TestProductsAreFoundWhenTheyAreReturned changes the arguments at once, which
// would reach a goroutine that has not ended.
func TestProductsAreFoundWhenTheyAreReturned(t *testing.T) {
	for range 300 {
		list := []impl.Report{temp(1, 4, 10), temp(1, 5, 20), temp(1, 6, 33)}
		products := []impl.Product{product(1, temps, 4, 3, 1), product(1, temps, 6, 1, 0), product(2, temps, 6, 1, 0), product(1, temps, 1, 12, 12), product(1, temps, 4, 2, 0), product(1, temps, 5, 2, 0)}
		values := []int{15, noValue, 8, 15, 15, noValue}
		next, anew := impl.ProductsNext(list, 2, products, values)
		overwrite(list, impl.Report{})
		overwrite(products, impl.Product{})
		overwrite(values, 66)
		if !slices.Equal(next, []int{21, 33, 8, 21, 15, 26}) || anew != 4 {
			t.Fatalf("ProductsNext is %v, %d", next, anew)
		}
	}
}

// TestProductsOfSeveralGoroutines asks for products of the same arguments at
// the same time.
func TestProductsOfSeveralGoroutines(t *testing.T) {
	list := []impl.Report{temp(1, 4, 10), temp(1, 5, 20), temp(1, 6, 33)}
	products := []impl.Product{product(1, temps, 4, 3, 1), product(1, temps, 6, 1, 0), product(2, temps, 6, 1, 0)}
	values := []int{15, noValue, 8}
	done := make(chan []int)
	for range 8 {
		go func() {
			next, _ := impl.ProductsNext(list, 2, products, values)
			done <- next
		}()
	}
	for range 8 {
		if next := <-done; !slices.Equal(next, []int{21, 33, 8}) {
			t.Errorf("ProductsNext is %v", next)
		}
	}
}

func TestProductsKeepNothingBetweenCalls(t *testing.T) {
	p := []impl.Product{product(1, temps, 4, 2, 1)}
	a := []impl.Report{temp(1, 4, 20), temp(1, 5, 30)}
	b := []impl.Report{temp(1, 4, 50)}
	for range 2 {
		expectNext(t, a, 1, p, []int{20}, []int{25}, 1)
		expectNext(t, b, 0, p, []int{noValue}, []int{50}, 1)
		expectNoNext(t, a, 2, p, []int{25})
		expectProducts(t, a, 1, p, []int{20})
		expectProducts(t, b, 1, p, []int{50})
		expectProducts(t, nil, 0, p, []int{noValue})
	}
}
