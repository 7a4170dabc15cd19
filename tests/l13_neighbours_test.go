package tests

import (
	"cmp"
	"math"
	"math/rand"
	"slices"
	"testing"

	"loop.example/weatherarchive/impl"
)

// The limits are written out here as the document has them, so that a wrong
// constant of the program is noticed.
const (
	mostSites      = 6
	lastCoordinate = 999
	judges         = 2
)

func noStations() []int {
	return []int{math.MinInt, math.MinInt + 1, -1<<32 + 1, -9, -1, 0, lastStation + 1, 99, 256 + 1, 1<<32 + 1, math.MaxInt - 1, math.MaxInt}
}

func noCoordinates() []int {
	return []int{math.MinInt, math.MinInt + 1, -1 << 62, -1<<32 + 5, -999, -2, -1, lastCoordinate + 1, lastCoordinate + 2, 9999, 1 << 31, 1<<32 + 5, 1 << 62, math.MaxInt - 1, math.MaxInt}
}

func noNumbersOfStations() []int {
	return []int{math.MinInt, math.MinInt + 1, -1<<32 + 2, -6, -2, -1, mostSites + 1, mostSites + 2, 100, 256 + 2, 1<<32 + 2, 1 << 62, math.MaxInt - 1, math.MaxInt}
}

// networkAt returns a network of the stations from 1 on at some places.
func networkAt(places ...[2]int) []impl.Site {
	var list []impl.Site
	for i, place := range places {
		list = append(list, impl.Site{Station: i + 1, X: place[0], Y: place[1]})
	}
	return list
}

// randomNetwork returns a network of so many sites. Places with small
// coordinates are frequently equally near, or even the same.
func randomNetwork(many int, last int, source *rand.Rand) []impl.Site {
	stations := source.Perm(lastStation)[:many]
	slices.Sort(stations)
	list := make([]impl.Site, many)
	for i := range list {
		list[i] = impl.Site{Station: stations[i] + 1, X: source.Intn(last + 1), Y: source.Intn(last + 1)}
	}
	return list
}

// validNetworks has networks with all numbers of sites.
func validNetworks() [][]impl.Site {
	networks := [][]impl.Site{
		nil, {}, {{Station: 1}}, {{Station: 9, X: 999, Y: 999}},
		{{Station: 1, X: 999}, {Station: 9, Y: 999}},
		{{Station: 1}, {Station: 2, X: 10}, {Station: 3, Y: 5}, {Station: 4, X: 10, Y: 10}},
		{{Station: 4}, {Station: 5}, {Station: 6}, {Station: 7}, {Station: 8}, {Station: 9}},
		networkAt([2]int{500, 500}, [2]int{500, 505}, [2]int{505, 500}, [2]int{500, 495}, [2]int{495, 500}, [2]int{503, 504}),
		networkAt([2]int{0, 0}, [2]int{999, 999}, [2]int{999, 0}, [2]int{0, 999}, [2]int{999, 998}, [2]int{1, 0}),
	}
	source := rand.New(rand.NewSource(13))
	for many := 1; many <= mostSites; many++ {
		for _, last := range []int{0, 1, 2, 10, lastCoordinate} {
			for range 30 {
				networks = append(networks, randomNetwork(many, last, source))
			}
		}
	}
	return networks
}

// invalidNetworks has networks with too many sites, and others with a site
// that is not valid, or not in order, at each place.
func invalidNetworks() [][]impl.Site {
	var networks [][]impl.Site
	for many := mostSites + 1; many <= lastStation; many++ {
		networks = append(networks, networkAt(make([][2]int, many)...))
	}
	networks = append(networks, networkAt(make([][2]int, 256+3)...), networkAt(make([][2]int, 1<<16+3)...))
	good := networkAt([2]int{5, 5}, [2]int{0, 0}, [2]int{10, 3}, [2]int{999, 999}, [2]int{7, 7}, [2]int{7, 8})
	for _, many := range []int{1, 2, 3, mostSites} {
		for place := range many {
			change := func(edit func(s *impl.Site)) {
				list := slices.Clone(good[:many])
				edit(&list[place])
				networks = append(networks, list)
			}
			for _, station := range noStations() {
				change(func(s *impl.Site) { s.Station = station })
			}
			for _, coordinate := range noCoordinates() {
				change(func(s *impl.Site) { s.X = coordinate })
				change(func(s *impl.Site) { s.Y = coordinate })
			}
			if place > 0 {
				change(func(s *impl.Site) { s.Station-- })
			}
		}
		if many > 1 {
			list := slices.Clone(good[:many])
			slices.Reverse(list)
			networks = append(networks, list)
		}
	}
	return networks
}

func stationsOf(list []impl.Site) []int {
	var stations []int
	for _, site := range list {
		stations = append(stations, site.Station)
	}
	return stations
}

func siteOf(list []impl.Site, station int) impl.Site {
	return list[slices.Index(stationsOf(list), station)]
}

func squareBetween(a impl.Site, b impl.Site) int {
	return (a.X-b.X)*(a.X-b.X) + (a.Y-b.Y)*(a.Y-b.Y)
}

// nearestBy tells by other means than the program which stations are nearest:
// it sorts all others.
func nearestBy(list []impl.Site, station int, many int) []int {
	from := siteOf(list, station)
	others := slices.DeleteFunc(slices.Clone(list), func(s impl.Site) bool { return s.Station == station })
	slices.SortFunc(others, func(a impl.Site, b impl.Site) int {
		return cmp.Or(cmp.Compare(squareBetween(from, a), squareBetween(from, b)), cmp.Compare(a.Station, b.Station))
	})
	return stationsOf(others[:min(many, len(others))])
}

// isMedian reports whether a number is the lower one of the values in the
// middle: it counts the values on both sides.
func isMedian(values []int, n int) bool {
	less, notGreater := 0, 0
	for _, value := range values {
		if value < n {
			less++
		}
		if value <= n {
			notGreater++
		}
	}
	return slices.Contains(values, n) && 2*less < len(values) && 2*notGreater >= len(values)
}

func medianBy(values []int) int {
	place := slices.IndexFunc(values, func(n int) bool { return isMedian(values, n) })
	return values[place]
}

func doubtfulBy(list []impl.Site, values []int, many int, most int) []int {
	var doubtful []int
	for i, site := range list {
		var near []int
		for _, station := range nearestBy(list, site.Station, many) {
			near = append(near, values[slices.Index(stationsOf(list), station)])
		}
		known := knownOf(near)
		if values[i] != noValue && len(known) >= judges && apart(values[i], medianBy(known)) > most {
			doubtful = append(doubtful, site.Station)
		}
	}
	return doubtful
}

func expectNearest(t *testing.T, list []impl.Site, station int, many int, want []int) {
	t.Helper()
	if got := impl.NearestOf(list, station, many); !slices.Equal(got, want) {
		t.Fatalf("NearestOf of %v, %d, %d is %v, not %v", list, station, many, got, want)
	}
}

func expectMedian(t *testing.T, list []int, want int, fine bool) {
	t.Helper()
	if got, ok := impl.MedianOf(list); got != want || ok != fine {
		t.Fatalf("MedianOf of %v is %d, %v, not %d, %v", list, got, ok, want, fine)
	}
}

func expectDoubtful(t *testing.T, list []impl.Site, values []int, many int, most int, want []int) {
	t.Helper()
	if got := impl.DoubtfulOf(list, values, many, most); !slices.Equal(got, want) {
		t.Fatalf("DoubtfulOf of %v, %v, %d, %d is %v, not %v", list, values, many, most, got, want)
	}
}

func TestConstantsOfNeighbours(t *testing.T) {
	if impl.SiteMax != mostSites {
		t.Errorf("SiteMax is %d", impl.SiteMax)
	}
}

func TestPromise52Examples(t *testing.T) {
	list := networkAt([2]int{0, 0}, [2]int{10, 0}, [2]int{0, 5}, [2]int{10, 10})
	for _, row := range []struct {
		station int
		many    int
		want    []int
	}{
		{1, 0, nil}, {1, 1, []int{3}}, {1, 2, []int{3, 2}}, {1, 3, []int{3, 2, 4}}, {1, 4, []int{3, 2, 4}}, {1, 6, []int{3, 2, 4}},
		{2, 3, []int{1, 4, 3}},
		{3, 3, []int{1, 2, 4}},
		{4, 3, []int{2, 3, 1}},
	} {
		expectNearest(t, list, row.station, row.many, row.want)
	}
}

// TestPromise52EquallyNearStations has sites in several directions; the
// distances would not be equal if they were no straight lines.
func TestPromise52EquallyNearStations(t *testing.T) {
	around := networkAt([2]int{503, 504}, [2]int{500, 495}, [2]int{500, 500}, [2]int{495, 500}, [2]int{504, 497}, [2]int{505, 500})
	expectNearest(t, around, 3, 6, []int{1, 2, 4, 5, 6})
	for many := range 6 {
		expectNearest(t, around, 3, many, []int{1, 2, 4, 5, 6}[:many])
	}
	around[5].X-- // now it is nearer
	expectNearest(t, around, 3, 3, []int{6, 1, 2})
	around[0].X++ // now it is farther away
	expectNearest(t, around, 3, 6, []int{6, 2, 4, 5, 1})
	expectNearest(t, []impl.Site{{Station: 2, X: 5}, {Station: 5}, {Station: 8, X: 3, Y: 3}, {Station: 9, Y: 5}}, 5, 3, []int{8, 2, 9})
	expectNearest(t, []impl.Site{{Station: 2, X: 4, Y: 1}, {Station: 5}, {Station: 8, X: 3, Y: 3}}, 5, 2, []int{2, 8})
	expectNearest(t, []impl.Site{{Station: 2, X: 4, Y: 4}, {Station: 5}, {Station: 8, X: 5}, {Station: 9, X: 1, Y: 6}}, 5, 3, []int{8, 2, 9})
}

func TestPromise52SitesAtOnePoint(t *testing.T) {
	for _, place := range [][2]int{{0, 0}, {0, 999}, {999, 0}, {999, 999}, {5, 7}} {
		list := networkAt(place, place, place, place, place, place)
		for station := 1; station <= mostSites; station++ {
			var others []int
			for other := 1; other <= mostSites; other++ {
				if other != station {
					others = append(others, other)
				}
			}
			for many := 0; many <= mostSites; many++ {
				expectNearest(t, list, station, many, others[:min(many, 5)])
			}
		}
	}
}

func TestPromise52GreatestDistances(t *testing.T) {
	list := networkAt([2]int{0, 0}, [2]int{999, 999}, [2]int{999, 998}, [2]int{998, 999}, [2]int{999, 0}, [2]int{0, 998})
	expectNearest(t, list, 1, 6, []int{6, 5, 3, 4, 2})
	expectNearest(t, list, 2, 6, []int{3, 4, 5, 6, 1})
	expectNearest(t, list, 5, 6, []int{3, 1, 2, 4, 6})
	expectNearest(t, list, 6, 6, []int{1, 4, 3, 2, 5})
}

func TestPromise52AllOrders(t *testing.T) {
	places := [][2]int{{100, 101}, {102, 100}, {97, 100}, {100, 104}, {105, 105}}
	for _, order := range smallSeries(5, []int{0, 1, 2, 3, 4}) { // with places that are several times there, too
		list := networkAt([2]int{100, 100})
		for i, place := range order {
			list = append(list, impl.Site{Station: i + 2, X: places[place][0], Y: places[place][1]})
		}
		for station := 1; station <= mostSites; station++ {
			expectNearest(t, list, station, 5, nearestBy(list, station, 5))
		}
	}
}

// TestPromise53NumbersOfStations also asks for more stations than there are.
func TestPromise53NumbersOfStations(t *testing.T) {
	for _, list := range validNetworks() {
		for _, station := range stationsOf(list) {
			for many := 0; many <= mostSites; many++ {
				want := nearestBy(list, station, many)
				if len(want) != min(many, len(list)-1) {
					t.Fatalf("there are only %d stations near %d in %v", len(want), station, list)
				}
				expectNearest(t, list, station, many, want)
			}
		}
	}
}

func TestPromise53NoneIsNearerThanTheLastOne(t *testing.T) {
	for _, list := range validNetworks() {
		for _, from := range list {
			for many := 1; many < len(list); many++ {
				near := impl.NearestOf(list, from.Station, many)
				if len(near) != many || slices.Contains(near, from.Station) {
					t.Fatalf("NearestOf of %v, %d, %d is %v", list, from.Station, many, near)
				}
				last := siteOf(list, near[many-1])
				for _, other := range list {
					if other != from && !slices.Contains(near, other.Station) && squareBetween(from, other) < squareBetween(from, last) {
						t.Fatalf("NearestOf of %v, %d, %d is %v, without the nearer station %d", list, from.Station, many, near, other.Station)
					}
				}
			}
		}
	}
}

func TestPromise53StationsThatAreNotThere(t *testing.T) {
	for _, list := range validNetworks() {
		for station := 0; station <= lastStation+1; station++ {
			if !slices.Contains(stationsOf(list), station) {
				for many := 0; many <= mostSites; many++ {
					expectNearest(t, list, station, many, nil)
				}
			}
		}
		for _, station := range noStations() {
			expectNearest(t, list, station, 2, nil)
			expectNearest(t, list, station, mostSites, nil)
		}
	}
}

func TestPromise53OtherNumbersLeadToNothing(t *testing.T) {
	for _, many := range noNumbersOfStations() {
		for _, list := range validNetworks() {
			for _, station := range stationsOf(list) {
				expectNearest(t, list, station, many, nil)
			}
		}
	}
}

func TestPromise53InvalidNetworksLeadToNothing(t *testing.T) {
	for _, list := range invalidNetworks() {
		for _, station := range stationsOf(list[:min(len(list), 10)]) {
			for _, many := range []int{-1, 0, 1, 2, mostSites, mostSites + 1} {
				expectNearest(t, list, station, many, nil)
			}
		}
	}
}

func TestPromise54OneStationLess(t *testing.T) {
	for _, list := range validNetworks() {
		for station := 1; station <= lastStation; station++ {
			for many := 1; many <= mostSites; many++ {
				if near := impl.NearestOf(list, station, many); len(near) > 0 {
					expectNearest(t, list, station, len(near)-1, near[:len(near)-1])
				}
			}
		}
	}
}

func TestPromise55Examples(t *testing.T) {
	n := noValue
	for _, row := range []struct {
		list []int
		want int
	}{
		{[]int{5}, 5}, {[]int{0}, 0}, {[]int{-999}, -999}, {[]int{10999}, 10999},
		{[]int{5, 9}, 5}, {[]int{9, 5}, 5}, {[]int{-1, 0}, -1}, {[]int{0, -1}, -1},
		{[]int{3, 9, 5}, 5}, {[]int{9, 5, 3}, 5}, {[]int{5, 5, 1}, 5}, {[]int{5, 1, 1}, 1},
		{[]int{7, n, 3, 9, 4}, 4}, {[]int{4, 3, 2, 1}, 2}, {[]int{1, 2, 3, 4}, 2},
		{[]int{n, 8}, 8}, {[]int{8, n}, 8}, {[]int{n, n, -3, n, n}, -3}, {[]int{2, n, n, 1}, 1}, {[]int{n, 6, n, 2, n, 4, n}, 4},
		{[]int{12, 11, 10, 9, 8, 7, 6, 5, 4, 3, 2, 1}, 6},
		{[]int{11, 10, 9, 8, 7, 6, 5, 4, 3, 2, 1}, 6},
		{slices.Repeat([]int{7}, 12), 7},
		{[]int{100, -999, 10999}, 100},
	} {
		expectMedian(t, row.list, row.want, true)
	}
}

func TestPromise55AllSmallSeries(t *testing.T) {
	for days := 1; days <= 6; days++ {
		for _, list := range smallSeries(days, []int{noValue, -2, 0, 1, 10}) {
			if known := knownOf(list); len(known) == 0 {
				expectMedian(t, list, 0, false)
			} else {
				expectMedian(t, list, medianBy(known), true)
			}
		}
	}
}

func TestPromise55HalfOfTheValues(t *testing.T) {
	for _, list := range validSeries() {
		known := knownOf(list)
		got, ok := impl.MedianOf(list)
		if ok != (len(known) > 0) || ok && !isMedian(known, got) || !ok && got != 0 {
			t.Fatalf("MedianOf of %v is %d, %v", list, got, ok)
		}
	}
}

func TestPromise55InvalidSeriesFail(t *testing.T) {
	for _, list := range invalidSeries() {
		expectMedian(t, list, 0, false)
	}
	for days := 1; days <= mostDays+1; days++ {
		expectMedian(t, slices.Repeat([]int{noValue}, days), 0, false)
	}
}

func TestPromise56OtherDirectionAndGreaterValues(t *testing.T) {
	for _, list := range validSeries() {
		want, ok := impl.MedianOf(list)
		expectMedian(t, reversed(list), want, ok)
		if !ok {
			continue
		}
		if slices.Contains(list, mostReading) {
			expectMedian(t, shifted(list, 1), 0, false)
		} else {
			expectMedian(t, shifted(list, 1), want+1, true)
		}
	}
}

func TestPromise57Examples(t *testing.T) {
	n := noValue
	list := networkAt([2]int{0, 0}, [2]int{10, 0}, [2]int{0, 5}, [2]int{10, 10})
	for _, row := range []struct {
		values []int
		many   int
		most   int
		want   []int
	}{
		{[]int{50, 10, 12, 11}, 3, 20, []int{1}},
		{[]int{50, 10, 12, 11}, 2, 20, []int{1}}, // 3 has 1 and 2 near it, and the lower one of 50 and 10 is its median
		{[]int{50, 10, 12, 11}, 1, 0, nil},
		{[]int{50, 10, 12, 11}, 0, 0, nil},
		{[]int{50, 10, 12, 11}, 6, 20, []int{1}},
		{[]int{50, 10, 12, 11}, 3, 39, nil},
		{[]int{50, 10, 12, 11}, 3, 38, []int{1}},
		{[]int{50, 10, 12, 11}, 3, 0, []int{1, 2, 3, 4}},
		{[]int{50, n, 12, 11}, 3, 20, []int{1}},
		{[]int{50, n, n, 11}, 3, 0, nil},
		{[]int{n, 10, 12, 90}, 3, 20, []int{4}},
		{[]int{n, n, n, n}, 3, 0, nil},
		{[]int{-30, 10, 12, 11}, 3, 40, []int{1}},
		{[]int{-30, 10, 12, 11}, 3, 41, nil},
	} {
		expectDoubtful(t, list, row.values, row.many, row.most, row.want)
	}
}

// TestPromise57LimitsAreInclusive has values of both sides of the median of
// the others, which is always the same.
func TestPromise57LimitsAreInclusive(t *testing.T) {
	list := networkAt([2]int{500, 500}, [2]int{510, 500}, [2]int{490, 500})
	for _, median := range []int{leastReading, -1, 0, 1, 700, mostReading} {
		for _, value := range []int{leastReading, -2, 0, 1, 701, mostReading} {
			values := []int{value, median, median}
			difference := apart(value, median)
			expectDoubtful(t, list, values, 2, difference, nil)
			expectDoubtful(t, list, values, 2, difference+1, nil)
			if difference > 0 {
				want := doubtfulBy(list, values, 2, difference-1)
				if !slices.Contains(want, 1) {
					t.Fatalf("station 1 is not doubtful with %v", values)
				}
				expectDoubtful(t, list, values, 2, difference-1, want)
			}
		}
	}
}

// TestPromise57NumbersOfNeighbours has no, one, two and three neighbours that
// have a value.
func TestPromise57NumbersOfNeighbours(t *testing.T) {
	n := noValue
	list := networkAt([2]int{0, 0}, [2]int{1, 0}, [2]int{2, 0}, [2]int{3, 0})
	expectDoubtful(t, list, []int{90, n, n, n}, 3, 0, nil)
	expectDoubtful(t, list, []int{90, 5, n, n}, 3, 0, nil)
	expectDoubtful(t, list, []int{90, n, 5, n}, 3, 0, nil)
	expectDoubtful(t, list, []int{90, n, n, 5}, 3, 0, nil)
	expectDoubtful(t, list, []int{90, 5, 5, n}, 3, 0, []int{1})
	expectDoubtful(t, list, []int{90, n, 5, 5}, 3, 0, []int{1})
	expectDoubtful(t, list, []int{90, n, 5, 5}, 2, 0, nil)
	expectDoubtful(t, list, []int{90, 5, n, 5}, 2, 0, nil)
	expectDoubtful(t, list, []int{90, 5, n, 5}, 3, 0, []int{1})
	expectDoubtful(t, list, []int{90, 5, 5, n}, 2, 0, []int{1})
	expectDoubtful(t, list, []int{90, 5, 5, 5}, 3, 0, []int{1})
	expectDoubtful(t, list, []int{n, 5, 5, 90}, 3, 0, []int{4})
	expectDoubtful(t, []impl.Site{{Station: 7}}, []int{90}, 6, 0, nil)
	expectDoubtful(t, networkAt([2]int{0, 0}, [2]int{1, 0}), []int{90, 5}, 6, 0, nil)
}

func TestPromise57StationsWithOtherNumbers(t *testing.T) {
	list := []impl.Site{{Station: 2}, {Station: 5, X: 1}, {Station: 9, X: 2}}
	expectDoubtful(t, list, []int{5, 90, 6}, 2, 10, []int{5})
	expectDoubtful(t, list, []int{5, 6, 90}, 2, 10, []int{9})
	expectDoubtful(t, list, []int{90, 6, 5}, 2, 10, []int{2})
	expectDoubtful(t, list, []int{90, 50, 5}, 2, 10, []int{2, 5, 9})
	expectDoubtful(t, list, []int{50, 90, 5}, 2, 44, []int{2, 5, 9})
	expectDoubtful(t, list, []int{50, 90, 5}, 2, 45, []int{5})
}

// somePlaceValues returns values for a network: equal ones, very different
// ones, and none.
func somePlaceValues(many int, source *rand.Rand) []int {
	list := make([]int, many)
	for i := range list {
		list[i] = []int{noValue, leastReading, 0, 1, 2, 10, mostReading}[source.Intn(7)]
	}
	return list
}

func TestPromise57AllNetworks(t *testing.T) {
	source := rand.New(rand.NewSource(57))
	for _, list := range validNetworks() {
		if len(list) == 0 {
			continue
		}
		for range 6 {
			values := somePlaceValues(len(list), source)
			for many := 0; many <= mostSites; many++ {
				for _, most := range []int{0, 1, 2, 9, 10, 998, 999, 1000, 11997, 11998, math.MaxInt} {
					expectDoubtful(t, list, values, many, most, doubtfulBy(list, values, many, most))
				}
			}
		}
	}
}

func TestPromise57OtherLimitsLeadToNothing(t *testing.T) {
	list := networkAt([2]int{0, 0}, [2]int{10, 0}, [2]int{0, 5}, [2]int{10, 10})
	for _, most := range []int{math.MinInt, math.MinInt + 1, -1<<32 + 5, -11999, -2, -1} {
		expectDoubtful(t, list, []int{50, 10, 12, 11}, 3, most, nil)
		expectDoubtful(t, list, []int{leastReading, mostReading, 0, 0}, 3, most, nil)
	}
	for _, most := range []int{11998, 11999, mostStep + 1, 1 << 31, 1 << 32, math.MaxInt - 1, math.MaxInt} {
		expectDoubtful(t, list, []int{leastReading, mostReading, mostReading, mostReading}, 3, most, nil)
	}
	expectDoubtful(t, list, []int{leastReading, mostReading, mostReading, mostReading}, 3, 11997, []int{1})
}

func TestPromise57OtherNumbersLeadToNothing(t *testing.T) {
	list := networkAt([2]int{0, 0}, [2]int{10, 0}, [2]int{0, 5}, [2]int{10, 10})
	for _, many := range noNumbersOfStations() {
		expectDoubtful(t, list, []int{50, 10, 12, 11}, many, 0, nil)
	}
}

func TestPromise57InvalidNetworksLeadToNothing(t *testing.T) {
	for _, list := range invalidNetworks() {
		values := manyReadings(len(list), 1)
		for _, many := range []int{0, 2, mostSites} {
			expectDoubtful(t, list, values, many, 0, nil)
		}
	}
	for _, list := range [][]impl.Site{nil, {}} {
		for _, values := range [][]int{nil, {}, {5}, {noValue}, {5, 90, 5}} {
			expectDoubtful(t, list, values, 2, 0, nil)
		}
	}
}

func TestPromise57OtherNumbersOfValuesLeadToNothing(t *testing.T) {
	for many := 1; many <= mostSites; many++ {
		list := networkAt([][2]int{{0, 0}, {1, 0}, {2, 0}, {3, 0}, {4, 0}, {5, 0}}[:many]...)
		expectDoubtful(t, list, nil, 3, 0, nil)
		for days := 0; days <= mostDays+1; days++ {
			if days != many {
				values := make([]int, days)
				for i := range values {
					values[i] = i * i * 10
				}
				expectDoubtful(t, list, values, 3, 0, nil)
			}
		}
	}
}

func TestPromise57NumbersThatAreNoValuesLeadToNothing(t *testing.T) {
	list := networkAt([2]int{0, 0}, [2]int{10, 0}, [2]int{0, 5}, [2]int{10, 10})
	for _, bad := range noValues() {
		for place := range list {
			values := []int{50, 10, 90, 0}
			values[place] = bad
			expectDoubtful(t, list, values, 3, 0, nil)
		}
	}
}

func TestPromise58GreaterLimits(t *testing.T) {
	source := rand.New(rand.NewSource(58))
	for _, list := range validNetworks() {
		if len(list) == 0 {
			continue
		}
		values := make([]int, len(list))
		for i := range values {
			values[i] = source.Intn(12)
		}
		for many := 0; many <= mostSites; many++ {
			before := stationsOf(list)
			for most := 0; most <= 12; most++ {
				doubtful := impl.DoubtfulOf(list, values, many, most)
				for _, station := range doubtful {
					if !slices.Contains(before, station) {
						t.Fatalf("DoubtfulOf of %v, %v, %d, %d is %v, but %v with the limit before", list, values, many, most, doubtful, before)
					}
				}
				before = doubtful
			}
			if len(before) > 0 {
				t.Fatalf("DoubtfulOf of %v, %v, %d, 12 is %v", list, values, many, before)
			}
		}
	}
}

func TestPromise59WithoutAnySite(t *testing.T) {
	for _, list := range validNetworks() {
		if !impl.SitesValid(list) {
			t.Fatalf("the network %v is invalid", list)
		}
		for i, site := range list {
			if without := slices.Delete(slices.Clone(list), i, i+1); !impl.SitesValid(without) {
				t.Fatalf("the network %v is invalid", without)
			}
			for place := 0; place <= len(list); place++ {
				if with := slices.Insert(slices.Clone(list), place, site); impl.SitesValid(with) {
					t.Fatalf("the network %v is valid", with)
				}
			}
		}
	}
}

func TestPromise59Stations(t *testing.T) {
	for a := -1; a <= lastStation+2; a++ {
		if valid := impl.SitesValid([]impl.Site{{Station: a}}); valid != (1 <= a && a <= lastStation) {
			t.Errorf("the validity of a network with the station %d is %v", a, valid)
		}
		for b := -1; b <= lastStation+2; b++ {
			list := []impl.Site{{Station: a, X: 1}, {Station: b}}
			if valid := impl.SitesValid(list); valid != (1 <= a && a < b && b <= lastStation) {
				t.Errorf("the validity of a network with the stations %d and %d is %v", a, b, valid)
			}
		}
	}
}

func TestPromise59Coordinates(t *testing.T) {
	for n := -3; n <= lastCoordinate+3; n++ {
		want := 0 <= n && n <= lastCoordinate
		for _, site := range []impl.Site{{Station: 3, X: n}, {Station: 3, Y: n}, {Station: 3, X: n, Y: n}, {Station: 3, X: n, Y: lastCoordinate}} {
			if valid := impl.SitesValid([]impl.Site{site}); valid != want {
				t.Errorf("the validity of a network with %v is %v", site, valid)
			}
		}
	}
}

func TestPromise59InvalidNetworks(t *testing.T) {
	for _, list := range invalidNetworks() {
		if impl.SitesValid(list) {
			t.Fatalf("the network %v is valid", list)
		}
	}
}

func TestPromise59NumbersOfSites(t *testing.T) {
	for many := 0; many <= lastStation; many++ {
		list := networkAt(make([][2]int, many)...)
		if valid := impl.SitesValid(list); valid != (many <= mostSites) {
			t.Errorf("the validity of a network with %d sites is %v", many, valid)
		}
	}
}

// TestNeighboursKeepArguments has lists that are parts of longer ones, so that
// what is behind them could be overwritten.
func TestNeighboursKeepArguments(t *testing.T) {
	places := [][2]int{{9, 9}, {0, 0}, {5, 3}, {9, 8}, {2, 7}, {1, 1}, {4, 4}, {3, 3}}
	for many := 0; many <= mostSites+1; many++ {
		list := networkAt(places...)
		values := []int{90, 5, noValue, 7, 3, 60, noValue, 1}
		oldList, oldValues := slices.Clone(list), slices.Clone(values)
		for range 2 {
			impl.SitesValid(list[:many])
			near := impl.NearestOf(list[:many], 1, mostSites)
			_, ok := impl.MedianOf(values[:many])
			impl.DoubtfulOf(list[:many], values[:many], 3, 10)
			if valid := 1 <= many && many <= mostSites; valid && len(near) != many-1 || !valid && len(near) != 0 || ok != (many > 0) {
				t.Errorf("the functions return %v and %v for %d sites", near, ok, many)
			}
		}
		if !slices.Equal(list, oldList) || !slices.Equal(values, oldValues) {
			t.Errorf("%v and %v have become %v and %v", oldList, oldValues, list, values)
		}
	}
}

func TestStationsThatAreReturnedShareNoMemory(t *testing.T) {
	list := networkAt([2]int{0, 0}, [2]int{10, 0}, [2]int{0, 5}, [2]int{10, 10})
	values := []int{90, 50, 12, 11}
	oldList, oldValues := slices.Clone(list), slices.Clone(values)
	for range 2 {
		near := impl.NearestOf(list, 1, 2)
		again := impl.NearestOf(list, 1, 2)
		doubtful := impl.DoubtfulOf(list, values, 3, 38)
		if !slices.Equal(near, []int{3, 2}) || !slices.Equal(doubtful, []int{1, 4}) {
			t.Fatalf("NearestOf is %v, and DoubtfulOf %v", near, doubtful)
		}
		overwrite(near, 66)
		overwrite(doubtful, 66)
		if !slices.Equal(again, []int{3, 2}) || !slices.Equal(list, oldList) || !slices.Equal(values, oldValues) {
			t.Fatalf("%v, %v and %v are no more what they were", again, list, values)
		}
	}
}
