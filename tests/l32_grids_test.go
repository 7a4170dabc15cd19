package tests

import (
	"cmp"
	"math"
	"math/rand"
	"slices"
	"sync"
	"testing"

	"loop.example/weatherarchive/impl"
)

// The limits are written out here as the document has them, so that a wrong
// constant of the program is noticed.
const (
	mostCells = 6
	mostSize  = 100
)

func noCells() []int {
	return []int{math.MinInt, math.MinInt + 1, -1 << 62, -1<<32 + 3, -1 << 31, -6, -2, -1, 0, mostCells + 1, mostCells + 2, 12, 100, 256 + 3, 1<<16 + 3, 1 << 31, 1<<32 + 3, 1 << 62, math.MaxInt - 1, math.MaxInt}
}

func noSizes() []int {
	return []int{math.MinInt, math.MinInt + 1, -1 << 62, -1<<32 + 5, -1 << 31, -mostSize, -2, -1, 0, mostSize + 1, mostSize + 2, 256 + 5, 999, 1<<16 + 5, 1 << 31, 1<<32 + 5, 1 << 62, math.MaxInt - 1, math.MaxInt}
}

// gridShape is what a grid is asked for with.
type gridShape struct {
	wide int
	high int
	size int
}

// gridShapes has the least and the greatest numbers, single rows and columns,
// and others between them.
func gridShapes() []gridShape {
	return []gridShape{
		{1, 1, 1}, {1, 1, mostSize}, {2, 1, 1}, {1, 2, 1}, {mostCells, 1, 1}, {1, mostCells, 1}, {mostCells, 1, mostSize}, {1, mostCells, mostSize},
		{2, 3, 5}, {3, 2, 5}, {4, 5, 2}, {5, 4, 99}, {mostCells, mostCells, 1}, {mostCells, mostCells, 2}, {mostCells, mostCells, 50}, {mostCells, mostCells, mostSize},
	}
}

// wrongShapes has shapes with a single number that is not in range, and others
// in which all are wrong.
func wrongShapes() []gridShape {
	var shapes []gridShape
	for _, bad := range noCells() {
		shapes = append(shapes, gridShape{bad, 1, 1}, gridShape{1, bad, 1}, gridShape{mostCells, bad, mostSize}, gridShape{bad, mostCells, mostSize}, gridShape{bad, bad, 10})
	}
	for _, bad := range noSizes() {
		shapes = append(shapes, gridShape{1, 1, bad}, gridShape{mostCells, mostCells, bad}, gridShape{2, 3, bad}, gridShape{0, 0, bad})
	}
	return shapes
}

// gridNetworks has networks that have sites: those of the chapter before, and
// others whose sites are at the cells, between them and behind them, so that
// many are equally near.
func gridNetworks() [][]impl.Site {
	networks := slices.DeleteFunc(validNetworks(), func(list []impl.Site) bool { return len(list) == 0 })
	networks = append(networks,
		[]impl.Site{{Station: 2}, {Station: 5, X: 20}},
		[]impl.Site{{Station: 2, X: 20}, {Station: 5}},
		[]impl.Site{{Station: 1, X: 10}, {Station: 3, Y: 10}, {Station: 4, X: 10, Y: 10}, {Station: 9}},
		networkAt([2]int{500, 500}, [2]int{0, 0}, [2]int{500, 0}, [2]int{0, 500}, [2]int{250, 250}, [2]int{200, 300}),
		networkAt([2]int{1, 1}, [2]int{3, 1}, [2]int{1, 3}, [2]int{3, 3}, [2]int{5, 5}, [2]int{0, 5}),
	)
	source := rand.New(rand.NewSource(32))
	for many := 1; many <= mostSites; many++ {
		for _, size := range []int{1, 2, 50, mostSize} {
			for range 6 {
				list := randomNetwork(many, 7, source)
				for i := range list {
					list[i].X, list[i].Y = list[i].X*size, list[i].Y*size
				}
				networks = append(networks, list)
			}
		}
	}
	return networks
}

// nearestAtBy tells by other means than the program which station a cell has:
// it sorts all.
func nearestAtBy(list []impl.Site, x int, y int) int {
	sites := slices.Clone(list)
	slices.SortFunc(sites, func(a impl.Site, b impl.Site) int {
		cell := impl.Site{X: x, Y: y}
		return cmp.Or(cmp.Compare(squareBetween(cell, a), squareBetween(cell, b)), cmp.Compare(a.Station, b.Station))
	})
	return sites[0].Station
}

func gridBy(list []impl.Site, s gridShape) [][]int {
	var rows [][]int
	for y := range s.high {
		var row []int
		for x := range s.wide {
			row = append(row, nearestAtBy(list, x*s.size, y*s.size))
		}
		rows = append(rows, row)
	}
	return rows
}

// gridValuesBy takes away all sites without a value, and then asks for the
// stations.
func gridValuesBy(list []impl.Site, values []int, s gridShape) [][]int {
	var sites []impl.Site
	told := map[int]int{}
	for i, site := range list {
		if values[i] != noValue {
			sites = append(sites, site)
			told[site.Station] = values[i]
		}
	}
	if len(sites) == 0 {
		return nil
	}
	rows := gridBy(sites, s)
	for _, row := range rows {
		for x := range row {
			row[x] = told[row[x]]
		}
	}
	return rows
}

func shareBy(list []impl.Site, s gridShape, station int) int {
	share := 0
	for _, row := range gridBy(list, s) {
		for _, cell := range row {
			if cell == station {
				share++
			}
		}
	}
	return share
}

func sameRows(a [][]int, b [][]int) bool {
	return slices.EqualFunc(a, b, func(x []int, y []int) bool { return slices.Equal(x, y) })
}

func cloneRows(rows [][]int) [][]int {
	var all [][]int
	for _, row := range rows {
		all = append(all, slices.Clone(row))
	}
	return all
}

// sameEverywhere has one number in all cells.
func sameEverywhere(s gridShape, number int) [][]int {
	var rows [][]int
	for range s.high {
		rows = append(rows, slices.Repeat([]int{number}, s.wide))
	}
	return rows
}

// expectGrid takes nothing as a want that is a failure.
func expectGrid(t *testing.T, list []impl.Site, s gridShape, want [][]int) {
	t.Helper()
	if got, ok := impl.GridOf(list, s.wide, s.high, s.size); !sameRows(got, want) || ok != (len(want) > 0) {
		t.Fatalf("GridOf of %v and %v is %v, %v, not %v", list, s, got, ok, want)
	}
}

func expectGridValues(t *testing.T, list []impl.Site, values []int, s gridShape, want [][]int) {
	t.Helper()
	if got, ok := impl.GridValues(list, values, s.wide, s.high, s.size); !sameRows(got, want) || ok != (len(want) > 0) {
		t.Fatalf("GridValues of %v, %v and %v is %v, %v, not %v", list, values, s, got, ok, want)
	}
}

func expectShare(t *testing.T, list []impl.Site, s gridShape, station int, want int) {
	t.Helper()
	if got := impl.GridShare(list, s.wide, s.high, s.size, station); got != want {
		t.Fatalf("GridShare of %v, %v and %d is %d, not %d", list, s, station, got, want)
	}
}

func TestConstantsOfGrids(t *testing.T) {
	if impl.GridMax != mostCells {
		t.Errorf("GridMax is %d", impl.GridMax)
	}
}

func TestPromise107GridExamples(t *testing.T) {
	list := []impl.Site{{Station: 2}, {Station: 5, X: 20}}
	expectGrid(t, list, gridShape{3, 1, 10}, [][]int{{2, 2, 5}}) // the cell in the middle is equally near to both
	expectGrid(t, list, gridShape{3, 2, 11}, [][]int{{2, 5, 5}, {2, 5, 5}})
	expectGrid(t, list, gridShape{1, 3, 10}, [][]int{{2}, {2}, {2}})
	list = []impl.Site{{Station: 2, X: 20}, {Station: 5}}
	expectGrid(t, list, gridShape{3, 1, 10}, [][]int{{5, 2, 2}})
	expectGrid(t, list, gridShape{4, 2, 9}, [][]int{{5, 5, 2, 2}, {5, 5, 2, 2}})
	list = []impl.Site{{Station: 3, Y: 20}, {Station: 7, Y: 4}}
	expectGrid(t, list, gridShape{2, 4, 6}, [][]int{{7, 7}, {7, 7}, {3, 3}, {3, 3}})
	list = networkAt([2]int{0, 0}, [2]int{30, 0}, [2]int{0, 30}, [2]int{30, 30})
	expectGrid(t, list, gridShape{4, 4, 10}, [][]int{{1, 1, 2, 2}, {1, 1, 2, 2}, {3, 3, 4, 4}, {3, 3, 4, 4}})
	expectGrid(t, list, gridShape{3, 3, 15}, [][]int{{1, 1, 2}, {1, 1, 2}, {3, 3, 4}})
	expectGrid(t, list, gridShape{1, 1, 100}, [][]int{{1}})
	expectGrid(t, list, gridShape{2, 2, 100}, [][]int{{1, 2}, {3, 4}})
}

// TestPromise107StraightLines has distances that would be others if they were
// no straight lines.
func TestPromise107StraightLines(t *testing.T) {
	list := []impl.Site{{Station: 1, X: 3, Y: 3}, {Station: 2, X: 5, Y: 0}} // 18 and 25 from the origin
	expectGrid(t, list, gridShape{1, 1, 1}, [][]int{{1}})
	list = []impl.Site{{Station: 1, X: 4, Y: 4}, {Station: 2, X: 5, Y: 0}} // 32 and 25
	expectGrid(t, list, gridShape{1, 1, 1}, [][]int{{2}})
	list = []impl.Site{{Station: 1, X: 5, Y: 0}, {Station: 2, X: 3, Y: 4}, {Station: 3, X: 4, Y: 3}, {Station: 4, X: 0, Y: 5}} // 25
	expectGrid(t, list, gridShape{1, 1, 1}, [][]int{{1}})
	expectGrid(t, list[1:], gridShape{1, 1, 1}, [][]int{{2}})
	expectGrid(t, list[2:], gridShape{1, 1, 1}, [][]int{{3}})
	list = []impl.Site{{Station: 6, X: 999, Y: 999}, {Station: 8, X: 999, Y: 998}}
	expectGrid(t, list, gridShape{2, 1, 100}, [][]int{{8, 8}})
}

func TestPromise107GridsOfAllNetworks(t *testing.T) {
	for _, list := range gridNetworks() {
		for _, s := range gridShapes() {
			expectGrid(t, list, s, gridBy(list, s))
		}
	}
}

func TestPromise107NoStationIsNearer(t *testing.T) {
	for _, list := range gridNetworks() {
		for _, s := range gridShapes() {
			rows, ok := impl.GridOf(list, s.wide, s.high, s.size)
			if !ok || len(rows) != s.high {
				t.Fatalf("GridOf of %v and %v is %v, %v", list, s, rows, ok)
			}
			for y, row := range rows {
				if len(row) != s.wide {
					t.Fatalf("GridOf of %v and %v is %v", list, s, rows)
				}
				for x, station := range row {
					cell := impl.Site{X: x * s.size, Y: y * s.size}
					far := squareBetween(cell, siteOf(list, station))
					for _, other := range list {
						if otherFar := squareBetween(cell, other); otherFar < far || otherFar == far && other.Station < station {
							t.Fatalf("GridOf of %v and %v is %v, but the station %d is nearer to the cell %d, %d", list, s, rows, other.Station, x, y)
						}
					}
				}
			}
		}
	}
}

func TestPromise107AllShapesOfGrids(t *testing.T) {
	list := networkAt([2]int{7, 0}, [2]int{0, 9}, [2]int{120, 60}, [2]int{300, 300}, [2]int{2, 2}, [2]int{501, 499})
	for wide := -1; wide <= mostCells+2; wide++ {
		for high := -1; high <= mostCells+2; high++ {
			for size := -1; size <= mostSize+2; size++ {
				s := gridShape{wide, high, size}
				if 1 <= wide && wide <= mostCells && 1 <= high && high <= mostCells && 1 <= size && size <= mostSize {
					expectGrid(t, list, s, gridBy(list, s))
				} else {
					expectGrid(t, list, s, nil)
				}
			}
		}
	}
}

func TestPromise107OtherShapesOfGridsFail(t *testing.T) {
	for _, list := range [][]impl.Site{{{Station: 1}}, networkAt([2]int{0, 0}, [2]int{10, 0}, [2]int{0, 5}), nil} {
		for _, s := range wrongShapes() {
			expectGrid(t, list, s, nil)
		}
	}
}

func TestPromise107InvalidNetworksHaveNoGrid(t *testing.T) {
	for _, list := range append(invalidNetworks(), nil, []impl.Site{}) {
		for _, s := range []gridShape{{1, 1, 1}, {3, 2, 10}, {mostCells, mostCells, mostSize}, {0, 1, 1}} {
			expectGrid(t, list, s, nil)
		}
	}
}

// TestPromise107GridsOfManyRuns asks for the same grids again and again, also
// from several goroutines at once.
func TestPromise107GridsOfManyRuns(t *testing.T) {
	list := networkAt([2]int{7, 0}, [2]int{0, 9}, [2]int{12, 6}, [2]int{30, 30}, [2]int{2, 2}, [2]int{50, 48})
	values := []int{1, 2, noValue, 4, 5, noValue}
	for _, s := range []gridShape{{mostCells, mostCells, 10}, {1, mostCells, 9}, {mostCells, 1, 2}} {
		stations, told := gridBy(list, s), gridValuesBy(list, values, s)
		var asking sync.WaitGroup
		for range 8 {
			asking.Go(func() {
				for range 100 {
					rows, _ := impl.GridOf(list, s.wide, s.high, s.size)
					valued, _ := impl.GridValues(list, values, s.wide, s.high, s.size)
					share := impl.GridShare(list, s.wide, s.high, s.size, 5)
					if !sameRows(rows, stations) || !sameRows(valued, told) || share != shareBy(list, s, 5) {
						t.Errorf("the grids of %v are %v, %v and %d", s, rows, valued, share)
						return
					}
				}
			})
		}
		asking.Wait()
	}
}

func TestPromise108GridOfFirstSiteAlone(t *testing.T) {
	for _, list := range gridNetworks() {
		for _, s := range gridShapes() {
			expectGrid(t, list[:1], s, sameEverywhere(s, list[0].Station))
			expectShare(t, list[:1], s, list[0].Station, s.wide*s.high)
		}
	}
}

// TestPromise108SitesOfGridsAtOnePoint has the least station everywhere.
func TestPromise108SitesOfGridsAtOnePoint(t *testing.T) {
	for _, place := range [][2]int{{0, 0}, {0, 999}, {999, 0}, {999, 999}, {5, 7}, {250, 250}} {
		for first := range mostSites {
			list := networkAt(place, place, place, place, place, place)[first:]
			for _, s := range gridShapes() {
				expectGrid(t, list, s, sameEverywhere(s, first+1))
				expectShare(t, list, s, first+1, s.wide*s.high)
				expectShare(t, list, s, first+2, 0)
			}
		}
	}
}

func TestPromise109GridWithoutLastSite(t *testing.T) {
	for _, list := range gridNetworks() {
		if len(list) < 2 {
			continue
		}
		last := list[len(list)-1].Station
		for _, s := range gridShapes() {
			all, _ := impl.GridOf(list, s.wide, s.high, s.size)
			less, ok := impl.GridOf(list[:len(list)-1], s.wide, s.high, s.size)
			if !ok {
				t.Fatalf("GridOf of %v and %v fails without the last site", list, s)
			}
			for y, row := range all {
				for x, station := range row {
					if station != last && less[y][x] != station {
						t.Fatalf("GridOf of %v and %v is %v, but %v without the last site", list, s, all, less)
					}
				}
			}
		}
	}
}

func TestPromise110SharesOfAllStations(t *testing.T) {
	for _, list := range gridNetworks() {
		for _, s := range gridShapes() {
			cells := 0
			for station := 1; station <= lastStation; station++ {
				share := impl.GridShare(list, s.wide, s.high, s.size, station)
				if share < 0 || share > 0 && !slices.Contains(stationsOf(list), station) {
					t.Fatalf("GridShare of %v, %v and %d is %d", list, s, station, share)
				}
				cells += share
			}
			if cells != s.wide*s.high {
				t.Fatalf("the shares of %v and %v are %d together", list, s, cells)
			}
		}
	}
}

func TestPromise110StationsThatHaveNoShare(t *testing.T) {
	for _, list := range [][]impl.Site{{{Station: 4}}, {{Station: 1}, {Station: 9, X: 100}}, networkAt([2]int{0, 0}, [2]int{10, 0}, [2]int{0, 5})} {
		for _, s := range gridShapes() {
			for _, station := range append(noStations(), noValue, 5) {
				expectShare(t, list, s, station, 0)
			}
		}
	}
}

func TestPromise111ShareExamples(t *testing.T) {
	list := []impl.Site{{Station: 2}, {Station: 5, X: 20}}
	expectShare(t, list, gridShape{3, 1, 10}, 2, 2)
	expectShare(t, list, gridShape{3, 1, 10}, 5, 1)
	expectShare(t, list, gridShape{3, 4, 10}, 2, 8)
	expectShare(t, list, gridShape{3, 4, 10}, 5, 4)
	expectShare(t, list, gridShape{3, 4, 10}, 3, 0)
	expectShare(t, list, gridShape{mostCells, mostCells, 1}, 2, 36)
	expectShare(t, list, gridShape{mostCells, mostCells, 1}, 5, 0)
	expectShare(t, list, gridShape{mostCells, mostCells, mostSize}, 5, 30)
	expectShare(t, nil, gridShape{3, 1, 10}, 2, -1)
	expectShare(t, list, gridShape{0, 1, 10}, 2, -1)
	expectShare(t, list, gridShape{3, 7, 10}, 2, -1)
	expectShare(t, list, gridShape{3, 1, 101}, 2, -1)
}

func TestPromise111CellsOfStations(t *testing.T) {
	for _, list := range gridNetworks() {
		for _, s := range gridShapes() {
			for _, station := range stationsOf(list) {
				expectShare(t, list, s, station, shareBy(list, s, station))
			}
		}
	}
}

func TestPromise111WrongArgumentsHaveNoShare(t *testing.T) {
	for _, s := range wrongShapes() {
		for _, station := range []int{1, 2, 9, 0, -1, math.MaxInt} {
			expectShare(t, networkAt([2]int{0, 0}, [2]int{10, 0}), s, station, -1)
		}
	}
	for _, list := range append(invalidNetworks(), nil, []impl.Site{}) {
		for _, station := range []int{1, 2, 9, 0, math.MinInt} {
			expectShare(t, list, gridShape{2, 3, 10}, station, -1)
		}
	}
}

func TestPromise112GridValueExamples(t *testing.T) {
	n := noValue
	list := []impl.Site{{Station: 2}, {Station: 5, X: 20}}
	expectGridValues(t, list, []int{n, 7}, gridShape{3, 1, 10}, [][]int{{7, 7, 7}})
	expectGridValues(t, list, []int{7, n}, gridShape{3, 1, 10}, [][]int{{7, 7, 7}})
	expectGridValues(t, list, []int{8, 7}, gridShape{3, 1, 10}, [][]int{{8, 8, 7}})
	expectGridValues(t, list, []int{7, 7}, gridShape{3, 2, 10}, [][]int{{7, 7, 7}, {7, 7, 7}})
	expectGridValues(t, list, []int{n, n}, gridShape{3, 1, 10}, nil)
	expectGridValues(t, list, []int{leastReading, mostReading}, gridShape{2, 2, 100}, [][]int{{leastReading, mostReading}, {leastReading, mostReading}})
	expectGridValues(t, list, []int{5, 2}, gridShape{3, 1, 10}, [][]int{{5, 5, 2}}) // values that are other stations
	list = networkAt([2]int{0, 0}, [2]int{30, 0}, [2]int{0, 30}, [2]int{30, 30})
	expectGridValues(t, list, []int{10, n, -30, 40}, gridShape{4, 4, 10}, [][]int{{10, 10, 10, 10}, {10, 10, 10, 40}, {-30, -30, 40, 40}, {-30, -30, 40, 40}})
	expectGridValues(t, list, []int{n, 20, n, n}, gridShape{2, 2, 1}, [][]int{{20, 20}, {20, 20}})
	expectGridValues(t, list, []int{n, 0, 0, n}, gridShape{2, 1, 30}, [][]int{{0, 0}})
	expectGridValues(t, list, []int{n, n, n, n}, gridShape{2, 1, 30}, nil)
	expectGridValues(t, list[:1], []int{n}, gridShape{2, 1, 30}, nil)
	expectGridValues(t, list[:1], []int{3}, gridShape{2, 1, 30}, [][]int{{3, 3}})
}

func TestPromise112GridsOfSomeValues(t *testing.T) {
	source := rand.New(rand.NewSource(112))
	for _, list := range gridNetworks() {
		for range 3 {
			values := somePlaceValues(len(list), source)
			for _, s := range gridShapes() {
				expectGridValues(t, list, values, s, gridValuesBy(list, values, s))
			}
		}
	}
}

func TestPromise112AllStationsHaveValues(t *testing.T) {
	for i, list := range gridNetworks() {
		values := manyReadings(len(list), i)
		for _, s := range gridShapes() {
			stations, _ := impl.GridOf(list, s.wide, s.high, s.size)
			for _, row := range stations {
				for x, station := range row {
					row[x] = values[slices.Index(stationsOf(list), station)]
				}
			}
			expectGridValues(t, list, values, s, stations)
		}
	}
}

// TestPromise112OneStationHasTheOnlyValue also has it where others are nearer.
func TestPromise112OneStationHasTheOnlyValue(t *testing.T) {
	for _, list := range gridNetworks() {
		for place := range list {
			values := slices.Repeat([]int{noValue}, len(list))
			values[place] = 10 * place
			for _, s := range gridShapes() {
				expectGridValues(t, list, values, s, sameEverywhere(s, 10*place))
			}
		}
	}
}

func TestPromise112NoValueInGrids(t *testing.T) {
	for _, list := range gridNetworks() {
		expectGridValues(t, list, slices.Repeat([]int{noValue}, len(list)), gridShape{2, 3, 10}, nil)
	}
}

func TestPromise112OtherNumbersOfGridValuesFail(t *testing.T) {
	for many := 1; many <= mostSites; many++ {
		list := networkAt([][2]int{{0, 0}, {1, 0}, {2, 0}, {3, 0}, {4, 0}, {5, 0}}[:many]...)
		for days := 0; days <= mostDays+2; days++ {
			for _, values := range [][]int{manyReadings(days, 3), slices.Repeat([]int{noValue}, days)} {
				if days != many || values[0] == noValue {
					expectGridValues(t, list, values, gridShape{2, 3, 10}, nil)
				} else {
					expectGridValues(t, list, values, gridShape{2, 3, 10}, gridValuesBy(list, values, gridShape{2, 3, 10}))
				}
			}
		}
		expectGridValues(t, list, nil, gridShape{2, 3, 10}, nil)
	}
}

func TestPromise112NumbersThatAreNoGridValuesFail(t *testing.T) {
	for _, bad := range noValues() {
		for many := 1; many <= mostSites; many++ {
			for place := range many {
				list := networkAt([][2]int{{0, 0}, {1, 0}, {2, 0}, {3, 0}, {4, 0}, {5, 0}}[:many]...)
				values := manyReadings(many, 3)
				values[place] = bad
				expectGridValues(t, list, values, gridShape{2, 3, 10}, nil)
			}
		}
	}
}

func TestPromise112WrongArgumentsHaveNoGridValues(t *testing.T) {
	for _, s := range wrongShapes() {
		expectGridValues(t, networkAt([2]int{0, 0}, [2]int{10, 0}), []int{5, 6}, s, nil)
		expectGridValues(t, networkAt([2]int{0, 0}, [2]int{10, 0}), []int{noValue, 6}, s, nil)
	}
	for _, list := range invalidNetworks() {
		values := manyReadings(len(list), 1)
		expectGridValues(t, list, values, gridShape{2, 3, 10}, nil)
		values[0] = noValue // the other sites alone can be a network
		expectGridValues(t, list, values, gridShape{2, 3, 10}, nil)
		values = slices.Repeat([]int{noValue}, len(list))
		values[len(list)-1] = 5
		expectGridValues(t, list, values, gridShape{2, 3, 10}, nil)
	}
	for _, list := range [][]impl.Site{nil, {}} {
		for _, values := range [][]int{nil, {}, {5}, {noValue}} {
			expectGridValues(t, list, values, gridShape{2, 3, 10}, nil)
		}
	}
}

func TestPromise113StationsWithValuesAlone(t *testing.T) {
	source := rand.New(rand.NewSource(113))
	for _, list := range gridNetworks() {
		values := somePlaceValues(len(list), source)
		var sites []impl.Site
		for i, site := range list {
			if values[i] != noValue {
				sites = append(sites, site)
			}
		}
		for _, s := range gridShapes() {
			want, _ := impl.GridValues(sites, knownOf(values), s.wide, s.high, s.size)
			expectGridValues(t, list, values, s, want)
		}
	}
}

// TestPromise114OriginOfGrids puts a further station at the origin, whose
// nearest one must be that of the first cell.
func TestPromise114OriginOfGrids(t *testing.T) {
	for _, list := range gridNetworks() {
		if len(list) == mostSites || slices.Contains(stationsOf(list), lastStation) {
			continue
		}
		with := append(slices.Clone(list), impl.Site{Station: lastStation})
		for _, s := range gridShapes() {
			rows, ok := impl.GridOf(list, s.wide, s.high, s.size)
			near := impl.NearestOf(with, lastStation, 1)
			if !ok || len(near) != 1 || rows[0][0] != near[0] {
				t.Fatalf("GridOf of %v and %v is %v, %v, and NearestOf %v", list, s, rows, ok, near)
			}
		}
	}
}

// TestGridsKeepArguments has lists that are parts of longer ones, so that what
// is behind them could be overwritten.
func TestGridsKeepArguments(t *testing.T) {
	places := [][2]int{{9, 9}, {0, 0}, {5, 3}, {9, 8}, {2, 7}, {1, 1}, {4, 4}, {3, 3}}
	for many := 0; many <= mostSites+1; many++ {
		list := networkAt(places...)
		values := []int{90, 5, noValue, 7, 3, 60, noValue, 1}
		oldList, oldValues := slices.Clone(list), slices.Clone(values)
		for range 2 {
			rows, ok := impl.GridOf(list[:many], 4, 5, 2)
			told, fine := impl.GridValues(list[:many], values[:many], 4, 5, 2)
			share := impl.GridShare(list[:many], 4, 5, 2, 1)
			if valid := 1 <= many && many <= mostSites; ok != valid || fine != valid || (share >= 0) != valid || (len(rows) == 5) != valid || (len(told) == 5) != valid {
				t.Errorf("the functions return %v, %v and %d for %d sites", rows, told, share, many)
			}
		}
		if !slices.Equal(list, oldList) || !slices.Equal(values, oldValues) {
			t.Errorf("%v and %v have become %v and %v", oldList, oldValues, list, values)
		}
	}
}

// TestGridsThatAreReturnedShareNoMemory overwrites one row after the other,
// with all memory that it reaches.
func TestGridsThatAreReturnedShareNoMemory(t *testing.T) {
	list := networkAt([2]int{7, 0}, [2]int{0, 9}, [2]int{12, 6}, [2]int{30, 30}, [2]int{2, 2}, [2]int{50, 48})
	values := []int{1, 2, noValue, 4, 5, noValue}
	oldList, oldValues := slices.Clone(list), slices.Clone(values)
	for _, s := range gridShapes() {
		keptStations, _ := impl.GridOf(list, s.wide, s.high, s.size)
		keptValues, _ := impl.GridValues(list, values, s.wide, s.high, s.size)
		stations, _ := impl.GridOf(list, s.wide, s.high, s.size)
		told, _ := impl.GridValues(list, values, s.wide, s.high, s.size)
		for _, rows := range [][][]int{stations, told} {
			want := cloneRows(rows)
			for y := range rows {
				overwrite(rows[y], 66)
				want[y] = slices.Repeat([]int{66}, s.wide)
				if !sameRows(rows, want) {
					t.Fatalf("row %d of the grid %v shares memory with others: %v", y, s, rows)
				}
			}
			overwrite(rows, nil)
		}
		if !sameRows(keptStations, gridBy(list, s)) || !sameRows(keptValues, gridValuesBy(list, values, s)) {
			t.Fatalf("the grids %v have become %v and %v", s, keptStations, keptValues)
		}
	}
	if !slices.Equal(list, oldList) || !slices.Equal(values, oldValues) {
		t.Fatalf("%v and %v have become %v and %v", oldList, oldValues, list, values)
	}
}

// TestGridsAreMadeWhenTheyAreReturned changes the arguments at once, which
// would reach a goroutine that has not ended.
func TestGridsAreMadeWhenTheyAreReturned(t *testing.T) {
	s := gridShape{mostCells, mostCells, 10}
	for range 300 {
		list := networkAt([2]int{7, 0}, [2]int{0, 9}, [2]int{12, 6}, [2]int{30, 30}, [2]int{2, 2}, [2]int{50, 48})
		values := []int{1, 2, noValue, 4, 5, noValue}
		wantStations, wantValues := gridBy(list, s), gridValuesBy(list, values, s)
		stations, _ := impl.GridOf(list, s.wide, s.high, s.size)
		told, _ := impl.GridValues(list, values, s.wide, s.high, s.size)
		overwrite(list, impl.Site{Station: 1})
		overwrite(values, noValue)
		if !sameRows(stations, wantStations) || !sameRows(told, wantValues) {
			t.Fatalf("the grids are %v and %v", stations, told)
		}
	}
}
