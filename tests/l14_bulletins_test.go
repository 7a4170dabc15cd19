package tests

import (
	"math"
	"math/rand"
	"regexp"
	"slices"
	"strconv"
	"strings"
	"testing"

	"loop.example/weatherarchive/impl"
)

// The numbers are written out here as the document has them, so that a wrong
// constant of the program is noticed.
const (
	sumFactor  = 31
	sumModulus = 97
)

// bulletinRow has the arguments of BulletinText.
type bulletinRow struct {
	station int
	kind    int
	first   int
	list    []int
}

// middleSeries returns a series of so many days with values of a kind, of
// which those at some places are missing.
func middleSeries(k kindRow, days int, missing ...int) []int {
	list := make([]int, days)
	for i := range list {
		list[i] = k.low + (i+1)*137%(k.high-k.low+1)
	}
	for _, place := range missing {
		list[place] = noValue
	}
	return list
}

// validBulletins has all stations, kinds and lengths, series that end on the
// last day, and series without values at their beginning, in their middle, at
// their end, and anywhere.
func validBulletins() []bulletinRow {
	var rows []bulletinRow
	for _, k := range kindRows() {
		for days := 1; days <= mostDays; days++ {
			for _, first := range []int{0, 1, 9, 10, 99, 100, 500, lastDay - days, lastDay - days + 1} {
				station := 1 + (first+days)%lastStation
				for _, list := range [][]int{
					middleSeries(k, days), middleSeries(k, days, 0), middleSeries(k, days, days/2), middleSeries(k, days, days-1), middleSeries(k, days, 0, days-1),
					slices.Repeat([]int{noValue}, days), slices.Repeat([]int{k.low}, days), slices.Repeat([]int{k.high}, days),
				} {
					rows = append(rows, bulletinRow{station, k.kind, first, list})
				}
			}
		}
		for value := k.low; value <= k.high; value += 7 {
			rows = append(rows, bulletinRow{1 + (value+600)%lastStation, k.kind, (value + 600) % lastDay, []int{value, k.low + k.high - value}})
		}
		for first := 0; first <= lastDay; first++ {
			rows = append(rows, bulletinRow{1 + first%lastStation, k.kind, first, []int{k.high}})
		}
	}
	return rows
}

// invalidBulletins has, for valid ones, each argument out of its limits.
func invalidBulletins() []bulletinRow {
	rows := []bulletinRow{{}}
	for _, k := range kindRows() {
		for _, list := range [][]int{middleSeries(k, 1), middleSeries(k, 3, 1), {noValue}, middleSeries(k, mostDays)} {
			for _, station := range noStations() {
				rows = append(rows, bulletinRow{station, k.kind, 5, list})
			}
			for _, kind := range noKinds() {
				rows = append(rows, bulletinRow{2, kind, 5, list})
			}
			for _, first := range noDaysOfReports() {
				rows = append(rows, bulletinRow{2, k.kind, first, list})
			}
			for first := lastDay - len(list) + 2; first <= lastDay; first++ {
				rows = append(rows, bulletinRow{2, k.kind, first, list}, bulletinRow{2, k.kind, first, slices.Repeat([]int{noValue}, len(list))})
			}
		}
		for _, days := range []int{0, mostDays + 1, mostDays + 2, 2 * mostDays, 256 + 3} {
			rows = append(rows, bulletinRow{2, k.kind, 5, middleSeries(k, days)}, bulletinRow{2, k.kind, 5, slices.Repeat([]int{noValue}, days)})
		}
		rows = append(rows, bulletinRow{2, k.kind, 5, nil})
		for _, bad := range append(noValues(), k.low-1, k.high+1) {
			for _, days := range []int{1, 2, 3, mostDays} {
				for _, place := range []int{0, days / 2, days - 1} {
					list := middleSeries(k, days)
					list[place] = bad
					rows = append(rows, bulletinRow{2, k.kind, 5, list})
				}
			}
		}
	}
	return append(rows, bulletinRow{2, 2, 5, []int{0, 2001}}, bulletinRow{2, 2, 5, []int{-1}}, bulletinRow{2, 1, 5, []int{8500}}, bulletinRow{2, 3, 5, []int{600}}, bulletinRow{2, 3, 5, []int{0}})
}

// sumOf tells a check number by other means than the program: from the last
// byte on, each one counts more than the one behind it.
func sumOf(text string) int {
	sum, counts := 0, 1
	for i := len(text) - 1; i >= 0; i-- {
		sum = (sum + counts*int(text[i])) % sumModulus
		counts = counts * sumFactor % sumModulus
	}
	return sum
}

// closed returns a text with its check number behind it.
func closed(front string) string {
	return front + " =" + strconv.Itoa(sumOf(front))
}

// textOf tells by other means than the program what BulletinText returns.
func textOf(row bulletinRow) string {
	words := []string{"b" + strconv.Itoa(row.station), "k" + strconv.Itoa(row.kind), "d" + strconv.Itoa(row.first)}
	for _, value := range row.list {
		if value == noValue {
			words = append(words, "/")
		} else {
			words = append(words, strconv.Itoa(value))
		}
	}
	return closed(strings.Join(words, " "))
}

// reportsOf returns the reports of all values.
func reportsOf(row bulletinRow) []impl.Report {
	list := []impl.Report{}
	for i, value := range row.list {
		if value != noValue {
			list = append(list, impl.Report{Station: row.station, Day: row.first + i, Kind: row.kind, Value: value})
		}
	}
	return list
}

var (
	bulletinWords = regexp.MustCompile(`\Ab([1-9]) k([1-3]) d(0|[1-9][0-9]{0,2})((?: (?:/|0|-?[1-9][0-9]{0,4})){1,12}) =(?:0|[1-9][0-9]?)\z`)
	goodWords     = regexp.MustCompile(`\A((?s:.*)) =(0|[1-9][0-9]?)\z`)
)

// isGood tells by other means than the program what BulletinGood returns.
func isGood(text string) bool {
	m := goodWords.FindStringSubmatch(text)
	return m != nil && m[2] == strconv.Itoa(sumOf(m[1]))
}

// bulletinOf tells by other means than the program what BulletinParse returns.
func bulletinOf(text string) ([]impl.Report, bool) {
	m := bulletinWords.FindStringSubmatch(text)
	if m == nil || !isGood(text) {
		return nil, false
	}
	row := bulletinRow{}
	row.station, _ = strconv.Atoi(m[1])
	row.kind, _ = strconv.Atoi(m[2])
	row.first, _ = strconv.Atoi(m[3])
	limits := kindRows()[row.kind-1]
	for _, word := range strings.Fields(m[4]) {
		value, err := strconv.Atoi(word)
		if err == nil && (value < limits.low || value > limits.high) {
			return nil, false
		}
		if err != nil {
			value = noValue
		}
		row.list = append(row.list, value)
	}
	return reportsOf(row), row.first+len(row.list)-1 <= lastDay
}

func expectText(t *testing.T, row bulletinRow, want string) {
	t.Helper()
	if got := impl.BulletinText(row.station, row.kind, row.first, row.list); got != want {
		t.Fatalf("BulletinText of %v is %q, not %q", row, got, want)
	}
}

// expectReports checks what BulletinParse returns if it must succeed.
func expectReports(t *testing.T, text string, want []impl.Report) {
	t.Helper()
	if got, ok := impl.BulletinParse(text); !ok || !slices.Equal(got, want) {
		t.Fatalf("BulletinParse(%q) is %v, %v, not %v", text, got, ok, want)
	}
}

func expectNoBulletin(t *testing.T, text string) {
	t.Helper()
	if got, ok := impl.BulletinParse(text); ok || len(got) > 0 {
		t.Fatalf("BulletinParse(%q) is %v, %v", text, got, ok)
	}
}

func expectGood(t *testing.T, text string, want bool) {
	t.Helper()
	if got := impl.BulletinGood(text); got != want {
		t.Fatalf("BulletinGood(%q) is %v", text, got)
	}
}

func expectSum(t *testing.T, text string, want int) {
	t.Helper()
	if got := impl.BulletinSum(text); got != want {
		t.Fatalf("BulletinSum of %d bytes that begin with %q is %d, not %d", len(text), text[:min(len(text), 20)], got, want)
	}
}

func TestPromise60Examples(t *testing.T) {
	n := noValue
	for _, row := range []struct {
		bulletin bulletinRow
		text     string
	}{
		{bulletinRow{2, 1, 5, []int{-3, n, 40}}, "b2 k1 d5 -3 / 40 =50"},
		{bulletinRow{1, 1, 0, []int{0}}, "b1 k1 d0 0 =43"},
		{bulletinRow{1, 1, 0, []int{n}}, "b1 k1 d0 / =42"},
		{bulletinRow{9, 3, 999, []int{10900}}, "b9 k3 d999 10900 =88"},
		{bulletinRow{9, 3, 999, []int{n}}, "b9 k3 d999 / =50"},
		{bulletinRow{3, 2, 988, []int{0, 2000, n, n, 1, n, 2, 3, 4, 5, 6, 7}}, "b3 k2 d988 0 2000 / / 1 / 2 3 4 5 6 7 =42"},
		{bulletinRow{1, 1, 0, []int{-600, 600, n}}, "b1 k1 d0 -600 600 / =0"},
		{bulletinRow{4, 3, 998, []int{n, 8500}}, "b4 k3 d998 / 8500 =47"},
		{bulletinRow{1, 1, 0, slices.Repeat([]int{n}, 12)}, "b1 k1 d0 / / / / / / / / / / / / =69"},
	} {
		expectText(t, row.bulletin, row.text)
		expectReports(t, row.text, reportsOf(row.bulletin))
		expectGood(t, row.text, true)
	}
}

func TestPromise60ReportsOfAllValues(t *testing.T) {
	for _, row := range validBulletins() {
		text := impl.BulletinText(row.station, row.kind, row.first, row.list)
		if text == "" {
			t.Fatalf("BulletinText of %v is empty", row)
		}
		expectReports(t, text, reportsOf(row))
		expectGood(t, text, true)
	}
}

func TestPromise61ValidSeriesHaveTexts(t *testing.T) {
	for _, row := range validBulletins() {
		expectText(t, row, textOf(row))
	}
}

func TestPromise61OtherArgumentsHaveNoText(t *testing.T) {
	for _, row := range invalidBulletins() {
		expectText(t, row, "")
	}
}

// TestPromise61ValuesOfReports has all numbers around the limits of each kind.
func TestPromise61ValuesOfReports(t *testing.T) {
	for _, k := range kindRows() {
		for value := -10100; value <= 11100; value++ {
			row := bulletinRow{5, k.kind, 998, []int{value, noValue}}
			if k.low <= value && value <= k.high || value == noValue {
				expectText(t, row, textOf(row))
			} else {
				expectText(t, row, "")
			}
		}
	}
}

func TestPromise61LastDays(t *testing.T) {
	for days := 1; days <= mostDays; days++ {
		for first := lastDay - mostDays - 2; first <= lastDay+2; first++ {
			for _, list := range [][]int{slices.Repeat([]int{7}, days), slices.Repeat([]int{noValue}, days)} {
				row := bulletinRow{2, rains, first, list}
				if first+days-1 <= lastDay {
					expectText(t, row, textOf(row))
				} else {
					expectText(t, row, "")
					expectNoBulletin(t, textOf(row))
				}
			}
		}
	}
}

func TestPromise62ReportsAreAStore(t *testing.T) {
	for _, row := range validBulletins() {
		text := textOf(row)
		reports, ok := impl.BulletinParse(text)
		if !ok || !impl.StoreValid(reports) || !impl.BulletinGood(text) {
			t.Fatalf("BulletinParse(%q) is %v, %v", text, reports, ok)
		}
		for i, r := range reports {
			if r.Station != row.station || r.Kind != row.kind || i > 0 && r.Day <= reports[i-1].Day {
				t.Fatalf("BulletinParse(%q) is %v", text, reports)
			}
		}
	}
}

// TestPromise62TextsOutOfLimitsFail has texts of what is no bulletin, with
// their right check numbers.
func TestPromise62TextsOutOfLimitsFail(t *testing.T) {
	for _, row := range invalidBulletins() {
		expectNoBulletin(t, textOf(row))
		expectGood(t, textOf(row), true)
	}
	for days := 0; days <= mostDays+5; days++ {
		row := bulletinRow{2, temps, 5, slices.Repeat([]int{7}, days)}
		if 1 <= days && days <= mostDays {
			expectReports(t, textOf(row), reportsOf(row))
		} else {
			expectNoBulletin(t, textOf(row))
		}
	}
	expectNoBulletin(t, closed("b2 k1 d5"+strings.Repeat(" 7", 100000)))
	expectNoBulletin(t, closed("b2 k1 d5"+strings.Repeat(" /", 1<<16+3)))
}

// TestPromise62OtherWordsFail gives each text the right check number, so that
// nothing but its words is wrong.
func TestPromise62OtherWordsFail(t *testing.T) {
	for _, front := range []string{
		"", " ", "b2", "b2 k1", "b2 k1 d5", "b2 k1 d5 ", "b2 k1 -3", "b2 d5 -3", "k1 d5 -3", "-3", "/", "b2 -3", "d5 -3", "2 1 5 -3",
		"b k1 d5 -3", "b2 k d5 -3", "b2 k1 d -3", "b2 k1 d5 -", "b2 k1 d5 3-", "b2 k1 d5 - 3",
		" b2 k1 d5 -3", "b2 k1 d5 -3 ", "b2  k1 d5 -3", "b2 k1  d5 -3", "b2 k1 d5  -3", "b2 k1 d5 -3  40", "b2 k1 d5 -3 40  ",
		"b2k1 d5 -3", "b2 k1d5 -3", "b2 k1 d5-3", "b2 k1 d5/", "b2 k1 d5 -3/", "b2 k1 d5 /-3", "b2 k1 d5 //", "b2 k1 d5 7/7", "b2 k1 d5 -/", "b 2 k1 d5 -3", "b2 k 1 d5 -3", "b2 k1 d 5 -3",
		"b02 k1 d5 -3", "b2 k01 d5 -3", "b2 k1 d05 -3", "b2 k1 d00 -3", "b2 k1 d5 -03", "b2 k1 d5 03", "b2 k1 d5 00", "b2 k1 d5 -3 040",
		"b+2 k1 d5 -3", "b2 k+1 d5 -3", "b2 k1 d+5 -3", "b2 k1 d5 +3", "b2 k1 d5 +0", "b2 k1 d-0 -3", "b2 k1 d5 -0", "b2 k1 d5 --3", "b2 k1 d5 +-3",
		"b-2 k1 d5 -3", "b2 k-1 d5 -3", "b2 k1 d-5 -3", "b2 k2 d5 -3",
		"b18446744073709551618 k1 d5 -3", "b2 k18446744073709551617 d5 -3", "b2 k1 d18446744073709551621 -3", "b2 k1 d5 18446744073709551619", "b2 k1 d5 -18446744073709551619",
		"b2 k1 d4294967301 -3", "b2 k1 d5 4294967299", "b2 k1 d65541 -3", "b2 k1 d5 65539", "b2 k1 d5 100000", "b2 k1 d5 000003", "b2 k1 d5 99999999999999999999999999",
		"b2 k1 d5 -9999", "b2 k1 d5 -3 -9999 40", "b2 k2 d5 -9999", "b2 k3 d5 9000 -9999", "b2 k1 d5 9999", "b2 k1 d5 none", "b2 k1 d5 None", "b2 k1 d5 -18446744073709561615",
		"c2 k1 d5 -3", "B2 k1 d5 -3", "b2 K1 d5 -3", "b2 k1 D5 -3", "s2 k1 d5 -3", "b2 t1 d5 -3", "b2 k1 b5 -3", "k2 b1 d5 -3", "b2 k1 d5 t3", "b2 k1 d5 t-3", "b2 d5 k1 -3", "bb2 k1 d5 -3",
		"b2 k1 d5 3.0", "b2 k1 d5 3,", "b2 k1 d5 0x3", "b2 k1 d5 1e2", "b2 k1 d5 1_0", "b2 k1 d5 x", "b2 k1 d5 \\", "b2 k1 d5 -3 x", "b2 k1 d5 -3 =", "b2 k1 d5 -3 =5", "b2 k1 d5 =", "b2 k1 d5 = -3",
		"b2\tk1 d5 -3", "b2 k1\nd5 -3", "b2 k1 d5\t-3", "b2 k1 d5 -3\n", "\nb2 k1 d5 -3", "b2 k1 d5 -3\x00", "\x00b2 k1 d5 -3", "b2 k1 d5 -3\r", "b2 k1 d5\x00-3",
		"b\u0662 k1 d5 -3", "b2\u00a0k1 d5 -3", "b2 k1 d5 \u22123", "b2 k1 d5 \uff13", "b2 k1 d5 \u2044", "\ufeffb2 k1 d5 -3", "b2 k1 d5 -3\u00a0",
		"b\xb2 k1 d5 -3", "b2\xa0k1 d5 -3", "b2 k1 d5 \xad3", "b2 k1 d5 \xb3", "b2 k1 d5 \xaf", "\xe22 k1 d5 -3", "b2 k1 d5 -3\xff", "\xff", "b2 \xeb1 d5 -3", "b2 k1 \xe45 -3",
		closed("b2 k1 d5 -3"), "b2 k1 d5 -3 b2 k1 d5 -3", "s2 d5 t-3",
	} {
		expectNoBulletin(t, closed(front))
		expectGood(t, closed(front), true)
	}
}

// badEnds returns texts like closed ones, but with something else than the
// check number as their last word.
func badEnds(front string) []string {
	sum := sumOf(front)
	number := strconv.Itoa(sum)
	texts := []string{
		front, front + " ", front + " =", front + " " + number, front + "=" + number, front + " = " + number, front + "  =", front + " =" + number + " ", front + " =" + number + "  ",
		front + " =0" + number, front + " =00" + number, front + " =000000" + number, front + " =+" + number, front + " =-" + number, front + " ==" + number, front + " =" + number + "=", front + " =" + number + ".0",
		front + " =" + number + "\n", front + " =" + number + "\x00", front + " =\x00" + number, front + " =" + number + "x", front + " =x" + number, front + " :" + number, front + " \xbd" + number,
		front + "\t=" + number, front + "\n=" + number, front + "\u00a0=" + number, front + "\x00=" + number, front + " =\uff10", front + " =\xb0", front + " =/", front + " =-1", front + " =-0",
		front + " =18446744073709551616", front + " =" + strconv.Itoa(sum+256), front + " =" + strconv.Itoa(sum+1<<32), front + " =" + strconv.Itoa(sum-sumModulus), front + " =1" + number,
	}
	for other := range 300 {
		if other != sum {
			texts = append(texts, front+" ="+strconv.Itoa(other))
		}
	}
	return texts
}

func TestPromise62OtherCheckNumbersFail(t *testing.T) {
	for _, front := range []string{"b2 k1 d5 -3 / 40", "b1 k1 d0 0", "b1 k1 d0 /", "b9 k3 d999 10900", "b1 k1 d0 1", "b1 k1 d0 2", "b1 k2 d10 0"} {
		if _, ok := impl.BulletinParse(closed(front)); !ok {
			t.Fatalf("BulletinParse(%q) fails", closed(front))
		}
		for _, text := range badEnds(front) {
			expectNoBulletin(t, text)
			expectGood(t, text, false)
		}
	}
}

func TestPromise62ValuesWithoutACheckNumberFail(t *testing.T) {
	for _, text := range []string{"", " ", "  ", "=", " =", "=0", " =0", "b", "b2", "b2 k1 d5 -3 / 40", "b2 k1 d5 -3 / 40 ", "b2 k1 d5 -3 / 40 50", "b2 k1 d5 -3 / 40=50", "b2 k1 d5 -3 / 40 = 50", "b2 k1 d5 -3 / 40 =51", "=50", " =50", "b2 k1 d5 =55"} {
		expectNoBulletin(t, text)
	}
	expectReports(t, "b2 k1 d5 -3 / 40 =50", reportsOf(bulletinRow{2, 1, 5, []int{-3, noValue, 40}}))
}

// goodFronts has fronts of bulletins whose words have all lengths, and some
// that become others by a single byte.
func goodFronts() []string {
	return []string{"b2 k1 d5 -3 / 40", "b1 k1 d0 0", "b1 k1 d0 /", "b9 k3 d999 10900", "b5 k2 d99 2000 / /", "b3 k3 d10 8500 /", "b8 k1 d998 -600 600", "b4 k2 d988 1 2 3 4 5 6 7 8 9 10 11 /"}
}

func expectAsRead(t *testing.T, text string) bool {
	t.Helper()
	want, fine := bulletinOf(text)
	if !fine {
		want = nil
	}
	got, ok := impl.BulletinParse(text)
	if ok != fine || !slices.Equal(got, want) {
		t.Fatalf("BulletinParse(%q) is %v, %v, not %v, %v", text, got, ok, want, fine)
	}
	expectGood(t, text, isGood(text))
	return ok
}

// TestPromise62EditedTexts changes each single byte of good texts, leaves it
// out, or adds another one.
func TestPromise62EditedTexts(t *testing.T) {
	for _, front := range goodFronts() {
		for _, text := range editsOf(closed(front)) {
			expectAsRead(t, text)
		}
	}
}

// TestPromise62EditedFronts does the same with what is in front of the check
// number, and then puts the right one behind it.
func TestPromise62EditedFronts(t *testing.T) {
	for _, front := range goodFronts() {
		found := 0
		for _, edited := range editsOf(front) {
			text := closed(edited)
			expectGood(t, text, true)
			if expectAsRead(t, text) {
				found++
			}
		}
		if found == 0 {
			t.Errorf("no text that is like %q is that of a bulletin", front)
		}
	}
}

func TestPromise62BytesPutTwiceOrLeftOut(t *testing.T) {
	for _, front := range goodFronts() {
		text := closed(front)
		for i := range len(text) {
			twice := text[:i+1] + text[i:]
			without := text[:i] + text[i+1:]
			for _, edited := range []string{twice, without} {
				expectGood(t, edited, isGood(edited))
				expectAsRead(t, edited)
			}
		}
	}
}

// someTexts has texts of all kinds of bytes, with and without blanks.
func someTexts() []string {
	texts := []string{"", " ", "  ", "a", "a ", " a", "=", "=0", " =0", "a =0", "a = b", "a =5 =5", "abc", "b2 k1 d5", "\x00", "\x00\x00 \x00", "\xff", "\xff\xfe \x80", "\u00e9\u00a0\u20ac", "line\nline\n", "\n", " \n ", strings.Repeat(" ", 50), strings.Repeat("\xff", 300)}
	source := rand.New(rand.NewSource(63))
	for many := 1; many <= 40; many++ {
		bytes := make([]byte, many)
		source.Read(bytes)
		texts = append(texts, string(bytes))
		for i := range bytes {
			bytes[i] = " =0a"[source.Intn(4)]
		}
		texts = append(texts, string(bytes))
	}
	for _, row := range validBulletins()[:300] {
		texts = append(texts, strings.TrimRight(textOf(row), "=0123456789 "), textOf(row))
	}
	return texts
}

func TestPromise63NextGreaterBytes(t *testing.T) {
	for _, front := range append(someTexts(), goodFronts()...) {
		text := closed(front)
		expectGood(t, text, true)
		for i := range len(front) + 1 { // with the last blank
			if text[i] < 255 {
				greater := text[:i] + string([]byte{text[i] + 1}) + text[i+1:]
				expectGood(t, greater, false)
			}
		}
	}
}

func TestPromise63EachByte(t *testing.T) {
	for b := range 256 {
		for _, front := range []string{string([]byte{byte(b)}), "a" + string([]byte{byte(b)}) + "c", "b2 k1 d5 " + string([]byte{byte(b)})} {
			text := closed(front)
			expectGood(t, text, true)
			for other := range 256 {
				changed := closed(front)
				place := strings.IndexByte(front, byte(b))
				changed = changed[:place] + string([]byte{byte(other)}) + changed[place+1:]
				expectGood(t, changed, (other-b)%sumModulus == 0)
			}
		}
	}
}

func TestPromise64Examples(t *testing.T) {
	for _, row := range []struct {
		text string
		want int
	}{
		{"", 0}, {"a", 0}, {" ", 32}, {"=", 61}, {"\xff", 61}, {"\x00", 0}, {"\x60", 96}, {"\x61", 0}, {"\x62", 1}, {"abc", 33}, {"a ", 32}, {"b2 k1 d5", 55},
	} {
		expectSum(t, row.text, row.want)
	}
}

func TestPromise64FurtherBytes(t *testing.T) {
	for _, text := range someTexts() {
		sum := impl.BulletinSum(text)
		if sum < 0 || sum >= sumModulus || sum != sumOf(text) {
			t.Fatalf("BulletinSum(%q) is %d", text, sum)
		}
		for b := range 256 {
			expectSum(t, text+string([]byte{byte(b)}), (sumFactor*sum+b)%sumModulus)
		}
	}
}

func TestPromise64LongTexts(t *testing.T) {
	for _, part := range []string{"a", "x", "\xff", "b2 k1 d5 ", "\x00\x01", "\u20ac"} {
		for _, many := range []int{2, 10, 13, 14, 100, 1000, 1 << 16, 1<<20 + 3} {
			text := strings.Repeat(part, many)
			expectSum(t, text, sumOf(text))
			expectGood(t, closed(text), true)
			expectGood(t, closed(text)+" ", false)
			expectGood(t, text, false)
		}
	}
}

func TestPromise65ClosedTextsAreGood(t *testing.T) {
	for _, text := range someTexts() {
		expectGood(t, text+" ="+strconv.Itoa(impl.BulletinSum(text)), true)
		expectGood(t, closed(closed(text)), true)
		expectGood(t, text, isGood(text))
	}
}

func TestPromise65OtherEndsAreNotGood(t *testing.T) {
	for _, front := range []string{"", " ", "a", "\x60", "ab", "=0", " =0", "\xff", "b2 k1 d5 -3", "b2 k1 d5 -3 / 40"} {
		for _, text := range badEnds(front) {
			expectGood(t, text, isGood(text))
		}
	}
	for _, text := range []string{"", " ", "  ", "=", "=0", "a=0", "b2k1=0", " =", " = 0", " =1", " 0", "a 0", "a =", "a =1", "a =00", "a =97", "a =-0", "a =+0", "a =0 ", "  =0"} {
		expectGood(t, text, false)
	}
	for _, text := range []string{" =0", "a =0", "\x00 =0", "  =32", "b =1", "\xff =61", "aaaa =0"} {
		expectGood(t, text, true)
	}
}

// TestBulletinsKeepArguments has lists that are parts of longer ones, so that
// what is behind them could be overwritten.
func TestBulletinsKeepArguments(t *testing.T) {
	for days := 0; days <= mostDays+1; days++ {
		list := middleSeries(kindRows()[0], mostDays+3, 0, 4, 11)
		old := slices.Clone(list)
		for range 2 {
			row := bulletinRow{2, temps, 5, list[:days]}
			if 1 <= days && days <= mostDays {
				expectText(t, row, textOf(row))
			} else {
				expectText(t, row, "")
			}
		}
		if !slices.Equal(list, old) {
			t.Errorf("%v has become %v", old, list)
		}
	}
}

func TestReportsThatAreReturnedShareNoMemory(t *testing.T) {
	text := closed("b2 k1 d5 -3 / 40 7 8")
	want := reportsOf(bulletinRow{2, 1, 5, []int{-3, noValue, 40, 7, 8}})
	for range 2 {
		one, _ := impl.BulletinParse(text)
		two, _ := impl.BulletinParse(text)
		if !slices.Equal(one, want) {
			t.Fatalf("BulletinParse(%q) is %v", text, one)
		}
		overwrite(one, impl.Report{Station: math.MaxInt})
		if !slices.Equal(two, want) {
			t.Fatalf("both results share memory: %v", two)
		}
	}
}
