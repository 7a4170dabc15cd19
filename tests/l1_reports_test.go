package tests

import (
	"math"
	"regexp"
	"strconv"
	"testing"

	"loop.example/weatherarchive/impl"
)

// The limits are written out here as the document has them, so that a wrong
// constant of the program is noticed.
const (
	lastStation = 9
	lastDay     = 999
)

type kindRow struct {
	kind   int
	low    int
	high   int
	letter string
}

func kindRows() []kindRow {
	return []kindRow{{1, -600, 600, "t"}, {2, 0, 2000, "r"}, {3, 8500, 10900, "p"}}
}

func noKinds() []int {
	return []int{math.MinInt, -1000, -2, -1, 0, 4, 5, 100, 256 + 1, 1<<32 + 1, math.MaxInt}
}

// validReports has each station, each day, and each value of each kind at
// least once, and all combinations of their ends.
func validReports() []impl.Report {
	var list []impl.Report
	for _, k := range kindRows() {
		for v := k.low; v <= k.high; v++ {
			list = append(list, impl.Report{Station: 1 + (v+600)%lastStation, Day: (v + 600) % (lastDay + 1), Kind: k.kind, Value: v})
		}
		for d := 0; d <= lastDay; d++ {
			list = append(list, impl.Report{Station: 1 + d%lastStation, Day: d, Kind: k.kind, Value: k.low + d%(k.high-k.low+1)})
		}
		for s := 1; s <= lastStation; s++ {
			for _, d := range []int{0, 9, 10, 99, 100, lastDay} {
				for _, v := range []int{k.low, k.low + 1, k.high - 1, k.high} {
					list = append(list, impl.Report{Station: s, Day: d, Kind: k.kind, Value: v})
				}
			}
		}
	}
	return list
}

// invalidReports has, for valid reports, each field out of its limits.
func invalidReports() []impl.Report {
	list := []impl.Report{{}}
	for _, k := range kindRows() {
		good := impl.Report{Station: 3, Day: 120, Kind: k.kind, Value: k.low + 10}
		for _, s := range []int{math.MinInt, -9, -1, 0, lastStation + 1, 99, 256 + 3, 1<<32 + 3, math.MaxInt} {
			r := good
			r.Station = s
			list = append(list, r)
		}
		for _, d := range []int{math.MinInt, -999, -1, lastDay + 1, 9999, 1<<32 + 5, math.MaxInt} {
			r := good
			r.Day = d
			list = append(list, r)
		}
		for _, kind := range noKinds() {
			for _, v := range []int{good.Value, 0} { // 0 is in the limits that KindLimits returns with false
				r := good
				r.Kind = kind
				r.Value = v
				list = append(list, r)
			}
		}
		for _, v := range []int{math.MinInt, -10900, -9999, k.low - 1, k.high + 1, 99999, 1<<32 + k.low, math.MaxInt} {
			r := good
			r.Value = v
			list = append(list, r)
		}
	}
	return list
}

func expectRefused(t *testing.T, text string) {
	t.Helper()
	if r, ok := impl.ReportParse(text); ok || r != (impl.Report{}) {
		t.Errorf("ReportParse(%q) is %v, %v", text, r, ok)
	}
}

func TestConstantsOfReports(t *testing.T) {
	got := [5]int{impl.StationMax, impl.DayMax, impl.KindTemp, impl.KindRain, impl.KindPress}
	if want := [5]int{9, 999, 1, 2, 3}; got != want {
		t.Errorf("the constants are %v, not %v", got, want)
	}
}

func TestReportExamples(t *testing.T) {
	for _, row := range []struct {
		text string
		r    impl.Report
	}{
		{"s3 d120 t-153", impl.Report{Station: 3, Day: 120, Kind: 1, Value: -153}},
		{"s1 d0 t-600", impl.Report{Station: 1, Day: 0, Kind: 1, Value: -600}},
		{"s9 d999 t600", impl.Report{Station: 9, Day: 999, Kind: 1, Value: 600}},
		{"s2 d10 t0", impl.Report{Station: 2, Day: 10, Kind: 1, Value: 0}},
		{"s2 d7 t-1", impl.Report{Station: 2, Day: 7, Kind: 1, Value: -1}},
		{"s1 d0 r0", impl.Report{Station: 1, Day: 0, Kind: 2, Value: 0}},
		{"s4 d99 r2000", impl.Report{Station: 4, Day: 99, Kind: 2, Value: 2000}},
		{"s5 d100 p8500", impl.Report{Station: 5, Day: 100, Kind: 3, Value: 8500}},
		{"s9 d999 p10900", impl.Report{Station: 9, Day: 999, Kind: 3, Value: 10900}},
	} {
		if !impl.ReportValid(row.r) {
			t.Errorf("%v is invalid", row.r)
		}
		if text := impl.ReportText(row.r); text != row.text {
			t.Errorf("ReportText(%v) is %q", row.r, text)
		}
		if r, ok := impl.ReportParse(row.text); !ok || r != row.r {
			t.Errorf("ReportParse(%q) is %v, %v", row.text, r, ok)
		}
	}
}

func TestPromise1ParseReturnsWhatTextTells(t *testing.T) {
	for _, r := range validReports() {
		if got, ok := impl.ReportParse(impl.ReportText(r)); !ok || got != r {
			t.Fatalf("ReportParse of the text %q of %v is %v, %v", impl.ReportText(r), r, got, ok)
		}
	}
}

func TestPromise2ValidReportsHaveTexts(t *testing.T) {
	for _, r := range validReports() {
		want := "s" + strconv.Itoa(r.Station) + " d" + strconv.Itoa(r.Day) + " " + kindRows()[r.Kind-1].letter + strconv.Itoa(r.Value)
		if text := impl.ReportText(r); !impl.ReportValid(r) || text != want {
			t.Fatalf("%v has the validity %v and the text %q", r, impl.ReportValid(r), text)
		}
	}
}

func TestPromise2InvalidReportsHaveNoTexts(t *testing.T) {
	for _, r := range invalidReports() {
		if text := impl.ReportText(r); impl.ReportValid(r) || text != "" {
			t.Errorf("%v has the validity %v and the text %q", r, impl.ReportValid(r), text)
		}
	}
}

func TestPromise3TextsOutOfLimitsAreRefused(t *testing.T) {
	for _, text := range []string{
		"s0 d120 t5", "s10 d120 t5", "s-1 d120 t5", "s-3 d120 t5",
		"s3 d1000 t5", "s3 d-1 t5", "s3 d9999 t5",
		"s3 d120 t601", "s3 d120 t-601", "s3 d120 t1000",
		"s3 d120 r2001", "s3 d120 r-1", "s3 d120 r10000",
		"s3 d120 p8499", "s3 d120 p10901", "s3 d120 p0", "s3 d120 p-8500", "s3 d120 p-10900",
	} {
		expectRefused(t, text)
	}
}

func TestPromise3OtherNumbersAreRefused(t *testing.T) {
	for _, text := range []string{
		"s03 d120 t5", "s3 d0120 t5", "s3 d120 t05", "s3 d120 t-05", "s3 d00 t5", "s3 d000 t5", "s3 d120 t00", "s3 d120 r00",
		"s00003 d120 t5", "s000003 d120 t5", "s3 d000120 t5", "s3 d120 t000005", "s3 d120 p08500", "s3 d120 p010900",
		"s3 d-0 t5", "s3 d120 t-0", "s3 d120 r-0", "s3 d-00 t5", "s3 d120 t-00", "s-0 d120 t5",
		"s+3 d120 t5", "s3 d+120 t5", "s3 d120 t+5", "s3 d+0 t5", "s3 d120 t+0", "s3 d120 r+0", "s3 d120 t+-5", "s3 d120 t-+5",
		"s3 d120 t--5", "s3 d120 t5-", "s3 d120 t-", "s3 d120 -t5", "s3 -d120 t5", "-s3 d120 t5",
		"s d120 t5", "s3 d t5", "s3 d120 t", "s3 d120 r", "s3 d120 p",
		"s3 d120 t5.0", "s3 d120 t5,0", "s3 d120 t1e2", "s3 d120 t0x5", "s3 d1_0 t5", "s3 d120 t5a",
	} {
		expectRefused(t, text)
	}
}

// TestPromise3LongNumbersAreRefused also has numbers that become those of a
// valid report if they exceed 16, 32 or 64 bits.
func TestPromise3LongNumbersAreRefused(t *testing.T) {
	for _, text := range []string{
		"s65539 d120 t5", "s4294967299 d120 t5", "s18446744073709551619 d120 t5",
		"s3 d65656 t5", "s3 d4294967416 t5", "s3 d18446744073709551736 t5", "s3 d18446744073709551616 t5",
		"s3 d120 t65541", "s3 d120 t4294967301", "s3 d120 t18446744073709551621", "s3 d120 t-18446744073709551621", "s3 d120 r18446744073709551616",
		"s3 d120 t-18446744073709551616", "s3 d120 p18446744073709560116",
		"s3 d120 t9223372036854775807", "s3 d120 t9223372036854775808", "s3 d120 t-9223372036854775808", "s3 d120 t-9223372036854775809",
		"s3 d120 p109000", "s3 d120 p85000", "s3 d120 p100000", "s3 d120 t100000",
		"s3 d99999999999999999999999999999999999999999 t5", "s3 d120 t-99999999999999999999999999999999999999999",
		"s3 d00000000000000000000000000000000000000120 t5",
	} {
		expectRefused(t, text)
	}
}

func TestPromise3OtherWordsAreRefused(t *testing.T) {
	for _, text := range []string{
		"", " ", "  ", "s", "s3", "s3 ", "s3 d120", "s3 d120 ", "d120 t5", "s3 t5", "t5", "5", "3 120 5",
		"s3 d120 t5 ", " s3 d120 t5", "s3  d120 t5", "s3 d120  t5", "s3d120t5", "s3 d120t5", "s3d120 t5", "s 3 d120 t5", "s3 d 120 t5", "s3 d120 t 5", "s3 d120 t- 5",
		"s3 d120 t5 t5", "s3 d120 t5 r5", "s3 d120 t5 s3 d120 t5", "s3 d120 t5 x", "s3 d120 t5,", "s3 s3 d120 t5", "s3 d120 d120 t5",
		"d120 s3 t5", "s3 t5 d120", "t5 s3 d120", "d3 d120 t5", "s3 s120 t5",
		"S3 d120 t5", "s3 D120 t5", "s3 d120 T5", "s3 d120 R5", "s3 d120 P8500", "s3 d120 x5", "s3 d120 s5", "s3 d120 d5", "s3 d120 u5", "s3 d120 5", "s3 d120 tt5", "s3 d120 tr5",
		"k3 d120 t5", "b3 d120 t5", "s3 k120 t5",
		"s3\td120 t5", "s3 d120\tt5", "s3\nd120 t5", "s3 d120 t5\n", "s3 d120 t5\r", "\ns3 d120 t5", "\ts3 d120 t5", "s3 d120 t5\t",
		"s3 d120 t5\x00", "\x00s3 d120 t5", "s3\x00d120 t5", "s3 d120 \x005",
	} {
		expectRefused(t, text)
	}
}

func TestPromise3OtherBytesThanASCIIAreRefused(t *testing.T) {
	for _, text := range []string{
		"\u017f3 d120 t5", "s\u0663 d120 t5", "s3\u00a0d120 t5", "s3 d120\u2003t5", "s3 d120 t\u22125", "s3 d120 t\u06635", "s3 d120 t\uff15",
		"\ufeffs3 d120 t5", "s3 d120 t5\u00a0", "s3 d120 \u03c45", "s3 d120 t5\u0301",
		"\xf33 d120 t5", "s\xb3 d120 t5", "s3\xa0d120 t5", "s3 \xe4120 t5", "s3 d120 \xf45", "s3 d120 t\xb5", "s3 d120 t\xad5", "s3 d120 t5\xff", "\xff", "\xff\xfe",
	} {
		expectRefused(t, text)
	}
}

// reportOf tells by other means than the program what ReportParse returns.
func reportOf(text string) (impl.Report, bool) {
	m := regexp.MustCompile(`\As([1-9]) d(0|[1-9][0-9]{0,2}) ([trp])(0|-?[1-9][0-9]{0,4})\z`).FindStringSubmatch(text)
	if m == nil {
		return impl.Report{}, false
	}
	station, _ := strconv.Atoi(m[1])
	day, _ := strconv.Atoi(m[2])
	value, _ := strconv.Atoi(m[4])
	for _, k := range kindRows() {
		if k.letter == m[3] && k.low <= value && value <= k.high {
			return impl.Report{Station: station, Day: day, Kind: k.kind, Value: value}, true
		}
	}
	return impl.Report{}, false
}

// editsOf returns all texts that differ from a text by one byte that is
// missing, another one, or a further one.
func editsOf(text string) []string {
	var list []string
	for i := 0; i <= len(text); i++ {
		for b := 0; b < 256; b++ {
			list = append(list, text[:i]+string([]byte{byte(b)})+text[i:])
			if i < len(text) {
				list = append(list, text[:i]+string([]byte{byte(b)})+text[i+1:])
			}
		}
		if i < len(text) {
			list = append(list, text[:i]+text[i+1:], text[:i])
		}
	}
	return list
}

func TestPromise3EditedTexts(t *testing.T) {
	for _, base := range []string{"s3 d120 t-153", "s1 d0 t0", "s9 d999 p10900", "s5 d10 p8500", "s2 d7 r2000", "s8 d90 r0"} {
		found := 0
		for _, text := range editsOf(base) {
			r, ok := impl.ReportParse(text)
			want, fine := reportOf(text)
			if ok != fine || r != want {
				t.Fatalf("ReportParse(%q) is %v, %v", text, r, ok)
			}
			if ok && impl.ReportText(r) != text {
				t.Fatalf("ReportText of the report of %q is %q", text, impl.ReportText(r))
			}
			if ok {
				found++
			}
		}
		if found == 0 {
			t.Errorf("no text that is like %q is that of a report", base)
		}
	}
}

func TestPromise4BlankOrZeroMoreIsRefused(t *testing.T) {
	for _, r := range validReports() {
		text := impl.ReportText(r)
		if _, ok := impl.ReportParse(text); !ok {
			t.Fatalf("ReportParse(%q) fails", text)
		}
		expectRefused(t, text+" ")
		expectRefused(t, text[:1]+"0"+text[1:])
		if t.Failed() {
			return
		}
	}
}

func TestPromise5ValuesAreWithinTheLimitsOfTheirKind(t *testing.T) {
	for _, r := range validReports() {
		low, high, ok := impl.KindLimits(r.Kind)
		if !ok || r.Value < low || r.Value > high {
			t.Fatalf("%v has the limits %d, %d, %v", r, low, high, ok)
		}
	}
}

func TestPromise5ValuesOutOfTheLimitsAreInvalid(t *testing.T) {
	for _, k := range kindRows() {
		low, high, _ := impl.KindLimits(k.kind)
		r := impl.Report{Station: 9, Day: 0, Kind: k.kind}
		for _, v := range []int{low, high} {
			r.Value = v
			if !impl.ReportValid(r) {
				t.Errorf("%v is invalid", r)
			}
		}
		for _, v := range []int{math.MinInt, low - 1, high + 1, math.MaxInt} {
			r.Value = v
			if impl.ReportValid(r) {
				t.Errorf("%v is valid", r)
			}
		}
	}
}

func TestPromise6LimitsOfKinds(t *testing.T) {
	for _, k := range kindRows() {
		if low, high, ok := impl.KindLimits(k.kind); !ok || low != k.low || high != k.high || low >= high {
			t.Errorf("KindLimits(%d) is %d, %d, %v", k.kind, low, high, ok)
		}
	}
	for _, kind := range noKinds() {
		if low, high, ok := impl.KindLimits(kind); ok || low != 0 || high != 0 {
			t.Errorf("KindLimits(%d) is %d, %d, %v", kind, low, high, ok)
		}
	}
}
