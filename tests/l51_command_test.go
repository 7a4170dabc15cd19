package tests

import (
	"math/rand"
	"regexp"
	"slices"
	"strconv"
	"strings"
	"testing"

	"loop.example/weatherarchive/impl"
)

// The limit is written out here as the document has it, so that a wrong
// constant of the program is noticed.
const mostBytes = 600

// sameDays are the reports of promises 165 to 167: their days have another one
// between them.
const sameDays = "s1 d4 t-20\ns1 d6 t25\n"

var numberWord = regexp.MustCompile(`\A(0|[1-9][0-9]{0,4})\z`)

func numberBy(word string) int {
	if !numberWord.MatchString(word) {
		return -1
	}
	n, _ := strconv.Atoi(word)
	return n
}

// executeBy tells by other means than the program what Execute returns.
func executeBy(text string) string {
	if len(text) > mostBytes {
		return "too long\n"
	}
	var list []impl.Report
	output := ""
	for {
		line, rest, complete := strings.Cut(text, "\n")
		if !complete {
			return output + "reports " + strconv.Itoa(len(list)) + "\n"
		}
		text = rest
		r, ok := reportOf(line)
		switch {
		case !ok:
			output += commandBy(list, line)
		case len(list) == fullStore:
			output += "full"
		default:
			list = append(list, r)
			output += "ok"
		}
		output += "\n"
	}
}

func commandBy(list []impl.Report, line string) string {
	word := append(strings.Split(line, " "), "", "", "", "", "")
	station, kind, first, days, last := numberBy(word[1]), numberBy(word[2]), numberBy(word[3]), numberBy(word[4]), numberBy(word[5])
	fine := 1 <= station && station <= lastStation && temps <= kind && kind <= pressures && 0 <= first && first <= lastDay && 1 <= days && days <= mostDays
	switch word[0] {
	case "series", "fill", "mean":
		if !fine {
			return "no"
		}
	case "changes":
		if line != "changes" {
			return "what"
		}
		return "values" + changesBy(list)
	default:
		return "what"
	}
	series := seriesOf(toldBy(list), station, kind, first, days)
	switch word[0] {
	case "series":
		return "values" + seriesTextBy(series)
	case "fill":
		k := kindRows()[kind-1]
		if last < 0 || last > mostStep || fillBy(fillRow{series, k.low, k.high, last}) == nil {
			return "no"
		}
		return "ranges" + rangesTextBy(fillBy(fillRow{series, k.low, k.high, last}))
	}
	mean, ok := meanBy(series, last)
	if !ok {
		return "no"
	}
	return "mean " + strconv.Itoa(mean)
}

func changesBy(list []impl.Report) string {
	text := ""
	for i, r := range list {
		if before := valueOf(toldBy(list[:i]), keyOf(r)); before != noValue && before != r.Value {
			text += " " + strconv.Itoa(i)
		}
	}
	return text
}

func seriesTextBy(series []int) string {
	text := ""
	for _, value := range series {
		text += " " + strings.ReplaceAll(strconv.Itoa(value), strconv.Itoa(noValue), "-")
	}
	return text
}

func rangesTextBy(list []impl.Range) string {
	text := ""
	for _, r := range list {
		text += " " + strconv.Itoa(r.Low)
		if r.High > r.Low {
			text += ":" + strconv.Itoa(r.High)
		}
	}
	return text
}

func expectOutput(t *testing.T, text string, want string) {
	t.Helper()
	if got := impl.Execute(text); got != want {
		t.Fatalf("Execute of %q is %q, not %q", text, got, want)
	}
}

// expectLines checks what each line of a script prints. The line with the
// number of reports must be told, too.
func expectLines(t *testing.T, text string, want ...string) {
	t.Helper()
	expectOutput(t, text, strings.Join(want, "\n")+"\n")
}

// expectLastLine checks what a single line prints behind other lines.
func expectLastLine(t *testing.T, before string, line string, want string) {
	t.Helper()
	lines := strings.Split(impl.Execute(before+line+"\n"), "\n")
	if got := lines[len(lines)-3]; got != want || len(lines) != strings.Count(before, "\n")+3 {
		t.Fatalf("Execute of %q is %q, and does not end with %q", before+line+"\n", lines, want)
	}
}

func fullScript() string {
	return strings.Repeat("s1 d1 t5\n", fullStore)
}

// scripts has scripts of all commands, and others without any.
func scripts() []string {
	list := []string{
		"", "\n", "\n\n\n", " \n", "x\n", "changes\n", sameDays, fullScript(), fullScript() + "s1 d1 t6\n", fullScript() + "s1 d1 t6\nchanges\nseries 1 1 0 3\n",
		"s1 d1 t5\nseries 1 1 0 2\nmean 1 1 0 2 1\n", "fill 1 1 0 2 5\nx\nchanges\n", "series 1 1 0 2\ns1 d0 t7\nseries 1 1 0 2\ns1 d0 t8\nseries 1 1 0 2\nchanges\n",
		"s9 d999 p10900\nseries 9 3 999 12\nfill 9 3 999 12 0\nmean 9 3 999 12 11\n", "s1 d0 r0\ns1 d1 r2000\nfill 1 2 0 3 1999\nfill 1 2 0 3 2000\n",
	}
	source := rand.New(rand.NewSource(51))
	for range 3000 {
		text := ""
		for range 1 + source.Intn(20) {
			text += randomLine(source) + "\n"
		}
		list = append(list, text)
	}
	return list
}

// randomLine returns a line in which often all words are right, and sometimes
// one is not.
func randomLine(source *rand.Rand) string {
	pick := func(words ...string) string { return words[source.Intn(len(words))] }
	if source.Intn(2) == 0 {
		return "s" + pick("1", "1", "1", "9", "0") + " d" + pick("4", "5", "6", "7", "0", "999", "1000") + " " + pick("t-20", "t25", "t7", "t7", "r5", "p9000", "t601", "t05")
	}
	if source.Intn(8) == 0 {
		return pick("changes", "changes", "changes", "changes ", "", " ", "what", "s1", "series", " series 1 1 4 4")
	}
	words := []string{pick("series", "fill", "mean"), pick("1", "1", "1", "9"), pick("1", "1", "1", "2", "3"), pick("4", "3", "5", "0", "998"), pick("1", "2", "3", "4", "12"), pick("0", "1", "2", "10", "30", "12")}
	if source.Intn(3) == 0 {
		words[source.Intn(len(words))] = pick("", "0", "01", "-1", "x", "13", "1000", "99999", "100000", "1 1")
	}
	return strings.Join(words[:len(words)-source.Intn(6)/5], " ")
}

func TestConstantsOfScripts(t *testing.T) {
	if impl.MaxScript != mostBytes {
		t.Errorf("MaxScript is %d", impl.MaxScript)
	}
}

func TestPromise162EmptyScripts(t *testing.T) {
	expectOutput(t, "", "reports 0\n")
	for _, text := range []string{"x", " ", "s1 d1 t5", "changes", "\r", "\x00", "series 1 1 0 2"} {
		expectOutput(t, text, "reports 0\n")
	}
}

func TestPromise162NoOutputIsEmpty(t *testing.T) {
	for _, text := range scripts() {
		got := impl.Execute(text)
		if !strings.HasSuffix(got, "\n") || len(text) <= mostBytes && strings.Count(got, "\n") != strings.Count(text, "\n")+1 {
			t.Fatalf("Execute of %q is %q", text, got)
		}
	}
}

func TestPromise162AllScripts(t *testing.T) {
	for _, text := range scripts() {
		expectOutput(t, text, executeBy(text))
	}
}

func TestPromise162LongScripts(t *testing.T) {
	for _, unit := range []string{"x", "\n", " ", "\x00", "\xff", "\u00e9", "s1 d1 t5\n", "x\n", "changes\n", "series 1 1 0 12\n"} {
		text := strings.Repeat(unit, mostBytes)
		for many := mostBytes - 5; many <= mostBytes; many++ {
			expectOutput(t, text[:many], executeBy(text[:many]))
			if text[:many] != "" && impl.Execute(text[:many]) == "too long\n" {
				t.Fatalf("%d bytes are too long", many)
			}
		}
		for _, many := range []int{mostBytes + 1, mostBytes + 2, 2 * mostBytes, 1000} {
			expectOutput(t, strings.Repeat(unit, 2*mostBytes)[:many], "too long\n")
		}
	}
	expectOutput(t, strings.Repeat("\n", mostBytes), strings.Repeat("what\n", mostBytes)+"reports 0\n")
	expectOutput(t, strings.Repeat("\u00e9", mostBytes/2), "reports 0\n")
	expectOutput(t, strings.Repeat("\u00e9", mostBytes/2+1), "too long\n")
	expectOutput(t, strings.Repeat("x", 1<<16), "too long\n")
	expectOutput(t, strings.Repeat("x", 1<<16+5)+"\n", "too long\n")
}

// TestPromise162TheLastLineCounts has scripts that are too long by their last
// line, though it would be ignored.
func TestPromise162TheLastLineCounts(t *testing.T) {
	text := strings.Repeat("s1 d1 t5\n", 5)
	rest := mostBytes - len(text)
	ok := strings.Repeat("ok\n", 5)
	expectOutput(t, text+strings.Repeat("x", rest), ok+"reports 5\n")
	expectOutput(t, text+strings.Repeat("x", rest+1), "too long\n")
	expectOutput(t, text+strings.Repeat("x", rest-1)+"\n", ok+"what\nreports 5\n")
	expectOutput(t, text+strings.Repeat("x", rest)+"\n", "too long\n")
}

func TestPromise163WithoutWhatFollowsTheLastNewline(t *testing.T) {
	for _, text := range scripts() {
		for _, last := range []string{"", "x", " ", "s1 d1 t5", "changes", "series 1 1 0 2", "\r", "s1 d1 t5\x00"} {
			if len(text+last) <= mostBytes {
				expectOutput(t, text+last, impl.Execute(text))
			}
		}
		for cut := range min(len(text), mostBytes+1) {
			if cut%7 == 0 {
				expectOutput(t, text[:cut], impl.Execute(text[:strings.LastIndex(text[:cut], "\n")+1]))
			}
		}
	}
}

func TestPromise163LastLineExamples(t *testing.T) {
	expectLines(t, "s1 d1 t5\ns1 d1 t6", "ok", "reports 1")
	expectLines(t, "s1 d1 t5\ns1 d1 t6\n", "ok", "ok", "reports 2")
	expectLines(t, "s1 d1 t5\nchanges", "ok", "reports 1")
	expectLines(t, "s1 d1 t5\n\n", "ok", "what", "reports 1")
	expectLines(t, "s1 d1 t5\n ", "ok", "reports 1")
	expectLines(t, "s1 d1 t5\r\ns1 d1 t6\n", "what", "ok", "reports 1")
	expectLines(t, "s1 d1 t5\rs1 d1 t6\n", "what", "reports 0")
	expectLines(t, "\ns1 d1 t5\n", "what", "ok", "reports 1")
	expectLines(t, "s1 d1 t5\n\x00\n", "ok", "what", "reports 1")
}

func TestPromise164AnUnknownLine(t *testing.T) {
	for _, text := range scripts() {
		if len(text)+len("zzz\n") > mostBytes {
			continue
		}
		before := strings.Split(impl.Execute(text), "\n")
		want := slices.Insert(before, len(before)-2, "what")
		expectOutput(t, text+"zzz\n", strings.Join(want, "\n"))
	}
}

func TestPromise164OtherLines(t *testing.T) {
	for _, line := range []string{
		"", " ", "  ", "          ", "\t", "\r", "\x00", "zzz", "what", "ok", "no", "full", "reports", "reports 0", "values", "values 5", "ranges", "too long", "none", "help", "-", "/", "1", "0", "-1", "#",
		" series 1 1 4 3", "  series 1 1 4 3", "\tseries 1 1 4 3", "series\t1 1 4 3", "series1 1 4 3", "Series 1 1 4 3", "SERIES 1 1 4 3", "serie 1 1 4 3", "seriess 1 1 4 3", "series, 1 1 4 3", "1 1 4 3", "1 series 1 4 3",
		" fill 1 1 4 3 30", "Fill 1 1 4 3 30", "fil 1 1 4 3 30", "fills 1 1 4 3 30", "fill\r 1 1 4 3 30", " mean 1 1 4 3 1", "Mean 1 1 4 3 1", "mea 1 1 4 3 1", "means 1 1 4 3 1", "mean: 1 1 4 3 1", "x mean 1 1 4 3 1",
		"s1 d4 t5 ", " s1 d4 t5", "s1  d4 t5", "s1 d4  t5", "s1 d4 t5 x", "s1 d4 t5 s1 d4 t5", "s1 d4", "s1", "s", "d4 s1 t5", "s1 d4 t", "s1 d4 x5", "s1 d4 t5\r", "s1 d4 t5\t", "S1 d4 t5", "s1\td4 t5", "b1 k1 d4 5 =0",
		"s\u0661 d4 t5", "\ufeffs1 d4 t5", "s1\u00a0d4 t5", "\xff", "\u00a0", "series\u00a01 1 4 3",
	} {
		expectLastLine(t, sameDays, line, "what")
		expectOutput(t, line+"\n", "what\nreports 0\n")
	}
}

func TestPromise165SeriesExamples(t *testing.T) {
	expectOutput(t, sameDays+"series 1 1 4 3\n", "ok\nok\nvalues -20 - 25\nreports 2\n")
	for line, want := range map[string]string{
		"series 1 1 4 1": "values -20", "series 1 1 4 2": "values -20 -", "series 1 1 5 1": "values -", "series 1 1 5 2": "values - 25", "series 1 1 6 1": "values 25", "series 1 1 3 5": "values - -20 - 25 -",
		"series 1 1 0 12": "values - - - - -20 - 25 - - - - -", "series 1 1 7 3": "values - - -", "series 1 1 999 1": "values -", "series 1 1 999 12": "values - - - - - - - - - - - -",
		"series 2 1 4 3": "values - - -", "series 9 1 4 3": "values - - -", "series 1 2 4 3": "values - - -", "series 1 3 4 3": "values - - -", "series 4 1 1 3": "values - - -",
	} {
		expectLastLine(t, sameDays, line, want)
	}
	expectLines(t, "series 1 1 4 3\n"+sameDays+"s1 d5 t0\nseries 1 1 4 3\ns1 d4 t-600\nseries 1 1 4 3\n", "values - - -", "ok", "ok", "ok", "values -20 0 25", "ok", "values -600 0 25", "reports 4")
	expectLines(t, "s9 d999 p10900\ns9 d998 p8500\ns9 d999 r2000\nseries 9 3 998 3\nseries 9 2 998 3\n", "ok", "ok", "ok", "values 8500 10900 -", "values - 2000 -", "reports 3")
}

func TestPromise165SeriesOfTwoDays(t *testing.T) {
	for _, k := range kindRows() {
		for first := 0; first+2 <= lastDay; first += 37 {
			a := impl.Report{Station: 1 + first%lastStation, Day: first, Kind: k.kind, Value: k.low + first%9}
			b := a
			b.Day, b.Value = first+2, k.high-first%9
			text := impl.ReportText(a) + "\n" + impl.ReportText(b) + "\n"
			line := strings.Join([]string{"series", strconv.Itoa(a.Station), strconv.Itoa(k.kind), strconv.Itoa(first), "3"}, " ")
			expectLastLine(t, text, line, "values "+strconv.Itoa(a.Value)+" - "+strconv.Itoa(b.Value))
		}
	}
}

// TestPromise165WordsOfSeries has each word missing, each word out of its
// limits, and further words, which are ignored.
func TestPromise165WordsOfSeries(t *testing.T) {
	for _, line := range []string{
		"series", "series ", "series 1", "series 1 1", "series 1 1 4", "series 1 1 4 ", "series  1 1 4 3", "series 1  1 4 3", "series 1 1  4 3", "series 1 1 4  3", "series 1 1  3", "series  1 4 3", "series     ", "series 1 1 4  ",
		"series 0 1 4 3", "series 10 1 4 3", "series 1 0 4 3", "series 1 4 4 3", "series 1 1 1000 3", "series 1 1 4 0", "series 1 1 4 13", "series 99999 1 4 3", "series 1 99999 4 3", "series 1 1 99999 3", "series 1 1 4 99999",
		"series x 1 4 3", "series 1 t 4 3", "series 1 1 d4 3", "series s1 1 d4 3", "series 1 1 4 x", "series -1 1 4 3", "series 1 -1 4 3", "series 1 1 -4 3", "series 1 1 4 -3", "series 1 1 -1 3", "series 1 1 - 3",
	} {
		expectLastLine(t, sameDays, line, "no")
	}
	for _, line := range []string{
		"series 1 1 4 3 ", "series 1 1 4 3  ", "series 1 1 4 3 x", "series 1 1 4 3 0", "series 1 1 4 3 -1", "series 1 1 4 3 1 1 4 3", "series 1 1 4 3 series", "series 1 1 4 3  x y", "series 1 1 4 3 \r", "series 1 1 4 3 \xff",
	} {
		expectLastLine(t, sameDays, line, "values -20 - 25")
	}
	for _, line := range []string{"series 1 1 4 3\r", "series 1 1 4 3\t", "series 1 1 4 3x", "series 1 1 4 3,", "series 1 1 4 3\x00"} {
		expectLastLine(t, sameDays, line, "no")
	}
}

// TestPromise165OtherNumbers has words that other languages take for a number,
// at each place of each command.
func TestPromise165OtherNumbers(t *testing.T) {
	for _, word := range []string{
		"", "01", "001", "00001", "000001", "+1", "-1", "-0", "--1", "1-", "1.", "1.0", ".1", "1,0", "1e0", "0x1", "0b1", "0o1", "1_", "_1", "1x", "x1", "'1'", "\"1\"", "\t1", "1\r", "1\x00", "\u0661", "\uff11", "\xb1",
		"100001", "000000", "00", "65537", "65540", "99999", "100000", "999999", "4294967297", "18446744073709551617", "18446744073709551620", "99999999999999999999999999999999", "9223372036854775808", "-18446744073709551615",
	} {
		for place := 1; place <= 5; place++ {
			words := []string{"series", "1", "1", "4", "3", "30"}
			words[place] = word
			if place < 5 {
				expectLastLine(t, sameDays, strings.Join(words, " "), "no")
			} else {
				expectLastLine(t, sameDays, strings.Join(words, " "), "values -20 - 25")
			}
			words[0] = "fill"
			expectLastLine(t, sameDays, strings.Join(words, " "), "no")
			words[0] = "mean"
			if place == 5 && (word == "65537" || word == "65540" || word == "99999") {
				expectLastLine(t, sameDays, strings.Join(words, " "), "mean 2")
			} else {
				expectLastLine(t, sameDays, strings.Join(words, " "), "no")
			}
		}
	}
}

func TestPromise166FillExamples(t *testing.T) {
	expectOutput(t, sameDays+"fill 1 1 4 3 30\nfill 1 1 4 3 10\n", "ok\nok\nranges -20 -5:10 25\nno\nreports 2\n")
	for line, want := range map[string]string{
		"fill 1 1 4 3 22": "no", "fill 1 1 4 3 23": "ranges -20 2:3 25", "fill 1 1 4 3 24": "ranges -20 1:4 25", "fill 1 1 4 3 0": "no", "fill 1 1 4 3 19999": "ranges -20 -600:600 25", "fill 1 1 4 3 20000": "no", "fill 1 1 4 3 99999": "no", "fill 1 1 4 3 100000": "no",
		"fill 1 1 4 1 0": "ranges -20", "fill 1 1 5 1 0": "ranges -600:600", "fill 1 1 5 2 0": "ranges 25 25", "fill 1 1 6 3 0": "ranges 25 25 25", "fill 1 1 6 3 5": "ranges 25 20:30 15:35", "fill 1 1 3 5 45": "ranges -65:25 -20 -20:25 25 -20:70",
		"fill 1 2 4 2 7": "ranges 0:2000 0:2000", "fill 1 3 4 2 7": "ranges 8500:10900 8500:10900", "fill 2 1 4 1 0": "ranges -600:600", "fill 1 1 999 2 0": "ranges -600:600 -600:600",
	} {
		expectLastLine(t, sameDays, line, want)
	}
	expectLines(t, "s1 d0 t-600\ns1 d2 t-600\nfill 1 1 0 3 5\nfill 1 1 0 3 0\n", "ok", "ok", "ranges -600 -600:-595 -600", "ranges -600 -600 -600", "reports 2")
	expectLines(t, "s1 d0 r2000\ns1 d2 r1999\nfill 1 2 0 4 1\nfill 1 2 0 4 0\n", "ok", "ok", "ranges 2000 1999:2000 1999 1998:2000", "no", "reports 2")
	expectLines(t, "s1 d0 p8500\nfill 1 3 0 3 2400\nfill 1 3 0 3 1\n", "ok", "ranges 8500 8500:10900 8500:10900", "ranges 8500 8500:8501 8500:8502", "reports 1")
	expectLines(t, "s1 d0 t-45\ns1 d2 t45\nfill 1 1 0 3 45\nfill 1 1 0 3 44\n", "ok", "ok", "ranges -45 0 45", "no", "reports 2")
}

// TestPromise166FilledDays has all pairs of values whose difference is at most
// twice 30, but more than twice 10.
func TestPromise166FilledDays(t *testing.T) {
	for low := -600; low <= 600; low += 75 {
		for difference := 21; difference <= 60 && low+difference <= 600; difference += 3 {
			high := low + difference
			for _, ends := range [][2]int{{low, high}, {high, low}} {
				text := impl.ReportText(temp(3, 500, ends[0])) + "\n" + impl.ReportText(temp(3, 502, ends[1])) + "\n"
				filled := rangesTextBy([]impl.Range{{Low: ends[0], High: ends[0]}, {Low: max(high-30, -600), High: min(low+30, 600)}, {Low: ends[1], High: ends[1]}})
				expectLastLine(t, text, "fill 3 1 500 3 30", "ranges"+filled)
				expectLastLine(t, text, "fill 3 1 500 3 10", "no")
			}
		}
	}
}

func TestPromise166WordsOfFill(t *testing.T) {
	for _, line := range []string{
		"fill", "fill ", "fill 1", "fill 1 1", "fill 1 1 4", "fill 1 1 4 3", "fill 1 1 4 3 ", "fill  1 1 4 3 30", "fill 1  1 4 3 30", "fill 1 1  4 3 30", "fill 1 1 4  3 30", "fill 1 1 4 3  30", "fill 1 1 4  30", "fill      ", "fill 1 1 5 1", "fill 1 1 5 1 ",
		"fill 0 1 4 3 30", "fill 10 1 4 3 30", "fill 1 0 4 3 30", "fill 1 4 4 3 30", "fill 1 1 1000 3 30", "fill 1 1 4 0 30", "fill 1 1 4 13 30", "fill 1 1 4 3 x", "fill 1 1 4 3 -30", "fill 1 1 4 3 030", "fill 1 1 4 3 30x",
	} {
		expectLastLine(t, sameDays, line, "no")
	}
	for _, line := range []string{"fill 1 1 4 3 30 ", "fill 1 1 4 3 30  ", "fill 1 1 4 3 30 x", "fill 1 1 4 3 30 10", "fill 1 1 4 3 30 fill 1 1 4 3 30"} {
		expectLastLine(t, sameDays, line, "ranges -20 -5:10 25")
	}
}

func TestPromise167MeanExamples(t *testing.T) {
	expectOutput(t, sameDays+"mean 1 1 4 3 1\nmean 1 1 4 3 0\n", "ok\nok\nmean 2\nno\nreports 2\n")
	for line, want := range map[string]string{
		"mean 1 1 4 3 2": "mean 2", "mean 1 1 4 3 12": "mean 2", "mean 1 1 4 3 99999": "mean 2", "mean 1 1 4 3 100000": "no", "mean 1 1 4 3 01": "no", "mean 1 1 4 3 -1": "no", "mean 1 1 4 3 x": "no", "mean 1 1 4 3 ": "no", "mean 1 1 4 3": "no",
		"mean 1 1 4 1 0": "mean -20", "mean 1 1 4 1": "no", "mean 1 1 6 1 0": "mean 25", "mean 1 1 5 1 12": "no", "mean 1 1 5 2 0": "no", "mean 1 1 5 2 1": "mean 25", "mean 1 1 0 12 9": "no", "mean 1 1 0 12 10": "mean 2", "mean 1 1 6 12 11": "mean 25", "mean 1 1 7 12 99999": "no",
		"mean 2 1 4 3 12": "no", "mean 1 2 4 3 12": "no", "mean 1 1 999 12 12": "no", "mean": "no", "mean ": "no", "mean 1": "no", "mean 1 1": "no", "mean 1 1 4": "no", "mean      ": "no", "mean  1 1 4 3 1": "no", "mean 1  1 4 3 1": "no", "mean 1 1  4 3 1": "no", "mean 1 1 4  3 1": "no", "mean 1 1 4 3  1": "no",
		"mean 0 1 4 3 1": "no", "mean 10 1 4 3 1": "no", "mean 1 0 4 3 1": "no", "mean 1 4 4 3 1": "no", "mean 1 1 1000 3 1": "no", "mean 1 1 4 0 1": "no", "mean 1 1 4 13 12": "no",
		"mean 1 1 4 3 1 ": "mean 2", "mean 1 1 4 3 1 x": "mean 2", "mean 1 1 4 3 1  0": "mean 2", "mean 1 1 4 3 1 mean": "mean 2",
	} {
		expectLastLine(t, sameDays, line, want)
	}
	expectLines(t, "s1 d0 t0\nmean 1 1 0 1 0\ns1 d1 t-5\nmean 1 1 0 2 0\ns1 d0 t-2\nmean 1 1 0 2 0\ns2 d5 p10900\nmean 2 3 5 1 0\n", "ok", "mean 0", "ok", "mean -2", "ok", "mean -4", "ok", "mean 10900", "reports 4")
}

// TestPromise167MeansOfFive has all pairs of values that are together 5.
func TestPromise167MeansOfFive(t *testing.T) {
	for value := -595; value <= 600; value += 7 {
		text := impl.ReportText(temp(3, 500, value)) + "\n" + impl.ReportText(temp(3, 502, 5-value)) + "\n"
		expectLastLine(t, text, "mean 3 1 500 3 1", "mean 2")
		expectLastLine(t, text, "mean 3 1 500 3 0", "no")
	}
}

func TestPromise168ChangeExamples(t *testing.T) {
	expectOutput(t, "s1 d1 t5\ns1 d1 t5\ns1 d1 t6\nchanges\n", "ok\nok\nok\nvalues 2\nreports 3\n")
	expectLines(t, "changes\n", "values", "reports 0")
	expectLines(t, "s1 d1 t5\nchanges\n", "ok", "values", "reports 1")
	expectLines(t, "s1 d1 t5\ns1 d1 t6\nchanges\ns1 d1 t5\nchanges\nchanges\n", "ok", "ok", "values 1", "ok", "values 1 2", "values 1 2", "reports 3")
	expectLines(t, "s1 d1 t5\ns2 d1 t6\ns1 d2 t6\ns1 d1 r6\nchanges\ns1 d1 t6\nchanges\n", "ok", "ok", "ok", "ok", "values", "ok", "values 4", "reports 5")
	expectLines(t, "s1 d1 t5\nx\ns1 d1 t601\ns1 d1 t6\nchanges\n", "ok", "what", "what", "ok", "values 1", "reports 2")
	expectLines(t, sameDays+"changes", "ok", "ok", "reports 2")
}

func TestPromise168ChangesAloneInTheirLine(t *testing.T) {
	before := "s1 d1 t5\ns1 d1 t6\n"
	expectLastLine(t, before, "changes", "values 1")
	for _, line := range []string{"changes ", " changes", "changes  ", "changes x", "changes 1", "changes 1 1 0 2", "changes changes", "changes\t", "changes\r", "changes\x00", "change", "changess", "Changes", "CHANGES", "changes,", "changes=", "\ufeffchanges"} {
		expectLastLine(t, before, line, "what")
	}
}

func TestPromise168ChangesOfAFullStore(t *testing.T) {
	text, want := "", ""
	for i := range fullStore {
		text += "s1 d1 t" + strconv.Itoa(i%2) + "\n"
		if i > 0 {
			want += " " + strconv.Itoa(i)
		}
	}
	expectLastLine(t, text, "changes", "values"+want)
	expectLastLine(t, text+"s1 d1 t5\n", "changes", "values"+want)
}

func TestPromise169ReportsThatAreNone(t *testing.T) {
	expectLines(t, "s1 d1 t601\ns0 d1 t5\ns1 d01 t5\n", "what", "what", "what", "reports 0")
	for _, line := range []string{
		"s1 d1 t601", "s1 d1 t-601", "s1 d1 t99999", "s1 d1 r2001", "s1 d1 r-1", "s1 d1 p8499", "s1 d1 p10901", "s0 d1 t5", "s10 d1 t5", "s-1 d1 t5", "s1 d1000 t5", "s1 d-1 t5",
		"s01 d1 t5", "s1 d01 t5", "s1 d1 t05", "s1 d1 t-05", "s1 d1 t00", "s1 d00 t5", "s1 d1 p08500", "s1 d1 t-0", "s1 d1 t+5", "s1 d1 t100000", "s1 d1 t18446744073709551621",
	} {
		expectOutput(t, line+"\n", "what\nreports 0\n")
		expectLastLine(t, fullScript(), line, "what")
		expectLastLine(t, sameDays, line, "what")
	}
}

func TestPromise169ReportsThatAreOne(t *testing.T) {
	for _, r := range validReports() {
		expectOutput(t, impl.ReportText(r)+"\n", "ok\nreports 1\n")
	}
	for _, line := range []string{"s1 d1 t600", "s1 d1 t-600", "s1 d1 r2000", "s1 d1 r0", "s1 d1 p8500", "s1 d1 p10900", "s1 d0 t5", "s9 d999 t0"} {
		expectOutput(t, line+"\n"+line+"\n", "ok\nok\nreports 2\n")
		expectLastLine(t, fullScript(), line, "full")
	}
}

func TestPromise169FullStores(t *testing.T) {
	for many := range mostBytes/len("s1 d1 t5\n") + 1 {
		want := strings.Repeat("ok\n", min(many, fullStore)) + strings.Repeat("full\n", max(many-fullStore, 0)) + "reports " + strconv.Itoa(min(many, fullStore)) + "\n"
		expectOutput(t, strings.Repeat("s1 d1 t5\n", many), want)
	}
	expectOutput(t, fullScript()+"s1 d1 t6\nseries 1 1 1 1\nchanges\nx\ns1 d2 t5\nseries 1 1 1 2\n", strings.Repeat("ok\n", fullStore)+"full\nvalues 5\nvalues\nwhat\nfull\nvalues 5 -\nreports 40\n")
}

// TestPromise169EditedScripts has all scripts that differ from others by one
// byte.
func TestPromise169EditedScripts(t *testing.T) {
	for _, base := range []string{"s1 d4 t-2\nseries 1 1 4 3\n", "fill 1 1 4 3 7\n", "s1 d4 t5\nmean 1 1 4 3 2\n", "s1 d4 t5\ns1 d4 t6\nchanges\n"} {
		for _, text := range editsOf(base) {
			expectOutput(t, text, executeBy(text))
		}
	}
}

// TestWholeOutputOfALongerScript has each command and each answer.
func TestWholeOutputOfALongerScript(t *testing.T) {
	script := `s3 d120 t-153
s3 d121 t-140
s3 d123 t-100
series 3 1 120 4
fill 3 1 120 4 20
fill 3 1 120 4 19
fill 3 1 119 6 40
mean 3 1 120 4 0
mean 3 1 120 4 1
changes
s3 d121 t-141
s3 d121 t-141
s3 d122 t-120
changes
series 3 1 120 4
mean 3 1 120 4 0
fill 3 1 120 4 30

s3 d120 r55
s3 d120 p9999
series 3 2 119 2
series 3 3 120 1
mean 3 3 120 1 0
series 3 4 120 1
s3 d1000 t5
changes x
series 3 1 120
mean 3 1
fill
s9 d999 p10901
s3  d120 t5
what
s3 d120 t-15`
	want := `ok
ok
ok
values -153 -140 - -100
ranges -153 -140 -120 -100
no
ranges -193:-113 -153 -140 -140:-100 -100 -140:-60
no
mean -131
values
ok
ok
ok
values 3
values -153 -141 -120 -100
mean -128
ranges -153 -141 -120 -100
what
ok
ok
values - 55
values 9999
mean 9999
no
what
what
no
no
no
what
what
what
reports 8
`
	expectOutput(t, script, want)
	expectOutput(t, script, executeBy(script))
}

func TestScriptsKeepNothingBetweenCalls(t *testing.T) {
	for range 3 {
		expectOutput(t, sameDays+"series 1 1 4 3\n", "ok\nok\nvalues -20 - 25\nreports 2\n")
		expectOutput(t, "series 1 1 4 3\nchanges\n", "values - - -\nvalues\nreports 0\n")
		expectOutput(t, "x\n", "what\nreports 0\n")
	}
}
