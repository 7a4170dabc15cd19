package impl

import (
	"strconv"
	"strings"
)

// StationMax is the largest number of a station.
const StationMax = 9

// DayMax is the largest day of a report.
const DayMax = 999

// KindTemp is a temperature in tenths of a degree.
const KindTemp = 1

// KindRain is rain in tenths of a millimetre.
const KindRain = 2

// KindPress is a pressure in tenths of a hectopascal.
const KindPress = 3

// kindLetters has the letter of each kind, in the order of the kinds.
const kindLetters = "trp"

// numberDigits is how long numbers of valid reports can be. Longer ones are
// refused while they are read, so that none can exceed an int.
const numberDigits = 5

// Report is a report of a station: a value of a kind on a day.
type Report struct {
	Station int
	Day     int
	Kind    int
	Value   int
}

// ReportValid reports whether r is valid.
func ReportValid(r Report) bool {
	low, high, ok := KindLimits(r.Kind)
	return ok &&
		1 <= r.Station && r.Station <= StationMax &&
		0 <= r.Day && r.Day <= DayMax &&
		low <= r.Value && r.Value <= high
}

// ReportText returns the text of a report, or "" if it is invalid.
func ReportText(r Report) string {
	if !ReportValid(r) {
		return ""
	}
	letter := string(kindLetters[r.Kind-KindTemp])
	return "s" + strconv.Itoa(r.Station) + " d" + strconv.Itoa(r.Day) + " " + letter + strconv.Itoa(r.Value)
}

// ReportParse returns the report of a text. It fails for all texts that
// ReportText does not return.
func ReportParse(text string) (Report, bool) {
	c := cursor{text: text}
	r, ok := c.report()
	if !ok || !c.done() || !ReportValid(r) {
		return Report{}, false
	}
	return r, true
}

// KindLimits returns the least and the greatest value of a kind.
func KindLimits(kind int) (int, int, bool) {
	switch kind {
	case KindTemp:
		return -600, 600, true
	case KindRain:
		return 0, 2000, true
	case KindPress:
		return 8500, 10900, true
	}
	return 0, 0, false
}

// cursor reads a text from its beginning on. Where a method fails, the text
// is malformed, and the place of the cursor has no meaning any more.
type cursor struct {
	text string
	at   int
}

func (c *cursor) done() bool {
	return c.at == len(c.text)
}

func (c *cursor) take(expected byte) bool {
	if c.done() || c.text[c.at] != expected {
		return false
	}
	c.at++
	return true
}

// digits refuses leading zeros, since a number would have several texts
// otherwise.
func (c *cursor) digits() (int, bool) {
	start := c.at
	n := 0
	for !c.done() && '0' <= c.text[c.at] && c.text[c.at] <= '9' {
		if c.at-start == numberDigits {
			return 0, false
		}
		n = 10*n + int(c.text[c.at]-'0')
		c.at++
	}
	length := c.at - start
	if length == 0 || length > 1 && c.text[start] == '0' {
		return 0, false
	}
	return n, true
}

// number refuses a zero with a minus sign for the same reason.
func (c *cursor) number() (int, bool) {
	negative := c.take('-')
	n, ok := c.digits()
	if !ok || negative && n == 0 {
		return 0, false
	}
	if negative {
		return -n, true
	}
	return n, true
}

func (c *cursor) word(letter byte) (int, bool) {
	if !c.take(letter) {
		return 0, false
	}
	return c.number()
}

func (c *cursor) kind() (int, bool) {
	if c.done() {
		return 0, false
	}
	place := strings.IndexByte(kindLetters, c.text[c.at])
	if place < 0 {
		return 0, false
	}
	c.at++
	return KindTemp + place, true
}

// report leaves it to its caller to check the limits of the numbers.
func (c *cursor) report() (Report, bool) {
	station, ok := c.word('s')
	if !ok || !c.take(' ') {
		return Report{}, false
	}
	day, ok := c.word('d')
	if !ok || !c.take(' ') {
		return Report{}, false
	}
	kind, ok := c.kind()
	if !ok {
		return Report{}, false
	}
	value, ok := c.number()
	if !ok {
		return Report{}, false
	}
	return Report{Station: station, Day: day, Kind: kind, Value: value}, true
}
