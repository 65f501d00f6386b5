package offsets

import (
	"strconv"
	"strings"

	"ribband/api"
)

// parts are the feet, inches and eighths of a figure.
type parts [3]int

const (
	smudged    = -1
	unmeasured = "-"
	longest    = len("9-11-7")
)

// partSizes are how many numbers each part of a figure can be.
var partSizes = [3]int{10, 12, 8}

func readParts(figure string) (parts, bool) {
	if len(figure) > longest {
		return parts{}, false
	}
	fields := strings.Split(figure, "-")
	if len(fields) != len(partSizes) {
		return parts{}, false
	}
	var p parts
	for i, size := range partSizes {
		n, ok := readPart(fields[i], size)
		if !ok {
			return parts{}, false
		}
		p[i] = n
	}
	return p, true
}

func readPart(field string, size int) (int, bool) {
	if field == "?" {
		return smudged, true
	}
	if field == "" || len(field) > 1 && field[0] == '0' {
		return 0, false
	}
	n := 0
	for _, digit := range field {
		if digit < '0' || digit > '9' {
			return 0, false
		}
		n = n*10 + int(digit-'0')
	}
	return n, n < size
}

func partsOf(measure int) parts {
	var p parts
	for i := len(p) - 1; i >= 0; i-- {
		p[i] = measure % partSizes[i]
		measure /= partSizes[i]
	}
	return p
}

func (p parts) measure() int {
	n := 0
	for i, size := range partSizes {
		n = n*size + p[i]
	}
	return n
}

func (p parts) least() int {
	for i := range p {
		p[i] = max(p[i], 0)
	}
	return p.measure()
}

func (p parts) most() int {
	for i, size := range partSizes {
		if p[i] == smudged {
			p[i] = size - 1
		}
	}
	return p.measure()
}

func (p parts) many() int {
	n := 1
	for i, size := range partSizes {
		if p[i] == smudged {
			n *= size
		}
	}
	return n
}

func (p parts) smudges() int {
	n := 0
	for _, part := range p {
		if part == smudged {
			n++
		}
	}
	return n
}

// allows tells whether a figure with these parts can be a measure.
func (p parts) allows(measure int) bool {
	q := partsOf(measure)
	for i := range q {
		if p[i] == smudged {
			q[i] = smudged
		}
	}
	return q == p
}

// can returns the measures that a figure with these parts can be, ascending.
func (p parts) can() []int {
	var list []int
	for measure := p.least(); measure <= p.most(); measure++ {
		if p.allows(measure) {
			list = append(list, measure)
		}
	}
	return list
}

// merge returns the parts that can be read of either figure, unless they contradict each other.
func (p parts) merge(q parts) (parts, bool) {
	for i := range p {
		switch {
		case p[i] == smudged:
			p[i] = q[i]
		case q[i] != smudged && q[i] != p[i]:
			return parts{}, false
		}
	}
	return p, true
}

func (p parts) figure() string {
	var fields []string
	for _, part := range p {
		if part == smudged {
			fields = append(fields, "?")
		} else {
			fields = append(fields, strconv.Itoa(part))
		}
	}
	return strings.Join(fields, "-")
}

func isMeasure(n int) bool { return n >= 0 && n <= api.MaxOffsetsMeasure }
