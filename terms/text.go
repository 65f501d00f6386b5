package terms

import (
	"slices"
	"strconv"
	"strings"

	"ribband/api"
)

const (
	mostDigits = 9 // of a number in a field
	between    = ".."
	plus       = "+"
	nothing    = "none"
)

// Lines returns the lines of a text, the last of which need not end with a line feed.
func Lines(text string) []string {
	if text == "" {
		return nil
	}
	return strings.Split(strings.TrimSuffix(text, "\n"), "\n")
}

// Fields returns the word and the fields of a line, unless one of them is empty.
func Fields(line string) ([]string, bool) {
	fields := strings.Split(line, " ")
	if slices.Contains(fields, "") {
		return nil, false
	}
	return fields, true
}

// Number reads a number in a field.
func Number(field string) (int, bool) {
	digits := strings.TrimPrefix(field, "-")
	if len(digits) < 1 || len(digits) > mostDigits || digits[0] == '0' && field != "0" {
		return 0, false
	}
	for _, digit := range digits {
		if digit < '0' || digit > '9' {
			return 0, false
		}
	}
	n, err := strconv.Atoi(field)
	return n, err == nil
}

// Span reads a span in a field. Whether its Low is not above its High is not looked at.
func Span(field string) (api.Span, bool) {
	low, high, two := strings.Cut(field, between)
	from, ok := Number(low)
	if !two {
		return api.Span{Low: from, High: from}, ok
	}
	to, good := Number(high)
	if !ok || !good || from == to {
		return api.Span{}, false
	}
	return api.Span{Low: from, High: to}, true
}

// SpanText writes a span.
func SpanText(x api.Span) string {
	if x.Low == x.High {
		return strconv.Itoa(x.Low)
	}
	return strconv.Itoa(x.Low) + between + strconv.Itoa(x.High)
}

// List reads a list in a field, of elements that are read one by one.
func List[T any](field string, read func(string) (T, bool)) ([]T, bool) {
	if field == nothing {
		return nil, true
	}
	var list []T
	for _, part := range strings.Split(field, plus) {
		x, ok := read(part)
		if !ok {
			return nil, false
		}
		list = append(list, x)
	}
	return list, true
}

// ListText writes a list, of elements that are written one by one.
func ListText[T any](list []T, write func(T) string) string {
	if len(list) == 0 {
		return nothing
	}
	var parts []string
	for _, x := range list {
		parts = append(parts, write(x))
	}
	return strings.Join(parts, plus)
}

// Words returns the word of a line and its fields, all of which are numbers.
func Words(word string, fields ...int) []string {
	words := []string{word}
	for _, n := range fields {
		words = append(words, strconv.Itoa(n))
	}
	return words
}

// Text writes lines, each of which is a word and its fields.
func Text(lines [][]string) string {
	var text strings.Builder
	for _, fields := range lines {
		text.WriteString(strings.Join(fields, " ") + "\n")
	}
	return text.String()
}
