package terms_test

import (
	"slices"
	"strconv"
	"testing"

	"ribband/api"
	"ribband/terms"
)

func TestLines(t *testing.T) {
	for text, want := range map[string][]string{
		"":         nil,
		"\n":       {""},
		"a":        {"a"},
		"a\n":      {"a"},
		"a\n\n":    {"a", ""},
		"a\nb":     {"a", "b"},
		"a\r\nb\n": {"a\r", "b"},
		"\nb\n":    {"", "b"},
	} {
		if got := terms.Lines(text); !slices.Equal(got, want) {
			t.Errorf("%q %q", text, got)
		}
	}
}

func TestFields(t *testing.T) {
	for line, want := range map[string][]string{
		"":        nil,
		" ":       nil,
		"a":       {"a"},
		"a b":     {"a", "b"},
		"a  b":    nil,
		" a":      nil,
		"a ":      nil,
		"a\tb \r": {"a\tb", "\r"},
	} {
		if got, ok := terms.Fields(line); !slices.Equal(got, want) || ok != (want != nil) {
			t.Errorf("%q %q %v", line, got, ok)
		}
	}
}

func TestNumber(t *testing.T) {
	for field, want := range map[string]int{"0": 0, "7": 7, "10": 10, "-1": -1, "-10": -10, "999999999": 999999999, "-999999999": -999999999} {
		if n, ok := terms.Number(field); n != want || !ok {
			t.Error(field, n, ok)
		}
	}
	for _, field := range []string{"", "-", "--1", "-0", "00", "01", "-01", "+1", "1000000000", "-1000000000", "1.", "1_0", "0x1", "1e3", " 1", "1 ", "a", "\u0661", "\xff", "99999999999999999999"} {
		if n, ok := terms.Number(field); n != 0 || ok {
			t.Error(field, n, ok)
		}
	}
}

func TestSpan(t *testing.T) {
	for field, want := range map[string]api.Span{"5": to(5, 5), "-5": to(-5, -5), "5..7": to(5, 7), "7..5": to(7, 5), "-2..4": to(-2, 4), "-4..-2": to(-4, -2), "0..-1": to(0, -1), "-999999999..999999999": to(-999999999, 999999999)} {
		x, ok := terms.Span(field)
		if x != want || !ok {
			t.Error(field, x, ok)
		}
		if text := terms.SpanText(x); text != field {
			t.Error(field, text)
		}
	}
	for _, field := range []string{"", "..", "5..", "..5", "5..5", "5.6", "5...6", "5..6..7", "5..06", "05..6", "-0", "-0..1", "0..-0", "5-6", "5..1000000000", "5,6"} {
		if x, ok := terms.Span(field); x != (api.Span{}) || ok {
			t.Error(field, x, ok)
		}
	}
}

func TestList(t *testing.T) {
	for field, want := range map[string][]int{"none": nil, "4": {4}, "4+0+-1": {4, 0, -1}, "7+7": {7, 7}} {
		list, ok := terms.List(field, terms.Number)
		if !slices.Equal(list, want) || !ok {
			t.Error(field, list, ok)
		}
		if text := terms.ListText(list, strconv.Itoa); text != field {
			t.Error(field, text)
		}
	}
	for _, field := range []string{"", "+", "4+", "+4", "4++5", "4+none", "none+4", "nones", "None", "4,5", "4+05", "4+5..6", "4 5"} {
		if list, ok := terms.List(field, terms.Number); len(list) > 0 || ok {
			t.Error(field, list, ok)
		}
	}
	for field, want := range map[string][]api.Span{"none": nil, "3": {to(3, 3)}, "0..1+3+8..5": {to(0, 1), to(3, 3), to(8, 5)}} {
		list, ok := terms.List(field, terms.Span)
		if !slices.Equal(list, want) || !ok {
			t.Error(field, list, ok)
		}
		if text := terms.ListText(list, terms.SpanText); text != field {
			t.Error(field, text)
		}
	}
	for _, field := range []string{"0..1+3..3", "0..1+", "0..+1", "0..1+none"} {
		if list, ok := terms.List(field, terms.Span); len(list) > 0 || ok {
			t.Error(field, list, ok)
		}
	}
}

func TestWords(t *testing.T) {
	for i, x := range []struct {
		fields []int
		want   []string
	}{
		{nil, []string{"a"}},
		{[]int{7}, []string{"a", "7"}},
		{[]int{0, -12, 0, 345}, []string{"a", "0", "-12", "0", "345"}},
	} {
		if got := terms.Words("a", x.fields...); !slices.Equal(got, x.want) {
			t.Error(i, got)
		}
	}
}

func TestText(t *testing.T) {
	if text := terms.Text([][]string{{"a", "1", "2"}, {"b"}, {"c", "3..4"}}); text != "a 1 2\nb\nc 3..4\n" {
		t.Errorf("%q", text)
	}
	if text := terms.Text(nil); text != "" {
		t.Errorf("%q", text)
	}
}
