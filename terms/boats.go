package terms

import (
	"cmp"
	"iter"
	"slices"
	"sync"

	"ribband/api"
)

// First returns the first one, if there is one.
func First[T any](all iter.Seq[T]) (first T, found bool) {
	for x := range all {
		return x, true
	}
	return first, false
}

// IsAny tells whether there is a boat.
func IsAny[T any](boats iter.Seq[T]) bool {
	_, found := First(boats)
	return found
}

// IsAmong tells whether x is one of the boats.
func IsAmong[T comparable](boats iter.Seq[T], x T) bool {
	for boat := range boats {
		if boat == x {
			return true
		}
	}
	return false
}

// Which returns those for which the answer to a question is yes, in their order. It is asked about all of them at once.
func Which[T any](all []T, question func(T) bool) []T {
	found := make(chan int, len(all))
	var group sync.WaitGroup
	for i, x := range all {
		group.Add(1)
		go func() {
			defer group.Done()
			if question(x) {
				found <- i
			}
		}()
	}
	group.Wait()
	close(found)
	var indexes []int
	for i := range found {
		indexes = append(indexes, i)
	}
	slices.Sort(indexes)
	return Pick(all, indexes)
}

// Sure returns how sure it is that the answer to a question is yes, unless there is no boat.
func Sure[T any](boats iter.Seq[T], question func(T) bool) (api.Sure, api.Snag) {
	many, all := 0, 0
	for boat := range boats {
		all++
		if question(boat) {
			many++
		}
	}
	if all == 0 {
		return api.Open, api.Foul
	}
	return SureOf(many, all), api.Clear
}

// SpanOf returns the span from the least to the greatest answer to a question, unless there is no boat.
func SpanOf[T any](boats iter.Seq[T], question func(T) int) (api.Span, api.Snag) {
	var answers []api.Span
	for boat := range boats {
		n := question(boat)
		answers = append(answers, api.Span{Low: n, High: n})
	}
	if len(answers) == 0 {
		return api.Span{}, api.Foul
	}
	return Join(answers[0], answers[1:]...), api.Clear
}

// Best returns the first of those that no other one comes before, if there are any. What decides first is asked first.
func Best[T any](all iter.Seq[T], decides ...func(a, b T) int) (first T, found bool) {
	for x := range all {
		if !found || isBefore(x, first, decides) {
			first, found = x, true
		}
	}
	return first, found
}

func isBefore[T any](a, b T, decides []func(a, b T) int) bool {
	for _, decide := range decides {
		if n := decide(a, b); n != 0 {
			return n < 0
		}
	}
	return false
}

// Least decides by which one has the least of what is asked.
func Least[T any](question func(T) int) func(a, b T) int {
	return func(a, b T) int { return cmp.Compare(question(a), question(b)) }
}
