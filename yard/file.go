package yard

import (
	"slices"
	"strconv"
	"strings"
	"sync"

	"ribband/api"
	"ribband/terms"
)

const (
	beginWord = "begin"
	endWord   = "end"

	sumTimes = 17 // what a sum is multiplied by before the next byte is added
)

// sum returns the sum of a text.
func sum(text string) int {
	n := 0
	for i := range len(text) {
		n = (sumTimes*n + int(text[i])) % api.YardModulus
	}
	return n
}

// section is what a file has of a part.
type section struct {
	part int
	text string
}

func sectionText(p part) string {
	text := p.text()
	begin := []string{beginWord, p.name()}
	end := []string{endWord, p.name(), strconv.Itoa(sum(text))}
	return terms.Text([][]string{begin}) + text + terms.Text([][]string{end})
}

// file writes a book. All parts are written at once; which one is ready first makes no difference.
func (b book) file() string {
	ready, done := make(chan section), make(chan struct{})
	var group sync.WaitGroup
	for i, p := range b.parts() {
		group.Add(1)
		go func() {
			defer group.Done()
			ready <- section{i, sectionText(p)}
		}()
	}
	go func() {
		group.Wait()
		close(done)
	}()
	var texts [manyParts]string
	for {
		select {
		case x := <-ready:
			texts[x.part] = x.text
		case <-done:
			return strings.Join(texts[:], "")
		}
	}
}

// wrongFile is the error of a file that is no file of a book: the number of the line at which that is seen, and the snag.
type wrongFile struct {
	line int
	snag api.Snag
}

func (w wrongFile) Error() string {
	return "line " + strconv.Itoa(w.line) + " has the snag " + strconv.Itoa(int(w.snag))
}

// readFile reads a file. Its lines are numbered from 1 on.
func readFile(text string) (api.YardBook, error) {
	var b book
	lines, begin := terms.Lines(text), 0
	empty := b.parts()
parts:
	for i := range manyParts {
		if begin == len(lines) || lines[begin] != beginWord+" "+empty[i].name() {
			return api.YardBook{}, wrongFile{begin + 1, api.Form}
		}
		for end := begin + 1; end < len(lines); end++ {
			if !isEnd(lines[end]) {
				continue
			}
			p, err := readSection(empty[i], lines[begin:end+1], begin+1)
			if err != nil {
				return api.YardBook{}, err
			}
			b, begin = b.with(p), end+1
			continue parts
		}
		return api.YardBook{}, wrongFile{len(lines) + 1, api.Form}
	}
	if begin < len(lines) {
		return api.YardBook{}, wrongFile{begin + 1, api.Form}
	}
	return b.YardBook, nil
}

func isEnd(line string) bool {
	word, _, _ := strings.Cut(line, " ")
	return word == endWord
}

// readSection reads what a file has of a part, from its first line, whose number is begin, to its last one.
func readSection(empty part, lines []string, begin int) (part, error) {
	last := len(lines) - 1
	want, err := terms.Try(lines[last], func(s string) int { return readEnd(s, empty.name()) })
	if err != nil {
		return nil, wrongFile{begin + last, api.Form}
	}
	text := strings.Join(slices.Concat(lines[1:last], []string{""}), "\n") // each line ends with a line feed
	if sum(text) != want {
		return nil, wrongFile{begin + last, api.Foul}
	}
	p, line, s := empty.read(text)
	if s != api.Clear {
		return nil, wrongFile{begin + line, s}
	}
	return p, nil
}

// readEnd reads the last line of a part, and returns the sum that it tells.
func readEnd(s string, name string) int {
	l := terms.LineOf(1, s)
	if !l.Is(endWord, 2) || l.Word(1) != name {
		panic(l.Bad())
	}
	return l.Number(2)
}
