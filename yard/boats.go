package yard

// counted is the book of a chapter whose boats were counted.
type counted struct{ name, text string }

// counts is how many boats the book of each chapter has.
type counts [manyChapters]int

func (c checked) counts() counts {
	var all counts
	for i, x := range c.chapters() {
		all[i] = c.boats(x)
	}
	return all
}

// boats returns how many boats the book of a chapter has. Each one is counted once: while a journal is played most books stay as they are.
func (c checked) boats(x chapter) int {
	which := counted{x.name(), x.text()}
	many, known := c.known[which]
	if !known {
		many = x.boats()
		c.known[which] = many
	}
	return many
}

// isSettled tells whether a part has just one boat: whether there are as many boats as if it had.
func (c counts) isSettled(part int) bool {
	settled := c
	settled[part] = 1
	return c == settled
}

// due returns what is to be paid of each bill.
func (c checked) due() []int {
	boats := c.counts()
	var list []int
	for _, x := range c.Bills {
		due := 0
		if boats.isSettled(x.Part) {
			due = x.Price - x.Paid
		}
		list = append(list, due)
	}
	return list
}
