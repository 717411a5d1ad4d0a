package span

import "clearway/api"

// Where the numbers of a block are, and how many there are.
const (
	rootAt = iota
	depthAt
	edgeAt
	chosenAt
	weightAt
	numbers
)

// maxRounds is the greatest number of blocks of a label.
const maxRounds = 6

// none is the number that stands for no edge.
const none = -1

// block is what a label says of a round.
type block [numbers]int

// shared returns the numbers of b that are the same for all vertices of a fragment.
func (b block) shared() [3]int { return [3]int{b[rootAt], b[chosenAt], b[weightAt]} }

// blocksOf returns the blocks of the label l, if it can have such.
func blocksOf(l []int) ([]block, bool) {
	if !within(len(l), numbers, maxRounds*numbers) || len(l)%numbers != 0 {
		return nil, false
	}
	for _, n := range l {
		if !within(n, -api.MaxNumber, api.MaxNumber) {
			return nil, false
		}
	}
	var blocks []block
	for at := 0; at < len(l); at += numbers {
		blocks = append(blocks, block(l[at:at+numbers:at+numbers]))
	}
	return blocks, true
}
