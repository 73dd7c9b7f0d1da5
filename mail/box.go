package mail

import (
	"container/heap"
)

// box holds epochs, each of them once.
type box struct {
	line queue
	// The epochs of the line again: without them a put would have to go through
	// the whole line to tell whether its epoch is there.
	held map[uint64]struct{}
}

func newBox() box { return box{held: map[uint64]struct{}{}} }

func (b *box) size() int { return len(b.line) }

// put puts the epoch in, unless b holds it.
func (b *box) put(epoch uint64) {
	if _, ok := b.held[epoch]; ok {
		return
	}
	b.held[epoch] = struct{}{}
	heap.Push(&b.line, epoch)
}

// take takes the least epoch out of b, which is not empty.
func (b *box) take() uint64 {
	least := b.line[0]
	heap.Pop(&b.line)
	delete(b.held, least)
	return least
}

// queue is a heap's epochs, the least one first.
type queue []uint64

// Len is the heap's.
func (q queue) Len() int { return len(q) }

// Less is the heap's.
func (q queue) Less(i, j int) bool { return q[i] < q[j] }

// Swap is the heap's.
func (q queue) Swap(i, j int) { q[i], q[j] = q[j], q[i] }

// Push is the heap's: x goes behind all others.
func (q *queue) Push(x any) { *q = append(*q, x.(uint64)) }

// Pop is the heap's: the last one goes.
func (q *queue) Pop() any {
	last := len(*q) - 1
	x := (*q)[last]
	*q = (*q)[:last]
	return x
}
