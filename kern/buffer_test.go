package kern

import (
	"messuage/api"
)

var gone = api.Line{Env: -1}

// buffer is what a core's buffer should be. It is a value, so that what a load
// may do to it can be tried.
type buffer struct {
	lines  [8]api.Line
	filled [8]int // which fill it was, of the places that are not empty
	fills  int
}

func emptyBuffer() buffer {
	var x buffer
	for i := range x.lines {
		x.lines[i] = gone
	}
	return x
}

// place is where the entry of that environment and page is; -1: there is none.
func (x *buffer) place(env, page int) int {
	for i, l := range x.lines {
		if l != gone && l.Env == env && l.Page == page {
			return i
		}
	}
	return -1
}

// free is where an entry of that page that is not there should go.
func (x *buffer) free(page int) int {
	first := page % 4 * 2
	second := first + 1
	switch {
	case x.lines[first] == gone:
		return first
	case x.lines[second] == gone:
		return second
	case x.filled[first] < x.filled[second]:
		return first
	}
	return second
}

func (x *buffer) fill(l api.Line) {
	at := x.place(l.Env, l.Page)
	if at < 0 {
		at = x.free(l.Page)
	}
	x.fills++
	x.lines[at], x.filled[at] = l, x.fills
}

func (x *buffer) flush(env, page int) {
	if at := x.place(env, page); at >= 0 {
		x.lines[at] = gone
	}
}

// lets is whether rights are enough for a load or a store.
func lets(rights int, c api.Call) bool {
	switch c[0] {
	case api.ULoad:
		return rights&1 != 0
	case api.UStore:
		return rights&2 != 0
	}
	return rights == 3
}

// walk is the line by which c goes, where the table has that entry of its page,
// and what the buffer then is; a zero one: it goes by none.
func (x *buffer) walk(entry api.Pte, env int, c api.Call) api.Line {
	page := int(c[1])
	if at := x.place(env, page); at >= 0 && lets(x.lines[at].Rights, c) {
		return x.lines[at]
	}
	if !lets(entry.Rights, c) {
		x.flush(env, page)
		return api.Line{}
	}
	l := api.Line{Env: env, Page: page, Frame: entry.Frame, Rights: entry.Rights}
	x.fill(l)
	return l
}
