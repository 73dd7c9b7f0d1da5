package kern

import (
	"math"
	"testing"

	"messuage/api"
	"messuage/judge"
)

// dice are numbers that look as if they fell by chance, the same ones each time.
type dice uint64

func (d *dice) below(n int) uint64 {
	*d = *d*6364136223846793005 + 1442695040888963407
	return uint64(*d>>33) % uint64(n)
}

func (d *dice) among(n int) int { return int(d.below(n)) }

// kinds are the calls as often as a row has them.
var kinds = []uint64{
	api.CAlloc, api.CAlloc, api.CAlloc, api.CAlloc, api.CDerive, api.CDerive, api.CGrant, api.CGrant, api.CRevoke, api.CDrop,
	api.CMap, api.CMap, api.CMap, api.CMap, api.CMap, api.CUnmap, api.CProtect, api.CProtect, api.CSleep, api.CYield,
	api.ULoad, api.ULoad, api.ULoad, api.ULoad, api.UStore, api.UStore, api.UStore, api.UStore, api.UCas, api.UCas, api.UAdd, api.UAdd,
}

// call is one whose words are mostly right. Slots, pages and values are few, so
// that the calls meet each other.
func (d *dice) call(envs int) api.Call {
	slot, page, value, at := d.below(5), d.below(3), d.below(3), 15*d.below(2)
	rights := []uint64{1, 2, 3, 3}[d.below(4)]
	c := api.Call{kinds[d.below(len(kinds))]}
	switch c[0] {
	case api.CDerive:
		c = call(c[0], slot, d.below(6), rights)
	case api.CGrant:
		c = call(c[0], slot, d.below(envs), d.below(6), rights)
	case api.CMap:
		c = call(c[0], page, slot, rights)
	case api.CAlloc, api.CRevoke, api.CDrop:
		c = call(c[0], slot)
	case api.CUnmap:
		c = call(c[0], page)
	case api.CProtect:
		c = call(c[0], page, rights)
	case api.CSleep:
		c = call(c[0], slot, at, 1+d.below(4), value)
	default:
		c = call(c[0], page, at, value, d.below(3))
	}
	if d.below(25) == 0 {
		c[d.below(5)] = []uint64{0, 4, 8, 11, 16, 99, 1 << 32, 1 << 63, math.MaxUint64}[d.below(9)]
	}
	return c
}

// pick does one step, or what is none.
func (d *dice) pick(b *bench) {
	core := d.among(b.s.Cores)
	switch d.below(10) {
	case 0, 1, 2, 3:
		b.begin(core, d.among(b.s.Envs), d.call(b.s.Envs))
	case 4, 5, 6, 7:
		b.step(core)
	case 8:
		b.post(core)
	case 9:
		if d.below(4) == 0 {
			b.evict(core, d.among(4), d.among(2))
		}
	}
}

// story counts what came up in rows of calls.
type story struct {
	told, ahead, behind int // as benches count them
	errs                map[api.Errno]int
	ended               map[uint64]int // calls of each kind that ended well
}

func (s *story) count(b *bench) {
	s.told += b.told
	s.ahead += b.ahead
	s.behind += b.behind
	for _, e := range b.events {
		s.errs[e.Answer.Err]++
		if e.Answer.Err == api.OK && e.End > 0 {
			s.ended[e.Call[0]]++
		}
	}
}

func (s *story) expect(t *testing.T) {
	t.Helper()
	for _, err := range []api.Errno{api.ErrCall, api.ErrArg, api.ErrNone, api.ErrBusy, api.ErrRights, api.ErrFull, api.ErrFault} {
		if s.errs[err] < 50 {
			t.Errorf("error %d came up %d times: the rows are too tame", err, s.errs[err])
		}
	}
	for _, kind := range kinds {
		if s.ended[kind] < 200 {
			t.Errorf("call %d ended well %d times: the rows are too tame", kind, s.ended[kind])
		}
	}
	if s.told < 1000 || s.ahead < 200 || s.behind < 200 {
		t.Errorf("%d interrupts, %d loads and stores as it was, %d as it will be: the rows are too tame", s.told, s.ahead, s.behind)
	}
}

// stock gives each environment a few pages, of its own and of others.
func (d *dice) stock(b *bench) {
	for env := range b.s.Envs {
		for i := range uint64(3) {
			for _, c := range []api.Call{{api.CAlloc, i}, {api.CMap, i, i, 3}, {api.CGrant, i, d.below(b.s.Envs), 3, 3}} {
				b.begin(0, env, c)
				b.settle()
			}
		}
	}
}

// Rows of calls of all kinds, of right and of wrong words, on one to eight
// cores, with steps, Posts and Evicts in many orders.
func TestRows(t *testing.T) {
	t.Parallel()
	s := &story{errs: map[api.Errno]int{}, ended: map[uint64]int{}}
	for row := range 320 {
		d := dice(row)
		b := made(t, 1+row%8, 1+row/8%4, 1+d.among(14))
		d.stock(b)
		for range 600 {
			d.pick(b)
		}
		b.settle()
		s.count(b)
		if !judge.Right(b.k.Events(), b.s) {
			t.Errorf("row %d: it is not judged right", row)
		}
	}
	s.expect(t)
}
