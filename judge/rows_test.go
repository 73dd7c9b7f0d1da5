package judge

import (
	"slices"
	"testing"

	"messuage/api"
	"messuage/kern"
)

// dice are numbers that look as if they fell by chance, the same ones each time.
type dice uint64

func (d *dice) below(n int) uint64 {
	*d = *d*6364136223846793005 + 1442695040888963407
	return uint64(*d>>33) % uint64(n)
}

func (d *dice) among(n int) int { return int(d.below(n)) }

var kinds = []uint64{
	api.CAlloc, api.CAlloc, api.CDerive, api.CGrant, api.CRevoke, api.CDrop, api.CMap, api.CMap, api.CMap, api.CUnmap, api.CProtect, api.CSleep, api.CYield,
	api.ULoad, api.ULoad, api.UStore, api.UStore, api.UCas, api.UAdd,
}

// row is what a kernel of that size did.
func row(d *dice, s api.Size) []api.Event {
	k := kern.New(s)
	for range 400 {
		core := d.among(s.Cores)
		switch d.below(9) {
		case 0, 1, 2, 3:
			c := api.Call{kinds[d.below(len(kinds))]}
			for i := range 4 {
				c[i+1] = d.below(4)
			}
			k.Begin(core, d.among(s.Envs), c)
		case 4:
			k.Post(core)
		default:
			k.Step(core)
		}
	}
	return k.Events()
}

// What a kernel of many cores does is right, as far as it came; and with one
// answer changed it is that one which is not.
func TestRowsOfAKernel(t *testing.T) {
	for n := range 40 {
		d := dice(n)
		s := api.Size{Cores: 1 + n%8, Envs: 1 + n%4, Frames: 1 + n%6}
		es := row(&d, s)
		if !Right(es, s) {
			t.Fatalf("row %d: %v", n, es)
		}
		for range 30 {
			at := d.among(len(es))
			changed := slices.Clone(es)
			changed[at].Answer.Val += 1 + d.below(2)
			linear, access := none, none
			switch {
			case changed[at].Effect == 0:
			case changed[at].Call[0] >= api.ULoad:
				access = at
			default:
				linear = at
			}
			if got, _ := Linear(changed, s); got != linear {
				t.Fatalf("row %d: Linear %d, not %d", n, got, linear)
			}
			if got, _ := Access(changed, s); got != access {
				t.Fatalf("row %d: Access %d, not %d", n, got, access)
			}
		}
	}
}
