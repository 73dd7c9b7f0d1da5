package word

import (
	"math"
	"testing"

	"messuage/api"
)

// calls tells of each call how many words behind its number count, and of
// which kind they are: s a slot, p a page, w a word's place, e an environment,
// r rights, o an operator, v any value. It is told here anew, apart from the
// program's own shapes.
func calls() map[int]string {
	return map[int]string{
		api.CAlloc: "s", api.CDerive: "ssr", api.CGrant: "sesr", api.CRevoke: "s", api.CDrop: "s",
		api.CMap: "psr", api.CUnmap: "p", api.CProtect: "pr", api.CSleep: "swov", api.CYield: "",
		api.ULoad: "pw", api.UStore: "pwv", api.UCas: "pwvv", api.UAdd: "pwv",
	}
}

// noCalls are numbers that no call has: those beside the calls', and such as
// become a call's when they lose their upper bits or their sign.
func noCalls() []uint64 {
	ws := []uint64{0, 11, 12, 15, 18, 19, 24, 25, 31, 99, 255, 256, 1 << 31, 1 << 32, 1 << 63, math.MaxInt64, math.MaxUint64, math.MaxUint64 - 1}
	for kind := range calls() {
		w := uint64(kind)
		ws = append(ws, w+1<<5, w+1<<8, w+1<<16, w+1<<31, w+1<<32, w+1<<62, w+1<<63, -w)
	}
	return ws
}

// great are words beyond each bound that a word has.
func great() []uint64 {
	return []uint64{1 << 8, 1 << 16, 1 << 31, 1 << 32, 1<<32 + 1, 1 << 62, 1<<63 - 1, 1 << 63, 1<<63 + 1, math.MaxUint64 - 1, math.MaxUint64}
}

// bounds are the least word that may stand for what the letter tells, and the
// greatest; v may be anything.
func bounds(letter byte, envs int) (least, most uint64) {
	switch letter {
	case 's', 'p':
		return 0, 7
	case 'w':
		return 0, 15
	case 'e':
		return 0, uint64(envs - 1)
	case 'r':
		return 1, 3
	case 'o':
		return 1, 4
	}
	return 0, math.MaxUint64
}

// within is whether w may stand for what the letter tells.
func within(letter byte, envs int, w uint64) bool {
	least, most := bounds(letter, envs)
	return w >= least && w <= most
}

// valid is a call of that kind which has nothing wrong; its words that do not
// count are the greatest.
func valid(kind int, envs int) api.Call {
	c := api.Call{uint64(kind), math.MaxUint64, math.MaxUint64, math.MaxUint64, math.MaxUint64}
	for k := range calls()[kind] {
		c[k+1], _ = bounds(calls()[kind][k], envs)
	}
	return c
}

func TestKindIsTheFirstWord(t *testing.T) {
	for kind := range calls() {
		for _, c := range []api.Call{{uint64(kind)}, {uint64(kind), 1, 2, 3, 4}, valid(kind, 4), {uint64(kind), 99, math.MaxUint64, 99, 99}} {
			if got, ok := Kind(c); got != kind || !ok {
				t.Errorf("Kind of %v: %d, %v", c, got, ok)
			}
		}
	}
}

func TestKindOfNoCall(t *testing.T) {
	for _, w := range noCalls() {
		for _, c := range []api.Call{{w}, {w, 1, 2, 3, 4}, {w, api.CAlloc, api.CMap, api.ULoad, api.UAdd}} {
			if got, ok := Kind(c); got != 0 || ok {
				t.Errorf("Kind of %v: %d, %v", c, got, ok)
			}
		}
	}
}

func TestKindsAreAllThere(t *testing.T) {
	for w := range uint64(1 << 12) {
		_, is := calls()[int(w)]
		if _, ok := Kind(api.Call{w}); ok != is {
			t.Errorf("Kind of %d: %v", w, ok)
		}
	}
	if len(calls()) != 14 {
		t.Errorf("%d calls are told", len(calls()))
	}
}

func TestArgs(t *testing.T) {
	for kind, args := range map[int]int{
		api.CAlloc: 1, api.CDerive: 3, api.CGrant: 4, api.CRevoke: 1, api.CDrop: 1, api.CMap: 3, api.CUnmap: 1,
		api.CProtect: 2, api.CSleep: 4, api.CYield: 0, api.ULoad: 2, api.UStore: 3, api.UCas: 4, api.UAdd: 3,
	} {
		if got := Args(kind); got != args {
			t.Errorf("Args of %d: %d, not %d", kind, got, args)
		}
		if len(calls()[kind]) != args {
			t.Errorf("these tests tell %d words of %d", len(calls()[kind]), kind)
		}
	}
}

func TestArgsOfNoCall(t *testing.T) {
	for _, w := range noCalls() {
		if got := Args(int(w)); got != 0 {
			t.Errorf("Args of %d: %d", int(w), got)
		}
	}
	for kind := range calls() {
		if Args(-kind) != 0 {
			t.Errorf("Args of %d", -kind)
		}
	}
	if Args(math.MinInt) != 0 || Args(math.MaxInt) != 0 {
		t.Error("Args of the least, the greatest")
	}
}

func TestArgIsTheWordBelowMost(t *testing.T) {
	for _, w := range append(great(), 0, 1, 2, 7, 8, 15, 16, 99) {
		for i := 1; i <= 4; i++ {
			c := api.Call{9, 3, 3, 3, 3}
			c[i] = w
			for _, most := range []int{math.MinInt, math.MinInt + 1, -1 << 32, -8, -1, 0, 1, 2, 3, 7, 8, 9, 15, 16, 17, 1 << 31, 1 << 32, 1<<32 + 2, math.MaxInt - 1, math.MaxInt} {
				is := most > 0 && w < uint64(most)
				want := 0
				if is {
					want = int(w)
				}
				if got, ok := Arg(c, i, most); got != want || ok != is {
					t.Errorf("Arg %d of %v below %d: %d, %v", i, c, most, got, ok)
				}
			}
		}
	}
}

func TestArgTellsTheWordsApart(t *testing.T) {
	c := api.Call{1, 2, 3, 5, 7}
	for i, want := range []int{0, 2, 3, 5, 7} {
		if got, ok := Arg(c, i, 9); got != want || ok != (i > 0) {
			t.Errorf("Arg %d: %d, %v", i, got, ok)
		}
	}
}

// What the call's number is, and whether the word counts, Arg does not ask.
func TestArgOfAnyCall(t *testing.T) {
	for _, c := range []api.Call{{0, 5, 5, 5, 5}, {api.CYield, 5, 5, 5, 5}, {api.CAlloc, 5, 5, 5, 5}, {math.MaxUint64, 5, 5, 5, 5}} {
		for i := 1; i <= 4; i++ {
			if got, ok := Arg(c, i, 6); got != 5 || !ok {
				t.Errorf("Arg %d of %v: %d, %v", i, c, got, ok)
			}
		}
	}
}

func TestArgBeyondTheWords(t *testing.T) {
	for _, c := range []api.Call{{}, {1, 1, 1, 1, 1}, {math.MaxUint64, 2, 3, 4, 5}} {
		for _, i := range []int{math.MinInt, -5, -4, -1, 0, 5, 6, 8, 1 << 32, 1<<32 + 1, math.MaxInt} {
			for _, most := range []int{math.MinInt, -1, 0, 1, 9, math.MaxInt} {
				if got, ok := Arg(c, i, most); got != 0 || ok {
					t.Errorf("Arg %d of %v below %d: %d, %v", i, c, most, got, ok)
				}
			}
		}
	}
}

func TestRights(t *testing.T) {
	for _, w := range []uint64{api.RRead, api.RWrite, api.RRead | api.RWrite} {
		if got, ok := Rights(w); got != int(w) || !ok {
			t.Errorf("Rights %d: %d, %v", w, got, ok)
		}
	}
}

func TestRightsThatAreNone(t *testing.T) {
	ws := append(great(), 0, 4, 5, 6, 7, 8)
	for w := uint64(1); w <= 3; w++ {
		ws = append(ws, w+1<<3, w+1<<8, w+1<<32, w+1<<63, -w)
	}
	for _, w := range ws {
		if got, ok := Rights(w); got != 0 || ok {
			t.Errorf("Rights %d: %d, %v", w, got, ok)
		}
	}
}

func TestUser(t *testing.T) {
	for _, kind := range []int{api.ULoad, api.UStore, api.UCas, api.UAdd} {
		if !User(kind) {
			t.Errorf("User %d", kind)
		}
		if User(-kind) || User(kind+1<<8) || User(kind+1<<32) || User(kind+math.MinInt) {
			t.Errorf("User beside %d", kind)
		}
	}
	for kind := range 20 {
		if User(kind) {
			t.Errorf("User %d", kind)
		}
	}
	for _, kind := range []int{math.MinInt, -1, 24, 25, 99, math.MaxInt} {
		if User(kind) {
			t.Errorf("User %d", kind)
		}
	}
}

// numbers are all kinds of numbers of environments, those below 0 with them.
func numbers() []int {
	return []int{math.MinInt, -1 << 32, -2, -1, 0, 1, 2, 3, 4, 5, 8, 1 << 32, math.MaxInt}
}

func TestCheckOfNoCall(t *testing.T) {
	for _, w := range noCalls() {
		for _, envs := range numbers() {
			for _, c := range []api.Call{{w}, {w, 0, 0, 1, 1}, {w, math.MaxUint64, math.MaxUint64, math.MaxUint64, math.MaxUint64}} {
				if got := Check(c, envs); got != api.ErrCall {
					t.Errorf("Check of %v, %d: %d", c, envs, got)
				}
			}
		}
	}
}

func TestCheckOfEachWord(t *testing.T) {
	const envs = 3
	for kind, letters := range calls() {
		for k := range letters {
			c := valid(kind, envs)
			ws := great()
			for w := range uint64(40) {
				ws = append(ws, w, w+1<<32, w+1<<63)
			}
			for _, w := range ws {
				c[k+1] = w
				want := api.ErrArg
				if within(letters[k], envs, w) {
					want = api.OK
				}
				if got := Check(c, envs); got != want {
					t.Errorf("Check of %v: %d, not %d", c, got, want)
				}
			}
		}
	}
}

// at is a call of that kind whose words that count are each the one that edge
// chooses.
func at(kind, envs int, edge func(least, most uint64) uint64) api.Call {
	c := valid(kind, envs)
	for k := range calls()[kind] {
		c[k+1] = edge(bounds(calls()[kind][k], envs))
	}
	return c
}

func TestCheckOfTheLastOnes(t *testing.T) {
	for kind := range calls() {
		for envs := 1; envs <= 5; envs++ {
			for _, c := range []api.Call{
				at(kind, envs, func(least, _ uint64) uint64 { return least }),
				at(kind, envs, func(_, most uint64) uint64 { return most }),
			} {
				if got := Check(c, envs); got != api.OK {
					t.Errorf("Check of %v, %d: %d", c, envs, got)
				}
			}
		}
	}
}

// The edges are told here by hand, without the rule of the other tests.
func TestCheckOfTheEdges(t *testing.T) {
	const most = math.MaxUint64
	for _, x := range []struct {
		c    api.Call
		envs int
		want api.Errno
	}{
		{api.Call{api.CAlloc, 7}, 1, api.OK},
		{api.Call{api.CAlloc, 8}, 1, api.ErrArg},
		{api.Call{api.CRevoke, 7}, 1, api.OK},
		{api.Call{api.CRevoke, 8}, 1, api.ErrArg},
		{api.Call{api.CDrop, 7}, 1, api.OK},
		{api.Call{api.CDrop, 8}, 1, api.ErrArg},
		{api.Call{api.CDerive, 7, 7, 3}, 1, api.OK},
		{api.Call{api.CDerive, 8, 7, 3}, 1, api.ErrArg},
		{api.Call{api.CDerive, 7, 8, 3}, 1, api.ErrArg},
		{api.Call{api.CDerive, 7, 7, 4}, 1, api.ErrArg},
		{api.Call{api.CDerive, 7, 7, 0}, 1, api.ErrArg},
		{api.Call{api.CGrant, 7, 3, 7, 3}, 4, api.OK},
		{api.Call{api.CGrant, 7, 4, 7, 3}, 4, api.ErrArg},
		{api.Call{api.CGrant, 7, 4, 7, 3}, 5, api.OK},
		{api.Call{api.CGrant, 8, 3, 7, 3}, 4, api.ErrArg},
		{api.Call{api.CGrant, 7, 3, 8, 3}, 4, api.ErrArg},
		{api.Call{api.CGrant, 7, 3, 7, 4}, 4, api.ErrArg},
		{api.Call{api.CMap, 7, 7, 1}, 1, api.OK},
		{api.Call{api.CMap, 8, 7, 1}, 1, api.ErrArg},
		{api.Call{api.CMap, 7, 8, 1}, 1, api.ErrArg},
		{api.Call{api.CMap, 7, 7, 0}, 1, api.ErrArg},
		{api.Call{api.CUnmap, 7}, 1, api.OK},
		{api.Call{api.CUnmap, 8}, 1, api.ErrArg},
		{api.Call{api.CProtect, 7, 2}, 1, api.OK},
		{api.Call{api.CProtect, 8, 2}, 1, api.ErrArg},
		{api.Call{api.CProtect, 7, 4}, 1, api.ErrArg},
		{api.Call{api.CSleep, 7, 15, 1, most}, 1, api.OK},
		{api.Call{api.CSleep, 7, 15, 4, 0}, 1, api.OK},
		{api.Call{api.CSleep, 8, 15, 1, 0}, 1, api.ErrArg},
		{api.Call{api.CSleep, 7, 16, 1, 0}, 1, api.ErrArg},
		{api.Call{api.CSleep, 7, 15, 0, 0}, 1, api.ErrArg},
		{api.Call{api.CSleep, 7, 15, 5, 0}, 1, api.ErrArg},
		{api.Call{api.CYield}, 1, api.OK},
		{api.Call{api.ULoad, 7, 15}, 1, api.OK},
		{api.Call{api.ULoad, 8, 15}, 1, api.ErrArg},
		{api.Call{api.ULoad, 7, 16}, 1, api.ErrArg},
		{api.Call{api.UStore, 7, 15, most}, 1, api.OK},
		{api.Call{api.UStore, 8, 15, 0}, 1, api.ErrArg},
		{api.Call{api.UStore, 7, 16, 0}, 1, api.ErrArg},
		{api.Call{api.UCas, 7, 15, most, most}, 1, api.OK},
		{api.Call{api.UCas, 8, 15, 0, 0}, 1, api.ErrArg},
		{api.Call{api.UCas, 7, 16, 0, 0}, 1, api.ErrArg},
		{api.Call{api.UAdd, 7, 15, most}, 1, api.OK},
		{api.Call{api.UAdd, 8, 15, 0}, 1, api.ErrArg},
		{api.Call{api.UAdd, 7, 16, 0}, 1, api.ErrArg},
	} {
		if got := Check(x.c, x.envs); got != x.want {
			t.Errorf("Check of %v, %d: %d, not %d", x.c, x.envs, got, x.want)
		}
	}
}

func TestCheckOfWordsThatDoNotCount(t *testing.T) {
	for kind, letters := range calls() {
		c := valid(kind, 2)
		for k := len(letters) + 1; k <= 4; k++ {
			for _, w := range append(great(), 0, 1, 4, 5, 7, 8, 15, 16, 99) {
				c[k] = w
				if got := Check(c, 2); got != api.OK {
					t.Errorf("Check of %v: %d", c, got)
				}
			}
		}
	}
}

// Which environments there are matters to CGrant alone.
func TestCheckOfNumbersOfEnvironments(t *testing.T) {
	for kind := range calls() {
		for _, envs := range numbers() {
			want := api.OK
			if kind == api.CGrant && envs < 1 {
				want = api.ErrArg
			}
			if got := Check(valid(kind, 2), envs); got != want {
				t.Errorf("Check of %d with %d: %d", kind, envs, got)
			}
		}
	}
}

func TestCheckOfGreatEnvironments(t *testing.T) {
	for _, x := range []struct {
		env  uint64
		envs int
		want api.Errno
	}{
		{1<<32 - 1, 1 << 32, api.OK},
		{1 << 32, 1 << 32, api.ErrArg},
		{math.MaxInt - 1, math.MaxInt, api.OK},
		{math.MaxInt, math.MaxInt, api.ErrArg},
		{1 << 63, math.MaxInt, api.ErrArg},
		{1 << 63, math.MinInt, api.ErrArg},
		{math.MaxUint64, math.MaxInt, api.ErrArg},
		{math.MaxUint64, -1, api.ErrArg},
		{math.MaxUint64 - 1, -1, api.ErrArg},
		{0, math.MinInt, api.ErrArg},
	} {
		if got := Check(api.Call{api.CGrant, 0, x.env, 0, 1}, x.envs); got != x.want {
			t.Errorf("environment %d of %d: %d, not %d", x.env, x.envs, got, x.want)
		}
	}
}

// ErrCall comes ahead of ErrArg, and one wrong word is enough.
func TestCheckOfSeveralFaults(t *testing.T) {
	const most = math.MaxUint64
	for kind, letters := range calls() {
		want := api.ErrArg
		if kind == api.CYield {
			want = api.OK
		}
		if got := Check(api.Call{uint64(kind), most, most, most, most}, 2); got != want {
			t.Errorf("Check of %d (%s): %d", kind, letters, got)
		}
	}
	if got := Check(api.Call{11, most, most, most, most}, -1); got != api.ErrCall {
		t.Errorf("Check: %d", got)
	}
}
