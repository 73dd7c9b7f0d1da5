package caps

import (
	"cmp"
	"math"
	"slices"
	"testing"

	"messuage/api"
)

const (
	mostEnvs  = 4
	allSlots  = 8 // of an environment
	allFrames = 16
)

// below are numbers that no environment, slot, frame and rights are.
func below() []int {
	return []int{math.MinInt, math.MinInt + 1, math.MinInt + 3, -1 << 32, -1<<32 + 1, -256, -255, -32, -16, -9, -8, -4, -2, -1}
}

// beyond are the first number that is not below most, and some from there on,
// those with them that become a right one when they lose their upper bits, or
// when they are multiplied by the slots of an environment.
func beyond(most int) []int {
	return []int{most, most + 1, most + 8, 16, 17, 31, 32, 64, 256, 257, 1 << 16, 1 << 31, 1 << 32, 1<<32 + 1, 1 << 60, 1<<60 + 1, 1 << 61, 1 << 62, math.MaxInt - 7, math.MaxInt - 1, math.MaxInt}
}

func wrong(most int) []int { return append(below(), beyond(most)...) }

// wrongRights are numbers that are no rights, 0 among them.
func wrongRights() []int { return append(wrong(4), 0, 5, 6, 7, 8) }

// node is what should be in a slot. It is known by its address, so that one
// that comes into the same slot later is another one.
type node struct {
	at            Place
	frame, rights int
	parent        *node
	kids          []*node
}

// family is n and all that came from it, told from above to below.
func (n *node) family() []*node {
	all := []*node{n}
	for _, kid := range n.kids {
		all = append(all, kid.family()...)
	}
	return all
}

func (n *node) cap() api.Cap {
	if n.parent == nil {
		return api.Cap{Frame: n.frame, Rights: n.rights, Env: -1}
	}
	return api.Cap{Frame: n.frame, Rights: n.rights, Env: n.parent.at.Env, Slot: n.parent.at.Slot}
}

func placesOf(nodes []*node) []Place {
	var ps []Place
	for _, n := range nodes {
		ps = append(ps, n.at)
	}
	slices.SortFunc(ps, func(a, b Place) int {
		return cmp.Or(cmp.Compare(a.Env, b.Env), cmp.Compare(a.Slot, b.Slot))
	})
	return ps
}

// world is a tree, and what it should be. Its calls are those that should do
// something.
type world struct {
	t     *testing.T
	tree  *Tree
	envs  int
	nodes map[Place]*node
}

func made(t *testing.T, envs int) *world {
	t.Helper()
	tree := New(envs)
	if tree == nil {
		t.Fatalf("New %d: nil", envs)
	}
	return &world{t: t, tree: tree, envs: envs, nodes: map[Place]*node{}}
}

func (w *world) root(env, slot, frame int) {
	w.t.Helper()
	if err := w.tree.Root(env, slot, frame); err != api.OK {
		w.t.Fatalf("Root %d %d %d: %d", env, slot, frame, err)
	}
	w.nodes[Place{env, slot}] = &node{at: Place{env, slot}, frame: frame, rights: 3}
}

func (w *world) derive(env, src, to, dst, rights int) {
	w.t.Helper()
	if err := w.tree.Derive(env, src, to, dst, rights); err != api.OK {
		w.t.Fatalf("Derive %d %d %d %d %d: %d", env, src, to, dst, rights, err)
	}
	parent := w.nodes[Place{env, src}]
	n := &node{at: Place{to, dst}, frame: parent.frame, rights: rights, parent: parent}
	parent.kids = append(parent.kids, n)
	w.nodes[n.at] = n
}

func (w *world) forget(nodes []*node) {
	for _, n := range nodes {
		if n.parent != nil {
			n.parent.kids = slices.DeleteFunc(n.parent.kids, func(kid *node) bool { return kid == n })
		}
		delete(w.nodes, n.at)
	}
}

func (w *world) told(what string, at Place, got []Place, err api.Errno, want []Place) {
	w.t.Helper()
	if err != api.OK || !slices.Equal(got, want) {
		w.t.Fatalf("%s %v: %v, %d, not %v", what, at, got, err, want)
	}
}

func (w *world) revoke(env, slot int) {
	w.t.Helper()
	gone := w.nodes[Place{env, slot}].family()[1:]
	list, err := w.tree.Revoke(env, slot)
	w.told("Revoke", Place{env, slot}, list, err, placesOf(gone))
	w.forget(gone)
}

func (w *world) drop(env, slot int) {
	w.t.Helper()
	gone := w.nodes[Place{env, slot}].family()
	list, err := w.tree.Drop(env, slot)
	w.told("Drop", Place{env, slot}, list, err, placesOf(gone))
	w.forget(gone)
}

// slots are all places of the world, empty or not.
func (w *world) slots() []Place {
	var ps []Place
	for env := range w.envs {
		for slot := range allSlots {
			ps = append(ps, Place{env, slot})
		}
	}
	return ps
}

func (w *world) expectAt(what string, p Place) {
	w.t.Helper()
	var want api.Cap
	n := w.nodes[p]
	if n != nil {
		want = n.cap()
	}
	if got, ok := w.tree.At(p.Env, p.Slot); got != want || ok != (n != nil) {
		w.t.Fatalf("%s: At %v: %v, %v, not %v", what, p, got, ok, want)
	}
}

func (w *world) expectBelow(what string, p Place) {
	w.t.Helper()
	var want []Place
	if n := w.nodes[p]; n != nil {
		want = placesOf(n.family()[1:])
	}
	if got := w.tree.Below(p.Env, p.Slot); !slices.Equal(got, want) {
		w.t.Fatalf("%s: Below %v: %v, not %v", what, p, got, want)
	}
}

func (w *world) expectOf(what string, frame int) {
	w.t.Helper()
	var of []*node
	for _, n := range w.nodes {
		if n.frame == frame {
			of = append(of, n)
		}
	}
	if got := w.tree.Of(frame); !slices.Equal(got, placesOf(of)) {
		w.t.Fatalf("%s: Of %d: %v, not %v", what, frame, got, placesOf(of))
	}
}

// expect holds all that the tree tells against what it should be.
func (w *world) expect(what string) {
	w.t.Helper()
	for _, p := range w.slots() {
		w.expectAt(what, p)
		w.expectBelow(what, p)
	}
	for frame := range allFrames {
		w.expectOf(what, frame)
	}
}

// shape is a world that can be made again and again.
type shape struct {
	name string
	make func(t *testing.T) *world
}

// family is the world of which the tests tell the lists one by one:
//
//	0 0 (frame 5) - 0 2 - 3 7 - 1 1
//	              |     ` 0 1
//	              | 2 4
//	              ` 1 6
//	1 0 (frame 5) - 0 3
//	3 0 (frame 0)
//	2 7 (frame 15)
func family(t *testing.T) *world {
	w := made(t, 4)
	w.root(0, 0, 5)
	w.root(1, 0, 5)
	w.root(3, 0, 0)
	w.root(2, 7, 15)
	w.derive(0, 0, 0, 2, 3)
	w.derive(0, 2, 3, 7, 1)
	w.derive(0, 0, 2, 4, 2)
	w.derive(3, 7, 1, 1, 1)
	w.derive(0, 0, 1, 6, 1)
	w.derive(0, 2, 0, 1, 2)
	w.derive(1, 0, 0, 3, 3)
	return w
}

func empty(t *testing.T) *world { return made(t, 4) }

func lone(t *testing.T) *world {
	w := made(t, 1)
	w.root(0, 0, 0)
	return w
}

// chain goes through all environments, neither by rising nor by falling slots.
func chain(t *testing.T) *world {
	w := made(t, 4)
	w.root(2, 5, 9)
	w.derive(2, 5, 0, 7, 3)
	w.derive(0, 7, 3, 0, 3)
	w.derive(3, 0, 0, 0, 3)
	w.derive(0, 0, 1, 4, 2)
	w.derive(1, 4, 1, 3, 2)
	w.derive(1, 3, 2, 6, 2)
	return w
}

func fan(t *testing.T) *world {
	w := made(t, 4)
	w.root(1, 3, 15)
	for at, p := range []Place{{3, 7}, {0, 0}, {1, 2}, {2, 0}, {0, 7}, {1, 4}, {3, 0}} {
		w.derive(1, 3, p.Env, p.Slot, at%3+1)
	}
	return w
}

// oneEnv has a chain and a fan in its only environment, and one beside them.
func oneEnv(t *testing.T) *world {
	w := made(t, 1)
	w.root(0, 7, 1)
	w.derive(0, 7, 0, 3, 3)
	w.derive(0, 3, 0, 5, 1)
	w.derive(0, 3, 0, 1, 3)
	w.derive(0, 1, 0, 0, 2)
	w.derive(0, 7, 0, 2, 2)
	w.root(0, 4, 1)
	return w
}

// whole has all slots of so many environments from one root, each but it from
// the one that is half as far.
func whole(t *testing.T, envs int) *world {
	w := made(t, envs)
	slots := w.slots()
	// 5 and the number of slots have no factor in common: each is met once.
	place := func(n int) Place { return slots[(n*5+3)%len(slots)] }
	w.root(place(0).Env, place(0).Slot, 3)
	for n := 1; n < len(slots); n++ {
		from, to := place(n/2), place(n)
		w.derive(from.Env, from.Slot, to.Env, to.Slot, 3)
	}
	return w
}

// roots has a root in each slot.
func roots(t *testing.T) *world {
	w := made(t, 3)
	for n, p := range w.slots() {
		w.root(p.Env, p.Slot, n%allFrames)
	}
	return w
}

func shapes() []shape {
	return []shape{
		{"empty", empty}, {"lone", lone}, {"chain", chain}, {"fan", fan}, {"oneEnv", oneEnv}, {"family", family}, {"roots", roots},
		{"whole 1", func(t *testing.T) *world { return whole(t, 1) }},
		{"whole 2", func(t *testing.T) *world { return whole(t, 2) }},
		{"whole 4", func(t *testing.T) *world { return whole(t, 4) }},
	}
}

func expectErr(t *testing.T, what string, got, want api.Errno) {
	t.Helper()
	if got != want {
		t.Errorf("%s: %d, not %d", what, got, want)
	}
}

// expectNone holds what a Revoke or Drop that is refused tells: an error and
// no list.
func expectNone(t *testing.T, what string, list []Place, got, want api.Errno) {
	t.Helper()
	if len(list) != 0 || got != want {
		t.Errorf("%s: %v, %d, not %d", what, list, got, want)
	}
}

// expectNothing holds what the calls tell that ask for a slot of which there is
// nothing.
func expectNothing(t *testing.T, what string, x *Tree, env, slot int) {
	t.Helper()
	if c, ok := x.At(env, slot); c != (api.Cap{}) || ok {
		t.Errorf("%s: At %d %d: %v, %v", what, env, slot, c, ok)
	}
	if list := x.Below(env, slot); len(list) != 0 {
		t.Errorf("%s: Below %d %d: %v", what, env, slot, list)
	}
}

func TestLimits(t *testing.T) {
	if api.MaxEnvs != mostEnvs || api.Slots != allSlots || api.MaxFrames != allFrames || api.RRead|api.RWrite != 3 {
		t.Errorf("%d environments, %d slots, %d frames, rights %d", api.MaxEnvs, api.Slots, api.MaxFrames, api.RRead|api.RWrite)
	}
	for err, want := range map[api.Errno]int{api.OK: 0, api.ErrArg: 2, api.ErrNone: 3, api.ErrBusy: 4, api.ErrRights: 5, api.ErrOff: 10} {
		if int(err) != want {
			t.Errorf("error %d, not %d", err, want)
		}
	}
}

// All slots of a new tree are empty, and it has just its environments.
func TestNew(t *testing.T) {
	for envs := 1; envs <= mostEnvs; envs++ {
		w := made(t, envs)
		w.expect("New")
		for _, p := range w.slots() {
			expectNothing(t, "New", w.tree, p.Env, p.Slot)
		}
		expectErr(t, "Root of the one behind the last", w.tree.Root(envs, 0, 0), api.ErrArg)
		for n, p := range w.slots() {
			w.root(p.Env, p.Slot, n%allFrames)
		}
		w.expect("New, and a Root in each slot")
	}
}

func TestNewOfNoRightNumber(t *testing.T) {
	for _, envs := range append(wrong(mostEnvs+1), 0, 7, 8) {
		if New(envs) != nil {
			t.Errorf("New %d: not nil", envs)
		}
	}
}

// Each slot may have a root of each frame: with all rights, without a parent.
func TestRoot(t *testing.T) {
	for envs := 1; envs <= mostEnvs; envs++ {
		for _, p := range made(t, envs).slots() {
			for frame := range allFrames {
				w := made(t, envs)
				expectErr(t, "Root", w.tree.Root(p.Env, p.Slot, frame), api.OK)
				want := api.Cap{Frame: frame, Rights: 3, Env: -1}
				if c, ok := w.tree.At(p.Env, p.Slot); c != want || !ok {
					t.Errorf("At %v: %v, %v, not %v", p, c, ok, want)
				}
				w.nodes[p] = &node{at: p, frame: frame, rights: 3}
				w.expect("Root")
			}
		}
	}
}

// Neither the frame nor what is there already matters: nothing is put upon it.
func TestRootOfASlotThatIsTaken(t *testing.T) {
	for _, s := range shapes() {
		w := s.make(t)
		for p := range w.nodes {
			for frame := range allFrames {
				expectErr(t, s.name, w.tree.Root(p.Env, p.Slot, frame), api.ErrBusy)
			}
		}
		w.expect(s.name)
	}
}

// Be the slot taken or not: ErrArg is named first.
func TestRootOfWrongArguments(t *testing.T) {
	for _, s := range shapes() {
		w := s.make(t)
		for _, env := range wrong(w.envs) {
			for _, slot := range append(wrong(allSlots), 0, 3, 7) {
				for _, frame := range []int{0, 5, 15, 16, -1} {
					expectErr(t, "environment", w.tree.Root(env, slot, frame), api.ErrArg)
				}
			}
		}
		for env := range w.envs {
			for _, slot := range wrong(allSlots) {
				for _, frame := range []int{0, 5, 15, 16, -1} {
					expectErr(t, "slot", w.tree.Root(env, slot, frame), api.ErrArg)
				}
			}
		}
		for _, p := range w.slots() {
			for _, frame := range wrong(allFrames) {
				expectErr(t, "frame", w.tree.Root(p.Env, p.Slot, frame), api.ErrArg)
			}
		}
		w.expect(s.name)
	}
}

// From each slot into each other one, of its own environment or another one's.
func TestDerive(t *testing.T) {
	for _, from := range made(t, 3).slots() {
		for _, to := range made(t, 3).slots() {
			if from == to {
				continue
			}
			w := made(t, 3)
			w.root(from.Env, from.Slot, 11)
			w.derive(from.Env, from.Slot, to.Env, to.Slot, 1)
			want := api.Cap{Frame: 11, Rights: 1, Env: from.Env, Slot: from.Slot}
			if c, ok := w.tree.At(to.Env, to.Slot); c != want || !ok {
				t.Errorf("At %v: %v, %v, not %v", to, c, ok, want)
			}
			w.expect("Derive")
		}
	}
}

func TestDeriveOfEachFrame(t *testing.T) {
	for frame := range allFrames {
		w := made(t, 2)
		w.root(0, 0, frame)
		w.derive(0, 0, 1, 7, 3)
		w.derive(1, 7, 0, 4, 2)
		w.expect("Derive")
	}
}

// The source's very rights, and less, may be derived; more, or others, not.
func TestDeriveOfRights(t *testing.T) {
	for _, x := range []struct {
		has, rights int
		want        api.Errno
	}{
		{3, 3, api.OK}, {3, 1, api.OK}, {3, 2, api.OK},
		{1, 1, api.OK}, {1, 2, api.ErrRights}, {1, 3, api.ErrRights},
		{2, 2, api.OK}, {2, 1, api.ErrRights}, {2, 3, api.ErrRights},
	} {
		for _, to := range []Place{{0, 2}, {1, 0}, {1, 7}} {
			w := made(t, 2)
			w.root(0, 0, 6)
			w.derive(0, 0, 0, 1, x.has)
			if x.want == api.OK {
				w.derive(0, 1, to.Env, to.Slot, x.rights)
			} else {
				expectErr(t, "Derive", w.tree.Derive(0, 1, to.Env, to.Slot, x.rights), x.want)
			}
			w.expect("Derive")
		}
	}
}

// It is the source's rights that bound it, not those of what the source itself
// came from.
func TestDeriveOfRightsThatTheFirstOneHas(t *testing.T) {
	w := made(t, 2)
	w.root(0, 0, 6)
	w.derive(0, 0, 1, 1, 1)
	w.derive(1, 1, 0, 3, 1)
	for _, rights := range []int{2, 3} {
		expectErr(t, "Derive", w.tree.Derive(0, 3, 1, 5, rights), api.ErrRights)
		expectErr(t, "Derive", w.tree.Derive(1, 1, 1, 5, rights), api.ErrRights)
	}
	w.expect("Derive")
	w.derive(0, 0, 1, 5, 2)
	expectErr(t, "Derive", w.tree.Derive(1, 5, 1, 6, 1), api.ErrRights)
	w.derive(0, 0, 1, 6, 3)
	w.expect("Derive")
}

func TestDeriveOfAnEmptySlot(t *testing.T) {
	for _, s := range shapes() {
		w := s.make(t)
		for _, from := range w.slots() {
			if w.nodes[from] != nil {
				continue
			}
			for _, to := range w.slots() {
				for rights := 1; rights <= 3; rights++ {
					// to may be taken, or from itself: ErrNone is named first.
					expectErr(t, s.name, w.tree.Derive(from.Env, from.Slot, to.Env, to.Slot, rights), api.ErrNone)
				}
			}
		}
		w.expect(s.name)
	}
}

// The rights may be more than the source's: ErrBusy is named first.
func TestDeriveIntoASlotThatIsTaken(t *testing.T) {
	for _, s := range shapes() {
		w := s.make(t)
		for from := range w.nodes {
			for to := range w.nodes {
				for rights := 1; rights <= 3; rights++ {
					expectErr(t, s.name, w.tree.Derive(from.Env, from.Slot, to.Env, to.Slot, rights), api.ErrBusy)
				}
			}
		}
		w.expect(s.name)
	}
}

func TestDeriveIntoItsOwnSlot(t *testing.T) {
	w := made(t, 2)
	w.root(0, 3, 4)
	w.derive(0, 3, 1, 3, 1)
	for rights := 1; rights <= 3; rights++ {
		expectErr(t, "the root's", w.tree.Derive(0, 3, 0, 3, rights), api.ErrBusy)
		expectErr(t, "the derived one's", w.tree.Derive(1, 3, 1, 3, rights), api.ErrBusy)
		expectErr(t, "an empty one's", w.tree.Derive(0, 2, 0, 2, rights), api.ErrNone)
	}
	w.expect("its own slot")
}

// Whatever else is wrong: ErrArg is named first.
func TestDeriveOfWrongArguments(t *testing.T) {
	for _, s := range shapes() {
		w := s.make(t)
		refused := func(env, src, to, dst, rights int) {
			if err := w.tree.Derive(env, src, to, dst, rights); err != api.ErrArg {
				t.Errorf("%s: Derive %d %d %d %d %d: %d", s.name, env, src, to, dst, rights, err)
			}
		}
		last := w.envs - 1
		for _, slots := range []Place{{0, 0}, {0, 7}, {7, 0}, {3, 4}} {
			for _, env := range wrong(w.envs) {
				refused(env, slots.Env, last, slots.Slot, 1)
				refused(last, slots.Env, env, slots.Slot, 1)
				refused(env, slots.Env, env, slots.Slot, 3)
			}
			for _, slot := range wrong(allSlots) {
				refused(0, slot, last, slots.Slot, 1)
				refused(0, slots.Env, last, slot, 1)
				refused(last, slot, 0, slot, 2)
			}
			for _, rights := range wrongRights() {
				refused(0, slots.Env, last, slots.Slot, rights)
				refused(last, slots.Env, 0, slots.Slot, rights)
			}
		}
		for _, n := range slices.Concat(below(), beyond(16)) {
			refused(n, n, n, n, n)
		}
		w.expect(s.name)
	}
}

// Of all slots, taken or empty, into all of them: with rights that may not be
// it is ErrArg.
func TestDeriveOfRightsThatMayNotBe(t *testing.T) {
	w := family(t)
	for _, from := range w.slots() {
		for _, to := range w.slots() {
			for _, rights := range []int{0, 4, 7, -1} {
				expectErr(t, "Derive", w.tree.Derive(from.Env, from.Slot, to.Env, to.Slot, rights), api.ErrArg)
			}
		}
	}
	w.expect("Derive")
}

func TestAt(t *testing.T) {
	w := family(t)
	for _, x := range []struct {
		at   Place
		want api.Cap
	}{
		{Place{0, 0}, api.Cap{Frame: 5, Rights: 3, Env: -1}},
		{Place{1, 0}, api.Cap{Frame: 5, Rights: 3, Env: -1}},
		{Place{3, 0}, api.Cap{Frame: 0, Rights: 3, Env: -1}},
		{Place{2, 7}, api.Cap{Frame: 15, Rights: 3, Env: -1}},
		{Place{0, 2}, api.Cap{Frame: 5, Rights: 3, Env: 0, Slot: 0}},
		{Place{3, 7}, api.Cap{Frame: 5, Rights: 1, Env: 0, Slot: 2}},
		{Place{1, 1}, api.Cap{Frame: 5, Rights: 1, Env: 3, Slot: 7}},
		{Place{0, 1}, api.Cap{Frame: 5, Rights: 2, Env: 0, Slot: 2}},
		{Place{2, 4}, api.Cap{Frame: 5, Rights: 2, Env: 0, Slot: 0}},
		{Place{1, 6}, api.Cap{Frame: 5, Rights: 1, Env: 0, Slot: 0}},
		{Place{0, 3}, api.Cap{Frame: 5, Rights: 3, Env: 1, Slot: 0}},
	} {
		if c, ok := w.tree.At(x.at.Env, x.at.Slot); c != x.want || !ok {
			t.Errorf("At %v: %v, %v, not %v", x.at, c, ok, x.want)
		}
	}
	for _, p := range []Place{{0, 4}, {0, 7}, {1, 7}, {2, 0}, {3, 1}, {3, 6}} {
		expectNothing(t, "an empty slot", w.tree, p.Env, p.Slot)
	}
}

// asked are the places of family, with what is below each of them.
func asked() []struct {
	at    Place
	below []Place
} {
	return []struct {
		at    Place
		below []Place
	}{
		{Place{0, 0}, []Place{{0, 1}, {0, 2}, {1, 1}, {1, 6}, {2, 4}, {3, 7}}},
		{Place{0, 2}, []Place{{0, 1}, {1, 1}, {3, 7}}},
		{Place{3, 7}, []Place{{1, 1}}},
		{Place{1, 1}, nil},
		{Place{0, 1}, nil},
		{Place{2, 4}, nil},
		{Place{1, 6}, nil},
		{Place{1, 0}, []Place{{0, 3}}},
		{Place{0, 3}, nil},
		{Place{3, 0}, nil},
		{Place{2, 7}, nil},
	}
}

func TestBelow(t *testing.T) {
	w := family(t)
	for _, x := range asked() {
		if got := w.tree.Below(x.at.Env, x.at.Slot); !slices.Equal(got, x.below) {
			t.Errorf("Below %v: %v, not %v", x.at, got, x.below)
		}
	}
}

// whatIsLeft is which places of family are not among those that are gone.
func whatIsLeft(gone []Place) []Place {
	var left []Place
	for _, x := range asked() {
		if !slices.Contains(gone, x.at) {
			left = append(left, x.at)
		}
	}
	return left
}

// expectLeft holds which slots are taken against those that should be left.
func expectLeft(t *testing.T, what string, w *world, left []Place) {
	t.Helper()
	for _, p := range w.slots() {
		if _, ok := w.tree.At(p.Env, p.Slot); ok != slices.Contains(left, p) {
			t.Errorf("%s: At %v: %v", what, p, ok)
		}
	}
}

func TestRevoke(t *testing.T) {
	for _, x := range asked() {
		w := family(t)
		list, err := w.tree.Revoke(x.at.Env, x.at.Slot)
		if err != api.OK || !slices.Equal(list, x.below) {
			t.Errorf("Revoke %v: %v, %d, not %v", x.at, list, err, x.below)
		}
		expectLeft(t, "Revoke", w, whatIsLeft(x.below))
	}
}

func TestDrop(t *testing.T) {
	for _, x := range []struct {
		at   Place
		gone []Place
	}{
		{Place{0, 0}, []Place{{0, 0}, {0, 1}, {0, 2}, {1, 1}, {1, 6}, {2, 4}, {3, 7}}},
		{Place{0, 2}, []Place{{0, 1}, {0, 2}, {1, 1}, {3, 7}}},
		{Place{3, 7}, []Place{{1, 1}, {3, 7}}},
		{Place{1, 1}, []Place{{1, 1}}},
		{Place{0, 1}, []Place{{0, 1}}},
		{Place{2, 4}, []Place{{2, 4}}},
		{Place{1, 6}, []Place{{1, 6}}},
		{Place{1, 0}, []Place{{0, 3}, {1, 0}}},
		{Place{0, 3}, []Place{{0, 3}}},
		{Place{3, 0}, []Place{{3, 0}}},
		{Place{2, 7}, []Place{{2, 7}}},
	} {
		w := family(t)
		list, err := w.tree.Drop(x.at.Env, x.at.Slot)
		if err != api.OK || !slices.Equal(list, x.gone) {
			t.Errorf("Drop %v: %v, %d, not %v", x.at, list, err, x.gone)
		}
		expectLeft(t, "Drop", w, whatIsLeft(x.gone))
	}
}

// In each shape, of each capability: what is below it goes, all else stays.
func TestRevokeInEachShape(t *testing.T) {
	for _, s := range shapes() {
		for p := range s.make(t).nodes {
			w := s.make(t)
			w.revoke(p.Env, p.Slot)
			w.expect(s.name + ", Revoke")
			// Nothing is below it any more.
			w.revoke(p.Env, p.Slot)
			w.expect(s.name + ", Revoke again")
		}
	}
}

func TestDropInEachShape(t *testing.T) {
	for _, s := range shapes() {
		for p := range s.make(t).nodes {
			w := s.make(t)
			w.drop(p.Env, p.Slot)
			w.expect(s.name + ", Drop")
			list, err := w.tree.Drop(p.Env, p.Slot)
			expectNone(t, s.name+", Drop again", list, err, api.ErrNone)
			w.expect(s.name + ", Drop again")
		}
	}
}

// Whatever was revoked ahead, what is left goes with its Drop, and the rest
// stays.
func TestDropBehindRevoke(t *testing.T) {
	for _, s := range shapes() {
		for p := range s.make(t).nodes {
			for q := range s.make(t).nodes {
				w := s.make(t)
				w.revoke(p.Env, p.Slot)
				if w.nodes[q] != nil {
					w.drop(q.Env, q.Slot)
				}
				w.expectAt(s.name, p)
				w.expectBelow(s.name, p)
				w.expectAt(s.name, q)
				w.expectBelow(s.name, q)
			}
		}
	}
}

func TestRevokeAndDropOfAnEmptySlot(t *testing.T) {
	for _, s := range shapes() {
		w := s.make(t)
		for _, p := range w.slots() {
			if w.nodes[p] != nil {
				continue
			}
			list, err := w.tree.Revoke(p.Env, p.Slot)
			expectNone(t, s.name+", Revoke", list, err, api.ErrNone)
			list, err = w.tree.Drop(p.Env, p.Slot)
			expectNone(t, s.name+", Drop", list, err, api.ErrNone)
		}
		w.expect(s.name)
	}
}

// refusesSlot asks for a slot that is none, in each call that takes but a slot.
func refusesSlot(t *testing.T, what string, x *Tree, env, slot int, want api.Errno) {
	t.Helper()
	list, err := x.Revoke(env, slot)
	expectNone(t, what+", Revoke", list, err, want)
	list, err = x.Drop(env, slot)
	expectNone(t, what+", Drop", list, err, want)
	expectNothing(t, what, x, env, slot)
}

func TestSlotsThatAreNone(t *testing.T) {
	for _, s := range shapes() {
		w := s.make(t)
		for _, env := range wrong(w.envs) {
			for _, slot := range append(wrong(allSlots), 0, 1, 3, 7) {
				refusesSlot(t, s.name, w.tree, env, slot, api.ErrArg)
			}
		}
		for env := range w.envs {
			for _, slot := range wrong(allSlots) {
				refusesSlot(t, s.name, w.tree, env, slot, api.ErrArg)
			}
		}
		w.expect(s.name)
	}
}

// So with an environment that another, greater tree has.
func TestEnvironmentOfAnotherTree(t *testing.T) {
	great, small := made(t, 4), made(t, 2)
	small.root(1, 0, 3)
	for env := 2; env < mostEnvs; env++ {
		great.root(env, 0, 3)
		expectErr(t, "Root", small.tree.Root(env, 0, 3), api.ErrArg)
		expectErr(t, "Derive", small.tree.Derive(1, 0, env, 1, 1), api.ErrArg)
		expectErr(t, "Derive", small.tree.Derive(env, 0, 1, 1, 1), api.ErrArg)
		refusesSlot(t, "small", small.tree, env, 0, api.ErrArg)
	}
	small.expect("small")
	great.expect("great")
}

// What came from the one that was there before is gone, and not below what is
// put into its slot, be that a Root or derived from another one.
func TestSlotThatIsFilledAgain(t *testing.T) {
	for _, refill := range []func(w *world){
		func(w *world) { w.root(0, 2, 5) },
		func(w *world) { w.root(0, 2, 8) },
		func(w *world) { w.derive(0, 0, 0, 2, 3) },
		func(w *world) { w.derive(1, 0, 0, 2, 3) },
		func(w *world) { w.derive(2, 7, 0, 2, 1) },
	} {
		w := family(t)
		w.drop(0, 2)
		refill(w)
		expectLeft(t, "filled again", w, []Place{{0, 0}, {0, 2}, {0, 3}, {1, 0}, {1, 6}, {2, 4}, {2, 7}, {3, 0}})
		if list := w.tree.Below(0, 2); len(list) != 0 {
			t.Errorf("Below of what was put there: %v", list)
		}
		w.expect("filled again")
		w.derive(0, 2, 3, 7, 1)
		w.root(1, 1, 5)
		w.expect("filled again, and one derived")
		w.drop(0, 2)
		w.expect("filled again, and dropped")
	}
}

// A place may be above another one at one time, and below it at another.
func TestPlacesThatChangeTheirOrder(t *testing.T) {
	w := made(t, 2)
	w.root(0, 0, 1)
	w.derive(0, 0, 0, 1, 3)
	w.derive(0, 1, 1, 1, 3)
	w.drop(0, 1)
	w.derive(0, 0, 1, 1, 3)
	w.derive(1, 1, 0, 1, 3)
	w.expect("the other way round")
	w.drop(0, 0)
	w.root(0, 1, 2)
	w.derive(0, 1, 0, 0, 1)
	w.derive(0, 0, 1, 1, 1)
	w.expect("the last one first")
	w.revoke(0, 0)
	w.expect("the last one first, revoked")
}

// All other slots are empty: none of them is of the frame 0, or from slot 0 of
// the environment 0, as long as nothing was put there.
func TestFirstSlotOfTheFirstFrame(t *testing.T) {
	w := made(t, 4)
	w.root(0, 0, 0)
	if list := w.tree.Below(0, 0); len(list) != 0 {
		t.Errorf("Below: %v", list)
	}
	if list := w.tree.Of(0); !slices.Equal(list, []Place{{0, 0}}) {
		t.Errorf("Of: %v", list)
	}
	w.revoke(0, 0)
	w.expect("Revoke of nothing")
	w.drop(0, 0)
	w.expect("Drop")
	if list := w.tree.Of(0); len(list) != 0 {
		t.Errorf("Of: %v", list)
	}
}

func TestOf(t *testing.T) {
	w := family(t)
	for _, x := range []struct {
		frame int
		want  []Place
	}{
		{5, []Place{{0, 0}, {0, 1}, {0, 2}, {0, 3}, {1, 0}, {1, 1}, {1, 6}, {2, 4}, {3, 7}}},
		{0, []Place{{3, 0}}},
		{15, []Place{{2, 7}}},
		{1, nil},
		{4, nil},
		{14, nil},
	} {
		if got := w.tree.Of(x.frame); !slices.Equal(got, x.want) {
			t.Errorf("Of %d: %v, not %v", x.frame, got, x.want)
		}
	}
}

func TestOfFramesThatAreNone(t *testing.T) {
	for _, s := range shapes() {
		w := s.make(t)
		for _, frame := range wrong(allFrames) {
			if list := w.tree.Of(frame); len(list) != 0 {
				t.Errorf("%s: Of %d: %v", s.name, frame, list)
			}
		}
		w.expect(s.name)
	}
}

// How many capabilities a frame may have is not the tree's business: here all
// slots are of one.
func TestManyOfOneFrame(t *testing.T) {
	w := whole(t, 4)
	if list := w.tree.Of(3); !slices.Equal(list, w.slots()) {
		t.Errorf("Of: %v", list)
	}
	w = made(t, 4)
	for _, p := range w.slots() {
		w.root(p.Env, p.Slot, 3)
	}
	w.expect("roots of one frame")
	if list := w.tree.Of(3); !slices.Equal(list, w.slots()) {
		t.Errorf("Of: %v", list)
	}
}

// The longest chain that there can be, up and down.
func TestLongestChain(t *testing.T) {
	for _, down := range []bool{false, true} {
		w := made(t, 4)
		slots := w.slots()
		if down {
			slices.Reverse(slots)
		}
		w.root(slots[0].Env, slots[0].Slot, 7)
		for at, p := range slots[1:] {
			w.derive(slots[at].Env, slots[at].Slot, p.Env, p.Slot, 3)
		}
		w.expect("chain")
		w.revoke(slots[16].Env, slots[16].Slot)
		w.expect("half a chain")
		w.drop(slots[0].Env, slots[0].Slot)
		w.expect("no chain")
	}
}

func TestAskingChangesNothing(t *testing.T) {
	for _, s := range shapes() {
		for p := range s.make(t).nodes {
			w := s.make(t)
			for range 3 {
				w.expect(s.name)
			}
			w.drop(p.Env, p.Slot)
			w.expect(s.name + ", Drop")
		}
	}
}

// refuseAll makes calls of each kind that are refused, each for another reason.
func refuseAll(t *testing.T, w *world) {
	t.Helper()
	for _, p := range w.slots() {
		q := w.slots()[(p.Env*allSlots+p.Slot+11)%len(w.slots())]
		expectErr(t, "Root", w.tree.Root(p.Env, p.Slot, 16), api.ErrArg)
		expectErr(t, "Derive", w.tree.Derive(p.Env, p.Slot, q.Env, q.Slot, 0), api.ErrArg)
		expectErr(t, "Derive", w.tree.Derive(p.Env, p.Slot, w.envs, q.Slot, 1), api.ErrArg)
		n := w.nodes[p]
		if n == nil {
			expectErr(t, "Derive", w.tree.Derive(p.Env, p.Slot, q.Env, q.Slot, 1), api.ErrNone)
			refusesSlot(t, "empty", w.tree, p.Env, p.Slot, api.ErrNone)
			continue
		}
		expectErr(t, "Root", w.tree.Root(p.Env, p.Slot, 2), api.ErrBusy)
		if w.nodes[q] != nil {
			expectErr(t, "Derive", w.tree.Derive(p.Env, p.Slot, q.Env, q.Slot, 3), api.ErrBusy)
		} else if n.rights != 3 {
			expectErr(t, "Derive", w.tree.Derive(p.Env, p.Slot, q.Env, q.Slot, 3), api.ErrRights)
		}
	}
}

func TestRefusedCallsChangeNothing(t *testing.T) {
	for _, s := range shapes() {
		w := s.make(t)
		for range 2 {
			refuseAll(t, w)
			w.expect(s.name)
		}
	}
}

// spoil writes into each place of list, and into its spare room, first by
// appending, and then to each place of it.
func spoil(list []Place) {
	for at := range list {
		list[at] = Place{-99, -99}
	}
	longer := append(list, Place{-98, 0})
	_ = append(longer, Place{-97, 1}, Place{-96, 2}, Place{-95, 3})
	spare := list[:cap(list)]
	for at := range spare {
		spare[at] = Place{3, 7}
	}
}

// A list of Below or Of that is written into is nobody else's: neither the
// tree's, nor one of another call, ahead or behind.
func TestListsAskedForAreNewMemory(t *testing.T) {
	for _, s := range shapes() {
		w, other := s.make(t), s.make(t)
		for _, p := range w.slots() {
			w.independent(s.name, func() []Place { return w.tree.Below(p.Env, p.Slot) })
		}
		for frame := range allFrames {
			w.independent(s.name, func() []Place { return w.tree.Of(frame) })
		}
		other.expect(s.name + ", another tree")
	}
}

// independent asks four times, and holds that what is written into one of the
// answers is to be seen nowhere else.
func (w *world) independent(what string, ask func() []Place) {
	w.t.Helper()
	first := ask()
	want := slices.Clone(first)
	spoiled, behind := ask(), ask()
	spoil(spoiled)
	for _, list := range [][]Place{first, behind, ask()} {
		if !slices.Equal(list, want) {
			w.t.Fatalf("%s: beside a list that is written into: %v, not %v", what, list, want)
		}
	}
	w.expect(what + ", a list that is written into")
}

// What Revoke and Drop told may be written into, and what was asked ahead of
// them stays as it was.
func TestListsOfWhatIsGoneAreNewMemory(t *testing.T) {
	for _, s := range shapes() {
		for p := range s.make(t).nodes {
			for _, drop := range []bool{false, true} {
				w := s.make(t)
				n := w.nodes[p]
				of, below := w.tree.Of(n.frame), w.tree.Below(p.Env, p.Slot)
				wantOf, wantBelow := slices.Clone(of), slices.Clone(below)
				gone, call := n.family()[1:], w.tree.Revoke
				if drop {
					gone, call = n.family(), w.tree.Drop
				}
				list, err := call(p.Env, p.Slot)
				w.told("gone", p, list, err, placesOf(gone))
				spoil(list)
				w.forget(gone)
				w.expect(s.name)
				if !slices.Equal(of, wantOf) || !slices.Equal(below, wantBelow) {
					t.Fatalf("%s, %v: lists of ahead: %v, %v, not %v, %v", s.name, p, of, below, wantOf, wantBelow)
				}
			}
		}
	}
}

// Neither does one list's spare room reach into another one.
func TestListsHaveTheirOwnSpareRoom(t *testing.T) {
	w := family(t)
	var lists [][]Place
	for _, p := range w.slots() {
		lists = append(lists, w.tree.Below(p.Env, p.Slot))
	}
	for frame := range allFrames {
		lists = append(lists, w.tree.Of(frame))
	}
	gone, _ := w.tree.Revoke(0, 2)
	dropped, _ := w.tree.Drop(1, 0)
	lists = append(lists, gone, dropped)
	for at, list := range lists {
		whole := list[:cap(list)]
		for i := range whole {
			whole[i] = Place{-at - 1, at}
		}
	}
	for at, list := range lists {
		for _, p := range list[:cap(list)] {
			if p != (Place{-at - 1, at}) {
				t.Fatalf("list %d holds what was written into another one: %v", at, p)
			}
		}
	}
}

// Each tree has its own slots.
func TestTwoTreesAreTheirOwn(t *testing.T) {
	a, b := made(t, 2), made(t, 2)
	a.root(0, 0, 1)
	a.derive(0, 0, 1, 0, 1)
	a.expect("the one")
	b.expect("the other one")
	b.root(1, 0, 2)
	b.derive(1, 0, 0, 0, 3)
	b.derive(0, 0, 0, 7, 2)
	a.expect("the one")
	b.expect("the other one")
	made(t, 2).expect("one made behind them")
	b.revoke(1, 0)
	a.expect("the one")
	a.drop(0, 0)
	a.expect("the one")
	b.expect("the other one")
}

func TestNil(t *testing.T) {
	var none *Tree
	for _, env := range append(wrong(mostEnvs), 0, 1, 3) {
		for _, slot := range append(wrong(allSlots), 0, 7) {
			expectErr(t, "Root", none.Root(env, slot, 0), api.ErrOff)
			expectErr(t, "Root", none.Root(env, slot, 16), api.ErrOff)
			expectErr(t, "Derive", none.Derive(env, slot, 0, 1, 1), api.ErrOff)
			expectErr(t, "Derive", none.Derive(0, 1, env, slot, 1), api.ErrOff)
			refusesSlot(t, "nil", none, env, slot, api.ErrOff)
			if none.Below(env, slot) != nil {
				t.Errorf("Below %d %d: not nil", env, slot)
			}
			gone, _ := none.Revoke(env, slot)
			dropped, _ := none.Drop(env, slot)
			if gone != nil || dropped != nil {
				t.Errorf("Revoke, Drop %d %d: not nil", env, slot)
			}
		}
	}
	for _, rights := range append(wrongRights(), 1, 2, 3) {
		expectErr(t, "Derive", none.Derive(0, 0, 0, 1, rights), api.ErrOff)
	}
	for _, frame := range append(wrong(allFrames), 0, 15) {
		expectErr(t, "Root", none.Root(0, 0, frame), api.ErrOff)
		if none.Of(frame) != nil {
			t.Errorf("Of %d: not nil", frame)
		}
	}
}

// A Tree that New has not made has no environments.
func TestTreeThatNewHasNotMade(t *testing.T) {
	x := &Tree{}
	for _, env := range append(wrong(mostEnvs), 0, 1, 3) {
		expectErr(t, "Root", x.Root(env, 0, 0), api.ErrArg)
		expectErr(t, "Derive", x.Derive(env, 0, env, 1, 1), api.ErrArg)
		refusesSlot(t, "no New", x, env, 0, api.ErrArg)
	}
	if list := x.Of(0); len(list) != 0 {
		t.Errorf("Of: %v", list)
	}
}

// tryRoot does a Root, told or refused as the document has it.
func (w *world) tryRoot(env, slot, frame int) {
	w.t.Helper()
	if env < w.envs && slot < allSlots && w.nodes[Place{env, slot}] == nil {
		w.root(env, slot, frame)
		return
	}
	want := api.ErrBusy
	if env >= w.envs || slot >= allSlots {
		want = api.ErrArg
	}
	expectErr(w.t, "Root", w.tree.Root(env, slot, frame), want)
}

func (w *world) tryDerive(from, to Place, rights int) {
	w.t.Helper()
	var want api.Errno
	source := w.nodes[from]
	switch {
	case max(from.Env, to.Env) >= w.envs || max(from.Slot, to.Slot) >= allSlots || rights == 0:
		want = api.ErrArg
	case source == nil:
		want = api.ErrNone
	case w.nodes[to] != nil:
		want = api.ErrBusy
	case source.rights != 3 && rights != source.rights:
		want = api.ErrRights
	default:
		w.derive(from.Env, from.Slot, to.Env, to.Slot, rights)
		return
	}
	expectErr(w.t, "Derive", w.tree.Derive(from.Env, from.Slot, to.Env, to.Slot, rights), want)
}

func (w *world) tryGone(drop bool, p Place) {
	w.t.Helper()
	switch {
	case p.Env >= w.envs || p.Slot >= allSlots:
		refusesSlot(w.t, "no slot", w.tree, p.Env, p.Slot, api.ErrArg)
	case w.nodes[p] == nil:
		refusesSlot(w.t, "an empty slot", w.tree, p.Env, p.Slot, api.ErrNone)
	case drop:
		w.drop(p.Env, p.Slot)
	default:
		w.revoke(p.Env, p.Slot)
	}
}

// Long rows of calls on trees of each size are held against what they should
// be, now with more that take capabilities away, now with fewer.
func TestRowsOfCalls(t *testing.T) {
	n := uint64(1)
	pick := func(under int) int {
		n = n*6364136223846793005 + 1442695040888963407
		return int(n>>33) % under
	}
	for envs := 1; envs <= mostEnvs; envs++ {
		w := made(t, envs)
		// The greatest is seldom none.
		place := func() Place {
			if pick(12) == 0 {
				return Place{pick(envs + 1), pick(allSlots + 1)}
			}
			return Place{pick(envs), pick(allSlots)}
		}
		for round := range 4000 {
			goes := 1 + round/500%2*2
			switch kind := pick(20); {
			case kind < goes:
				w.tryGone(kind == 0, place())
			case kind < 5:
				p := place()
				w.tryRoot(p.Env, p.Slot, pick(3)*5)
			default:
				w.tryDerive(place(), place(), min(pick(6), 3))
			}
			w.expect("a row of calls")
		}
	}
}
