package kern

import (
	"slices"
	"testing"

	"messuage/api"
	"messuage/plain"
	"messuage/word"
)

// bench is a kernel, and beside it what it should be. Each step that is done
// by a bench is held against all that the document promises of it.
type bench struct {
	t       *testing.T
	k       *Kern
	s       api.Size
	p       *plain.Kernel // behind all effects so far
	events  []api.Event
	job     []int // of each core: where its call stands among events; -1: idle
	buffers []buffer
	mail    []int
	now     int
	quiet   bool // nothing is held against what it should be

	told          int // interrupts
	ahead, behind int // loads and stores amidst a call that takes their page, as it was, and as it will be
}

func made(t *testing.T, cores, envs, frames int) *bench {
	t.Helper()
	s := api.Size{Cores: cores, Envs: envs, Frames: frames}
	b := &bench{t: t, k: New(s), s: s, p: plain.New(s), mail: make([]int, cores)}
	if b.k == nil {
		t.Fatalf("New %v: nil", s)
	}
	for range cores {
		b.job = append(b.job, -1)
		b.buffers = append(b.buffers, emptyBuffer())
	}
	b.expect("New")
	return b
}

func call(words ...uint64) api.Call {
	var c api.Call
	copy(c[:], words)
	return c
}

func (b *bench) has(core int) bool { return core >= 0 && core < b.s.Cores }

func (b *bench) busy(core int) bool { return b.has(core) && b.job[core] >= 0 }

// begin is a Begin.
func (b *bench) begin(core, env int, c api.Call) bool {
	want := b.has(core) && !b.busy(core) && env >= 0 && env < b.s.Envs
	b.tells("Begin", b.k.Begin(core, env, c), want)
	if want {
		b.job[core] = len(b.events)
		b.events = append(b.events, api.Event{Core: core, Env: env, Call: c, Begin: b.now})
		b.grow(core)
	}
	b.expect("Begin")
	return want
}

// tells holds what a step tells against what it should, and counts it.
func (b *bench) tells(what string, got, want bool) {
	if got != want {
		b.t.Fatalf("%s: %v", what, got)
	}
	if want {
		b.now++
	}
}

// step is a Step.
func (b *bench) step(core int) bool {
	want := b.busy(core)
	b.tells("Step", b.k.Step(core), want)
	if want {
		b.grow(core)
		b.interrupts(core)
	}
	b.expect("Step")
	return want
}

// post is a Post. It loses what a call takes that is under way, and nothing else.
func (b *bench) post(core int) bool {
	want := b.has(core) && b.mail[core] > 0
	b.tells("Post", b.k.Post(core), want)
	if want {
		b.mail[core]--
		b.lose(core, func(l api.Line) bool {
			return slices.ContainsFunc(b.entries(l.Env, l.Page), func(p api.Pte) bool { return !within(l, p) })
		})
	}
	b.expect("Post")
	return want
}

// evict is an Evict.
func (b *bench) evict(core, set, way int) bool {
	want := b.has(core) && set >= 0 && set < 4 && way >= 0 && way < 2 && b.buffers[core].lines[2*set+way] != gone
	b.tells("Evict", b.k.Evict(core, set, way), want)
	if want {
		b.buffers[core].lines[2*set+way] = gone
	}
	b.expect("Evict")
	return want
}

// within is whether l has nothing that p has not.
func within(l api.Line, p api.Pte) bool { return l.Frame == p.Frame && l.Rights&^p.Rights == 0 }

func isUser(c api.Call) bool { return c[0] >= api.ULoad && c[0] <= api.UAdd }

// takes is whether c is one of the calls that take pages, or rights of them.
func takes(c api.Call) bool {
	return c[0] == api.CUnmap || c[0] == api.CProtect || c[0] == api.CRevoke || c[0] == api.CDrop
}

// entries are that page's entry behind all effects so far, and what each call
// that is under way and takes pages makes of it alone.
func (b *bench) entries(env, page int) []api.Pte {
	own, _ := b.p.Pte(env, page)
	list := []api.Pte{own}
	for core := range b.job {
		if b.waits(core) && takes(b.event(core).Call) {
			list = append(list, b.later(core, env, page))
		}
	}
	return list
}

// waits is whether that core does a call that has not yet taken effect.
func (b *bench) waits(core int) bool { return b.busy(core) && b.event(core).Effect == 0 }

func (b *bench) event(core int) *api.Event { return &b.events[b.job[core]] }

// later is that page's entry behind the core's call, done at once.
func (b *bench) later(core, env, page int) api.Pte {
	x := b.p.Copy()
	if b.waits(core) {
		x.Do(b.event(core).Env, b.event(core).Call)
	}
	p, _ := x.Pte(env, page)
	return p
}

// grow takes over what the core's step has made of its call.
func (b *bench) grow(core int) {
	was, e := b.event(core), b.k.Events()[b.job[core]]
	took := was.Effect == 0 && e.Effect != 0
	if took {
		if e.Effect != b.now {
			b.t.Fatalf("%v: its effect is not at %d", e, b.now)
		}
		was.Effect = b.now
		b.effect(core, e)
		was.Answer, was.Line = e.Answer, e.Line
	}
	if !isUser(e.Call) {
		b.lose(core, func(l api.Line) bool { return !within(l, b.later(core, l.Env, l.Page)) })
	}
	if e.End != 0 {
		was.End = b.now
		b.job[core] = -1
	}
}

// effect does what took effect, and holds what it tells against what it should.
func (b *bench) effect(core int, e api.Event) {
	if isUser(e.Call) {
		b.access(core, e)
		return
	}
	a, ok := b.p.Do(e.Env, e.Call)
	if !ok || a != e.Answer || e.Line != (api.Line{}) {
		b.t.Fatalf("K1: %v: not %v, %v", e, a, ok)
	}
	if e.Call[0] == api.CAlloc && a.Err == api.OK {
		b.fresh(e)
	}
}

// fresh is what holds of a frame when e takes it.
func (b *bench) fresh(e api.Event) {
	c, _ := b.p.Cap(e.Env, int(e.Call[1]))
	for core := range b.buffers {
		for _, l := range b.k.Lines(core) {
			if l.Env >= 0 && l.Frame == c.Frame {
				b.t.Fatalf("K3: %v: core %d has %v", e, core, l)
			}
		}
	}
	if !slices.Equal(b.k.Frame(c.Frame), make([]uint64, 16)) {
		b.t.Fatalf("K3: %v: %v", e, b.k.Frame(c.Frame))
	}
}

// access does a load or a store. It goes by one of the entries that there may
// be, as its core's buffer has it.
func (b *bench) access(core int, e api.Event) {
	if err := word.Check(e.Call, 4); err != api.OK {
		if e.Answer != (api.Answer{Err: err}) || e.Line != (api.Line{}) {
			b.t.Fatalf("P16.1: %v: not %v", e, err)
		}
		return
	}
	if !b.mayGo(e) {
		b.t.Fatalf("K2: %v: none of %v", e, b.entries(e.Env, int(e.Call[1])))
	}
	for _, p := range b.entries(e.Env, int(e.Call[1])) {
		x := b.buffers[core]
		if x.walk(p, e.Env, e.Call) == e.Line && slices.Equal(x.lines[:], b.k.Lines(core)) {
			b.buffers[core] = x
			b.touch(e)
			b.count(e)
			return
		}
	}
	b.t.Fatalf("P16.1: %v: %v, of %v", e, b.k.Lines(core), b.buffers[core].lines)
}

// count counts loads and stores that went one way where they might have gone
// another one.
func (b *bench) count(e api.Event) {
	ways := map[bool]int{}
	for _, p := range b.entries(e.Env, int(e.Call[1])) {
		ways[lets(p.Rights, e.Call)]++
	}
	switch {
	case len(ways) < 2:
	case e.Line == (api.Line{}):
		b.behind++
	default:
		b.ahead++
	}
}

// mayGo is whether e's line is one by which it may go.
func (b *bench) mayGo(e api.Event) bool {
	l, entries := e.Line, b.entries(e.Env, int(e.Call[1]))
	if l == (api.Line{}) {
		return slices.ContainsFunc(entries, func(p api.Pte) bool { return !lets(p.Rights, e.Call) })
	}
	return l.Env == e.Env && l.Page == int(e.Call[1]) && lets(l.Rights, e.Call) &&
		slices.ContainsFunc(entries, func(p api.Pte) bool { return within(l, p) })
}

func (b *bench) touch(e api.Event) {
	a := api.Answer{Err: api.ErrFault}
	if e.Line != (api.Line{}) {
		a, _ = b.p.Touch(e.Line.Frame, e.Call)
	}
	if a != e.Answer {
		b.t.Fatalf("K2: %v: not %v", e, a)
	}
}

// lose takes over which entries the core's buffer lost, if these may go.
func (b *bench) lose(core int, may func(api.Line) bool) {
	for i, l := range b.k.Lines(core) {
		if was := b.buffers[core].lines[i]; l == gone && was != gone {
			if !may(was) {
				b.t.Fatalf("P16.1: core %d lost %v", core, was)
			}
			b.buffers[core].lines[i] = gone
		}
	}
}

// interrupts takes over which other cores that core's step has sent mail.
func (b *bench) interrupts(core int) {
	for other := range b.mail {
		if more := b.k.Mail(other) - b.mail[other]; more > 0 && other != core {
			b.mail[other] += more
			b.told += more
		}
	}
}

// expect holds all that the kernel tells against what it should.
func (b *bench) expect(what string) {
	if b.quiet {
		return
	}
	if b.k.Now() != b.now || !slices.Equal(b.k.Events(), b.events) {
		b.t.Fatalf("%s: %d, %v, not %d, %v", what, b.k.Now(), b.k.Events(), b.now, b.events)
	}
	idle := true
	for core, x := range b.buffers {
		if b.k.Busy(core) != b.busy(core) || b.k.Mail(core) != b.mail[core] || !slices.Equal(b.k.Lines(core), x.lines[:]) {
			b.t.Fatalf("%s: core %d: %v, %d, %v, not %v, %d, %v", what, core, b.k.Busy(core), b.k.Mail(core), b.k.Lines(core), b.busy(core), b.mail[core], x.lines)
		}
		idle = idle && !b.busy(core)
	}
	b.expectNoMore(what)
	for frame := range b.s.Frames {
		if !slices.Equal(b.k.Frame(frame), b.p.Frame(frame)) {
			b.t.Fatalf("%s: frame %d: %v, not %v", what, frame, b.k.Frame(frame), b.p.Frame(frame))
		}
	}
	if idle {
		b.expectPlain(what)
	}
}

// expectNoMore holds all buffers against the plain kernel's entries.
func (b *bench) expectNoMore(what string) {
	for core, x := range b.buffers {
		for _, l := range x.lines {
			if p, ok := b.p.Pte(l.Env, l.Page); l != gone && (!ok || !within(l, p)) {
				b.t.Fatalf("K3: %s: core %d has %v, more than %v", what, core, l, p)
			}
		}
	}
}

// expectPlain holds what an idle kernel has against what the plain one has.
func (b *bench) expectPlain(what string) {
	for env := range b.s.Envs {
		for i := range 8 {
			c, isCap := b.k.Cap(env, i)
			p, isPte := b.k.Pte(env, i)
			wantCap, hasCap := b.p.Cap(env, i)
			wantPte, hasPte := b.p.Pte(env, i)
			if c != wantCap || isCap != hasCap || p != wantPte || isPte != hasPte {
				b.t.Fatalf("K1: %s: %d, %d: %v, %v, not %v, %v", what, env, i, c, p, wantCap, wantPte)
			}
		}
	}
	if !slices.Equal(b.k.Free(), b.p.Free()) {
		b.t.Fatalf("K1: %s: Free %v, not %v", what, b.k.Free(), b.p.Free())
	}
}

// round is one: each core that has mail is posted until it has none, and each
// that is busy is stepped.
func (b *bench) round() {
	for core := range b.s.Cores {
		for b.post(core) {
		}
		b.step(core)
	}
}

// sleeps is whether the plain kernel lets the core's call wait.
func (b *bench) sleeps(core int) bool {
	_, ok := b.p.Copy().Do(b.event(core).Env, b.event(core).Call)
	return !ok
}

// settle goes in rounds until all calls have ended but those that may wait.
func (b *bench) settle() {
	for range 1000 {
		b.round()
		left := false
		for core := range b.s.Cores {
			left = left || b.busy(core) && !b.sleeps(core)
		}
		if !left {
			return
		}
	}
	b.t.Fatalf("K4: %v", b.events)
}

// last is the last call of that core.
func (b *bench) last(core int) api.Event {
	for _, e := range slices.Backward(b.events) {
		if e.Core == core {
			return e
		}
	}
	return api.Event{}
}

// does does a call in rounds.
func (b *bench) does(core, env int, words ...uint64) api.Answer {
	if !b.begin(core, env, call(words...)) {
		b.t.Fatalf("Begin %d, %d, %v: false", core, env, words)
	}
	b.settle()
	if b.busy(core) {
		b.t.Fatalf("%v waits", words)
	}
	return b.last(core).Answer
}

// alone does a call by its own core's steps alone.
func (b *bench) alone(core, env int, want api.Errno, words ...uint64) {
	if !b.begin(core, env, call(words...)) {
		b.t.Fatalf("Begin %d, %d, %v: false", core, env, words)
	}
	for n := 0; b.busy(core); n++ {
		if n == 1000 {
			b.t.Fatalf("%v has not ended", words)
		}
		b.step(core)
	}
	if a := b.last(core).Answer; a.Err != want {
		b.t.Fatalf("%v: %v, not %d", words, a, want)
	}
}

// well does calls of an environment on that core, all of which end well.
func (b *bench) well(core, env int, calls ...[]uint64) {
	for _, c := range calls {
		if a := b.does(core, env, c...); a.Err != api.OK {
			b.t.Fatalf("%v: %v", c, a)
		}
	}
}
