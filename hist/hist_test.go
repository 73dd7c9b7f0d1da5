package hist

import (
	"math"
	"slices"
	"testing"

	"messuage/api"
)

var size = api.Size{Cores: 3, Envs: 2, Frames: 1}

// wrong are numbers that nothing has of which there are so many.
func wrong(most int) []int {
	return []int{math.MinInt, math.MinInt + 1, -1 << 32, -2, -1, most, most + 1, 256, 1 << 32, 1<<32 + 1, math.MaxInt - 1, math.MaxInt}
}

func event(core, begin, effect, end int) api.Event {
	return api.Event{Core: core, Begin: begin, Effect: effect, End: end}
}

// some is a history: calls that ended, one that took effect, and one that has not.
func some() []api.Event {
	return []api.Event{event(0, 1, 5, 6), event(1, 2, 3, 3), event(2, 4, 9, 0), event(1, 7, 8, 10), event(0, 11, 0, 0)}
}

func may(t *testing.T, what string, es []api.Event, s api.Size, want bool) {
	t.Helper()
	was := slices.Clone(es)
	if got := May(es, s); got != want {
		t.Errorf("%s: May %v, %v: %v", what, es, s, got)
	}
	if !slices.Equal(es, was) {
		t.Errorf("%s: May changed %v", what, was)
	}
}

func TestMay(t *testing.T) {
	may(t, "some", some(), size, true)
	for n := range some() {
		may(t, "the first ones", some()[:n], size, true)
	}
	may(t, "nil", nil, size, true)
	may(t, "nil, and no machine", nil, api.Size{}, true)
	may(t, "far on", []api.Event{event(0, math.MaxInt, math.MaxInt, math.MaxInt)}, size, true)
}

func TestMayOfCores(t *testing.T) {
	for cores := 1; cores <= 8; cores++ {
		s := api.Size{Cores: cores, Envs: 1, Frames: 1}
		for core := range cores {
			may(t, "core", []api.Event{event(core, 1, 0, 0)}, s, true)
		}
		for _, core := range wrong(cores) {
			may(t, "core", []api.Event{event(core, 1, 0, 0)}, s, false)
			may(t, "the second one's core", []api.Event{event(0, 1, 1, 1), event(core, 2, 0, 0)}, s, false)
		}
	}
}

func TestMayOfEnvs(t *testing.T) {
	for envs := 1; envs <= 4; envs++ {
		s := api.Size{Cores: 1, Envs: envs, Frames: 1}
		for env := range envs {
			may(t, "env", []api.Event{{Env: env, Begin: 1}}, s, true)
		}
		for _, env := range wrong(envs) {
			may(t, "env", []api.Event{{Env: env, Begin: 1}}, s, false)
		}
	}
}

func TestMayOfSizes(t *testing.T) {
	one := []api.Event{event(0, 1, 0, 0)}
	for _, n := range append(wrong(1), 0, 1) {
		may(t, "cores", one, api.Size{Cores: n, Envs: 1, Frames: 1}, n > 0)
		may(t, "envs", one, api.Size{Cores: 1, Envs: n, Frames: 1}, n > 0)
	}
}

func TestMayOfSteps(t *testing.T) {
	for what, es := range map[string][]api.Event{
		"Begin 0":                     {event(0, 0, 0, 0)},
		"Begin 0, and an Effect":      {event(0, 0, 1, 1)},
		"Begin below 0":               {event(0, -1, 0, 0)},
		"the least Begin":             {event(0, math.MinInt, 0, 0)},
		"one Begin":                   {event(0, 1, 0, 0), event(1, 1, 0, 0)},
		"Begins that fall":            {event(0, 2, 0, 0), event(1, 1, 0, 0)},
		"End without an Effect":       {event(0, 1, 0, 2)},
		"End below 0":                 {event(0, 1, 0, -1)},
		"End below 0, and an Effect":  {event(0, 1, 1, -1)},
		"the least End":               {event(0, 1, 2, math.MinInt)},
		"Effect below 0":              {event(0, 1, -1, 0)},
		"Effect below 0, and an End":  {event(0, 1, -1, 2)},
		"Effect ahead of Begin":       {event(0, 3, 2, 0)},
		"Effect ahead of Begin, End":  {event(0, 3, 2, 4)},
		"Effect behind End":           {event(0, 1, 3, 2)},
		"two at one step":             {event(0, 1, 3, 4), event(1, 2, 3, 5)},
		"two at one step, far apart":  {event(0, 1, 9, 9), event(1, 2, 4, 4), event(2, 3, 9, 0)},
		"one core, not ended":         {event(0, 1, 0, 0), event(0, 2, 0, 0)},
		"one core, took effect":       {event(0, 1, 2, 0), event(0, 3, 0, 0)},
		"one core, ends at the Begin": {event(0, 1, 2, 3), event(0, 3, 0, 0)},
		"one core, ends behind":       {event(0, 1, 2, 4), event(0, 3, 0, 0)},
		"one core, with one between":  {event(0, 1, 2, 9), event(1, 3, 4, 5), event(0, 6, 0, 0)},
		"the last of three":           {event(0, 1, 2, 3), event(0, 4, 5, 6), event(0, 6, 7, 8)},
	} {
		may(t, what, es, size, false)
	}
	for what, es := range map[string][]api.Event{
		"all at one step":        {event(0, 1, 1, 1)},
		"at Begin":               {event(0, 2, 2, 5)},
		"at End":                 {event(0, 2, 5, 5)},
		"not ended":              {event(0, 2, 2, 0)},
		"two without an Effect":  {event(0, 1, 0, 0), event(1, 2, 0, 0)},
		"cores that overlap":     {event(0, 1, 5, 6), event(1, 2, 4, 7)},
		"one core, one behind":   {event(0, 1, 2, 3), event(0, 4, 4, 4), event(0, 5, 0, 0)},
		"another one's End":      {event(0, 1, 2, 3), event(1, 3, 4, 0)},
		"gaps between the steps": {event(0, 10, 20, 30), event(0, 400, 0, 0)},
	} {
		may(t, what, es, size, true)
	}
}

// rule is what May should be, as the document has it, sentence by sentence.
func rule(es []api.Event, s api.Size) bool {
	ok := true
	for i, e := range es {
		ok = ok && e.Core >= 0 && e.Core < s.Cores && e.Env >= 0 && e.Env < s.Envs
		ok = ok && e.Begin > 0 && (i == 0 || e.Begin > es[i-1].Begin)
		ok = ok && (e.End == 0 || e.Effect > 0)
		ok = ok && (e.Effect == 0 || e.Effect >= e.Begin && (e.End == 0 || e.Effect <= e.End))
		for _, f := range es[:i] {
			ok = ok && (e.Effect <= 0 || e.Effect != f.Effect)
			ok = ok && (e.Core != f.Core || f.End > 0 && e.Begin > f.End)
		}
	}
	return ok
}

// All pairs of events whose numbers are few.
func TestMayOfAllPairs(t *testing.T) {
	var all []api.Event
	for core := range 3 {
		for begin := range 5 {
			for effect := -1; effect < 5; effect++ {
				for end := -1; end < 5; end++ {
					all = append(all, event(core, begin, effect, end))
				}
			}
		}
	}
	s, right := api.Size{Cores: 2, Envs: 1, Frames: 1}, 0
	for _, a := range all {
		for _, b := range all {
			es := []api.Event{a, b}
			want := rule(es, s)
			if May(es, s) != want {
				t.Fatalf("May %v: not %v", es, want)
			}
			if want {
				right++
			}
		}
	}
	if right < 100 {
		t.Errorf("%d pairs may be", right)
	}
}

func list(t *testing.T, what string, got []int, want ...int) {
	t.Helper()
	if !slices.Equal(got, want) {
		t.Errorf("%s: %v, not %v", what, got, want)
	}
}

func TestOrder(t *testing.T) {
	list(t, "some", Order(some()), 1, 0, 3, 2)
	list(t, "nil", Order(nil))
	list(t, "none with an Effect", Order([]api.Event{event(0, 1, 0, 0), event(1, 2, 0, 0)}))
	list(t, "rising", Order([]api.Event{event(0, 1, 2, 0), event(1, 2, 3, 0), event(2, 4, 5, 0)}), 0, 1, 2)
	list(t, "falling", Order([]api.Event{event(0, 1, 6, 0), event(1, 2, 5, 0), event(2, 4, 4, 0)}), 2, 1, 0)
	list(t, "far apart", Order([]api.Event{event(0, 1, math.MaxInt, 0), event(1, 2, 1, 0), event(2, 4, math.MaxInt-1, 0)}), 1, 2, 0)
}

// A history that may not be is put in order, too.
func TestOrderOfWhatMayNot(t *testing.T) {
	list(t, "one step", Order([]api.Event{event(0, 9, 4, 0), event(0, 8, 4, 0), event(0, 7, 3, 0), event(0, 6, 4, 0)}), 2, 0, 1, 3)
	list(t, "below 0", Order([]api.Event{event(0, 1, -3, 0), event(0, 1, 2, 0), event(0, 1, math.MinInt, 0)}), 1)
	list(t, "ended without", Order([]api.Event{event(0, 1, 0, 9)}))
}

// A long one, whose Effects are mixed.
func TestLongOrder(t *testing.T) {
	var es []api.Event
	for n := range 1000 {
		es = append(es, event(0, n+1, n*619%1000+1, 0))
	}
	for i, at := range Order(es) {
		if es[at].Effect != i+1 {
			t.Fatalf("%d: %v", i, es[at])
		}
	}
}

func TestBefore(t *testing.T) {
	a := event(0, 1, 2, 5)
	for begin, want := range map[int]bool{1: false, 4: false, 5: false, 6: true, math.MaxInt: true, 0: false, -1: false, math.MinInt: false} {
		if got := Before(a, event(0, begin, 0, 0)); got != want {
			t.Errorf("Before %d: %v", begin, got)
		}
	}
	for _, end := range []int{0, -1, math.MinInt} {
		if Before(event(0, 1, 2, end), event(0, 9, 0, 0)) {
			t.Errorf("Before of one that ended at %d: true", end)
		}
	}
	if Before(a, a) {
		t.Error("Before itself: true")
	}
}

func TestOver(t *testing.T) {
	for at, want := range map[int][]int{
		math.MinInt: nil, -1: nil, 0: nil,
		1: {0}, 2: {0, 1}, 3: {0}, 4: {0, 2}, 5: {2}, 6: {2}, 7: {2, 3}, 8: {2}, 9: nil, 10: nil, 11: {4}, 99: {4}, math.MaxInt: {4},
	} {
		list(t, "some", Over(some(), at), want...)
	}
	list(t, "nil", Over(nil, 3))
}

func TestDone(t *testing.T) {
	list(t, "some", Done(some()), 0, 1, 3)
	list(t, "nil", Done(nil))
	list(t, "none", Done([]api.Event{event(0, 1, 0, 0), event(1, 2, 3, 0)}))
	list(t, "below 0", Done([]api.Event{event(0, 1, 0, -1), event(1, 2, 0, 4), event(0, 1, 0, math.MinInt)}), 1)
}

// What is handed in stays, its spare room too, and answers are their own.
func TestListsAreTheirOwn(t *testing.T) {
	for _, ask := range []func(es []api.Event) []int{Order, Done, func(es []api.Event) []int { return Over(es, 4) }} {
		es := append(some(), event(2, 99, 99, 99))
		es = es[:5]
		first := ask(es)
		was := slices.Clone(first)
		second := ask(es)
		for i := range second {
			second[i] = 77
		}
		_ = append(second, 77)
		if !slices.Equal(first, was) || !slices.Equal(ask(es), was) || !slices.Equal(es, some()) || es[:6][5] != event(2, 99, 99, 99) {
			t.Errorf("%v, %v", first, es)
		}
	}
}
