package trap

import (
	"errors"
	"fmt"
	"math"
	"strings"
	"testing"

	"messuage/api"
)

// codes are the errors' numbers and some that are none of them.
func codes() []api.Errno {
	cs := []api.Errno{math.MinInt, -5, -1, 12, 1000, math.MaxInt}
	for c := api.ErrCall; c <= api.ErrRange; c++ {
		cs = append(cs, c)
	}
	return cs
}

var someCall = api.Call{api.CMap, 1, 2, 3, math.MaxUint64}

// absent is an error that is not nil, but whose *Trap is.
func absent() error { return (*Trap)(nil) }

// texts is an error of another making that can't be held against one by ==.
type texts []string

func (s texts) Error() string { return strings.Join(s, " ") }

// wild panics with whatever it is asked.
type wild struct{}

func (wild) Error() string   { panic("Error") }
func (wild) Unwrap() error   { panic("Unwrap") }
func (wild) As(any) bool     { panic("As") }
func (wild) Is(e error) bool { panic("Is") }

// guise is no *Trap, but errors.As finds one in it.
type guise struct{ t *Trap }

func (g guise) Error() string { return "guise" }
func (g guise) As(target any) bool {
	p, ok := target.(**Trap)
	if ok {
		*p = g.t
	}
	return ok
}

func TestOfIsNilOfOK(t *testing.T) {
	if e := Of(api.OK); e != nil {
		t.Errorf("Of OK: %#v", e)
	}
}

func TestOfIsATrapOfItsCode(t *testing.T) {
	for _, c := range codes() {
		got, ok := Of(c).(*Trap)
		if !ok || got == nil || *got != (Trap{Code: c, Env: -1}) {
			t.Errorf("Of %d: %#v", c, got)
		}
	}
}

func TestOfIsNewMemory(t *testing.T) {
	a, b := Of(api.ErrArg).(*Trap), Of(api.ErrArg).(*Trap)
	a.Code, a.Err = api.ErrFull, b
	if *b != (Trap{Code: api.ErrArg, Env: -1}) || Code(Of(api.ErrArg)) != api.ErrArg {
		t.Error("what is written into one trap stands in another one")
	}
}

func TestInIsNilOfNil(t *testing.T) {
	for _, env := range []int{math.MinInt, -1, 0, 3, math.MaxInt} {
		if e := In(env, someCall, nil); e != nil {
			t.Errorf("In %d of nil: %#v", env, e)
		}
		if e := In(env, someCall, Of(api.OK)); e != nil {
			t.Errorf("In %d of Of OK: %#v", env, e)
		}
	}
}

func TestInTellsItsArgumentsAndTheCode(t *testing.T) {
	for _, err := range []error{
		Of(api.ErrNone), Of(-7), In(1, api.Call{}, Of(api.ErrNone)), errors.New("other"),
		fmt.Errorf("of %w", Of(api.ErrBusy)), errors.Join(errors.New("other"), Of(api.ErrFull)),
		&Trap{}, guise{&Trap{Code: api.ErrOff}}, wild{},
	} {
		for _, env := range []int{math.MinInt, -1, 0, 3, math.MaxInt} {
			got, ok := In(env, someCall, err).(*Trap)
			if !ok || got == nil || *got != (Trap{Code(err), env, someCall, err}) {
				t.Errorf("In %d of %T: %#v", env, err, got)
			}
		}
	}
}

func TestInOfATrapWithoutACode(t *testing.T) {
	e := In(2, someCall, &Trap{})
	if got, ok := e.(*Trap); !ok || got == nil || got.Code != api.OK || got.Env != 2 {
		t.Errorf("%#v", e)
	}
}

func TestIsATrapOfTheSameCode(t *testing.T) {
	for _, c := range codes() {
		for _, d := range codes() {
			a, b := &Trap{Code: c, Env: 1}, &Trap{Code: d, Env: 2, Call: someCall, Err: Of(c)}
			if a.Is(b) != (c == d) {
				t.Errorf("%d is %d: %v", c, d, a.Is(b))
			}
		}
	}
}

func TestIsLooksNotBeneath(t *testing.T) {
	a := In(1, someCall, Of(api.ErrNone)).(*Trap)
	a.Code = api.ErrFull
	if a.Is(Of(api.ErrNone)) || !a.Is(Of(api.ErrFull)) {
		t.Error("Is goes by another Code than its own")
	}
	if Of(api.ErrNone).(*Trap).Is(&Trap{Code: api.ErrFull, Err: Of(api.ErrNone)}) {
		t.Error("Is goes by what its target wraps")
	}
}

func TestIsNoErrorOfAnotherMaking(t *testing.T) {
	a := Of(api.ErrForm).(*Trap)
	for _, target := range []error{
		nil, absent(), errors.New("trap 9"), texts{"trap 9"}, wild{},
		fmt.Errorf("of %w", a), errors.Join(a), guise{a},
	} {
		if a.Is(target) {
			t.Errorf("is a %T", target)
		}
	}
}

func TestErrorsIsOfWhatOfAndInMade(t *testing.T) {
	for _, c := range append(codes(), api.OK) {
		one := In(1, someCall, Of(c))
		for _, e := range []error{Of(c), one, In(2, api.Call{}, one), In(3, someCall, In(2, someCall, one))} {
			for _, d := range append(codes(), api.OK) {
				if errors.Is(e, Of(d)) != (c == d) {
					t.Errorf("%v is %d", e, d)
				}
			}
		}
	}
}

func TestErrorsIsOfWhatIsWrapped(t *testing.T) {
	other := errors.New("other")
	e := In(2, someCall, In(1, someCall, other))
	if !errors.Is(e, other) || !errors.Is(e, Of(api.ErrForm)) || errors.Is(e, Of(api.ErrNone)) {
		t.Error("an error of another making beneath")
	}
	e = In(2, someCall, errors.Join(other, fmt.Errorf("of %w", Of(api.ErrNone))))
	if !errors.Is(e, other) || !errors.Is(e, Of(api.ErrNone)) || errors.Is(e, Of(api.ErrForm)) {
		t.Error("an error of another making beside")
	}
	if !errors.Is(fmt.Errorf("of %w", e), Of(api.ErrNone)) || errors.Is(other, Of(api.ErrForm)) {
		t.Error("an error of another making above, alone")
	}
}

func TestUnwrapIsErr(t *testing.T) {
	for _, err := range []error{nil, absent(), Of(api.ErrNone), errors.New("other"), wild{}} {
		if got := (&Trap{Code: api.ErrArg, Err: err}).Unwrap(); got != err {
			t.Errorf("%T: %T", err, got)
		}
	}
	inner := In(1, someCall, Of(api.ErrNone))
	if errors.Unwrap(In(2, someCall, inner)) != inner || errors.Unwrap(Of(api.ErrNone)) != nil {
		t.Error("errors.Unwrap")
	}
}

// found is what Code, Depth and First have to tell of err.
type found struct {
	name  string
	err   error
	code  api.Errno
	depth int
	first *Trap
}

func finds() []found {
	other := errors.New("other")
	one := Of(api.ErrNone).(*Trap)
	two := In(1, someCall, one).(*Trap)
	three := In(2, someCall, fmt.Errorf("of %w", two)).(*Trap)
	form := In(0, someCall, other).(*Trap)
	void := In(0, someCall, absent()).(*Trap)
	hand := &Trap{Code: api.ErrFull, Err: two}
	zero := &Trap{}
	return []found{
		{"nil", nil, api.OK, 0, nil},
		{"one", one, api.ErrNone, 1, one},
		{"two", two, api.ErrNone, 2, two},
		{"three, another between", three, api.ErrNone, 3, three},
		{"another alone", other, api.ErrForm, 0, nil},
		{"another that is no value for ==", texts{"a", "b"}, api.ErrForm, 0, nil},
		{"others alone", errors.Join(other, fmt.Errorf("of %w", other)), api.ErrForm, 0, nil},
		{"another beneath", form, api.ErrForm, 1, form},
		{"another above", fmt.Errorf("of %w", two), api.ErrNone, 2, two},
		{"another beside", errors.Join(other, three, one), api.ErrNone, 3, three},
		{"two beside each other: the first counts", errors.Join(one, hand), api.ErrNone, 1, one},
		{"two beside each other beneath", In(3, someCall, errors.Join(hand, one)), api.ErrFull, 4, nil},
		{"by hand: the outer code counts", hand, api.ErrFull, 3, hand},
		{"by hand: all zero", zero, api.OK, 1, zero},
		{"in another's guise", guise{two}, api.ErrNone, 2, two},
		{"a nil trap alone", absent(), api.ErrForm, 0, nil},
		{"a nil trap beneath", void, api.ErrForm, 1, void},
		{"a nil trap beneath another", fmt.Errorf("of %w", absent()), api.ErrForm, 0, nil},
		{"a nil trap in another's guise", guise{nil}, api.ErrForm, 0, nil},
		{"another that panics", wild{}, api.ErrForm, 0, nil},
		{"another that panics above", errors.Join(wild{}, one), api.ErrForm, 0, nil},
	}
}

func TestCode(t *testing.T) {
	for _, f := range finds() {
		if got := Code(f.err); got != f.code {
			t.Errorf("%s: %d, not %d", f.name, got, f.code)
		}
	}
	for _, c := range codes() {
		if Code(Of(c)) != c || Code(In(1, someCall, In(2, someCall, Of(c)))) != c {
			t.Errorf("of %d", c)
		}
	}
}

func TestDepth(t *testing.T) {
	for _, f := range finds() {
		if got := Depth(f.err); got != f.depth {
			t.Errorf("%s: %d, not %d", f.name, got, f.depth)
		}
	}
}

func TestFirst(t *testing.T) {
	for _, f := range finds() {
		want := f.first
		if want == nil && f.depth > 0 {
			want = f.err.(*Trap)
		}
		got, ok := First(f.err)
		if got != want || ok != (want != nil) {
			t.Errorf("%s: %#v, %v", f.name, got, ok)
		}
	}
}

func TestFirstIsTheVeryOne(t *testing.T) {
	e := fmt.Errorf("of %w", In(1, someCall, Of(api.ErrNone)))
	got, _ := First(e)
	got.Code = api.ErrFull
	if Code(e) != api.ErrFull {
		t.Error("First answers a copy")
	}
}

func TestErrorOfCodes(t *testing.T) {
	for _, c := range append(codes(), api.OK) {
		want := fmt.Sprintf("trap %d", int(c))
		if got := (&Trap{Code: c, Env: 7, Call: someCall}).Error(); got != want {
			t.Errorf("%q, not %q", got, want)
		}
	}
}

func TestErrorOfWhatIsWrapped(t *testing.T) {
	two := In(1, someCall, Of(api.ErrNone))
	for _, x := range []struct {
		err  error
		text string
	}{
		{two, "trap 3: trap 3"},
		{In(2, someCall, two), "trap 3: trap 3: trap 3"},
		{&Trap{Code: api.ErrFull, Err: two}, "trap 6: trap 3: trap 3"},
		{In(2, someCall, errors.New("other")), "trap 9: other"},
		{In(2, someCall, errors.New("")), "trap 9: "},
		{In(2, someCall, texts{"a", "b"}), "trap 9: a b"},
		{In(2, someCall, fmt.Errorf("of %w", two)), "trap 3: of trap 3: trap 3"},
		{In(2, someCall, errors.Join(errors.New("other"), two)), "trap 3: other\ntrap 3: trap 3"},
		{In(2, someCall, In(1, someCall, guise{&Trap{Code: api.ErrOff}})), "trap 10: trap 10: guise"},
		{In(2, someCall, absent()), "trap 9: "},
		{In(2, someCall, wild{}), "trap 9: "},
	} {
		if got := x.err.Error(); got != x.text {
			t.Errorf("%q, not %q", got, x.text)
		}
	}
}

func TestNilTrap(t *testing.T) {
	var none *Trap
	if got := none.Error(); got != "" {
		t.Errorf("Error: %q", got)
	}
	if got := none.Unwrap(); got != nil {
		t.Errorf("Unwrap: %#v", got)
	}
	for _, target := range []error{nil, none, &Trap{}, Of(api.ErrArg), errors.New("other"), wild{}} {
		if none.Is(target) {
			t.Errorf("is a %T", target)
		}
	}
	if got, ok := First(none); got != nil || ok {
		t.Errorf("First: %#v, %v", got, ok)
	}
}

// A ring can be made by hand: every call ends all the same (P0.1).
func TestRings(t *testing.T) {
	one := &Trap{Code: 1}
	one.Err = one
	a, b := &Trap{Code: 2}, &Trap{Code: 3}
	a.Err, b.Err = b, a
	tail := &Trap{Code: 4, Err: a}
	across := &Trap{Code: 5}
	across.Err = fmt.Errorf("of %w", across)
	for _, x := range []struct {
		err   *Trap
		depth int
		text  string
	}{
		{one, 1, "trap 1: "}, {a, 2, "trap 2: trap 3: "}, {tail, 3, "trap 4: trap 2: trap 3: "}, {across, 1, "trap 5: of trap 5"},
	} {
		if Depth(x.err) != x.depth || x.err.Error() != x.text || Code(x.err) != x.err.Code || !x.err.Is(Of(x.err.Code)) {
			t.Errorf("%d: %d, %q", x.err.Code, Depth(x.err), x.err.Error())
		}
	}
}

// A long chain neither takes the square of its length nor the stack (P0.1).
func TestLongChain(t *testing.T) {
	const n = 300000
	e := Of(api.ErrBusy)
	for k := 1; k < n; k++ {
		e = In(k, someCall, e)
	}
	if Depth(e) != n || Code(e) != api.ErrBusy || !errors.Is(e, Of(api.ErrBusy)) || errors.Is(e, Of(api.ErrFull)) {
		t.Error("Depth, Code, Is")
	}
	if e.Error() != strings.Repeat("trap 4: ", n-1)+"trap 4" {
		t.Error("Error")
	}
}
