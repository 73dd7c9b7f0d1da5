// Package trap: errors that are wrapped: see doc/01-trap.md.
package trap

import (
	"errors"
	"strconv"
	"strings"

	"messuage/api"
)

// noEnv is the Env of a trap that is not told of any environment.
const noEnv = -1

// Trap is an error of Code; one with Err wraps it and tells in which call of
// which environment it came up.
type Trap struct {
	Code api.Errno
	Env  int
	Call api.Call
	Err  error
}

// Error tells the codes of the traps that are wrapped straight one in the
// other. It goes along them in a loop, since a long chain would make a
// recursion copy its text once a link, and a ring would make it endless.
func (t *Trap) Error() string {
	if t == nil {
		return ""
	}
	var b strings.Builder
	told := map[*Trap]struct{}{}
	for {
		b.WriteString("trap ")
		b.WriteString(strconv.Itoa(int(t.Code)))
		if t.Err == nil {
			return b.String()
		}
		b.WriteString(": ")
		told[t] = struct{}{}
		inner, ok := itself(t.Err)
		if !ok {
			b.WriteString(text(t.Err))
			return b.String()
		}
		if _, again := told[inner]; again {
			return b.String()
		}
		t = inner
	}
}

// Unwrap is for errors.Is and errors.As.
func (t *Trap) Unwrap() error {
	if t == nil {
		return nil
	}
	return t.Err
}

// Is is for errors.Is: traps are held against each other by their Code alone.
func (t *Trap) Is(target error) bool {
	if t == nil {
		return false
	}
	other, ok := itself(target)
	return ok && other.Code == t.Code
}

// Of makes the error of code.
func Of(code api.Errno) error {
	if code == api.OK {
		return nil
	}
	return &Trap{Code: code, Env: noEnv}
}

// In wraps err as what came up in call of env.
func In(env int, call api.Call, err error) error {
	if err == nil {
		return nil
	}
	return &Trap{Code: Code(err), Env: env, Call: call, Err: err}
}

// Code is err's error number.
func Code(err error) api.Errno {
	if err == nil {
		return api.OK
	}
	if t, ok := First(err); ok {
		return t.Code
	}
	return api.ErrForm
}

// Depth counts the traps that are wrapped one in the other, each once: a ring
// of them (fields can be set by hand) would be counted without an end.
func Depth(err error) int {
	counted := map[*Trap]struct{}{}
	for t, ok := First(err); ok; t, ok = First(t.Err) {
		if _, again := counted[t]; again {
			break
		}
		counted[t] = struct{}{}
	}
	return len(counted)
}

// First is what errors.As finds. A nil *Trap that it finds has no Code and
// wraps nothing: it counts as none. What an error of another making panics
// with, while errors.As asks it, is caught here.
func First(err error) (first *Trap, found bool) {
	defer func() {
		if recover() != nil {
			first, found = nil, false
		}
	}()
	var t *Trap
	if errors.As(err, &t) && t != nil {
		return t, true
	}
	return nil, false
}

// itself answers err, if it is a trap and not an error of another making that
// wraps one.
func itself(err error) (*Trap, bool) {
	t, ok := First(err)
	if !ok || err != error(t) {
		return nil, false
	}
	return t, true
}

// text is err's, or none if an error of another making panics when asked.
func text(err error) (s string) {
	defer func() {
		if recover() != nil {
			s = ""
		}
	}()
	return err.Error()
}
