package tests

import (
	"slices"
	"strconv"
	"strings"

	"loop.example/g00544/impl"
)

// The document's words about who is who, as they stand there: the tests hold
// the program against these. They lean on what the tests of the signs take for
// a name.

const lastAt = 1000000000

func envSlowly(env []impl.Bind) bool {
	wrong := func(b impl.Bind) bool {
		return !nameForm.MatchString(b.Name) || b.At < 0 || b.At > lastAt
	}
	return len(env) <= 400 && !slices.ContainsFunc(env, wrong)
}

// boundSlowly asks for all that would be wrong ahead of binding anybody, so
// that it never reckons beyond the greatest number there is.
func boundSlowly(env []impl.Bind, names []string, secret bool, from int64) []impl.Bind {
	if !envSlowly(env) {
		return nil
	}
	out := slices.Clone(env)
	if len(names) == 0 || len(env)+len(names) > 400 || from < 0 || from > lastAt || from > lastAt+1-int64(len(names)) {
		return out
	}
	for _, name := range names {
		if !nameForm.MatchString(name) {
			return out
		}
	}
	for n := range names {
		out = append(out, impl.Bind{Name: names[n], Secret: secret, At: from + int64(n)})
	}
	return out
}

func lookedSlowly(env []impl.Bind, name string, secret bool) int64 {
	at := int64(-1)
	if !envSlowly(env) {
		return at
	}
	for _, b := range env {
		if b.Name == name && b.Secret == secret {
			at = b.At
		}
	}
	return at
}

// An env, written: of each Bind its Name, a = and its At, a ! ahead of one that
// is Secret.
func envOf(words string) []impl.Bind {
	out := []impl.Bind{}
	for _, word := range strings.Fields(words) {
		name, at, _ := strings.Cut(word, "=")
		open, secret := strings.CutPrefix(name, "!")
		n, err := strconv.ParseInt(at, 10, 64)
		if err != nil {
			panic(err)
		}
		out = append(out, impl.Bind{Name: open, Secret: secret, At: n})
	}
	return out
}

func showEnv(env []impl.Bind) string {
	words := []string{}
	for n, b := range env {
		if n == 12 {
			words = append(words, ".. "+strconv.Itoa(len(env)))
			break
		}
		word := short(b.Name) + "=" + strconv.FormatInt(b.At, 10)
		if b.Secret {
			word = "!" + word
		}
		words = append(words, word)
	}
	return "[" + strings.Join(words, " ") + "]"
}
