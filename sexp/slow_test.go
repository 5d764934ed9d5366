package sexp_test

import (
	"math/big"
	"math/rand"
	"regexp"
	"slices"
	"strings"
	"testing"

	"confluence/api"
	"confluence/sexp"
)

// fault is an error at an offset, with its place in the chapter's list.
type fault struct {
	why      api.Errno
	at, rank int
}

var (
	gapForm    = regexp.MustCompile(`^[ \n]*`)
	atomForm   = regexp.MustCompile(`^[a-z]+`)
	numForm    = regexp.MustCompile(`^-?[0-9]+`)
	plainForm  = regexp.MustCompile(`^"(?:[ !#-\[\]-~]|\\[0-9a-f][0-9a-f])*`)
	cutForm    = regexp.MustCompile(`^\\[0-9a-f]?$`)
	escapeForm = regexp.MustCompile(`\\[0-9a-f][0-9a-f]`)
)

// slow reads s by the chapter's words: of all errors that apply, the leftmost, and of those at one offset the one that is named first.
func slow(s string) (sexp.Tree, api.Errno, int) {
	if len(s) > api.MaxPlan {
		return sexp.Tree{}, api.ErrLong, 0
	}
	var stack [][]sexp.Tree
	var starts []int
	var whole []sexp.Tree
	var found []fault
	add := func(t sexp.Tree) {
		if len(stack) == 0 {
			whole = append(whole, t)
		} else {
			stack[len(stack)-1] = append(stack[len(stack)-1], t)
		}
	}
	at := 0
	for len(found) == 0 {
		at += len(gapForm.FindString(s[at:]))
		if at == len(s) {
			if len(whole) == 0 || len(stack) > 0 {
				found = append(found, fault{api.ErrEnd, at, 6})
			}
			break
		}
		if strings.IndexByte(beginners, s[at]) < 0 {
			found = append(found, fault{api.ErrForm, at, 1})
			break
		}
		if len(whole) > 0 && s[at] != ')' {
			found = append(found, fault{api.ErrTail, at, 5})
		}
		switch s[at] {
		case ')':
			if len(stack) == 0 {
				found = append(found, fault{api.ErrForm, at, 1})
				break
			}
			last := len(stack) - 1
			t := open(starts[last], stack[last]...)
			stack, starts = stack[:last], starts[:last]
			add(t)
			at++
		case '(':
			if len(stack) == api.MaxDeep {
				found = append(found, fault{api.ErrDeep, at, 4})
			}
			stack, starts = append(stack, nil), append(starts, at)
			at++
		default:
			t, size, more := slowToken(s, at)
			found = append(found, more...)
			add(t)
			at += size
		}
	}
	if len(found) > 0 {
		first := slices.MinFunc(found, func(a, b fault) int {
			if a.at != b.at {
				return a.at - b.at
			}
			return a.rank - b.rank
		})
		return sexp.Tree{}, first.why, first.at
	}
	return whole[0], api.OK, 0
}

// slowToken reads an atom, a number or a text.
func slowToken(s string, at int) (sexp.Tree, int, []fault) {
	rest := s[at:]
	if m := atomForm.FindString(rest); m != "" {
		return atom(at, m), len(m), nil
	}
	if m := numForm.FindString(rest); m != "" {
		n, ok := new(big.Int).SetString(m, 10)
		if !ok || !n.IsInt64() {
			return sexp.Tree{}, 0, []fault{{api.ErrForm, at, 2}}
		}
		return num(at, n.Int64()), len(m), nil
	}
	if rest[0] == '-' {
		return sexp.Tree{}, 0, []fault{{api.ErrForm, at, 2}}
	}
	m := plainForm.FindString(rest)
	switch {
	case len(m) == len(rest), cutForm.MatchString(rest[len(m):]):
		return sexp.Tree{}, 0, []fault{{api.ErrEnd, len(s), 6}}
	case rest[len(m)] != '"':
		return sexp.Tree{}, 0, []fault{{api.ErrForm, at + len(m), 3}}
	}
	const digits = "0123456789abcdef"
	means := escapeForm.ReplaceAllStringFunc(m[1:], func(e string) string {
		return string([]byte{byte(16*strings.IndexByte(digits, e[1]) + strings.IndexByte(digits, e[2]))})
	})
	if len(means) > api.MaxText {
		return sexp.Tree{}, 0, []fault{{api.ErrLong, at, 3}}
	}
	return str(at, means), len(m) + 1, nil
}

// agree checks that Read and slow have one answer for s.
func agree(t *testing.T, s string) {
	t.Helper()
	got, why, at := sexp.Read(s)
	want, w, a := slow(s)
	if why != w || at != a || !same(got, want) {
		t.Fatalf("Read(%+q): %s, error %d at %d, not %s, error %d at %d", s, tell(got), why, at, tell(want), w, a)
	}
}

func TestP71ReadOfAllShortStrings(t *testing.T) {
	const bytes = "()a7-\"\\ \x01$"
	var each func(s string, n int)
	each = func(s string, n int) {
		agree(t, s)
		if n == 0 {
			return
		}
		for i := range len(bytes) {
			each(s+bytes[i:i+1], n-1)
		}
	}
	each("", 5)
}

// pieces are what random strings are made of: tokens, their beginnings and ends, and what is wrong.
func pieces() []string {
	all := []string{" ", "\n", "(", "(", "(", "(", "(", "(", ")", ")", ")", ")", "a", "bc", "1", "-2", "0009", "-", `""`, `"x"`, `"\22"`, `"`, `\`, "f", "\t", "$", "\xff", "((((", "))))", "9223372036854775807", "-9223372036854775808", `"` + longest + `"`}
	for _, x := range faults {
		all = append(all, x.s)
	}
	return all
}

func TestP71ReadOfRandomStrings(t *testing.T) {
	x := rand.New(rand.NewSource(71))
	all := pieces()
	for _, most := range []int{3, 8, 20, 32} {
		for range 8000 {
			var s strings.Builder
			for range x.Intn(60) {
				s.WriteString(all[x.Intn(most)])
			}
			agree(t, s.String())
			agree(t, "("+s.String()+")")
		}
	}
	for range 8000 {
		s := ""
		for range x.Intn(8) {
			s += all[x.Intn(len(all))]
		}
		agree(t, s)
		agree(t, "("+s+")")
	}
}

// One byte of a tree is turned, taken out or put in.
func TestP71ReadOfTreesWithOneWrongByte(t *testing.T) {
	x := rand.New(rand.NewSource(72))
	for range 3000 {
		s := sexp.Print(some(x, 1+x.Intn(4)))
		agree(t, s)
		if len(s) == 0 {
			continue
		}
		at := x.Intn(len(s))
		c := string([]byte{byte(x.Intn(256))})
		agree(t, s[:at]+c+s[at+1:])
		agree(t, s[:at]+s[at+1:])
		agree(t, s[:at]+c+s[at:])
		agree(t, s[:at])
		agree(t, s+" "+s[:at])
	}
}
