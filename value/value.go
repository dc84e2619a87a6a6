// Package value is layer 1: which values are valid, their order and their texts; see shared/doc/01-value.md.
package value

import (
	"cmp"
	"strconv"
	"strings"

	"covenant/api"
)

const (
	textNull = "null"
	textYes  = "yes"
	textNo   = "no"
	quote    = "'"
)

// May reports whether a value is valid.
func May(v api.Value) bool {
	// What is left of a value without what its Kind names must be empty.
	switch v.Kind {
	case api.Null:
		return v == api.Value{}
	case api.Int:
		return v == api.Value{Kind: api.Int, N: v.N}
	case api.Bool:
		return v == api.Value{Kind: api.Bool, N: v.N} && (v.N == 0 || v.N == 1)
	case api.Text:
		return v == api.Value{Kind: api.Text, T: v.T} && len(v.T) <= api.MaxText
	case api.Span:
		return v == api.Value{Kind: api.Span, N: v.N, Hi: v.Hi} && v.N < v.Hi
	}
	return false
}

// Fits reports whether a value is valid, and is NULL or of that Kind.
func Fits(v api.Value, kind uint8) bool {
	if kind < api.Int || kind > api.Span {
		return false
	}
	return May(v) && (v.Kind == api.Null || v.Kind == kind)
}

// Compare is -1 if a is before b, 1 if b is before a, 0 if they are the same.
func Compare(a, b api.Value) int {
	return order(a.Kind, b.Kind, order(a.N, b.N), order(a.Hi, b.Hi), order(a.T, b.T))
}

// order compares a with b; where they are the same, the first of the further comparisons that is not 0 decides.
func order[T cmp.Ordered](a, b T, further ...int) int {
	switch {
	case a < b:
		return -1
	case b < a:
		return 1
	}
	for _, c := range further {
		if c != 0 {
			return c
		}
	}
	return 0
}

// Text is the text of a value; of one that is invalid it has no bytes.
func Text(v api.Value) string {
	if !May(v) {
		return ""
	}
	switch v.Kind {
	case api.Int:
		return decimal(v.N)
	case api.Bool:
		return truth(v.N)
	case api.Text:
		return quote + strings.ReplaceAll(v.T, quote, quote+quote) + quote
	case api.Span:
		return "[" + decimal(v.N) + "," + decimal(v.Hi) + ")"
	}
	return textNull
}

func decimal(n int64) string { return strconv.FormatInt(n, 10) }

func truth(n int64) string {
	if n == 1 {
		return textYes
	}
	return textNo
}

// Parse is the value of a text.
func Parse(s string) (api.Value, api.Errno) {
	// Each value has one text only, so a value that was read loosely is held against the text as a whole:
	// that alone refuses a needless 0, a + and a single ' inside, spans that are none, texts that are too long.
	v, ok := read(s)
	if !ok || Text(v) != s {
		return api.Value{}, api.ErrForm
	}
	return v, api.OK
}

// read is the only value whose text s may be.
func read(s string) (api.Value, bool) {
	switch {
	case s == textNull:
		return api.Value{}, true
	case s == textYes:
		return api.Value{Kind: api.Bool, N: 1}, true
	case s == textNo:
		return api.Value{Kind: api.Bool}, true
	case strings.HasPrefix(s, quote):
		return readText(s)
	case strings.HasPrefix(s, "["):
		return readSpan(s)
	}
	n, ok := readNumber(s)
	return api.Value{Kind: api.Int, N: n}, ok
}

func readText(s string) (api.Value, bool) {
	// A single ' both begins and ends with one.
	if len(s) < 2 || !strings.HasSuffix(s, quote) {
		return api.Value{}, false
	}
	t := strings.ReplaceAll(s[1:len(s)-1], quote+quote, quote)
	// ReplaceAll may answer a part of s itself; an answer shares no memory with what was handed in.
	return api.Value{Kind: api.Text, T: strings.Clone(t)}, true
}

func readSpan(s string) (api.Value, bool) {
	inner, closed := strings.CutSuffix(s[1:], ")")
	from, to, parted := strings.Cut(inner, ",")
	n, fromOK := readNumber(from)
	hi, toOK := readNumber(to)
	return api.Value{Kind: api.Span, N: n, Hi: hi}, closed && parted && fromOK && toOK
}

func readNumber(s string) (int64, bool) {
	n, err := strconv.ParseInt(s, 10, 64)
	return n, err == nil
}
