package row_test

import (
	"math/rand/v2"
	"regexp"
	"slices"
	"strings"
	"testing"

	"covenant/api"
	"covenant/row"
	"covenant/value"
)

// everyRow are all rows of up to most of these values.
func everyRow(most int, values []api.Value) [][]api.Value {
	rows := [][]api.Value{nil}
	for from, n := 0, 1; n <= most; n++ {
		to := len(rows)
		for _, l := range rows[from:to] {
			for _, v := range values {
				rows = append(rows, append(slices.Clone(l), v))
			}
		}
		from = to
	}
	return rows
}

func checkRoundTrip(t *testing.T, l []api.Value) {
	t.Helper()
	if got, e := row.Parse(row.Text(l)); !slices.Equal(got, l) || e != api.OK {
		t.Fatalf("Parse(Text(%+v)) = %+v, %d", l, got, e)
	}
}

// P5.3: Parse of Text is the row.
func TestRoundTripOfRows(t *testing.T) {
	for _, l := range everyRow(3, valid) {
		checkRoundTrip(t, l)
	}
	for _, l := range rising {
		checkRoundTrip(t, l)
	}
	for a := range 256 {
		for b := range 256 {
			both := string([]byte{byte(a), byte(b)})
			checkRoundTrip(t, list(text(both), text(both)))
		}
	}
}

// P5.3: Parse of Text is the row, over texts of what parts and encloses values.
func TestRoundTripOfRandomTexts(t *testing.T) {
	random := rand.New(rand.NewPCG(5, 3))
	parts := []string{"'", ",", " ", ", ", "(", ")", "', '", "''", "[1,4)", "1", "null", "a"}
	for range 50000 {
		l := make([]api.Value, random.IntN(5))
		for i := range l {
			for range random.IntN(5) {
				l[i] = text(l[i].T + parts[random.IntN(len(parts))])
			}
		}
		checkRoundTrip(t, l)
	}
}

const anyValue = `(null|yes|no|0|-?[1-9][0-9]*|'([^']|'')*'|\[(0|1),4\))`

// grammar is the texts of rows, as far as spans are those below, and numbers and texts are short.
var grammar = regexp.MustCompile(`^\((` + anyValue + `(, ` + anyValue + `)*)?\)$`)

func checkGrammar(t *testing.T, s string) {
	t.Helper()
	l, e := row.Parse(s)
	if want := grammar.MatchString(s); (e == api.OK) != want || e != api.OK && (e != api.ErrForm || len(l) != 0) {
		t.Fatalf("Parse(%q) = %+v, %d", s, l, e)
	}
	if e == api.OK && row.Text(l) != s {
		t.Fatalf("Text(Parse(%q)) = %q", s, row.Text(l))
	}
}

// P5.2, P5.3: of all short texts Parse takes those of the grammar, and Text of Parse is the text.
func TestParseOfAllShortTexts(t *testing.T) {
	var visit func(s string, more int)
	visit = func(s string, more int) {
		checkGrammar(t, s)
		checkGrammar(t, "("+s+")")
		if more > 0 {
			for _, c := range []string{"(", ")", ",", " ", "'", "1"} {
				visit(s+c, more-1)
			}
		}
	}
	visit("", 7)
}

// P5.2, P5.3: the same, of texts that are made of longer parts.
func TestParseOfRandomTexts(t *testing.T) {
	random := rand.New(rand.NewPCG(5, 2))
	parts := []string{"(", ")", ", ", ", ", ", ", "'", "''", ",", " ", "1", "-1", "0", "null", "yes", "no", "'a'", "'it''s'", "', '", "[0,4)", "[1,4)", "[4,4)"}
	taken := 0
	for range 300000 {
		var inner strings.Builder
		for range random.IntN(8) {
			inner.WriteString(parts[random.IntN(len(parts))])
		}
		s := "(" + inner.String() + ")"
		checkGrammar(t, s)
		if grammar.MatchString(s) {
			taken++
		}
	}
	if taken < 1000 {
		t.Errorf("no more than %d are texts of rows", taken)
	}
}

// few are values of which rows are made for the laws of their order, valid ones and others.
var few = list(null, api.Value{N: 1}, number(-1), number(2), truth(1), text(""), text("a, b"), span(1, 2), span(1, 3), span(4, 4))

// P5.4: of any two rows one is before the other, or they are the same; what is before something that is before a row is before that row.
func TestOrder(t *testing.T) {
	rows := everyRow(2, few)
	for _, a := range rows {
		for _, b := range rows {
			ab := row.Compare(a, b)
			if ab != -row.Compare(b, a) || ab < -1 || ab > 1 || (ab == 0) != slices.Equal(a, b) || row.Same(a, b) != (ab == 0) {
				t.Fatalf("Compare(%+v, %+v) = %d, the other way %d, Same %v", a, b, ab, row.Compare(b, a), row.Same(a, b))
			}
			for _, c := range rows {
				if ab < 0 && row.Compare(b, c) < 0 && row.Compare(a, c) != -1 {
					t.Fatalf("%+v, %+v, %+v: not in one order", a, b, c)
				}
			}
		}
	}
}

// P5.4: rows that were sorted stand as their numbers, read from the first value on.
func TestOrderOfLongerRows(t *testing.T) {
	digits := list(number(0), number(1), number(2))
	rows := everyRow(5, digits)
	slices.SortFunc(rows, row.Compare)
	var texts []string
	for _, l := range rows {
		var digits strings.Builder
		for _, v := range l {
			digits.WriteByte('0' + byte(v.N))
		}
		texts = append(texts, digits.String())
	}
	if !slices.IsSorted(texts) || len(slices.Compact(texts)) != len(rows) {
		t.Error("rows are not sorted by their values, one by one")
	}
}

// P5.5: after the same first values rows are ordered as what is left of them.
func TestCommonPrefix(t *testing.T) {
	rests := everyRow(2, few)
	for _, prefix := range append(everyRow(1, few), list(number(1), null, text("a")), few) {
		for _, a := range rests {
			for _, b := range rests {
				want := row.Compare(a, b)
				longA, longB := slices.Concat(prefix, a), slices.Concat(prefix, b)
				if row.Compare(longA, longB) != want || row.Same(longA, longB) != (want == 0) {
					t.Fatalf("Compare(%+v, %+v) = %d, not %d", longA, longB, row.Compare(longA, longB), want)
				}
			}
		}
	}
}

// P5.5: what first differs decides, whatever follows.
func TestFirstDifferenceDecides(t *testing.T) {
	for _, v := range few {
		for _, w := range few {
			if v == w {
				continue
			}
			for _, a := range everyRow(1, few) {
				for _, b := range everyRow(1, few) {
					checkCompare(t, slices.Concat(list(null, v), a), slices.Concat(list(null, w), b), value.Compare(v, w))
				}
			}
		}
	}
}

// everyType are all lists of types, as many as there are values in a row.
func everyType(n int) [][]uint8 {
	lists := [][]uint8{nil}
	for range n {
		var longer [][]uint8
		for _, kinds := range lists {
			for kind := api.Int; kind <= api.Span; kind++ {
				longer = append(longer, append(slices.Clone(kinds), kind))
			}
		}
		lists = longer
	}
	return lists
}

// P5.6: a row fits columns exactly if each value, alone, fits its column, alone; NULL fits each.
func TestFitsOneByOne(t *testing.T) {
	for _, l := range everyRow(3, few) {
		for _, kinds := range everyType(len(l)) {
			cols := types(kinds...)
			want := api.OK
			for i := range l {
				alone := row.Fits(l[i:i+1], cols[i:i+1])
				if (alone == api.OK) != value.Fits(l[i], cols[i].Type) {
					t.Fatalf("Fits(%+v, %+v) = %d", l[i], cols[i], alone)
				}
				want = max(want, alone)
			}
			checkFits(t, l, cols, want)
			checkFits(t, make([]api.Value, len(cols)), cols, api.OK)
		}
	}
}

// P5.7: different rows of valid values have different texts, which are made of those of their values.
func TestTextsAreDistinct(t *testing.T) {
	seen := map[string][]api.Value{}
	for _, l := range everyRow(3, valid) {
		s := row.Text(l)
		if other, is := seen[s]; is {
			t.Fatalf("%+v and %+v have the same text %q", l, other, s)
		}
		seen[s] = l
		var parts []string
		for _, v := range l {
			parts = append(parts, value.Text(v))
		}
		if want := "(" + strings.Join(parts, ", ") + ")"; s != want {
			t.Fatalf("Text(%+v) = %q, not %q", l, s, want)
		}
	}
}
