package value_test

import (
	"testing"

	"covenant/api"
)

// The limits that all layers share are the document's.
func TestLimits(t *testing.T) {
	for _, x := range []struct {
		name      string
		got, want int
	}{
		{"MaxName", api.MaxName, 32},
		{"MaxText", api.MaxText, 256},
		{"MaxCols", api.MaxCols, 8},
		{"MaxTables", api.MaxTables, 16},
		{"MaxRules", api.MaxRules, 32},
		{"MaxRoles", api.MaxRoles, 16},
		{"MaxDeep", api.MaxDeep, 16},
		{"MaxSize", api.MaxSize, 64},
		{"MaxRows", api.MaxRows, 256},
		{"MaxEffects", api.MaxEffects, 1024},
		{"MaxLevels", api.MaxLevels, 16},
		{"MaxStmts", api.MaxStmts, 4096},
		{"MaxSteps", api.MaxSteps, 1 << 20},
	} {
		if x.got != x.want {
			t.Errorf("%s is %d, not %d", x.name, x.got, x.want)
		}
	}
}

// The numbers of the errors are the document's, and each of them is an error of the language.
func TestErrors(t *testing.T) {
	for _, x := range []struct {
		e error
		n int
	}{
		{api.OK, 0}, {api.ErrArg, 1}, {api.ErrNil, 2}, {api.ErrForm, 4}, {api.ErrNone, 5}, {api.ErrTwice, 6}, {api.ErrState, 7},
		{api.ErrTooLarge, 40}, {api.ErrType, 60}, {api.ErrRange, 61}, {api.ErrNull, 62}, {api.ErrCheck, 63}, {api.ErrUnique, 64},
		{api.ErrRefer, 65}, {api.ErrMeet, 66}, {api.ErrDenied, 67}, {api.ErrDepends, 68}, {api.ErrSerial, 69}, {api.ErrDeadlock, 70}, {api.ErrFailed, 71},
	} {
		if e, ok := x.e.(api.Errno); !ok || int(e) != x.n || e.Error() == "" {
			t.Errorf("%v is not error %d", x.e, x.n)
		}
	}
}
