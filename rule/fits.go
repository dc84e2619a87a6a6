package rule

import (
	"slices"

	"covenant/api"
	"covenant/expr"
	"covenant/key"
)

// placed is a rule, and the table on which it is.
type placed struct {
	api.Rule
	on api.Table
}

// hasColumns reports whether the rule's columns are some of the table's.
func (p placed) hasColumns() bool { return key.May(p.Cols, len(p.on.Cols)) }

// types is the types of the rule's columns, which the table has.
func (p placed) types() []uint8 {
	types := make([]uint8, len(p.Cols))
	for i, column := range p.Cols {
		types[i] = p.on.Cols[column].Type
	}
	return types
}

// truth reports what is wrong with the rule's expression, which is to be a truth value over the table's columns.
func (p placed) truth() api.Errno {
	kind, e := expr.Type(p.Is, p.on.Cols)
	// NULL is a truth value, too: the unknown one.
	if e == api.OK && kind != api.Bool && kind != api.Null {
		return api.ErrType
	}
	return e
}

// bond is a rule on its table, and the one to which it refers on that one's, if it is of Kind Foreign.
type bond struct {
	placed
	other placed
}

// formed reports whether the rule has what its Kind asks for, whatever the types of its columns, and its expression, are.
func (b bond) formed() bool {
	switch b.Kind {
	case api.NotNull:
		return b.hasColumns() && len(b.Cols) == 1 && !b.Late
	case api.Check:
		return !b.Late
	case api.Unique:
		return b.hasColumns() && b.Valid
	case api.Foreign:
		return b.hasColumns() && b.refers() && b.OnDelete <= api.SetBy && b.OnUpdate <= api.SetBy
	case api.Apart:
		return b.hasColumns() && b.Valid && !b.Late
	}
	return false
}

// refers reports whether the other rule is one to which this one may refer, by as many columns as it has.
func (b bond) refers() bool {
	may := b.other.Kind == api.Unique && b.other.Table == b.other.on.Name && !b.other.Late && b.other.hasColumns()
	return may && b.To == b.other.Name && len(b.Cols) == len(b.other.Cols)
}

// typed reports what is wrong with the types of the rule's columns, or with its expression.
func (b bond) typed() api.Errno {
	wrong := false
	switch b.Kind {
	case api.Check:
		return b.truth()
	case api.Foreign:
		wrong = !slices.Equal(b.types(), b.other.types())
	case api.Apart:
		types := b.types()
		wrong = types[len(types)-1] != api.Span
	}
	if wrong {
		return api.ErrType
	}
	return api.OK
}
