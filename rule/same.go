package rule

import (
	"slices"

	"covenant/api"
)

// Same reports whether two rules are the same, in all fields.
func Same(a, b api.Rule) bool {
	return a.Kind == b.Kind && a.Name == b.Name && a.Table == b.Table &&
		slices.Equal(a.Cols, b.Cols) && sameExpr(a.Is, b.Is) &&
		a.To == b.To && a.OnDelete == b.OnDelete && a.OnUpdate == b.OnUpdate &&
		a.Late == b.Late && a.Valid == b.Valid
}

// twins are two parts of expressions, at the same place in both.
type twins struct{ a, b *api.Expr }

// alike reports whether both are the same, whatever their Args are.
func (t twins) alike() bool { return t.a.Op == t.b.Op && t.a.V == t.b.V && t.a.N == t.b.N }

// sameExpr reports whether two expressions, valid or not, are the same, in all parts.
func sameExpr(a, b api.Expr) bool {
	// An invalid expression may contain one list of Args many times over, even within itself: twins that were visited are left out.
	visited := map[twins]struct{}{}
	lists := [][2][]api.Expr{{{a}, {b}}}
	for len(lists) > 0 {
		of := lists[len(lists)-1]
		lists = lists[:len(lists)-1]
		if len(of[0]) != len(of[1]) {
			return false
		}
		for i := range of[0] {
			t := twins{&of[0][i], &of[1][i]}
			if _, again := visited[t]; again {
				continue
			}
			visited[t] = struct{}{}
			if !t.alike() {
				return false
			}
			lists = append(lists, [2][]api.Expr{t.a.Args, t.b.Args})
		}
	}
	return true
}
