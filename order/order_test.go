// Package order_test looks at the statements of the program. Go leaves open whether a variable is read ahead of a call in the same statement or behind it; so no call may set anew what its statement reads elsewhere, or results would depend on that.
package order_test

import (
	"go/ast"
	"go/parser"
	"go/token"
	"go/types"
	"os"
	"path/filepath"
	"slices"
	"strings"
	"testing"
)

// look is a statement, or an expression of one, with a call in it.
type look struct {
	*program
	call *ast.CallExpr
	read objects
}

// has reports whether the call is in an expression.
func (k look) has(e ast.Expr) bool { return e.Pos() <= k.call.Pos() && k.call.End() <= e.End() }

// reads adds what is read at a node at a time that Go leaves open: not in the call, and not in what comes ahead of it or behind it in any order.
func (k look) reads(n ast.Node) {
	ast.Inspect(n, func(n ast.Node) bool {
		switch x := n.(type) {
		case *ast.FuncLit:
			return false
		case *ast.CallExpr:
			return x != k.call
		case *ast.SelectorExpr:
			if k.has(x.X) {
				k.reads(x.X)
				return false
			}
		case *ast.BinaryExpr:
			if (x.Op == token.LAND || x.Op == token.LOR) && k.has(x) {
				for _, side := range []ast.Expr{x.X, x.Y} {
					if k.has(side) {
						k.reads(side)
					}
				}
				return false
			}
		case *ast.AssignStmt:
			k.readsAssigned(x)
			return false
		case *ast.Ident:
			if o := k.object(x); o != nil {
				k.read[o] = true
			}
		}
		return true
	})
}

// readsAssigned adds what is read in an assignment: what is on the left side is set behind all calls, but what leads there is read.
func (k look) readsAssigned(a *ast.AssignStmt) {
	for _, e := range a.Rhs {
		k.reads(e)
	}
	for _, e := range a.Lhs {
		switch x := ast.Unparen(e).(type) {
		case *ast.SelectorExpr:
			k.reads(x.X)
		case *ast.StarExpr:
			k.reads(x.X)
		case *ast.IndexExpr:
			k.reads(x)
		case *ast.Ident:
			if a.Tok != token.ASSIGN && a.Tok != token.DEFINE {
				k.reads(x)
			}
		}
	}
}

// faults returns what calls in a statement, or in an expression of one, set that is read in it.
func (p *program) faults(n ast.Node) []string {
	var l []string
	ast.Inspect(n, func(x ast.Node) bool {
		switch x := x.(type) {
		case *ast.FuncLit:
			return false
		case *ast.CallExpr:
			k := look{p, x, objects{}}
			k.reads(n)
			for o := range p.maySet(x) {
				if o != nil && k.read[o] {
					l = append(l, p.fset.Position(x.Pos()).String()+": "+types.ExprString(x.Fun)+" sets "+o.Name())
				}
			}
		}
		return true
	})
	return l
}

// statements returns a statement, or the expressions at its head, if others follow.
func statements(n ast.Node) []ast.Node {
	var l []ast.Node
	switch x := n.(type) {
	case *ast.AssignStmt, *ast.ExprStmt, *ast.ReturnStmt, *ast.SendStmt, *ast.IncDecStmt, *ast.ValueSpec:
		l = append(l, x)
	case *ast.IfStmt:
		l = append(l, x.Cond)
	case *ast.RangeStmt:
		l = append(l, x.X)
	case *ast.ForStmt:
		if x.Cond != nil {
			l = append(l, x.Cond)
		}
	case *ast.SwitchStmt:
		if x.Tag != nil {
			l = append(l, x.Tag)
		}
	case *ast.CaseClause:
		for _, e := range x.List {
			l = append(l, e)
		}
	}
	return l
}

// allFaults returns the faults of all files, in order.
func (p *program) allFaults() []string {
	var l []string
	for _, f := range p.files {
		ast.Inspect(f, func(n ast.Node) bool {
			for _, s := range statements(n) {
				l = append(l, p.faults(s)...)
			}
			return true
		})
	}
	slices.Sort(l)
	return slices.Compact(l)
}

// P0.1 and all others: no result of the program depends on an order that Go leaves open.
func TestOrder(t *testing.T) {
	folders, err := os.ReadDir("..")
	if err != nil {
		t.Fatal(err)
	}
	p := newProgram("..")
	for _, f := range folders {
		if names, _ := filepath.Glob(filepath.Join("..", f.Name(), "*.go")); len(names) > 0 && f.Name() != "order" {
			if _, err := p.Import(module + "/" + f.Name()); err != nil {
				t.Fatal(err)
			}
		}
	}
	if len(p.files) < 20 {
		t.Error("too few files are looked at", len(p.files))
	}
	for _, fault := range p.allFaults() {
		t.Error(fault)
	}
}

const someCode = `package some

type item struct{ all []int }

type list struct {
	items []item
	count int
	grow  func(int) int
}

func (l *list) add(n int) int {
	l.items = append(l.items, item{})
	return n
}

func (l *list) more() int { return l.add(1) }

func (l list) size() int { return len(l.items) }

func (l list) changed() int {
	l.count = 7
	return l.count
}

func ask(f func() bool) bool { return f() }

func both(a, b int) int { return a + b }

func bump(n *int) int {
	*n = *n + 1
	return *n
}

func use(l *list, v list, plan []int) ([]int, bool) {
	set := func() bool { plan = append(plan, 1); return true }
	n := 0
	STATEMENT
	return nil, n > 0
}
`

// faultsOf returns the faults of the code above with a statement.
func faultsOf(t *testing.T, statement string) []string {
	p := newProgram("")
	f, err := parser.ParseFile(p.fset, "some.go", strings.Replace(someCode, "STATEMENT", statement, 1), 0)
	if err != nil {
		t.Fatal(err)
	}
	if _, err := p.add(module+"/some", []*ast.File{f}); err != nil && !strings.Contains(err.Error(), "declared and not used") {
		t.Fatal(statement, err)
	}
	return p.allFaults()
}

// So it is told of a statement whether it depends on such an order.
func TestFaults(t *testing.T) {
	for _, bad := range []string{
		"l.items[0].all[0] = l.add(1)", "l.items[0].all[0] = l.more()", "l.items[n] = item{[]int{l.add(1)}}", "return plan, set()", "return plan, ask(set)", "return plan, ask(func() bool { plan = nil; return true })", "return plan, len(plan) == 0 || set()", "n = len(plan) + both(1, len(map[bool][]int{set(): plan}))", "n = both(len(l.items), l.add(1))", "n = l.size() + len(l.items) + l.add(1)", "n += bump(&n)", "n = n + bump(&n)", "n = v.count + v.add(1) + len(v.items)", "l.grow = func(k int) int { l.count = k; return k }; n = l.count + l.grow(1)", "if len(l.items) == l.add(3) { n++ }", "for range l.items[l.add(1):] { n++ }", "switch both(len(plan), map[bool]int{}[set()]) { case 1: n++ }", "switch n { case len(l.items) + l.add(1): n++ }", "n, plan[0] = l.add(1), both(1, map[bool]int{}[set()])",
	} {
		if len(faultsOf(t, bad)) == 0 {
			t.Error("no fault:", bad)
		}
	}
	for _, fine := range []string{
		"options := l.add(1); l.items[0].all[0] = options", "found := set(); return plan, found", "n = l.add(1)", "l.count = l.add(1)", "l.items[0].all[0] = l.size()", "return plan, n > 0 && len(plan) > 0", "n = both(l.size(), len(l.items))", "n = l.add(len(l.items))", "n = v.changed() + v.count", "n = bump(&n)", "if len(plan) > 0 && set() || len(plan) > 1 { n++ }", "plan = append(plan, l.add(1))", "for i := range l.items { n += i; l.add(1) }", "f := func() int { return l.add(1) + len(plan) }; n = f()", "l.grow = func(k int) int { return k }; n = l.count + l.grow(1)",
	} {
		if faults := faultsOf(t, fine); len(faults) > 0 {
			t.Error(fine, faults)
		}
	}
}
