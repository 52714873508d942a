package order_test

import (
	"go/ast"
	"go/importer"
	"go/parser"
	"go/token"
	"go/types"
	"path/filepath"
	"strings"
)

const module = "saltdome"

// A function is known by its object or by its literal, and what may be any of some functions by the variable, the field or the parameter that holds them; by stray, if they are held by something else.
type stray struct{}

// objects are variables and fields.
type objects map[types.Object]bool

// program is packages that are looked at.
type program struct {
	root  string
	fset  *token.FileSet
	info  *types.Info
	std   types.Importer
	packs map[string]*types.Package
	files []*ast.File
	// sets are what functions set anew that they did not make, and calls what they may call, or what may be what.
	sets  map[any]objects
	calls map[any]map[any]bool
}

func newProgram(root string) *program {
	p := &program{root: root, fset: token.NewFileSet(), packs: map[string]*types.Package{}, sets: map[any]objects{}, calls: map[any]map[any]bool{}}
	p.info = &types.Info{Types: map[ast.Expr]types.TypeAndValue{}, Uses: map[*ast.Ident]types.Object{}, Defs: map[*ast.Ident]types.Object{}, Selections: map[*ast.SelectorExpr]*types.Selection{}}
	p.std = importer.ForCompiler(p.fset, "source", nil)
	return p
}

// Import returns a package; those of the program are looked at.
func (p *program) Import(path string) (*types.Package, error) {
	folder, own := strings.CutPrefix(path, module+"/")
	if !own {
		return p.std.Import(path)
	}
	if known := p.packs[path]; known != nil {
		return known, nil
	}
	names, err := filepath.Glob(filepath.Join(p.root, folder, "*.go"))
	if err != nil {
		return nil, err
	}
	var files []*ast.File
	for _, name := range names {
		if strings.HasSuffix(name, "_test.go") {
			continue
		}
		f, err := parser.ParseFile(p.fset, name, nil, 0)
		if err != nil {
			return nil, err
		}
		files = append(files, f)
	}
	return p.add(path, files)
}

// add adds a package of some files.
func (p *program) add(path string, files []*ast.File) (*types.Package, error) {
	c := types.Config{Importer: p}
	pack, err := c.Check(path, p.fset, files, p.info)
	p.packs[path] = pack
	p.files = append(p.files, files...)
	for _, f := range files {
		for _, d := range f.Decls {
			if d, ok := d.(*ast.FuncDecl); ok && d.Body != nil {
				p.know(p.info.Defs[d.Name], d, d.Body)
			}
		}
	}
	return pack, err
}

// know finds what a function sets, and what it may call.
func (p *program) know(f any, whole, body ast.Node) {
	p.sets[f] = objects{}
	ast.Inspect(body, func(n ast.Node) bool {
		switch x := n.(type) {
		case *ast.FuncLit:
			p.know(x, x, x.Body)
			return false
		case *ast.AssignStmt:
			for i, l := range x.Lhs {
				if x.Tok != token.DEFINE {
					p.set(l, whole, p.sets[f])
				}
				if len(x.Rhs) == len(x.Lhs) {
					p.hold(p.object(l), x.Rhs[i])
				}
			}
		case *ast.IncDecStmt:
			p.set(x.X, whole, p.sets[f])
		case *ast.RangeStmt:
			if x.Tok == token.ASSIGN {
				p.set(x.Key, whole, p.sets[f])
				p.set(x.Value, whole, p.sets[f])
			}
		case *ast.CallExpr:
			for _, g := range p.called(x) {
				p.may(f, g)
			}
		case *ast.KeyValueExpr:
			p.hold(p.object(x.Key), x.Value)
		case *ast.CompositeLit:
			for _, e := range x.Elts {
				p.hold(nil, e)
			}
		case *ast.ReturnStmt:
			for _, e := range x.Results {
				p.hold(nil, e)
			}
		}
		return true
	})
}

// may notes that something may call, or may be, a function.
func (p *program) may(f, g any) {
	if p.calls[f] == nil {
		p.calls[f] = map[any]bool{}
	}
	p.calls[f][g] = true
}

// object returns the variable or the field that an expression names; nil, if it names none.
func (p *program) object(e ast.Expr) types.Object {
	switch x := e.(type) {
	case *ast.ParenExpr:
		return p.object(x.X)
	case *ast.SelectorExpr:
		return p.object(x.Sel)
	case *ast.Ident:
		if v, ok := p.info.ObjectOf(x).(*types.Var); ok {
			return v.Origin()
		}
	}
	return nil
}

// set adds what an assignment sets anew: a variable or a field, and all that it is part of, unless that was made in the whole of the function. An item of a list or of a map is none of them.
func (p *program) set(e ast.Expr, whole ast.Node, l objects) {
	var parts []types.Object
	for p.object(e) != nil {
		o := p.object(e)
		parts = append(parts, o)
		outside := o.Pos() < whole.Pos() || o.Pos() >= whole.End()
		if x, ok := ast.Unparen(e).(*ast.SelectorExpr); ok {
			e = x.X
			_, outside = p.info.TypeOf(e).Underlying().(*types.Pointer)
		} else {
			e = nil
		}
		for _, o := range parts {
			if outside {
				l[o] = true
			}
		}
	}
}

// function returns what a name says may be called; nil, if it says nothing.
func (p *program) function(e ast.Expr) any {
	switch x := ast.Unparen(e).(type) {
	case *ast.FuncLit:
		return x
	case *ast.IndexExpr:
		if p.info.Types[x.Index].IsType() {
			return p.function(x.X)
		}
	case *ast.SelectorExpr:
		return p.function(x.Sel)
	case *ast.Ident:
		switch o := p.info.ObjectOf(x).(type) {
		case *types.Func:
			return o.Origin()
		case *types.Var:
			if _, ok := o.Type().Underlying().(*types.Signature); ok {
				return o.Origin()
			}
		}
	}
	return nil
}

// hold notes that a variable may hold a function, or something else, if it is none.
func (p *program) hold(by types.Object, e ast.Expr) {
	switch f := p.function(e); {
	case f == nil:
	case by == nil:
		p.may(stray{}, f)
	default:
		p.may(by, f)
	}
}

// called returns what a call may call, and notes what its parameters hold. A function that is not of the program may call all that it is given.
func (p *program) called(c *ast.CallExpr) []any {
	if kind := p.info.Types[ast.Unparen(c.Fun)]; kind.IsType() || kind.IsBuiltin() {
		return nil
	}
	f := p.function(c.Fun)
	if f == nil {
		f = stray{}
	}
	all := []any{f}
	own, ok := f.(*types.Func)
	ok = ok && own.Pkg() != nil && strings.HasPrefix(own.Pkg().Path(), module)
	for i, a := range c.Args {
		if g := p.function(a); ok && g != nil {
			l := own.Signature().Params()
			p.hold(l.At(min(i, l.Len()-1)), a)
		} else if g != nil {
			all = append(all, g)
		}
	}
	return all
}

// maySet returns all that a call may set anew, with what its address is given of.
func (p *program) maySet(c *ast.CallExpr) objects {
	all, seen := objects{}, map[any]bool{}
	open := p.called(c)
	for len(open) > 0 {
		f := open[0]
		open = open[1:]
		if seen[f] {
			continue
		}
		seen[f] = true
		for o := range p.sets[f] {
			all[o] = true
		}
		for g := range p.calls[f] {
			open = append(open, g)
		}
	}
	if x, ok := ast.Unparen(c.Fun).(*ast.SelectorExpr); ok && len(all) > 0 && p.givesAddress(x) {
		all[p.object(x.X)] = true
	}
	for _, a := range c.Args {
		if x, ok := a.(*ast.UnaryExpr); ok && x.Op == token.AND {
			all[p.object(x.X)] = true
		}
	}
	return all
}

// givesAddress reports whether a method gets the address of what it is called on.
func (p *program) givesAddress(x *ast.SelectorExpr) bool {
	s := p.info.Selections[x]
	if s == nil || s.Kind() != types.MethodVal {
		return false
	}
	_, wants := s.Obj().(*types.Func).Signature().Recv().Type().(*types.Pointer)
	_, has := p.info.TypeOf(x.X).Underlying().(*types.Pointer)
	return wants && !has
}
