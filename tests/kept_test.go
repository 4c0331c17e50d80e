package tests

import (
	"go/ast"
	"go/importer"
	"go/parser"
	"go/token"
	"go/types"
	"path/filepath"
	"testing"

	"loop.example/g00839/impl"
)

// fieldCall is a call of chapter 3, and what it answers.
type fieldCall struct {
	call func(int64, int64) int64
	a, b int64
	want int64
}

func fieldCalls() []fieldCall {
	inv := func(a int64, _ int64) int64 { return impl.Inv(a) }
	var out []fieldCall
	for _, a := range []int64{-1, 0, 1, 2, 3, 0x53, 128, 255, 256} {
		isByte := a >= 0 && a < 256
		c := fieldCall{inv, a, 0, -1}
		if isByte && a > 0 {
			c.want = slowPow(a, 254)
		}
		out = append(out, c)
		for _, b := range []int64{-1, 0, 1, 7, 128, 255, 256} {
			mul, div, pow := fieldCall{impl.Mul, a, b, -1}, fieldCall{impl.Div, a, b, -1}, fieldCall{impl.Pow, a, b, -1}
			if isByte && b >= 0 {
				pow.want = slowPow(a, b)
			}
			if isByte && b >= 0 && b < 256 {
				mul.want = slowMul(a, b)
			}
			if isByte && b > 0 && b < 256 {
				div.want = slowMul(a, slowPow(b, 254))
			}
			out = append(out, mul, div, pow)
		}
	}
	return out
}

// What a call of chapter 3 answers hangs on no other call that was ahead of it.
func TestFieldInAnyOrder(t *testing.T) {
	for i, ahead := range fieldCalls() {
		for k, c := range fieldCalls() {
			ahead.call(ahead.a, ahead.b)
			for range 2 {
				if got := c.call(c.a, c.b); got != c.want {
					t.Fatalf("call %d (%d, %d) behind call %d: got %d, want %d", k, c.a, c.b, i, got, c.want)
				}
			}
		}
	}
}

// source is the program's package, with what each name in it stands for.
type source struct {
	fset  *token.FileSet
	files []*ast.File
	info  *types.Info
	pack  *types.Package
}

func readSource(t *testing.T) source {
	t.Helper()
	paths, err := filepath.Glob(filepath.Join("..", "impl", "*.go"))
	if err != nil || len(paths) == 0 {
		t.Fatalf("no source: %v", err)
	}
	s := source{fset: token.NewFileSet(), info: &types.Info{Uses: map[*ast.Ident]types.Object{}, Selections: map[*ast.SelectorExpr]*types.Selection{}}}
	for _, p := range paths {
		f, err := parser.ParseFile(s.fset, p, nil, parser.SkipObjectResolution)
		if err != nil {
			t.Fatal(err)
		}
		s.files = append(s.files, f)
	}
	check := types.Config{Importer: importer.ForCompiler(s.fset, "source", nil)}
	if s.pack, err = check.Check("loop.example/g00839/impl", s.fset, s.files, s.info); err != nil {
		t.Fatal(err)
	}
	return s
}

// outer tells the package-level variable that an expression is a part of, or nil.
func (s source) outer(e ast.Expr) *types.Var {
	switch x := e.(type) {
	case *ast.Ident:
		if v, ok := s.info.Uses[x].(*types.Var); ok && v.Parent() == s.pack.Scope() {
			return v
		}
	case *ast.ParenExpr:
		return s.outer(x.X)
	case *ast.IndexExpr:
		return s.outer(x.X)
	case *ast.SliceExpr:
		return s.outer(x.X)
	case *ast.SelectorExpr:
		return s.outer(x.X)
	}
	return nil
}

// changed are the expressions that a node changes, or lets others change.
func (s source) changed(n ast.Node) []ast.Expr {
	switch x := n.(type) {
	case *ast.AssignStmt:
		if x.Tok != token.DEFINE {
			return x.Lhs
		}
	case *ast.IncDecStmt:
		return []ast.Expr{x.X}
	case *ast.RangeStmt:
		if x.Tok == token.ASSIGN {
			return []ast.Expr{x.Key, x.Value}
		}
	case *ast.UnaryExpr:
		if x.Op == token.AND {
			return []ast.Expr{x.X}
		}
	case *ast.SelectorExpr:
		if m := s.info.Selections[x]; m != nil && m.Kind() == types.MethodVal {
			if _, ok := m.Obj().(*types.Func).Signature().Recv().Type().(*types.Pointer); ok {
				return []ast.Expr{x.X}
			}
		}
	}
	return nil
}

// Chapter 1: nothing is kept from one call to the next. So each package-level variable has its value written where it is
// declared, and nothing changes it.
func TestNothingIsKept(t *testing.T) {
	s := readSource(t)
	for _, f := range s.files {
		for _, d := range f.Decls {
			g, ok := d.(*ast.GenDecl)
			if !ok || g.Tok != token.VAR {
				continue
			}
			for _, spec := range g.Specs {
				if v := spec.(*ast.ValueSpec); len(v.Values) != len(v.Names) {
					t.Errorf("%s: %s has no value written", s.fset.Position(v.Pos()), v.Names[0].Name)
				}
			}
		}
		ast.Inspect(f, func(n ast.Node) bool {
			for _, e := range s.changed(n) {
				if v := s.outer(e); v != nil {
					t.Errorf("%s: %s may be changed", s.fset.Position(e.Pos()), v.Name())
				}
			}
			return true
		})
	}
}
