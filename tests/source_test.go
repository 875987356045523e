package tests

import (
	"go/ast"
	"go/importer"
	"go/parser"
	"go/token"
	"go/types"
	"path/filepath"
	"slices"
	"strconv"
	"strings"
	"testing"
)

// source is the program's own code, with the types of its expressions.
type source struct {
	fset  *token.FileSet
	files []*ast.File
	info  types.Info
}

// sourceOf returns the code of the files that match a pattern, without tests.
func sourceOf(t *testing.T, pattern string) source {
	t.Helper()
	s := source{fset: token.NewFileSet(), info: types.Info{Types: map[ast.Expr]types.TypeAndValue{}}}
	names, err := filepath.Glob(pattern)
	if err != nil || len(names) == 0 {
		t.Fatalf("no files %s: %v", pattern, err)
	}
	for _, name := range names {
		if strings.HasSuffix(name, "_test.go") {
			continue
		}
		f, err := parser.ParseFile(s.fset, name, nil, parser.ParseComments)
		if err != nil {
			t.Fatal(err)
		}
		s.files = append(s.files, f)
	}
	s.check(t)
	return s
}

// check finds the types of all expressions.
func (s *source) check(t *testing.T) {
	t.Helper()
	config := types.Config{Importer: importer.ForCompiler(s.fset, "source", nil)}
	if _, err := config.Check("impl", s.fset, s.files, &s.info); err != nil {
		t.Fatal(err)
	}
}

// mayBeFloat reports whether an expression is computed with floats or complex numbers when the program runs.
func (s *source) mayBeFloat(e ast.Expr) bool {
	v := s.info.Types[e]
	if v.Type == nil || v.Value != nil {
		return false
	}
	if _, ok := v.Type.(*types.TypeParam); ok {
		return true
	}
	b, ok := v.Type.Underlying().(*types.Basic)
	return ok && b.Info()&(types.IsFloat|types.IsComplex) != 0
}

// isComplex reports whether an expression is a complex number.
func (s *source) isComplex(e ast.Expr) bool {
	b, ok := s.info.Types[e].Type.Underlying().(*types.Basic)
	return ok && b.Info()&types.IsComplex != 0
}

// unrounded returns the places of products of floats that no conversion rounds at once, which may be fused with
// a sum, and of products and quotients of complex numbers, which Go computes in its own way.
func (s *source) unrounded() []string {
	rounded := map[ast.Expr]bool{}
	places := []string{}
	add := func(n ast.Node) { places = append(places, s.fset.Position(n.Pos()).String()) }
	for _, f := range s.files {
		ast.Inspect(f, func(n ast.Node) bool {
			switch x := n.(type) {
			case *ast.CallExpr:
				if s.info.Types[x.Fun].IsType() && len(x.Args) == 1 {
					rounded[ast.Unparen(x.Args[0])] = true
				}
			case *ast.AssignStmt:
				if x.Tok == token.MUL_ASSIGN && s.mayBeFloat(x.Lhs[0]) || x.Tok == token.QUO_ASSIGN && s.isComplex(x.Lhs[0]) {
					add(x)
				}
			case *ast.BinaryExpr:
				product := x.Op == token.MUL && s.mayBeFloat(x) && (!rounded[x] || s.isComplex(x))
				if product || x.Op == token.QUO && s.isComplex(x) {
					add(x)
				}
			}
			return true
		})
	}
	return places
}

// TestProductsAreRounded holds for all processors, where other tests see only how this one computes.
func TestProductsAreRounded(t *testing.T) {
	s := sourceOf(t, "../impl/*.go")
	for _, place := range s.unrounded() {
		t.Errorf("%s: a product of floats is not rounded by a conversion at once", place)
	}
}

func TestUnroundedProductsAreFound(t *testing.T) {
	const code = `package impl
func bad(a, b, c float32, x, y complex64) (float32, complex64) {
	t := a * b
	t *= c
	x /= y
	return c + t - (a * c), x*y + x/y
}
func good(a, b, c float32, n int) float32 {
	n *= 3
	a /= b
	return float32(a*b) + float32((a * c)) - a/b + 2*3.5 + float32(n*n)
}`
	s := source{fset: token.NewFileSet(), info: types.Info{Types: map[ast.Expr]types.TypeAndValue{}}}
	f, err := parser.ParseFile(s.fset, "code.go", code, 0)
	if err != nil {
		t.Fatal(err)
	}
	s.files = []*ast.File{f}
	s.check(t)
	expected := []string{"code.go:3:7", "code.go:4:2", "code.go:5:2", "code.go:6:18", "code.go:6:26", "code.go:6:32"}
	if got := s.unrounded(); !slices.Equal(got, expected) {
		t.Errorf("got %v, want %v", got, expected)
	}
}

// TestImportsAreAllowed checks the list of ../shared/LANGUAGE.md.
func TestImportsAreAllowed(t *testing.T) {
	allowed := strings.Fields("bytes cmp container/heap errors iter maps math math/bits slices sort strconv strings sync sync/atomic unicode unicode/utf8")
	for _, f := range sourceOf(t, "../impl/*.go").files {
		for _, i := range f.Imports {
			path, err := strconv.Unquote(i.Path.Value)
			if err != nil || !slices.Contains(allowed, path) {
				t.Errorf("%s imports %s", f.Name, i.Path.Value)
			}
		}
	}
}
