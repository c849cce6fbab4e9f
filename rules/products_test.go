package rules

import (
	"go/ast"
	"go/parser"
	"go/token"
	"path/filepath"
	"strings"
	"testing"
)

// floatPackages: those whose products are all products of floats.
var floatPackages = [...]string{"eft", "dd"}

// bare: the products of a file that are not written float64(a*b), and may so be fused with a sum on some machines, which changes what is answered.
func bare(file *ast.File) []ast.Node {
	var out []ast.Node
	wrapped := map[ast.Expr]bool{}
	ast.Inspect(file, func(n ast.Node) bool {
		switch x := n.(type) {
		case *ast.CallExpr:
			if f, ok := x.Fun.(*ast.Ident); ok && f.Name == "float64" {
				wrapped[x.Args[0]] = true
			}
		case *ast.BinaryExpr:
			if x.Op == token.MUL && !wrapped[x] {
				out = append(out, x)
			}
		case *ast.AssignStmt:
			if x.Tok == token.MUL_ASSIGN {
				out = append(out, x)
			}
		}
		return true
	})
	return out
}

func TestProductsAreWrapped(t *testing.T) {
	set := token.NewFileSet()
	for _, name := range floatPackages {
		paths, err := filepath.Glob(filepath.Join("..", name, "*.go"))
		if err != nil || len(paths) == 0 {
			t.Fatalf("no file of %s: %v", name, err)
		}
		for _, path := range paths {
			if strings.HasSuffix(path, "_test.go") {
				continue
			}
			file, err := parser.ParseFile(set, path, nil, 0)
			if err != nil {
				t.Fatal(err)
			}
			for _, n := range bare(file) {
				t.Errorf("%v: a product that is not written float64(a*b)", set.Position(n.Pos()))
			}
		}
	}
}

// The test above is of use only where it sees a bare product.
func TestBareProductsAreSeen(t *testing.T) {
	for source, want := range map[string]int{
		"float64(a*b) + c": 0, "a*b + c": 1, "c - float64(a*b*d)": 1, "float64(float64(a*b)*d)": 0, "float64(a*b + c)": 1, "(a*b)": 1,
	} {
		file, err := parser.ParseFile(token.NewFileSet(), "", "package p\nvar x = "+source, 0)
		if err != nil {
			t.Fatal(err)
		}
		if got := len(bare(file)); got != want {
			t.Errorf("%s: %d bare products are seen", source, got)
		}
	}
	file, _ := parser.ParseFile(token.NewFileSet(), "", "package p\nfunc f(a, b float64) { a *= b }", 0)
	if len(bare(file)) != 1 {
		t.Errorf("a *= b is not seen")
	}
}
