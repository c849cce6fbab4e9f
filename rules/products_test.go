package rules

import (
	"go/ast"
	"go/importer"
	"go/parser"
	"go/token"
	"go/types"
	"path/filepath"
	"strings"
	"testing"
)

// source is a package's files without its tests, and the types of what stands in them.
type source struct {
	files []*ast.File
	types map[ast.Expr]types.TypeAndValue
}

// reader reads packages; what they import is read once for all of them.
type reader struct {
	set    *token.FileSet
	others types.Importer
}

func newReader() reader {
	set := token.NewFileSet()
	return reader{set, importer.ForCompiler(set, "source", nil)}
}

// folder: the package of a folder.
func (r reader) folder(t *testing.T, name string) source {
	t.Helper()
	paths, err := filepath.Glob(filepath.Join(name, "*.go"))
	if err != nil {
		t.Fatal(err)
	}
	var files []*ast.File
	for _, path := range paths {
		if strings.HasSuffix(path, "_test.go") {
			continue
		}
		file, err := parser.ParseFile(r.set, path, nil, 0)
		if err != nil {
			t.Fatal(err)
		}
		files = append(files, file)
	}
	return r.checked(t, name, files)
}

func (r reader) checked(t *testing.T, name string, files []*ast.File) source {
	t.Helper()
	info := types.Info{Types: map[ast.Expr]types.TypeAndValue{}}
	config := types.Config{Importer: r.others}
	if _, err := config.Check(name, r.set, files, &info); err != nil {
		t.Fatal(err)
	}
	return source{files, info.Types}
}

// reckoned: is an expression a float that is reckoned while the program runs?
func (s source) reckoned(x ast.Expr) bool {
	told := s.types[x]
	basic, ok := told.Type.Underlying().(*types.Basic)
	return ok && basic.Info()&types.IsFloat != 0 && told.Value == nil
}

// bare: the products of floats that are not written float64(a*b), and may so be fused with a sum on some machines, which changes what is answered.
func (s source) bare() []ast.Node {
	var out []ast.Node
	wrapped := map[ast.Expr]bool{}
	look := func(n ast.Node) bool {
		switch x := n.(type) {
		case *ast.CallExpr:
			if f, ok := x.Fun.(*ast.Ident); ok && f.Name == "float64" {
				wrapped[x.Args[0]] = true
			}
		case *ast.BinaryExpr:
			if x.Op == token.MUL && !wrapped[x] && s.reckoned(x) {
				out = append(out, x)
			}
		case *ast.AssignStmt:
			if x.Tok == token.MUL_ASSIGN && s.reckoned(x.Lhs[0]) {
				out = append(out, x)
			}
		}
		return true
	}
	for _, file := range s.files {
		ast.Inspect(file, look)
	}
	return out
}

func TestProductsAreWrapped(t *testing.T) {
	folders, err := filepath.Glob("../*/*.go")
	if err != nil || len(folders) == 0 {
		t.Fatalf("no packages: %v", err)
	}
	read := newReader()
	seen := map[string]bool{"../rules": true} // tests alone
	for _, path := range folders {
		name := filepath.Dir(path)
		if seen[name] {
			continue
		}
		seen[name] = true
		for _, n := range read.folder(t, name).bare() {
			t.Errorf("%v: a product that is not written float64(a*b)", read.set.Position(n.Pos()))
		}
	}
	for _, name := range []string{"../eft", "../dd", "../payne", "../fastreduce", "../sintable", "../kernel", "../accept", "../trig"} {
		if !seen[name] {
			t.Errorf("%s was not looked at", name)
		}
	}
}

// bareIn: how many bare products are seen in a function of floats a, b, c, d and whole numbers i, k.
func bareIn(t *testing.T, text string) int {
	t.Helper()
	read := newReader()
	file, err := parser.ParseFile(read.set, "", "package p\nfunc f(a, b, c, d float64, i, k int) {\n"+text+"\n}", 0)
	if err != nil {
		t.Fatal(err)
	}
	return len(read.checked(t, "p", []*ast.File{file}).bare())
}

// The test above is of use only where it sees a bare product.
func TestBareProductsAreSeen(t *testing.T) {
	for text, want := range map[string]int{
		"_ = float64(a*b) + c": 0, "_ = a*b + c": 1, "_ = c - float64(a*b*d)": 1, "_ = float64(float64(a*b)*d)": 0, "_ = float64(a*b + c)": 1, "_ = (a*b)": 1,
		"a *= b": 1, "i *= k": 0, "_ = i*k + 1": 0, "_ = float64(i*k) + a": 0, "_ = a + 3*0.5": 0, "_ = a + 3*b": 1,
	} {
		if got := bareIn(t, text); got != want {
			t.Errorf("%s: %d bare products are seen", text, got)
		}
	}
}
