package rules

import (
	"bytes"
	"go/ast"
	"go/format"
	"go/parser"
	"go/token"
	"os"
	"path/filepath"
	"slices"
	"strconv"
	"strings"
	"testing"
)

// layers, from the lowest to the highest: each may call those ahead of it.
var layers = []string{
	"api", "interval", "field", "sectors", "master", "record", "log", "page", "twin", "pool", "escrow", "ledger", "registry",
	"txns", "apply", "room", "points", "analysis", "redo", "undo", "engine", "serial", "audit", "desk", "world", "quota",
}

// onApiAlone: the layers of which the document's map says so.
var onApiAlone = []string{"interval", "field", "sectors", "registry", "txns", "room"}

var library = []string{
	"bytes", "cmp", "container/heap", "errors", "iter", "maps", "math", "math/big", "math/bits", "slices", "sort", "strconv",
	"strings", "sync", "sync/atomic", "unicode", "unicode/utf8",
}

var ofSync = []string{"Mutex", "RWMutex", "WaitGroup", "Once"}

const longest = 60

// source is a file of the program, as text and taken apart.
type source struct {
	path, folder string
	text         []byte
	file         *ast.File
	set          *token.FileSet
}

func (s source) line(p token.Pos) int { return s.set.Position(p).Line }

// program: every file of the program that is no test.
func program(t *testing.T) []source {
	t.Helper()
	var out []source
	for _, folder := range programFolders(t) {
		paths, err := filepath.Glob(filepath.Join("..", folder, "*"))
		if err != nil {
			t.Fatal(err)
		}
		for _, path := range paths {
			if !strings.HasSuffix(path, ".go") {
				t.Errorf("%s: only Go files may stand there", path)
				continue
			}
			if strings.HasSuffix(path, "_test.go") {
				continue
			}
			out = append(out, read(t, folder, path))
		}
	}
	return out
}

func programFolders(t *testing.T) []string {
	t.Helper()
	entries, err := os.ReadDir("..")
	if err != nil {
		t.Fatal(err)
	}
	var out []string
	for _, e := range entries {
		if e.IsDir() && !strings.HasPrefix(e.Name(), ".") && e.Name() != "sharedtests" && e.Name() != "rules" {
			out = append(out, e.Name())
		}
	}
	return out
}

func read(t *testing.T, folder, path string) source {
	t.Helper()
	text, err := os.ReadFile(path)
	if err != nil {
		t.Fatal(err)
	}
	set := token.NewFileSet()
	file, err := parser.ParseFile(set, path, text, parser.ParseComments)
	if err != nil {
		t.Fatal(err)
	}
	return source{path: path, folder: folder, text: text, file: file, set: set}
}

func TestEveryLayerIsThere(t *testing.T) {
	folders := programFolders(t)
	for _, l := range layers {
		if !slices.Contains(folders, l) {
			t.Errorf("package %s is missing", l)
		}
	}
	for _, f := range folders {
		given := slices.Contains(layers, f)
		if !given && (f == "form" || f == "try" || strings.HasPrefix(f, "quota")) {
			t.Errorf("a package of the project's own is named %s", f)
		}
	}
}

func TestImports(t *testing.T) {
	for _, s := range program(t) {
		for _, i := range s.file.Imports {
			path, err := strconv.Unquote(i.Path.Value)
			if err != nil {
				t.Fatal(err)
			}
			own, ok := strings.CutPrefix(path, "quota/")
			if !ok {
				if !slices.Contains(library, path) {
					t.Errorf("%s imports %s", s.path, path)
				}
				continue
			}
			from, to := slices.Index(layers, s.folder), slices.Index(layers, own)
			if from >= 0 && to >= from {
				t.Errorf("%s imports %s, which does not stand below it", s.path, path)
			}
		}
	}
}

// TestLayersThatStandOnApiAlone: no other layer's package may come in with them, though some stand below.
func TestLayersThatStandOnApiAlone(t *testing.T) {
	for _, s := range program(t) {
		for _, i := range s.file.Imports {
			if slices.Contains(onApiAlone, s.folder) && strings.HasPrefix(i.Path.Value, `"quota/`) && i.Path.Value != `"quota/api"` {
				t.Errorf("%s imports %s", s.path, i.Path.Value)
			}
		}
	}
}

func TestOfSyncOnlyWhatIsListed(t *testing.T) {
	for _, s := range program(t) {
		ast.Inspect(s.file, func(n ast.Node) bool {
			if x, ok := n.(*ast.SelectorExpr); ok {
				if p, ok := x.X.(*ast.Ident); ok && p.Name == "sync" && p.Obj == nil && !slices.Contains(ofSync, x.Sel.Name) {
					t.Errorf("%s:%d: sync.%s", s.path, s.line(x.Pos()), x.Sel.Name)
				}
			}
			return true
		})
	}
}

func TestNoDirectives(t *testing.T) {
	for _, s := range program(t) {
		for _, g := range s.file.Comments {
			for _, c := range g.List {
				if strings.HasPrefix(c.Text, "//go:") || strings.HasPrefix(c.Text, "// +build") {
					t.Errorf("%s:%d: %s", s.path, s.line(c.Pos()), c.Text)
				}
			}
		}
	}
}

func TestLayoutIsGofmts(t *testing.T) {
	for _, s := range program(t) {
		want, err := format.Source(s.text)
		if err != nil {
			t.Fatal(err)
		}
		if !bytes.Equal(want, s.text) {
			t.Errorf("%s is not in gofmt's layout", s.path)
		}
	}
}

func TestFunctionsAreShort(t *testing.T) {
	for _, s := range program(t) {
		for _, d := range s.file.Decls {
			f, ok := d.(*ast.FuncDecl)
			if !ok {
				continue
			}
			if n := s.line(f.End()) - s.line(f.Pos()) + 1; n > longest {
				t.Errorf("%s: %s has %d lines", s.path, f.Name.Name, n)
			}
			if f.Recv == nil && f.Name.Name == "init" {
				t.Errorf("%s: no start-up code is asked for", s.path)
			}
		}
	}
}

// TestPackageLevel: at package level stand constants, errors made by errors.New, and tables that are written out there.
func TestPackageLevel(t *testing.T) {
	for _, s := range program(t) {
		for _, d := range s.file.Decls {
			g, ok := d.(*ast.GenDecl)
			if !ok || g.Tok != token.VAR {
				continue
			}
			for _, spec := range g.Specs {
				v := spec.(*ast.ValueSpec)
				if len(v.Values) != len(v.Names) {
					t.Errorf("%s:%d: a variable without a value of its own", s.path, s.line(v.Pos()))
				}
				for _, x := range v.Values {
					if !mayStandAtPackageLevel(x) {
						t.Errorf("%s:%d: no table and no error made by errors.New", s.path, s.line(x.Pos()))
					}
				}
			}
		}
	}
}

func mayStandAtPackageLevel(x ast.Expr) bool {
	switch v := x.(type) {
	case *ast.CallExpr:
		f, ok := v.Fun.(*ast.SelectorExpr)
		if !ok {
			return false
		}
		p, ok := f.X.(*ast.Ident)
		return ok && p.Name == "errors" && f.Sel.Name == "New"
	case *ast.CompositeLit:
		plain := true
		ast.Inspect(v, func(n ast.Node) bool {
			switch n.(type) {
			case *ast.MapType, *ast.FuncType, *ast.CallExpr, *ast.UnaryExpr:
				plain = plain && isSigned(n)
			}
			return true
		})
		return plain
	}
	return false
}

// isSigned: a number with its sign ahead is no address of anything.
func isSigned(n ast.Node) bool {
	u, ok := n.(*ast.UnaryExpr)
	return ok && u.Op != token.AND
}
