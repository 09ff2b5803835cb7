// Package checks holds the project's code against the rules of its language, file by file.
package checks

import (
	"bytes"
	"go/ast"
	"go/format"
	"go/parser"
	"go/token"
	"io/fs"
	"os"
	"path/filepath"
	"slices"
	"strconv"
	"strings"
	"testing"
)

const module = "tripwire"

// longest is how many lines a function may have: some 60.
const longest = 66

// layers are the packages of the map, in its order: each may call those ahead of it.
func layers() []string {
	return strings.Fields(`api bits word poly frame wire filter fifo shelf mailbox arb gate timer value dict
		area sign sdomsg chunk serve client nmt beat pulse emcy pmap pdo pair guard prod cons latch image port
		node net script trace audit wait build seed alone quiet compare load house`)
}

// library is what may be imported of the library.
func library() []string {
	return strings.Fields(`bytes cmp container/heap errors iter maps math math/bits slices sort strconv strings
		sync sync/atomic unicode unicode/utf8`)
}

// mayUse: of some of the library's packages not all names may be used.
func mayUse(pack, name string) bool {
	switch pack {
	case "iter":
		return name != "Pull" && name != "Pull2"
	case "sync":
		return slices.Contains([]string{"Mutex", "RWMutex", "WaitGroup", "Once"}, name)
	}
	return true
}

// source is a Go file of the program.
type source struct {
	pack string
	path string
	text []byte
	fset *token.FileSet
	tree *ast.File
}

// outside are folders that are none of the program's packages.
func outside(name string) bool {
	return name != "." && strings.HasPrefix(name, ".") || name == "sharedtests" || name == "checks" || name == "testdata"
}

// walk goes through all files in the program's folders; what lies at its root is no package's.
func walk(t *testing.T, look func(path string)) {
	t.Helper()
	root := os.DirFS("..")
	err := fs.WalkDir(root, ".", func(path string, d fs.DirEntry, err error) error {
		if err != nil {
			return err
		}
		if d.IsDir() && outside(d.Name()) {
			return fs.SkipDir
		}
		if !d.IsDir() && strings.Contains(path, "/") {
			look(path)
		}
		return nil
	})
	if err != nil {
		t.Fatal(err)
	}
}

// sources are the program's Go files, without tests.
func sources(t *testing.T) []source {
	t.Helper()
	var l []source
	fset := token.NewFileSet()
	walk(t, func(path string) {
		if !strings.HasSuffix(path, ".go") || strings.HasSuffix(path, "_test.go") {
			return
		}
		text, err := os.ReadFile(filepath.Join("..", path))
		if err != nil {
			t.Fatal(err)
		}
		tree, err := parser.ParseFile(fset, path, text, parser.ParseComments)
		if err != nil {
			t.Fatal(err)
		}
		l = append(l, source{filepath.Dir(path), path, text, fset, tree})
	})
	if len(l) < 2 {
		t.Fatal("no files")
	}
	return l
}

// imported is the path of an import.
func imported(s *ast.ImportSpec) string {
	path, _ := strconv.Unquote(s.Path.Value)
	return path
}

// TestPackagesStand: each package of the map is there.
func TestPackagesStand(t *testing.T) {
	there := map[string]bool{}
	for _, s := range sources(t) {
		there[s.pack] = true
		if s.tree.Name.Name != filepath.Base(s.pack) {
			t.Errorf("%s: package %s", s.path, s.tree.Name.Name)
		}
	}
	for _, p := range layers() {
		if !there[p] {
			t.Errorf("package %s is not there", p)
		}
	}
}

// TestFolders: beside Go files there are no others in them, and their names are those that may be.
func TestFolders(t *testing.T) {
	walk(t, func(path string) {
		if !strings.HasSuffix(path, ".go") {
			t.Errorf("%s is no Go file", path)
		}
		if p := filepath.Dir(path); p == "form" || p == "try" || strings.HasPrefix(p, module) {
			t.Errorf("a package may not be named %s", p)
		}
	})
}

// TestImports: of the library what may be; of the project what is ahead.
func TestImports(t *testing.T) {
	order := layers()
	for _, s := range sources(t) {
		for _, i := range s.tree.Imports {
			path := imported(i)
			own, is := strings.CutPrefix(path, module+"/")
			if !is && !slices.Contains(library(), path) {
				t.Errorf("%s imports %s", s.path, path)
			}
			from, to := slices.Index(order, s.pack), slices.Index(order, own)
			if is && from >= 0 && to >= from {
				t.Errorf("%s imports %s, which is not ahead of it", s.path, own)
			}
			if i.Name != nil && i.Name.Name == "." {
				t.Errorf("%s imports %s without a name", s.path, path)
			}
		}
	}
}

// TestNames: nothing that prints, nor what may not be used of a package that may be imported.
func TestNames(t *testing.T) {
	for _, s := range sources(t) {
		ast.Inspect(s.tree, func(n ast.Node) bool {
			switch x := n.(type) {
			case *ast.SelectorExpr:
				if p, is := x.X.(*ast.Ident); is && !mayUse(p.Name, x.Sel.Name) {
					t.Errorf("%s: %s.%s", s.path, p.Name, x.Sel.Name)
				}
			case *ast.CallExpr:
				if f, is := x.Fun.(*ast.Ident); is && (f.Name == "print" || f.Name == "println") {
					t.Errorf("%s: %s", s.path, f.Name)
				}
			}
			return true
		})
	}
}

// TestLines: no orders to the tools in remarks, gofmt's layout, and functions that are not too long.
func TestLines(t *testing.T) {
	for _, s := range sources(t) {
		for _, g := range s.tree.Comments {
			for _, c := range g.List {
				if strings.HasPrefix(c.Text, "//go:") || strings.HasPrefix(c.Text, "// +build") {
					t.Errorf("%s: %s", s.path, c.Text)
				}
			}
		}
		if laid, err := format.Source(s.text); err != nil || !bytes.Equal(laid, s.text) {
			t.Errorf("%s is not in gofmt's layout: %v", s.path, err)
		}
		for _, d := range s.tree.Decls {
			f, is := d.(*ast.FuncDecl)
			if !is {
				continue
			}
			if n := s.fset.Position(f.End()).Line - s.fset.Position(f.Pos()).Line + 1; n > longest {
				t.Errorf("%s: %s has %d lines", s.path, f.Name.Name, n)
			}
		}
	}
}

// TestPackageLevel: variables there are errors, or short tables whose values are written out; and nothing starts by itself.
func TestPackageLevel(t *testing.T) {
	for _, s := range sources(t) {
		for _, d := range s.tree.Decls {
			switch x := d.(type) {
			case *ast.FuncDecl:
				if x.Recv == nil && x.Name.Name == "init" {
					t.Errorf("%s: init", s.path)
				}
			case *ast.GenDecl:
				if x.Tok == token.VAR {
					lookAtVariables(t, s, x)
				}
			}
		}
	}
}

func lookAtVariables(t *testing.T, s source, d *ast.GenDecl) {
	t.Helper()
	for _, spec := range d.Specs {
		v := spec.(*ast.ValueSpec)
		if len(v.Values) != len(v.Names) {
			t.Errorf("%s: %s has no value of its own", s.path, v.Names[0].Name)
		}
		for i, value := range v.Values {
			ast.Inspect(value, func(n ast.Node) bool {
				if !mayStand(n) {
					t.Errorf("%s: the value of %s", s.path, v.Names[i].Name)
				}
				return true
			})
		}
	}
}

// mayStand: may this be part of a value at package level?
func mayStand(n ast.Node) bool {
	switch x := n.(type) {
	case *ast.FuncLit, *ast.MapType, *ast.InterfaceType, *ast.ChanType:
		return false
	case *ast.UnaryExpr:
		return x.Op != token.AND && x.Op != token.ARROW
	case *ast.CallExpr:
		f, is := x.Fun.(*ast.SelectorExpr)
		if !is {
			return false
		}
		p, is := f.X.(*ast.Ident)
		return is && p.Name == "errors" && f.Sel.Name == "New"
	}
	return true
}
