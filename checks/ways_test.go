package checks

import (
	"go/ast"
	"go/importer"
	"go/token"
	"go/types"
	"maps"
	"strings"
	"testing"
)

// stage is some packages, and the ways that these lean on.
type stage struct{ packs, ways string }

func stages() []stage {
	return []stage{
		{"bits word", "variadic closure embedding promoted range-integer"},
	}
}

// look is a view of the program's packages with the types of what stands in them.
type look struct {
	files map[string][]*ast.File
	fset  *token.FileSet
	info  types.Info
	done  map[string]*types.Package
	std   types.Importer
}

func newLook(t *testing.T) *look {
	t.Helper()
	l := &look{files: map[string][]*ast.File{}, done: map[string]*types.Package{}}
	l.info = types.Info{Types: map[ast.Expr]types.TypeAndValue{}, Selections: map[*ast.SelectorExpr]*types.Selection{}}
	for _, s := range sources(t) {
		l.files[s.pack] = append(l.files[s.pack], s.tree)
		l.fset = s.fset
	}
	l.std = importer.ForCompiler(l.fset, "source", nil)
	return l
}

// Import is a package with its types.
func (l *look) Import(path string) (*types.Package, error) {
	own, is := strings.CutPrefix(path, module+"/")
	if !is {
		return l.std.Import(path)
	}
	if l.done[own] != nil {
		return l.done[own], nil
	}
	p, err := (&types.Config{Importer: l}).Check(path, l.fset, l.files[own], &l.info)
	l.done[own] = p
	return p, err
}

// way is the way that stands at a node, if it is one of those that are known here.
func (l *look) way(n ast.Node) string {
	switch x := n.(type) {
	case *ast.Ellipsis:
		if x.Elt != nil {
			return "variadic"
		}
	case *ast.FuncLit:
		return "closure"
	case *ast.StructType:
		for _, f := range x.Fields.List {
			if len(f.Names) == 0 {
				return "embedding"
			}
		}
	case *ast.SelectorExpr:
		if s := l.info.Selections[x]; s != nil && len(s.Index()) > 1 {
			return "promoted"
		}
	case *ast.RangeStmt:
		t := l.info.Types[x.X].Type
		if b, is := t.Underlying().(*types.Basic); is && b.Info()&types.IsInteger != 0 {
			return "range-integer"
		}
	}
	return ""
}

// TestWays: each stage's packages have the ways of the language that the document names for them.
func TestWays(t *testing.T) {
	l := newLook(t)
	for _, s := range stages() {
		missing := map[string]bool{}
		for w := range strings.FieldsSeq(s.ways) {
			missing[w] = true
		}
		for p := range strings.FieldsSeq(s.packs) {
			if _, err := l.Import(module + "/" + p); err != nil {
				t.Fatal(err)
			}
			for _, f := range l.files[p] {
				ast.Inspect(f, func(n ast.Node) bool {
					delete(missing, l.way(n))
					return true
				})
			}
		}
		for w := range maps.Keys(missing) {
			t.Errorf("%s: way missing: %s", s.packs, w)
		}
	}
}
