package checks

import (
	"go/ast"
	"go/importer"
	"go/token"
	"go/types"
	"maps"
	"strings"
	"testing"
)

// stage is some packages, and the ways that these lean on.
type stage struct{ packs, ways string }

func stages() []stage {
	return []stage{
		{"bits word", "variadic closure embedding promoted range-integer"},
		{"poly frame", "method-value variadic struct-compared clear copy"},
		{"wire filter", "panic recover defer assertion label variadic range-function"},
		{"fifo shelf", "generic-type generic-function range-function"},
		{"mailbox arb", "range-function variadic closure"},
		{"gate timer", "variadic fallthrough generic-type range-function"},
		{"value dict", "fallthrough range-function"},
		{"area sign", "range-function method-value variadic"},
		{"sdomsg chunk", "array-compared fallthrough array embedding"},
		{"serve client", "method-value iota"},
		{"nmt beat", "fallthrough range-function"},
		{"pulse emcy", "embedding promoted variadic"},
		{"pmap pdo", "variadic array struct-compared fallthrough"},
		{"pair guard", "closure"},
		{"prod cons", "closure struct-compared embedding promoted"},
		{"latch image", "range-function closure"},
	}
}

// look is a view of the program's packages with the types of what stands in them.
type look struct {
	files  map[string][]*ast.File
	fset   *token.FileSet
	info   types.Info
	done   map[string]*types.Package
	std    types.Importer
	called map[ast.Expr]bool // what stands ahead of a call's arguments
}

func newLook(t *testing.T) *look {
	t.Helper()
	l := &look{files: map[string][]*ast.File{}, done: map[string]*types.Package{}, called: map[ast.Expr]bool{}}
	l.info = types.Info{Types: map[ast.Expr]types.TypeAndValue{}, Uses: map[*ast.Ident]types.Object{}, Selections: map[*ast.SelectorExpr]*types.Selection{}}
	for _, s := range sources(t) {
		l.files[s.pack] = append(l.files[s.pack], s.tree)
		l.fset = s.fset
	}
	l.std = importer.ForCompiler(l.fset, "source", nil)
	return l
}

// Import is a package with its types.
func (l *look) Import(path string) (*types.Package, error) {
	own, is := strings.CutPrefix(path, module+"/")
	if !is {
		return l.std.Import(path)
	}
	if l.done[own] != nil {
		return l.done[own], nil
	}
	p, err := (&types.Config{Importer: l}).Check(path, l.fset, l.files[own], &l.info)
	l.done[own] = p
	return p, err
}

// ways are those that stand at a node, of such as are known here.
func (l *look) ways(n ast.Node) []string {
	switch x := n.(type) {
	case *ast.Ellipsis:
		if x.Elt != nil {
			return []string{"variadic"}
		}
	case *ast.FuncLit:
		return []string{"closure"}
	case *ast.FuncDecl:
		if x.Type.TypeParams != nil {
			return []string{"generic-function"}
		}
	case *ast.TypeSpec:
		if x.TypeParams != nil {
			return []string{"generic-type"}
		}
	case *ast.StructType:
		for _, f := range x.Fields.List {
			if len(f.Names) == 0 {
				return []string{"embedding"}
			}
		}
	case *ast.SelectorExpr:
		return l.waysOfSelector(x)
	case *ast.DeferStmt:
		return []string{"defer"}
	case *ast.LabeledStmt:
		return []string{"label"}
	case *ast.BranchStmt:
		if x.Tok == token.FALLTHROUGH {
			return []string{"fallthrough"}
		}
	case *ast.TypeAssertExpr:
		if x.Type != nil {
			return []string{"assertion"}
		}
	case *ast.RangeStmt:
		return l.waysOfRange(x)
	case *ast.ArrayType:
		if x.Len != nil {
			return []string{"array"}
		}
	case *ast.BinaryExpr:
		return l.waysOfPair(x)
	case *ast.Ident:
		if o := l.info.Uses[x]; o != nil && o.Parent() == types.Universe && o.Name() == "iota" {
			return []string{"iota"}
		}
	case *ast.CallExpr:
		f := ast.Unparen(x.Fun)
		l.called[f] = true // the walk comes to f behind this node
		if id, is := f.(*ast.Ident); is {
			if b, is := l.info.Uses[id].(*types.Builtin); is {
				return []string{b.Name()}
			}
		}
	}
	return nil
}

// under is what kind of type an expression has.
func (l *look) under(e ast.Expr) types.Type { return l.info.Types[e].Type.Underlying() }

func (l *look) waysOfRange(x *ast.RangeStmt) []string {
	switch over := l.under(x.X).(type) {
	case *types.Basic:
		if over.Info()&types.IsInteger != 0 {
			return []string{"range-integer"}
		}
	case *types.Signature:
		return []string{"range-function"}
	}
	return nil
}

func (l *look) waysOfPair(x *ast.BinaryExpr) []string {
	if x.Op != token.EQL && x.Op != token.NEQ {
		return nil
	}
	switch l.under(x.X).(type) {
	case *types.Struct:
		return []string{"struct-compared"}
	case *types.Array:
		return []string{"array-compared"}
	}
	return nil
}

func (l *look) waysOfSelector(x *ast.SelectorExpr) []string {
	var ways []string
	s := l.info.Selections[x]
	if s != nil && len(s.Index()) > 1 {
		ways = append(ways, "promoted")
	}
	if s != nil && s.Kind() == types.MethodVal && !l.called[x] {
		ways = append(ways, "method-value")
	}
	return ways
}

// TestWays: each stage's packages have the ways of the language that the document names for them.
func TestWays(t *testing.T) {
	l := newLook(t)
	for _, s := range stages() {
		missing := map[string]bool{}
		for w := range strings.FieldsSeq(s.ways) {
			missing[w] = true
		}
		for p := range strings.FieldsSeq(s.packs) {
			if _, err := l.Import(module + "/" + p); err != nil {
				t.Fatal(err)
			}
			for _, f := range l.files[p] {
				ast.Inspect(f, func(n ast.Node) bool {
					for _, w := range l.ways(n) {
						delete(missing, w)
					}
					return true
				})
			}
		}
		for w := range maps.Keys(missing) {
			t.Errorf("%s: way missing: %s", s.packs, w)
		}
	}
}
