// Package eddy holds the tests of the frame: what DOC.md and LANGUAGE.md ask of all layers.
package eddy

import (
	"go/ast"
	"go/parser"
	"go/token"
	"path/filepath"
	"slices"
	"strconv"
	"strings"
	"testing"
)

// layers are the packages of the map, from layer 1 on.
var layers = strings.Fields(`num frac code seal wire bag disk boot reg half book trade topo shake miss ext dir chans derive node
	world view plan calm logs script snap audit desk many hist watch query explore table tune trace diff cuts chaos`)

// library is what may be imported of Go's own.
var library = strings.Fields(`bytes cmp container/heap errors iter maps math math/bits slices sort strconv strings sync sync/atomic unicode unicode/utf8`)

// source is a file of the program, no test.
type source struct {
	path string
	pack string
	set  *token.FileSet
	file *ast.File
}

func sources(t *testing.T) []source {
	t.Helper()
	paths, err := filepath.Glob("*/*.go")
	if err != nil {
		t.Fatal(err)
	}
	var l []source
	for _, p := range paths {
		pack := filepath.Dir(p)
		if pack == "sharedtests" || strings.HasSuffix(p, "_test.go") {
			continue
		}
		set := token.NewFileSet()
		f, err := parser.ParseFile(set, p, nil, parser.ParseComments)
		if err != nil {
			t.Fatal(err)
		}
		l = append(l, source{p, pack, set, f})
	}
	return l
}

func TestEveryLayerHasItsPackage(t *testing.T) {
	have := map[string]bool{}
	for _, s := range sources(t) {
		have[s.pack] = s.file.Name.Name == s.pack
	}
	for _, p := range append([]string{"api"}, layers...) {
		if !have[p] {
			t.Errorf("package %s is missing, or has another name", p)
		}
	}
}

func TestImportsAreAllowed(t *testing.T) {
	for _, s := range sources(t) {
		for _, i := range s.file.Imports {
			path, err := strconv.Unquote(i.Path.Value)
			if err != nil {
				t.Fatal(err)
			}
			if !strings.HasPrefix(path, "eddy/") && !slices.Contains(library, path) {
				t.Errorf("%s imports %s", s.path, path)
			}
		}
	}
}

func TestIteratorsAreNotPulledByTheLibrary(t *testing.T) {
	for _, s := range sources(t) {
		ast.Inspect(s.file, func(n ast.Node) bool {
			if x, ok := n.(*ast.SelectorExpr); ok {
				if from, ok := x.X.(*ast.Ident); ok && from.Name == "iter" && strings.HasPrefix(x.Sel.Name, "Pull") {
					t.Errorf("%s: iter.%s", s.path, x.Sel.Name)
				}
			}
			return true
		})
	}
}

func TestLayersCallThoseBelow(t *testing.T) {
	for _, s := range sources(t) {
		own := slices.Index(layers, s.pack)
		for _, i := range s.file.Imports {
			path, inside := strings.CutPrefix(strings.Trim(i.Path.Value, `"`), "eddy/")
			at := slices.Index(layers, path)
			if inside && own >= 0 && at >= own {
				t.Errorf("%s imports %s, which is no layer below", s.path, path)
			}
		}
	}
}

func TestFunctionsAreSmall(t *testing.T) {
	for _, s := range sources(t) {
		for _, d := range s.file.Decls {
			f, ok := d.(*ast.FuncDecl)
			if !ok {
				continue
			}
			if n := s.set.Position(f.End()).Line - s.set.Position(f.Pos()).Line + 1; n > 60 {
				t.Errorf("%s: %s has %d lines", s.path, f.Name.Name, n)
			}
		}
	}
}

func TestNoDirectives(t *testing.T) {
	for _, s := range sources(t) {
		for _, g := range s.file.Comments {
			for _, c := range g.List {
				if strings.HasPrefix(c.Text, "//go:") || strings.HasPrefix(c.Text, "// +build") {
					t.Errorf("%s: %s", s.path, c.Text)
				}
			}
		}
	}
}
