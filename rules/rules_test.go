// Package rules holds tests of the program's text: that it keeps to its
// language, and that what was given is as it was given.
package rules

import (
	"bytes"
	"crypto/sha256"
	"encoding/hex"
	"go/ast"
	"go/format"
	"go/parser"
	"go/token"
	"os"
	"path/filepath"
	"slices"
	"strconv"
	"strings"
	"testing"
)

const (
	root     = ".."
	module   = "lighterage"
	maxLines = 60
	apiSum   = "394dcf02bdc0d580108651dfefb54046523ff3f1d2cb993296474e873226015d"
)

// Layers in the document's order: each calls those ahead of it alone.
var layers = []string{
	"api", "chars", "seek", "lines", "fields", "params", "chunks", "request", "forms",
	"pack", "spool", "journal", "store", "reply", "tus", "gate", "port", "desk",
}

var library = []string{
	"bytes", "cmp", "container/heap", "errors", "iter", "maps", "math", "math/bits", "slices",
	"sort", "strconv", "strings", "sync", "sync/atomic", "unicode", "unicode/utf8",
}

var syncNames = []string{"Mutex", "RWMutex", "WaitGroup", "Once"}

// source is a file of the program, no test.
type source struct {
	folder, path string
	text         []byte
	set          *token.FileSet
	tree         *ast.File
}

func files(t *testing.T, folder string) (l []string) {
	t.Helper()
	entries, err := os.ReadDir(filepath.Join(root, folder))
	if err != nil {
		t.Fatal(err)
	}
	for _, e := range entries {
		l = append(l, e.Name())
	}
	return l
}

// sources of the layers and of all that they import; other folders, with
// tests alone, are no part of the program.
func sources(t *testing.T) (l []source) {
	t.Helper()
	folders := slices.Clone(layers)
	for i := 0; i < len(folders); i++ {
		for _, name := range files(t, folders[i]) {
			if !strings.HasSuffix(name, ".go") || strings.HasSuffix(name, "_test.go") {
				continue
			}
			s := load(t, folders[i], name)
			l = append(l, s)
			for _, path := range imports(t, s) {
				own, isOwn := strings.CutPrefix(path, module+"/")
				if isOwn && !slices.Contains(folders, own) {
					folders = append(folders, own)
				}
			}
		}
	}
	return l
}

func load(t *testing.T, folder, name string) source {
	t.Helper()
	path := filepath.Join(root, folder, name)
	text, err := os.ReadFile(path)
	if err != nil {
		t.Fatal(err)
	}
	set := token.NewFileSet()
	tree, err := parser.ParseFile(set, path, text, parser.ParseComments)
	if err != nil {
		t.Fatal(err)
	}
	return source{folder, path, text, set, tree}
}

func imports(t *testing.T, s source) (l []string) {
	t.Helper()
	for _, x := range s.tree.Imports {
		path, err := strconv.Unquote(x.Path.Value)
		if err != nil {
			t.Fatal(err)
		}
		l = append(l, path)
	}
	return l
}

func TestApiIsAsGiven(t *testing.T) {
	if l := files(t, "api"); !slices.Equal(l, []string{"api.go"}) {
		t.Errorf("files of package api: %v", l)
	}
	text, err := os.ReadFile(filepath.Join(root, "api", "api.go"))
	if err != nil {
		t.Fatal(err)
	}
	sum := sha256.Sum256(text)
	if got := hex.EncodeToString(sum[:]); got != apiSum {
		t.Errorf("api.go is not as it was given: %s", got)
	}
}

func TestNothingStandsBesideGoFiles(t *testing.T) {
	for _, folder := range layers {
		for _, name := range files(t, folder) {
			if !strings.HasSuffix(name, ".go") {
				t.Errorf("%s/%s stands beside the Go files", folder, name)
			}
		}
	}
}

func TestImports(t *testing.T) {
	for _, s := range sources(t) {
		for _, path := range imports(t, s) {
			own, isOwn := strings.CutPrefix(path, module+"/")
			if !isOwn {
				if !slices.Contains(library, path) {
					t.Errorf("%s imports %s", s.path, path)
				}
				continue
			}
			from, to := slices.Index(layers, s.folder), slices.Index(layers, own)
			if from >= 0 && to >= from {
				t.Errorf("%s calls %s, which is below it", s.path, own)
			}
		}
	}
}

func TestNamesOfTheLibrary(t *testing.T) {
	for _, s := range sources(t) {
		ast.Inspect(s.tree, func(n ast.Node) bool {
			x, ok := n.(*ast.SelectorExpr)
			if !ok {
				return true
			}
			name := x.Sel.Name
			switch p, _ := x.X.(*ast.Ident); {
			case p == nil:
			case p.Name == "sync" && !slices.Contains(syncNames, name),
				p.Name == "iter" && strings.HasPrefix(name, "Pull"):
				t.Errorf("%s names %s.%s", s.set.Position(x.Pos()), p.Name, name)
			}
			return true
		})
	}
}

func TestLayout(t *testing.T) {
	for _, s := range sources(t) {
		want, err := format.Source(s.text)
		if err != nil {
			t.Fatal(err)
		}
		if !bytes.Equal(s.text, want) {
			t.Errorf("%s is not laid out by gofmt", s.path)
		}
		for _, group := range s.tree.Comments {
			for _, c := range group.List {
				if strings.HasPrefix(c.Text, "//go:") || strings.HasPrefix(c.Text, "// +build") {
					t.Errorf("%s: %s", s.set.Position(c.Pos()), c.Text)
				}
			}
		}
	}
}

func TestLengthOfFunctions(t *testing.T) {
	for _, s := range sources(t) {
		for _, d := range s.tree.Decls {
			f, ok := d.(*ast.FuncDecl)
			if !ok {
				continue
			}
			first, last := s.set.Position(f.Pos()).Line, s.set.Position(f.End()).Line
			if n := last - first + 1; n > maxLines {
				t.Errorf("%s: %s has %d lines", s.path, f.Name.Name, n)
			}
		}
	}
}
