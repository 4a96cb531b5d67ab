package tests

import (
	"bytes"
	"go/ast"
	"go/format"
	"go/parser"
	"go/token"
	"os"
	"path/filepath"
	"slices"
	"strconv"
	"strings"
	"testing"
)

const maxLines = 60

// allowedImports is rule 1 of the language.
var allowedImports = []string{"bytes", "cmp", "container/heap", "errors", "iter", "maps", "math", "math/bits", "slices", "sort", "strconv", "strings", "sync", "sync/atomic", "unicode", "unicode/utf8"}

// The program keeps to the rules of the language that can be seen in each file by itself.
func TestLanguage(t *testing.T) {
	paths, err := filepath.Glob("../impl/*")
	if err != nil || len(paths) == 0 {
		t.Fatal("no program", err)
	}
	for _, path := range paths {
		text, err := os.ReadFile(path)
		if err != nil || filepath.Ext(path) != ".go" {
			t.Errorf("%s: not a Go file", path)
			continue
		}
		if want, err := format.Source(text); err != nil || !bytes.Equal(text, want) {
			t.Errorf("%s: not gofmt's layout", path)
		}
		if bytes.Contains(text, []byte("//go:")) || bytes.Contains(text, []byte("// +build")) {
			t.Errorf("%s: a line for the compiler", path)
		}
		checkFile(t, path, text)
	}
}

func checkFile(t *testing.T, path string, text []byte) {
	files := token.NewFileSet()
	file, err := parser.ParseFile(files, path, text, 0)
	if err != nil {
		t.Error(err)
		return
	}
	for _, i := range file.Imports {
		name, _ := strconv.Unquote(i.Path.Value)
		if !slices.Contains(allowedImports, name) && !strings.HasPrefix(name, "loop.example/portreeve/") {
			t.Errorf("%s: import of %s", path, name)
		}
	}
	for _, d := range file.Decls {
		f, ok := d.(*ast.FuncDecl)
		if !ok {
			continue
		}
		if lines := files.Position(f.End()).Line - files.Position(f.Pos()).Line + 1; lines > maxLines {
			t.Errorf("%s: %s has %d lines", path, f.Name.Name, lines)
		}
	}
}

// The project has no other folders at its top.
func TestFolders(t *testing.T) {
	entries, err := os.ReadDir("..")
	if err != nil {
		t.Fatal(err)
	}
	for _, e := range entries {
		hidden := strings.HasPrefix(e.Name(), ".")
		if e.IsDir() && !hidden && !slices.Contains([]string{"impl", "tests", "sharedtests"}, e.Name()) {
			t.Errorf("folder %s", e.Name())
		}
	}
}
