package tests

import (
	"bytes"
	"go/ast"
	"go/format"
	"go/parser"
	"go/token"
	"os"
	"path/filepath"
	"slices"
	"strconv"
	"strings"
	"testing"
)

// allowedImports is the first rule of ../shared/LANGUAGE.md.
var allowedImports = []string{"bytes", "cmp", "container/heap", "errors", "iter", "maps", "math", "math/big", "math/bits", "slices", "sort", "strconv", "strings", "sync", "sync/atomic", "unicode", "unicode/utf8"}

const longestFunction = 60

func TestProgramKeepsToItsLanguage(t *testing.T) {
	paths, err := filepath.Glob("../impl/*")
	if err != nil || len(paths) != 9 {
		t.Fatalf("impl has %d files, not a file for each of nine layers (%v)", len(paths), err)
	}
	for _, path := range paths {
		text, err := os.ReadFile(path)
		if err != nil {
			t.Fatal(err)
		}
		checkLayout(t, path, text)
		checkSyntax(t, path, text)
	}
}

func checkLayout(t *testing.T, path string, text []byte) {
	tidy, err := format.Source(text)
	if err != nil || !bytes.Equal(tidy, text) {
		t.Errorf("%s is not in gofmt's layout (%v)", path, err)
	}
	for _, line := range strings.Split(string(text), "\n") {
		if strings.HasPrefix(line, "//go:") || strings.HasPrefix(line, "// +build") {
			t.Errorf("%s: %s", path, line)
		}
	}
}

func checkSyntax(t *testing.T, path string, text []byte) {
	files := token.NewFileSet()
	file, err := parser.ParseFile(files, path, text, 0)
	if err != nil {
		t.Fatal(err)
	}
	for _, i := range file.Imports {
		if name, _ := strconv.Unquote(i.Path.Value); !slices.Contains(allowedImports, name) {
			t.Errorf("%s imports %s", path, name)
		}
	}
	for _, d := range file.Decls {
		f, ok := d.(*ast.FuncDecl)
		if !ok {
			continue
		}
		if lines := files.Position(f.End()).Line - files.Position(f.Pos()).Line + 1; lines > longestFunction {
			t.Errorf("%s: %s has %d lines", path, f.Name.Name, lines)
		}
	}
}
