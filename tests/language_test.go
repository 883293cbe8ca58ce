package tests

import (
	"bytes"
	"go/ast"
	"go/format"
	"go/parser"
	"go/token"
	"os"
	"path/filepath"
	"slices"
	"strings"
	"testing"
)

// What ../shared/LANGUAGE.md asks of each file and can be seen from the text: the imports, the layout, the length of functions.
func TestLanguageOfTheProgram(t *testing.T) {
	allowed := strings.Fields("bytes cmp container/heap errors iter maps math math/bits slices sort strconv strings sync sync/atomic unicode unicode/utf8")
	files, err := filepath.Glob("../impl/*.go")
	if err != nil || len(files) < 20 {
		t.Fatal("the layers are not there", files, err)
	}
	for _, name := range files {
		text, err := os.ReadFile(name)
		if err != nil {
			t.Fatal(err)
		}
		if laid, err := format.Source(text); err != nil || !bytes.Equal(laid, text) {
			t.Error(name, "is not laid out as gofmt does", err)
		}
		set := token.NewFileSet()
		file, err := parser.ParseFile(set, name, text, parser.ParseComments)
		if err != nil {
			t.Fatal(err)
		}
		for _, i := range file.Imports {
			if !slices.Contains(allowed, strings.Trim(i.Path.Value, `"`)) {
				t.Error(name, "imports", i.Path.Value)
			}
		}
		for _, d := range file.Decls {
			if f, ok := d.(*ast.FuncDecl); ok && set.Position(f.End()).Line-set.Position(f.Pos()).Line >= 60 {
				t.Error(name, "has a long function:", f.Name.Name)
			}
		}
	}
}
