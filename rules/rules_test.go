// Package rules_test checks that the program keeps the rules of shared/LANGUAGE.md that its text shows.
package rules_test

import (
	"bytes"
	"go/ast"
	"go/format"
	"go/parser"
	"go/token"
	"os"
	"path/filepath"
	"regexp"
	"slices"
	"strconv"
	"strings"
	"testing"
)

// The packages that may be imported, and what may be used of some of them.
var (
	imports = strings.Fields("bytes cmp container/heap errors iter maps math math/bits slices sort strconv strings sync sync/atomic unicode unicode/utf8")
	parts   = map[string][]string{"sync": {"Mutex", "RWMutex", "WaitGroup", "Once"}, "iter": {"Seq", "Seq2"}}
)

// mostLines is how long a function may be (rule 9: about 60 lines).
const mostLines = 65

var directive = regexp.MustCompile(`^//(go:|export |line )|^// \+build`)

// file is a file of the program, and what is wrong with it.
type file struct {
	set   *token.FileSet
	wrong []string
}

func (f *file) say(at ast.Node, text string) {
	f.wrong = append(f.wrong, f.set.Position(at.Pos()).String()+": "+text)
}

// complaints returns what is wrong with a file of the program.
func complaints(name string, src []byte) []string {
	f := &file{set: token.NewFileSet()}
	tree, err := parser.ParseFile(f.set, name, src, parser.ParseComments)
	if err != nil {
		return []string{err.Error()}
	}
	if laid, err := format.Source(src); err != nil || !bytes.Equal(laid, src) {
		f.say(tree, "not the layout of gofmt")
	}
	for _, x := range tree.Imports {
		path, _ := strconv.Unquote(x.Path.Value)
		if !slices.Contains(imports, path) && !strings.HasPrefix(path, "qanat/") || x.Name != nil {
			f.say(x, "import of "+path)
		}
	}
	for _, group := range tree.Comments {
		for _, c := range group.List {
			if directive.MatchString(c.Text) {
				f.say(c, "a directive")
			}
		}
	}
	for _, d := range tree.Decls {
		f.declaration(d)
	}
	f.uses(tree)
	return f.wrong
}

// declaration checks a declaration of the package level.
func (f *file) declaration(d ast.Decl) {
	switch x := d.(type) {
	case *ast.FuncDecl:
		if n := f.set.Position(x.End()).Line - f.set.Position(x.Pos()).Line + 1; n > mostLines {
			f.say(x, "a function of "+strconv.Itoa(n)+" lines")
		}
		if x.Name.Name == "init" || x.Body == nil {
			f.say(x, "start-up code, or a function without a body")
		}
	case *ast.GenDecl:
		for _, s := range x.Specs {
			if v, is := s.(*ast.ValueSpec); is && x.Tok == token.VAR {
				f.variable(v)
			}
		}
	}
}

// variable checks a variable of the package level: it is an error, or a table that is written out.
func (f *file) variable(v *ast.ValueSpec) {
	if len(v.Values) != len(v.Names) {
		f.say(v, "a package-level variable without a value")
	}
	for _, value := range v.Values {
		switch x := value.(type) {
		case *ast.CallExpr:
			fun, is := x.Fun.(*ast.SelectorExpr)
			if !is || len(x.Args) != 1 || f.text(fun) != "errors.New" {
				f.say(x, "a package-level value that is computed")
			}
		case *ast.CompositeLit:
			f.table(x)
		default:
			f.say(x, "a package-level variable that is no table")
		}
	}
}

// text returns a name with its package.
func (f *file) text(s *ast.SelectorExpr) string {
	if p, is := s.X.(*ast.Ident); is {
		return p.Name + "." + s.Sel.Name
	}
	return ""
}

// table checks that a table holds nothing but what is written out.
func (f *file) table(table *ast.CompositeLit) {
	ast.Inspect(table, func(n ast.Node) bool {
		switch x := n.(type) {
		case *ast.MapType, *ast.FuncLit, *ast.FuncType, *ast.CallExpr, *ast.StarExpr, *ast.InterfaceType, *ast.ChanType:
			f.say(n, "no plain table")
		case *ast.UnaryExpr:
			if x.Op == token.AND {
				f.say(n, "no plain table")
			}
		case *ast.BasicLit:
			if x.Kind == token.FLOAT || x.Kind == token.IMAG {
				f.say(n, "a package-level float")
			}
		}
		return true
	})
}

// uses checks what a file uses.
func (f *file) uses(tree *ast.File) {
	recovering := map[ast.Node]bool{}
	ast.Inspect(tree, func(n ast.Node) bool {
		if d, is := n.(*ast.DeferStmt); is {
			if literal, is := d.Call.Fun.(*ast.FuncLit); is {
				ast.Inspect(literal, func(inner ast.Node) bool {
					recovering[inner] = true
					return true
				})
			}
		}
		return true
	})
	ast.Inspect(tree, func(n ast.Node) bool {
		switch x := n.(type) {
		case *ast.SelectorExpr:
			if p, is := x.X.(*ast.Ident); is && p.Obj == nil && parts[p.Name] != nil && !slices.Contains(parts[p.Name], x.Sel.Name) {
				f.say(x, "use of "+f.text(x))
			}
		case *ast.CallExpr:
			name, is := x.Fun.(*ast.Ident)
			if is && (name.Name == "print" || name.Name == "println") && name.Obj == nil {
				f.say(x, "printing")
			}
			if is && name.Name == "recover" && !recovering[x] {
				f.say(x, "recover outside a deferred function literal")
			}
			if list, is := x.Fun.(*ast.ArrayType); is && len(x.Args) == 1 {
				element, is := list.Elt.(*ast.Ident)
				if _, isText := x.Args[0].(*ast.BasicLit); is && isText && element.Name == "rune" {
					f.say(x, "a constant string as runes")
				}
			}
		}
		return true
	})
}

// layers are the packages of the document.
const layers = "api dec text scan cal syn pool cut fun disk trap play name fold code emit kern sound heap mach rec plan flow fan weave stall back desk"

// folderFiles returns the Go files of a folder that are not tests.
func folderFiles(t *testing.T, folder string) []string {
	entries, err := os.ReadDir(filepath.Join("..", folder))
	if err != nil {
		t.Fatal(err)
	}
	var names []string
	for _, x := range entries {
		switch name := filepath.Join("..", folder, x.Name()); {
		case x.IsDir() || filepath.Ext(name) != ".go":
			t.Errorf("%s is no Go file", name)
		case !strings.HasSuffix(name, "_test.go"):
			names = append(names, name)
		}
	}
	return names
}

// LANGUAGE.md, rules 1 to 3b, 4 and 9, as far as the text shows them: for the packages of the document, and those that they import.
func TestRules(t *testing.T) {
	folders := strings.Fields(layers)
	for k := 0; k < len(folders); k++ {
		for _, name := range folderFiles(t, folders[k]) {
			src, err := os.ReadFile(name)
			if err != nil {
				t.Fatal(err)
			}
			for _, text := range complaints(name, src) {
				t.Error(text)
			}
			for _, folder := range imported(name, src) {
				if !slices.Contains(folders, folder) {
					folders = append(folders, folder)
				}
			}
		}
	}
}

// imported returns the folders of the project's packages that a file imports.
func imported(name string, src []byte) []string {
	var list []string
	if tree, err := parser.ParseFile(token.NewFileSet(), name, src, parser.ImportsOnly); err == nil {
		for _, x := range tree.Imports {
			path, _ := strconv.Unquote(x.Path.Value)
			if folder, is := strings.CutPrefix(path, "qanat/"); is {
				list = append(list, folder)
			}
		}
	}
	return list
}

// The checks themselves: each of these is against a rule, or none is.
func TestComplaints(t *testing.T) {
	long := "package p\n\nfunc f() {\n" + strings.Repeat("\tg()\n", mostLines-1) + "}\n"
	for src, want := range map[string]string{
		"package p\n\nimport \"fmt\"\n": "import of fmt", "package p\n\nimport \"qanatic\"\n": "import of qanatic", "package p\n\nimport s \"strings\"\n": "import of strings", "package p\n\nimport . \"strings\"\n": "import of strings", "package p\n\nimport \"unsafe\"\n": "import of unsafe", "package p\n\nimport \"C\"\n": "import of C",
		"//go:build linux\n\npackage p\n": "a directive", "package p\n\n//go:noinline\nfunc f() {}\n": "a directive",
		"package p\nfunc f() {}\n": "not the layout of gofmt", long: "a function of 66 lines", "package p\n\nfunc init() {}\n": "start-up code", "package p\n\nfunc f()\n": "without a body",
		"package p\n\nvar a int\n": "without a value", "package p\n\nvar a = \"b\"\n": "no table", "package p\n\nvar a = 1\n": "no table", "package p\n\nvar a = f()\n": "computed", "package p\n\nvar a = errors.Join(b, c)\n": "computed", "package p\n\nvar a = func() {}\n": "no table", "package p\n\nvar a = &b{}\n": "no table",
		"package p\n\nvar a = map[int]int{1: 2}\n": "no plain table", "package p\n\nvar a = []func(){f}\n": "no plain table", "package p\n\nvar a = []*int{nil}\n": "no plain table", "package p\n\nvar a = []int{f()}\n": "no plain table", "package p\n\nvar a = []any{&b{}}\n": "no plain table", "package p\n\nvar a = []b{1.5}\n": "float",
		"package p\n\nfunc f() { println(1) }\n": "printing", "package p\n\nfunc f() { recover() }\n": "recover outside", "package p\n\nfunc f() { _ = []rune(\"a\") }\n": "as runes", "package p\n\nimport \"sync\"\n\nvar a = []sync.Map{}\n": "use of sync.Map", "package p\n\nimport \"iter\"\n\nfunc f() { iter.Pull(g) }\n": "use of iter.Pull",
		"package p\n\nvar (\n\ta = errors.New(\"b\")\n\tc = [2]string{\"d\", \"e\"}\n\tf = []g{{1, \"h\", true}}\n)\n": "", "package p\n\nfunc f() {\n\tdefer func() { _ = recover() }()\n}\n": "", "package p\n\nimport (\n\t\"sync\"\n\n\t\"qanat/api\"\n)\n\n// go on\nfunc f(m *sync.Mutex) api.Errno { return []rune(s)[0] }\n": "",
	} {
		got := complaints("p.go", []byte(src))
		if want == "" && len(got) > 0 || want != "" && !slices.ContainsFunc(got, func(s string) bool { return strings.Contains(s, want) }) {
			t.Errorf("%q: %q; want %q", src, got, want)
		}
	}
}
