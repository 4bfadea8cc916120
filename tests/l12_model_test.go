package tests

import (
	"fmt"
	"math/rand"
	"slices"
	"strings"
	"testing"

	"loop.example/g00802/impl"
)

// model returns the model of a text like "int x 0 3; col y -1/2 -; min 0:-3 1:2; row 0:2 1:2 <= 7", whose terms are those of termList.
func model(s string) impl.Model {
	var m impl.Model
	for _, part := range strings.Split(s, ";") {
		word, rest, _ := strings.Cut(strings.TrimSpace(part), " ")
		switch word {
		case "int", "col":
			m.Cols = append(m.Cols, column(rest, word == "int"))
		case "min":
			m.Obj = termList(rest)
		case "row":
			m.Rows = append(m.Rows, row(rest))
		default:
			panic("no part of a model: " + part)
		}
	}
	return m
}

func column(s string, isInteger bool) impl.Col {
	fields := strings.Fields(s)
	c := impl.Col{Name: fields[0], Lo: vector(fields[1])[0], Integer: isInteger}
	if fields[2] != "-" {
		c.Hi = vector(fields[2])[0]
	}
	return c
}

func modelSamples() []impl.Model {
	return []impl.Model{
		model("int x 0 3; int y 0 -; min 0:-3 1:-2; row 0:2 1:2 <= 7"), model("col x 0 -"), model("col x 0 0; min 0:1"), model("int z9 -7/2 " + nines + "; row = 0; row 0:1 >= -1"),
		model("col c 1 -1/2; int b -1/3 -; col a " + nines + " 5; min 0:1/2 2:-1; row 2:1 >= 0; row 0:1 1:-1 2:7/3 = 1/2; row <= 1; row 1:1 <= 0"),
		model("int a 0 1; col b 0 1; int c 0 1; col d 0 1; int e 0 1; col f 0 1; int g 0 1; col h 0 1; min 0:1 1:1 2:1 3:1 4:1 5:1 6:1 7:1; row 0:1 7:-1 = 0"),
	}
}

func sameCol(c impl.Col, d impl.Col) bool {
	return c.Name == d.Name && sameRat(c.Lo, d.Lo) && sameRat(c.Hi, d.Hi) && c.Integer == d.Integer
}

func sameRows(l []impl.Row, k []impl.Row) bool { return slices.EqualFunc(l, k, sameRow) }

func sameModel(m impl.Model, o impl.Model) bool {
	return slices.EqualFunc(m.Cols, o.Cols, sameCol) && sameTerms(m.Obj, o.Obj) && sameRows(m.Rows, o.Rows)
}

func wantRows(t *testing.T, label string, got []impl.Row, want []impl.Row, args ...any) {
	t.Helper()
	if !sameRows(got, want) {
		t.Fatalf("%s of %v = %v, want %v", label, args, got, want)
	}
}

func wantInts(t *testing.T, label string, got []int, want []int, args ...any) {
	t.Helper()
	if !slices.Equal(got, want) {
		t.Fatalf("%s of %v = %v, want %v", label, args, got, want)
	}
}

func wantModel(t *testing.T, label string, got impl.Model, gotOk bool, want impl.Model, wantOk bool, args ...any) {
	t.Helper()
	if gotOk != wantOk || !sameModel(got, want) {
		t.Fatalf("%s of %v = %v, %v, want %v, %v", label, args, got, gotOk, want, wantOk)
	}
}

func withCols(m impl.Model, cols ...impl.Col) impl.Model {
	return impl.Model{Cols: cols, Obj: m.Obj, Rows: m.Rows}
}

func withColAt(m impl.Model, i int, c impl.Col) impl.Model {
	cols := slices.Clone(m.Cols)
	cols[i] = c
	return withCols(m, cols...)
}

func withName(m impl.Model, i int, name string) impl.Model {
	c := m.Cols[i]
	c.Name = name
	return withColAt(m, i, c)
}

// withLimit sets Hi (or Lo) of a column.
func withLimit(m impl.Model, i int, hi bool, r impl.Rat) impl.Model {
	c := m.Cols[i]
	if hi {
		c.Hi = r
	} else {
		c.Lo = r
	}
	return withColAt(m, i, c)
}

func withObj(m impl.Model, l []impl.Term) impl.Model {
	return impl.Model{Cols: m.Cols, Obj: l, Rows: m.Rows}
}

func withRowsOf(m impl.Model, rows ...impl.Row) impl.Model {
	return impl.Model{Cols: m.Cols, Obj: m.Obj, Rows: rows}
}

func withRowAt(m impl.Model, i int, w impl.Row) impl.Model {
	rows := slices.Clone(m.Rows)
	rows[i] = w
	return withRowsOf(m, rows...)
}

// wideModel returns a model of n columns, from -1 to 1, without Obj and rows.
func wideModel(n int) impl.Model {
	var m impl.Model
	for _, name := range colNames(n) {
		m.Cols = append(m.Cols, impl.Col{Name: name, Lo: fraction(minus(1), 1), Hi: fraction(plus(1), 1)})
	}
	return m
}

func badNames() []string {
	return []string{"", " ", "X", "xY", "1", "1x", "x ", " x", "x\n", "x_1", "-", "x-1", "abcdefghi", strings.Repeat("a", 3000), "\u00e4", "x\u0663", "\xff", "x\x00"}
}

// badLimits returns values that are no Lo (or, if hi is true, no Hi).
func badLimits(hi bool) []impl.Rat {
	return slices.DeleteFunc(invalidRats(), func(r impl.Rat) bool { return hi && isZeroRat(r) })
}

// brokenModels returns models that are not valid, with one thing changed in a valid one.
func brokenModels(m impl.Model) []impl.Model {
	out := []impl.Model{{}, withCols(m), {Cols: []impl.Col{}}, withCols(m, slices.Repeat(m.Cols, 2)...), withCols(m, append(slices.Clone(m.Cols), impl.Col{})...)}
	for i, c := range m.Cols {
		for _, name := range badNames() {
			out = append(out, withName(m, i, name))
		}
		for j := range i {
			out = append(out, withName(m, i, m.Cols[j].Name), withName(m, j, c.Name))
		}
		for _, hi := range []bool{false, true} {
			for _, bad := range badLimits(hi) {
				out = append(out, withLimit(m, i, hi, bad))
			}
		}
	}
	out = append(out, withObj(m, append(slices.Clone(m.Obj), impl.Term{Col: len(m.Cols), Coef: fraction(plus(1), 1)})))
	for i := range m.Obj {
		for _, bad := range brokenTerms(m.Obj, i) {
			out = append(out, withObj(m, bad))
		}
	}
	return append(out, modelsWithBrokenRows(m)...)
}

func modelsWithBrokenRows(m impl.Model) []impl.Model {
	var out []impl.Model
	tooWide := impl.Row{Terms: fullTerms(len(m.Cols)+1, fraction(plus(1), 1)), Sense: 1, Rhs: fraction(plus(), 1)}
	for i, w := range m.Rows {
		out = append(out, withRowAt(m, i, tooWide))
		for _, bad := range brokenRows(w) {
			out = append(out, withRowAt(m, i, bad))
		}
	}
	return append(out, withRowsOf(m, append(slices.Clone(m.Rows), tooWide)...), withRowsOf(m, slices.Repeat([]impl.Row{row("<= 0")}, 11)...))
}

// boundRowsOf takes Lo and Hi as they are.
func boundRowsOf(m impl.Model) []impl.Row {
	var lower, upper []impl.Row
	for i, c := range m.Cols {
		terms := []impl.Term{{Col: i, Coef: fraction(plus(1), 1)}}
		lower = append(lower, impl.Row{Terms: terms, Sense: 2, Rhs: c.Lo})
		if !isZeroRat(c.Hi) {
			upper = append(upper, impl.Row{Terms: terms, Sense: 1, Rhs: c.Hi})
		}
	}
	return slices.Concat(lower, upper)
}

func allRowsOf(m impl.Model) []impl.Row { return slices.Concat(m.Rows, boundRowsOf(m)) }

func namesOf(m impl.Model) []string {
	var out []string
	for _, c := range m.Cols {
		out = append(out, c.Name)
	}
	return out
}

// violatedOf needs a valid model, and as many elements of x as there are columns.
func violatedOf(m impl.Model, x []impl.Rat) []int {
	var out []int
	for i, w := range allRowsOf(m) {
		if !holdsOf(w, x) {
			out = append(out, i)
		}
	}
	return out
}

func isIntegerIn(m impl.Model, x []impl.Rat) bool {
	for i, c := range m.Cols {
		if c.Integer && !ratValue(x[i]).IsInt() {
			return false
		}
	}
	return true
}

// checkPoint compares the functions of a valid model and a point of its columns with math/big.
func checkPoint(t *testing.T, m impl.Model, x []impl.Rat) {
	t.Helper()
	violated := violatedOf(m, x)
	wantInts(t, "ViolatedRows", impl.ViolatedRows(m, x), violated, m, x)
	wantBool(t, "Feasible", impl.Feasible(m, x), len(violated) == 0, m, x)
	wantBool(t, "IntFeasible", impl.IntFeasible(m, x), len(violated) == 0 && isIntegerIn(m, x), m, x)
	wantRat(t, "ObjValue", impl.ObjValue(m, x), dotOf(denseOf(m.Obj, len(x)), x), m, x)
}

// noPoint calls every function that asks for a point with one that does not suit the model, or with a model that is not valid.
func noPoint(t *testing.T, m impl.Model, x []impl.Rat) {
	t.Helper()
	wantInts(t, "ViolatedRows", impl.ViolatedRows(m, x), nil, m, x)
	wantBool(t, "Feasible", impl.Feasible(m, x), false, m, x)
	wantBool(t, "IntFeasible", impl.IntFeasible(m, x), false, m, x)
	wantRat(t, "ObjValue", impl.ObjValue(m, x), impl.Rat{}, m, x)
}

// checkRowsOf compares what is read of any model, also of one that is not valid.
func checkRowsOf(t *testing.T, m impl.Model) {
	t.Helper()
	wantRows(t, "BoundRows", impl.BoundRows(m), boundRowsOf(m), m)
	wantRows(t, "AllRows", impl.AllRows(m), allRowsOf(m), m)
	if got := impl.ColNames(m); !slices.Equal(got, namesOf(m)) {
		t.Fatalf("ColNames(%v) = %q", m, got)
	}
	for _, c := range m.Cols {
		wantBool(t, "HasUpper", impl.HasUpper(c), !isZeroRat(c.Hi), c)
	}
	wantBool(t, "ModelEqual", impl.ModelEqual(m, m), true, m, m)
}

// noModel calls every function with a model that is not valid.
func noModel(t *testing.T, bad impl.Model) {
	t.Helper()
	wantBool(t, "ModelOk", impl.ModelOk(bad), false, bad)
	checkRowsOf(t, bad)
	zero := fraction(plus(), 1)
	for _, x := range [][]impl.Rat{nil, copies(len(bad.Cols), zero), copies(len(bad.Cols)+1, zero)} {
		noPoint(t, bad, x)
	}
	for _, col := range []int{-1, 0, len(bad.Cols) - 1, len(bad.Cols)} {
		for _, hi := range []bool{false, true} {
			got, ok := impl.WithBound(bad, col, hi, zero)
			wantModel(t, "WithBound", got, ok, impl.Model{}, false, bad, col, hi)
		}
	}
	for _, l := range [][]impl.Row{nil, {row("<= 0")}} {
		got, ok := impl.WithRows(bad, l)
		wantModel(t, "WithRows", got, ok, impl.Model{}, false, bad, l)
	}
}

func TestModelConstants(t *testing.T) {
	if impl.MaxCols != 8 || impl.MaxRows != 10 {
		t.Errorf("MaxCols is %d, MaxRows is %d", impl.MaxCols, impl.MaxRows)
	}
}

func TestModelOkOfEverySize(t *testing.T) {
	for n := range 50 {
		m := wideModel(n)
		wantBool(t, "ModelOk", impl.ModelOk(m), n >= 1 && n <= 8, n, "columns")
		m.Obj = fullTerms(n, greatest())
		wantBool(t, "ModelOk", impl.ModelOk(m), n >= 1 && n <= 8, n, "columns with Obj")
		if n == 0 || n > 8 {
			continue
		}
		for k := range 15 {
			w := impl.Row{Terms: fullTerms(n, smallest()), Sense: k%3 + 1, Rhs: greatest()}
			wantBool(t, "ModelOk", impl.ModelOk(withRowsOf(m, slices.Repeat([]impl.Row{w}, k)...)), k <= 10, n, "columns,", k, "rows")
		}
	}
	one := wideModel(1)
	for _, m := range []impl.Model{wideModel(5000), withCols(one, slices.Repeat(one.Cols, 100000)...), withRowsOf(one, slices.Repeat([]impl.Row{row("<= 0")}, 100000)...), withObj(one, fullTerms(100000, greatest()))} {
		wantBool(t, "ModelOk", impl.ModelOk(m), false, len(m.Cols), len(m.Obj), len(m.Rows))
	}
}

func TestModelOkNames(t *testing.T) {
	for n := 1; n <= 8; n++ {
		m := wideModel(n)
		for i := range n {
			for _, name := range []string{"a", "z", "x0", "abcdefgh", "a1234567", "zzzzzzzz", "min", "c", "c00", "c" + fmt.Sprint(n)} {
				wantBool(t, "ModelOk", impl.ModelOk(withName(m, i, name)), true, n, i, name)
			}
			for _, name := range badNames() {
				noModel(t, withName(m, i, name))
			}
			for j := range n {
				wantBool(t, "ModelOk", impl.ModelOk(withName(m, i, m.Cols[j].Name)), i == j, n, i, j)
			}
		}
	}
}

func TestModelOkBounds(t *testing.T) {
	limits := append(vector("0 1 -1 7/3 -1/1000000000 1000000000"), greatest(), smallest(), fraction(plus(1), limbs(24, top)...))
	for n := 1; n <= 8; n++ {
		for i := range n {
			for _, r := range limits {
				m := withLimit(wideModel(n), i, false, r)
				wantBool(t, "ModelOk", impl.ModelOk(m), true, m)
				wantBool(t, "ModelOk", impl.ModelOk(withLimit(m, i, true, impl.Rat{})) && impl.ModelOk(withLimit(m, i, true, impl.Rat{Den: []int{}})), true, m, "without Hi")
				for _, s := range limits {
					wantBool(t, "ModelOk", impl.ModelOk(withLimit(m, i, true, s)), true, m, s)
				}
			}
			for _, hi := range []bool{false, true} {
				for _, bad := range badLimits(hi) {
					wantBool(t, "ModelOk", impl.ModelOk(withLimit(wideModel(n), i, hi, bad)), false, n, i, hi, bad)
				}
			}
			c := wideModel(n).Cols[i]
			c.Integer = true
			wantBool(t, "ModelOk", impl.ModelOk(withColAt(wideModel(n), i, c)), true, n, i, "Integer")
		}
	}
}

func TestModelOkObj(t *testing.T) {
	for n := 1; n <= 8; n++ {
		m := wideModel(n)
		wantBool(t, "ModelOk", impl.ModelOk(withObj(m, nil)) && impl.ModelOk(withObj(m, []impl.Term{})), true, n, "an empty Obj")
		for _, col := range append(intSamples(), n-1, n, n+1, 7, 8, 39, 40) {
			l := []impl.Term{{Col: col, Coef: fraction(minus(2), 3)}}
			wantBool(t, "ModelOk", impl.ModelOk(withObj(m, l)), col >= 0 && col < n, n, l)
		}
		for i := range n {
			for _, bad := range brokenTerms(fullTerms(n, fraction(plus(1), 2)), i) {
				wantBool(t, "ModelOk", impl.ModelOk(withObj(m, bad)), false, n, bad)
			}
		}
	}
}

func TestModelOkRows(t *testing.T) {
	for n := 1; n <= 8; n++ {
		for k := 1; k <= 10; k++ {
			full := impl.Row{Terms: fullTerms(n, fraction(plus(1), 2)), Sense: k%3 + 1, Rhs: fraction(minus(1), 1)}
			m := withRowsOf(wideModel(n), slices.Repeat([]impl.Row{full}, k)...)
			for i := range k {
				for _, w := range append(everySense(full), row("<= -1"), row("= 0"), withTerms(full, full.Terms[n-1:])) {
					wantBool(t, "ModelOk", impl.ModelOk(withRowAt(m, i, w)), true, n, k, i, w)
				}
				for _, col := range []int{n, n + 1, 8, 39, 40} {
					behind := impl.Term{Col: col, Coef: fraction(plus(1), 1)}
					for _, terms := range [][]impl.Term{{behind}, append(slices.Clone(full.Terms), behind)} {
						wantBool(t, "ModelOk", impl.ModelOk(withRowAt(m, i, withTerms(full, terms))), false, n, k, i, terms)
					}
				}
			}
		}
	}
}

func TestModelOkLooksAtEveryRow(t *testing.T) {
	for _, n := range []int{1, 3, 8} {
		full := impl.Row{Terms: fullTerms(n, fraction(plus(1), 2)), Sense: 2, Rhs: fraction(minus(1), 1)}
		m := withRowsOf(wideModel(n), slices.Repeat([]impl.Row{full}, 10)...)
		for _, i := range []int{0, 4, 9} {
			for _, bad := range brokenRows(full) {
				wantBool(t, "ModelOk", impl.ModelOk(withRowAt(m, i, bad)), false, n, i, bad)
			}
		}
	}
}

func TestModelInvalid(t *testing.T) {
	for _, m := range modelSamples() {
		wantBool(t, "ModelOk", impl.ModelOk(m), true, m)
		checkRowsOf(t, m)
		for _, bad := range brokenModels(m) {
			noModel(t, bad)
		}
	}
	for _, n := range []int{9, 10, 40, 41, 1000} {
		noModel(t, wideModel(n))
	}
}

func TestHasUpper(t *testing.T) {
	base := column("x 0 3", true)
	for _, c := range []impl.Col{base, column("y -1 -1/2", false), {Name: "X", Lo: impl.Rat{}}, {}} {
		for _, none := range []impl.Rat{{}, {Den: []int{}}, {Num: plus([]int{}...), Den: []int{}}} {
			wantBool(t, "HasUpper", impl.HasUpper(impl.Col{Name: c.Name, Lo: c.Lo, Hi: none, Integer: c.Integer}), false, c, none)
		}
		for _, hi := range slices.Concat(vector("0 1 -1 1/2 "+nines), badLimits(true)) {
			wantBool(t, "HasUpper", impl.HasUpper(impl.Col{Name: c.Name, Lo: c.Lo, Hi: hi, Integer: c.Integer}), true, c, hi)
		}
	}
}

func TestColNames(t *testing.T) {
	cases := []struct {
		m    impl.Model
		want []string
	}{
		{impl.Model{}, nil}, {impl.Model{Cols: []impl.Col{}}, nil}, {model("col x 0 -"), []string{"x"}}, {modelSamples()[4], []string{"c", "b", "a"}}, {modelSamples()[5], strings.Split("abcdefgh", "")},
		{impl.Model{Cols: []impl.Col{{}, {Name: "x"}, {Name: "X y"}, {Name: "x"}, {Name: "\xff"}}}, []string{"", "x", "X y", "x", "\xff"}}, {wideModel(9), colNames(9)}, {wideModel(1000), colNames(1000)},
	}
	for _, c := range cases {
		if got := impl.ColNames(c.m); !slices.Equal(got, c.want) {
			t.Errorf("ColNames(%v) = %q, want %q", c.m, got, c.want)
		}
	}
}

func TestBoundRowsAndAllRows(t *testing.T) {
	rows := func(s string) []impl.Row {
		var out []impl.Row
		for _, text := range strings.Split(s, ";") {
			out = append(out, row(text))
		}
		return out
	}
	cases := []struct{ m, bounds, all string }{
		{"col x 0 -", "0:1 >= 0", "0:1 >= 0"}, {"col x -1/2 0", "0:1 >= -1/2; 0:1 <= 0", "0:1 >= -1/2; 0:1 <= 0"}, {"int x 0 3; int y 0 -; min 0:-3 1:-2; row 0:2 1:2 <= 7", "0:1 >= 0; 1:1 >= 0; 0:1 <= 3", "0:2 1:2 <= 7; 0:1 >= 0; 1:1 >= 0; 0:1 <= 3"},
		{"col x 1 -; int y 2 5; row = 0", "0:1 >= 1; 1:1 >= 2; 1:1 <= 5", "= 0; 0:1 >= 1; 1:1 >= 2; 1:1 <= 5"}, {"col x 1 4; col y 2 -; col z 3 6; row 2:1 >= 1; row 1:7 = 2; row 2:1 >= 1", "0:1 >= 1; 1:1 >= 2; 2:1 >= 3; 0:1 <= 4; 2:1 <= 6", "2:1 >= 1; 1:7 = 2; 2:1 >= 1; 0:1 >= 1; 1:1 >= 2; 2:1 >= 3; 0:1 <= 4; 2:1 <= 6"},
		{"col a 5 1; int b -5 0", "0:1 >= 5; 1:1 >= -5; 0:1 <= 1; 1:1 <= 0", "0:1 >= 5; 1:1 >= -5; 0:1 <= 1; 1:1 <= 0"},
	}
	for _, c := range cases {
		wantRows(t, "BoundRows", impl.BoundRows(model(c.m)), rows(c.bounds), c.m)
		wantRows(t, "AllRows", impl.AllRows(model(c.m)), rows(c.all), c.m)
	}
	for n := range 9 {
		for mask := range 1 << n {
			m := wideModel(n)
			for i := range n {
				if mask>>i&1 == 0 {
					m.Cols[i].Hi = impl.Rat{}
				}
			}
			checkRowsOf(t, m)
			checkRowsOf(t, withRowsOf(m, row("<= 0"), row("0:1 = 1")))
		}
	}
}

// The rows of a model that is not valid state what stands in its columns.
func TestRowsOfInvalidModels(t *testing.T) {
	bad := impl.Rat{Num: minus(), Den: []int{4, 0}}
	cases := []impl.Model{
		{}, {Rows: []impl.Row{row("0:1 <= 1"), {}, row("5:0 = 1")}}, {Cols: make([]impl.Col, 3)}, {Cols: []impl.Col{{Lo: bad, Hi: bad}, {Hi: fraction(plus(), 1)}}, Obj: termList("7:0"), Rows: []impl.Row{{Terms: []impl.Term{{Col: -1, Coef: bad}}, Sense: -1, Rhs: bad}}},
		withRowsOf(wideModel(9), slices.Repeat([]impl.Row{row("0:1 <= 1"), row("= 0")}, 6)...), wideModel(40), wideModel(41), wideModel(1000),
	}
	for _, m := range cases {
		noModel(t, m)
	}
}

func TestPointEdges(t *testing.T) {
	m := model("int x 0 3; col y -1 -; min 0:-3 1:2; row 0:2 1:2 <= 7; row 0:1 1:-1 >= -1; row 1:4 = 2")
	cases := []struct {
		x, violated string
		isInteger   bool
		value       string
	}{
		{"0 1/2", "", true, "1"}, {"3 1/2", "", true, "-8"}, {"3/2 1/2", "", false, "-7/2"}, {"1 1/2", "", true, "-2"}, {"-1/1000000000 1/2", "3", false, "1000000003/1000000000"}, {"3000000001/1000000000 1/2", "0 5", false, "-8000000003/1000000000"}, {"4 1/2", "0 5", true, "-11"},
		{"3 1", "0 2", true, "-7"}, {"3 2/4", "", true, "-8"}, {"0 -1", "2", true, "-2"}, {"0 -2", "2 4", true, "-4"}, {"-1 -2", "2 3 4", true, "-1"}, {"0 2", "1 2", true, "4"}, {"0 4", "0 1 2", true, "8"}, {"-9 -9", "2 3 4", true, "9"}, {"4 -2", "2 4 5", true, "-16"}, {"-1 100", "0 1 2 3", true, "203"}, {"100 -1", "0 2 5", true, "-302"},
	}
	for _, c := range cases {
		var violated []int
		for _, text := range strings.Fields(c.violated) {
			violated = append(violated, int(text[0]-'0'))
		}
		x := vector(c.x)
		wantInts(t, "ViolatedRows", impl.ViolatedRows(m, x), violated, c.x)
		wantBool(t, "Feasible", impl.Feasible(m, x), c.violated == "", c.x)
		wantBool(t, "IntFeasible", impl.IntFeasible(m, x), c.violated == "" && c.isInteger, c.x)
		wantRat(t, "ObjValue", impl.ObjValue(m, x), vector(c.value)[0], m, c.x)
		checkPoint(t, m, x)
	}
}

// One row, one bound, and one integer column at a time decide, at every place.
func TestOneRowDecides(t *testing.T) {
	half, zero := fraction(plus(1), 2), fraction(plus(), 1)
	tiny := fraction(plus(1), limbs(24, top)...)
	for n := 1; n <= 8; n++ {
		rows := slices.Repeat([]impl.Row{row("0:1 = 0")}, 10)
		m := withRowsOf(wideModel(n), rows...)
		checkPoint(t, m, copies(n, zero))
		for i := range rows {
			for _, w := range []impl.Row{row("0:1 <= -1"), row("0:1 >= 1/1000000000"), row("0:1 = 1"), row(">= 1"), row("0:1 <= -1/" + nines)} {
				wantInts(t, "ViolatedRows", impl.ViolatedRows(withRowAt(m, i, w), copies(n, zero)), []int{i}, n, i, w)
				checkPoint(t, withRowAt(m, i, w), copies(n, zero))
			}
		}
		m = wideModel(n)
		for i := range n {
			for j, r := range []impl.Rat{tiny, negatives([]impl.Rat{tiny})[0]} {
				lower, upper := withLimit(m, i, false, r), withLimit(m, i, true, r)
				wantBool(t, "Feasible", impl.Feasible(lower, copies(n, zero)), j == 1, lower)
				wantBool(t, "Feasible", impl.Feasible(upper, copies(n, zero)), j == 0, upper)
				checkPoint(t, lower, copies(n, zero))
				checkPoint(t, upper, copies(n, zero))
			}
			c := m.Cols[i]
			c.Integer = true
			for j := range n {
				wantBool(t, "IntFeasible", impl.IntFeasible(withColAt(m, i, c), withElement(copies(n, zero), j, half)), i != j, n, i, j)
				wantBool(t, "Feasible", impl.Feasible(withColAt(m, i, c), withElement(copies(n, zero), j, half)), true, n, i, j)
			}
		}
	}
}

// smallModel returns a model near a point, which most of its rows and bounds admit.
func smallModel(random *rand.Rand, x []impl.Rat) impl.Model {
	n := len(x)
	near := func(r impl.Rat, by int) impl.Rat {
		return impl.RatAdd(r, ratOfInts(by*(random.Intn(30)-1), random.Intn(3)+1))
	}
	m := impl.Model{Obj: smallTerms(random, n)}
	for i, name := range colNames(n) {
		c := impl.Col{Name: name, Lo: near(x[i], -1), Integer: random.Intn(2) == 0}
		if random.Intn(2) == 0 {
			c.Hi = near(x[i], 1)
		}
		m.Cols = append(m.Cols, c)
	}
	for range random.Intn(11) {
		w := smallRow(random, n)
		w.Rhs = near(rowValueOf(w, x), []int{0, 1, -1, 0}[w.Sense])
		m.Rows = append(m.Rows, w)
	}
	return m
}

// wholePoint returns a vector that has, but for a few elements, only integers.
func wholePoint(random *rand.Rand, n int) []impl.Rat {
	x := smallVec(random, n)
	for i := range x {
		if random.Intn(9) > 0 {
			x[i] = ratOfInts(random.Intn(9)-4, 1)
		}
	}
	return x
}

func TestP3FeasibleIfAndOnlyIfNothingIsViolated(t *testing.T) {
	random := rand.New(rand.NewSource(50))
	count := map[string]int{}
	for range 4000 {
		x := wholePoint(random, random.Intn(8)+1)
		m := smallModel(random, x)
		for _, y := range [][]impl.Rat{x, withElement(x, random.Intn(len(x)), smallVec(random, 1)[0])} {
			checkRowsOf(t, m)
			checkPoint(t, m, y)
			holds := true
			for _, w := range impl.AllRows(m) {
				holds = holds && impl.RowHolds(w, y)
			}
			violated := impl.ViolatedRows(m, y)
			wantBool(t, "Feasible", impl.Feasible(m, y), holds, m, y)
			wantBool(t, "Feasible", impl.Feasible(m, y), len(violated) == 0, m, y)
			count[fmt.Sprint("feasible ", holds, ", integer ", impl.IntFeasible(m, y))]++
			count[fmt.Sprint(min(len(violated), 3), " violated")]++
		}
	}
	for _, name := range []string{"feasible true, integer true", "feasible true, integer false", "feasible false, integer false", "0 violated", "1 violated", "2 violated", "3 violated"} {
		if count[name] < 300 {
			t.Errorf("%s: %d times", name, count[name])
		}
	}
}

// A value that is too large counts as equal to the right-hand side, as in RowHolds.
func TestPointLimits(t *testing.T) {
	random := rand.New(rand.NewSource(51))
	tooLarge, fits := 0, 0
	for range 3000 {
		n := random.Intn(8) + 1
		x := edgeMat(random, 1, n)[0]
		m := impl.Model{Obj: edgeRow(random, n).Terms}
		for i, name := range colNames(n) {
			limits := edgeMat(random, 1, 2)[0]
			m.Cols = append(m.Cols, impl.Col{Name: name, Lo: impl.RatMin(limits[0], x[i]), Hi: impl.RatMax(limits[1], x[i]), Integer: random.Intn(4) == 0})
		}
		for range random.Intn(4) {
			m.Rows = append(m.Rows, edgeRow(random, n))
		}
		checkPoint(t, m, x)
		if isZeroRat(impl.ObjValue(m, x)) {
			tooLarge++
		} else {
			fits++
		}
	}
	if tooLarge < 300 || fits < 300 {
		t.Errorf("%d values of Obj are too large, %d are not", tooLarge, fits)
	}
	m := withRowsOf(model("col x 0 -"), row("0:2 <= 0"), row("0:2 = 0"), row("0:2 >= "+nines), row("0:1 <= 0"))
	wantInts(t, "ViolatedRows", impl.ViolatedRows(m, []impl.Rat{greatest()}), []int{3}, m)
	wantBool(t, "Feasible", impl.Feasible(withRowsOf(m, m.Rows[:3]...), []impl.Rat{greatest()}), true, m)
}

// There must be an element for every column, no more, and all of them must be fractions.
func TestPointsOfWrongForm(t *testing.T) {
	for n := 1; n <= 8; n++ {
		m := withObj(wideModel(n), fullTerms(n, fraction(plus(1), 2)))
		for _, m := range []impl.Model{m, withObj(m, nil), withRowsOf(m, row("0:1 <= 5"))} {
			for k := range 45 {
				if x := copies(k, fraction(plus(1), 1)); k == n {
					checkPoint(t, m, x)
				} else {
					noPoint(t, m, x)
				}
			}
			noPoint(t, m, []impl.Rat{})
			noPoint(t, m, make([]impl.Rat, n))
			noPoint(t, m, copies(100000, fraction(plus(), 1)))
			for i := range n {
				for _, bad := range invalidRats() {
					noPoint(t, m, withElement(copies(n, fraction(plus(1), 1)), i, bad))
				}
			}
		}
	}
}

func TestObjValueEdges(t *testing.T) {
	cases := []struct{ obj, x, want string }{
		{"", "0", "0"}, {"", nines, "0"}, {"0:1", "-7/2", "-7/2"}, {"0:-3 1:-2", "3 1/2", "-10"}, {"1:1/3", "5 6", "2"}, {"1:1/3", "5 6 7", "2"}, {"0:1 1:1 2:1", "1/2 1/3 1/6", "1"}, {"0:1 2:-1", nines + " 9 " + nines, "0"}, {"0:1", nines, nines}, {"0:-1/" + nines, nines, "-1"},
		{"0:2", nines, ""}, {"0:1/2", "1/" + nines, ""}, {"0:1 1:1", nines + " 1", ""}, {"0:1 1:-1", nines + " 1", "9" + nines[:214] + "8"}, {"0:1 1:1 2:-1", nines + " 1 1", ""}, {"0:1 1:-1 2:1", nines + " 1 1", nines}, {"0:-1 1:-1", nines + " 1", ""}, {"0:2", halfNines, "9" + nines[:214] + "8"},
	}
	for _, c := range cases {
		x, want := vector(c.x), impl.Rat{}
		if c.want != "" {
			want = vector(c.want)[0]
		}
		m := withObj(wideModel(len(x)), termList(c.obj))
		wantRat(t, "ObjValue", impl.ObjValue(m, x), want, m, x)
		checkPoint(t, m, x)
	}
}

func TestWithBound(t *testing.T) {
	values := append(vector("0 1 -1 2 3 4 -1/2 1000000000 -1/1000000001"), greatest(), smallest(), fraction(plus(1), limbs(24, top)...))
	for _, m := range modelSamples() {
		n := len(m.Cols)
		for _, hi := range []bool{false, true} {
			for col := range n {
				for _, r := range values {
					got, ok := impl.WithBound(m, col, hi, r)
					wantModel(t, "WithBound", got, ok, withLimit(m, col, hi, r), true, m, col, hi, r)
					wantBool(t, "ModelOk", impl.ModelOk(got), true, got)
				}
				for _, bad := range invalidRats() {
					got, ok := impl.WithBound(m, col, hi, bad)
					wantModel(t, "WithBound", got, ok, impl.Model{}, false, m, col, hi, bad)
				}
			}
			for _, col := range append(intSamples(), -1, n, n+1, 8) {
				if got, ok := impl.WithBound(m, col, hi, values[0]); col < 0 || col >= n {
					wantModel(t, "WithBound", got, ok, impl.Model{}, false, m, col, hi)
				}
			}
		}
	}
}

// A bound that is set excludes exactly the points on its other side.
func TestP3BoundsThatAreSet(t *testing.T) {
	random := rand.New(rand.NewSource(52))
	stays, leaves := 0, 0
	for range 4000 {
		x := wholePoint(random, random.Intn(8)+1)
		m := smallModel(random, x)
		col, hi, r := random.Intn(len(x)), random.Intn(2) == 0, ratOfInts(random.Intn(17)-8, random.Intn(2)+1)
		got, ok := impl.WithBound(m, col, hi, r)
		wantModel(t, "WithBound", got, ok, withLimit(m, col, hi, r), true, m, col, hi, r)
		checkPoint(t, got, x)
		order := ratValue(x[col]).Cmp(ratValue(r))
		if isInside := hi && order <= 0 || !hi && order >= 0; !isInside {
			leaves++
			wantBool(t, "Feasible", impl.Feasible(got, x), false, got, x)
		} else if impl.Feasible(m, x) {
			stays++
			wantBool(t, "Feasible", impl.Feasible(got, x), true, got, x)
		}
	}
	if stays < 300 || leaves < 300 {
		t.Errorf("%d points are feasible still, %d are beyond the bound", stays, leaves)
	}
}

func TestWithRows(t *testing.T) {
	w, v := row("0:1 <= 7"), row("0:-1/2 = 3")
	for _, m := range modelSamples() {
		n := len(m.Cols)
		for have := range 11 {
			base := withRowsOf(m, slices.Repeat([]impl.Row{w}, have)...)
			for more := range 13 {
				l := slices.Repeat([]impl.Row{v, row(">= 1")}, 7)[:more]
				got, ok := impl.WithRows(base, l)
				if have+more <= 10 {
					wantModel(t, "WithRows", got, ok, withRowsOf(m, slices.Concat(base.Rows, l)...), true, base, l)
				} else {
					wantModel(t, "WithRows", got, ok, impl.Model{}, false, base, l)
				}
			}
		}
		for _, size := range []int{1, 2, 5} {
			base := withRowsOf(m, w, v)
			l := slices.Repeat([]impl.Row{{Terms: fullTerms(n, fraction(plus(1), 1)), Sense: 2, Rhs: fraction(plus(), 1)}}, size)
			tooWide := impl.Row{Terms: fullTerms(n+1, fraction(plus(1), 1)), Sense: 2, Rhs: fraction(plus(), 1)}
			for i := range size {
				for _, bad := range append(brokenRows(v), tooWide) {
					broken := slices.Clone(l)
					broken[i] = bad
					got, ok := impl.WithRows(base, broken)
					wantModel(t, "WithRows", got, ok, impl.Model{}, false, base, broken)
				}
			}
		}
		got, ok := impl.WithRows(m, slices.Repeat([]impl.Row{w}, 100000))
		wantModel(t, "WithRows", got, ok, impl.Model{}, false, m, "many rows")
	}
}

// A point is feasible with further rows if and only if it is so without them and satisfies them.
func TestP3RowsThatAreAppended(t *testing.T) {
	random := rand.New(rand.NewSource(53))
	count := map[bool]int{}
	for range 3000 {
		x := wholePoint(random, random.Intn(8)+1)
		m, l := smallModel(random, x), smallModel(random, x).Rows
		l = l[:min(len(l), 10-len(m.Rows))]
		got, ok := impl.WithRows(m, l)
		wantModel(t, "WithRows", got, ok, withRowsOf(m, slices.Concat(m.Rows, l)...), true, m, l)
		checkPoint(t, got, x)
		want := impl.Feasible(m, x)
		for _, w := range l {
			want = want && impl.RowHolds(w, x)
		}
		wantBool(t, "Feasible", impl.Feasible(got, x), want, got, x)
		count[want]++
	}
	if count[true] < 300 || count[false] < 300 {
		t.Errorf("%d points are feasible, %d are not", count[true], count[false])
	}
}

// differentModels returns models that differ from one in one thing each.
func differentModels(m impl.Model) []impl.Model {
	one := fraction(plus(1), 1)
	out := []impl.Model{withCols(m), withObj(m, append(slices.Clone(m.Obj), impl.Term{Col: 55, Coef: one})), withRowsOf(m, append(slices.Clone(m.Rows), row("<= 5"))...), withCols(m, append(slices.Clone(m.Cols), impl.Col{})...)}
	for i, c := range m.Cols {
		out = append(out, withName(m, i, c.Name+"0"), withName(m, i, ""), withName(m, i, strings.ToUpper(c.Name)))
		for _, r := range append(invalidRats(), fraction(plus(55), 1), fraction(minus(1), 55)) {
			for _, hi := range []bool{false, true} {
				if limits := []impl.Rat{c.Lo, c.Hi}; !sameRat(r, limits[slices.Index([]bool{false, true}, hi)]) {
					out = append(out, withLimit(m, i, hi, r))
				}
			}
		}
		other := c
		other.Integer = !c.Integer
		out = append(out, withColAt(m, i, other), withCols(m, slices.Delete(slices.Clone(m.Cols), i, i+1)...))
	}
	for i, term := range m.Obj {
		for _, other := range []impl.Term{{Col: term.Col + 1, Coef: term.Coef}, {Col: term.Col, Coef: fraction(plus(55), 1)}, {Col: term.Col}, {Col: -1, Coef: term.Coef}} {
			out = append(out, withObj(m, withTerm(m.Obj, i, other)))
		}
		out = append(out, withObj(m, slices.Delete(slices.Clone(m.Obj), i, i+1)))
	}
	for i, w := range m.Rows {
		other := []impl.Row{withSense(w, w.Sense%3+1), withSense(w, w.Sense+3), withRhs(w, fraction(plus(55), 7)), withRhs(w, impl.Rat{}), withTerms(w, append(slices.Clone(w.Terms), impl.Term{Col: 55, Coef: one})), {}}
		for j, term := range w.Terms {
			other = append(other, withTerms(w, withTerm(w.Terms, j, impl.Term{Col: term.Col, Coef: fraction(plus(55), 1)})), withTerms(w, slices.Delete(slices.Clone(w.Terms), j, j+1)))
		}
		for _, v := range other {
			if !sameRow(v, w) {
				out = append(out, withRowAt(m, i, v))
			}
		}
		out = append(out, withRowsOf(m, slices.Delete(slices.Clone(m.Rows), i, i+1)...))
	}
	return out
}

func cloneModel(m impl.Model) impl.Model {
	var out impl.Model
	for _, c := range m.Cols {
		out.Cols = append(out.Cols, impl.Col{Name: strings.Clone(c.Name), Lo: cloneRat(c.Lo), Hi: cloneRat(c.Hi), Integer: c.Integer})
	}
	out.Obj = cloneRow(impl.Row{Terms: m.Obj}).Terms
	for _, w := range m.Rows {
		out.Rows = append(out.Rows, cloneRow(w))
	}
	return out
}

// ModelEqual compares any two models, also those that are not valid.
func TestModelEqual(t *testing.T) {
	bad := impl.Model{Cols: []impl.Col{{Name: "Xy"}, {Name: "Xy", Hi: fraction(plus(2), 4)}, {Name: "1a"}}, Obj: termList("5:0 1:2"), Rows: []impl.Row{{}, row("41:1 <= 1")}}
	for _, m := range append(modelSamples(), bad, withRowsOf(wideModel(9), slices.Repeat([]impl.Row{row("0:1 <= 1")}, 11)...)) {
		different := differentModels(m)
		for i, o := range different {
			wantBool(t, "ModelEqual", impl.ModelEqual(m, o) || impl.ModelEqual(o, m), false, m, o)
			wantBool(t, "ModelEqual", impl.ModelEqual(o, cloneModel(o)), true, o, o)
			k := different[(i+1)%len(different)]
			wantBool(t, "ModelEqual", impl.ModelEqual(o, k), sameModel(o, k), o, k)
		}
		wantBool(t, "ModelEqual", impl.ModelEqual(m, cloneModel(m)), true, m, m)
	}
	empty := impl.Model{Cols: []impl.Col{}, Obj: []impl.Term{}, Rows: []impl.Row{}}
	wantBool(t, "ModelEqual", impl.ModelEqual(impl.Model{}, empty) && impl.ModelEqual(empty, impl.Model{}), true, empty)
	one := impl.Model{Cols: []impl.Col{{Hi: impl.Rat{Den: []int{}}}}, Rows: []impl.Row{{Terms: []impl.Term{}}}}
	wantBool(t, "ModelEqual", impl.ModelEqual(one, impl.Model{Cols: make([]impl.Col, 1), Rows: make([]impl.Row, 1)}), true, one)
	// The order of columns, terms and rows counts.
	for _, m := range modelSamples()[4:] {
		cols, rows := slices.Clone(m.Cols), slices.Clone(m.Rows)
		slices.Reverse(cols)
		slices.Reverse(rows)
		wantBool(t, "ModelEqual", impl.ModelEqual(m, withCols(m, cols...)), false, m, cols)
		wantBool(t, "ModelEqual", impl.ModelEqual(m, withRowsOf(m, rows...)), len(rows) == 1, m, rows)
	}
}

// modelCalls calls every function of the chapter, and returns the models it gets. Rows and fractions are those of models of their own.
func modelCalls(m impl.Model, o impl.Model, x []impl.Rat, r impl.Rat) map[string]impl.Model {
	impl.ModelOk(m)
	impl.Feasible(m, x)
	impl.IntFeasible(m, x)
	impl.ModelEqual(m, o)
	lower, _ := impl.WithBound(m, 0, false, r)
	upper, _ := impl.WithBound(m, len(m.Cols)-1, true, r)
	longer, _ := impl.WithRows(m, o.Rows)
	same, _ := impl.WithRows(m, nil)
	return map[string]impl.Model{
		"WithBound of Lo": lower, "WithBound of Hi": upper, "WithRows": longer, "WithRows of none": same, "BoundRows": {Rows: impl.BoundRows(m)}, "AllRows": {Rows: impl.AllRows(m)}, "ObjValue": {Rows: []impl.Row{{Rhs: impl.ObjValue(m, x)}}},
	}
}

// modelParts returns the slices of all fractions: those of the columns, of Obj and of the rows.
func modelParts(models map[string]impl.Model) map[string][]int {
	vecs := map[string][]impl.Rat{}
	for name, m := range models {
		for _, c := range m.Cols {
			vecs[name] = append(vecs[name], c.Lo, c.Hi)
		}
		for _, w := range append([]impl.Row{{Terms: m.Obj}}, m.Rows...) {
			for _, term := range w.Terms {
				vecs[name] = append(vecs[name], term.Coef)
			}
			vecs[name] = append(vecs[name], w.Rhs)
		}
	}
	return vecParts(vecs)
}

func colBehind() impl.Col { return impl.Col{Name: "behind", Lo: fraction(plus(5), 6), Integer: true} }

// guardedModel returns a model whose fractions lie in guarded arrays, and which has a column, a term and a row behind its own.
func guardedModel(m impl.Model) (impl.Model, []guarded) {
	var out impl.Model
	var guards []guarded
	for _, c := range m.Cols {
		limits, more := guardedVec([]impl.Rat{c.Lo, c.Hi})
		guards = append(guards, more...)
		out.Cols = append(out.Cols, impl.Col{Name: c.Name, Lo: limits[0], Hi: limits[1], Integer: c.Integer})
	}
	obj, more := guardedTerms(m.Obj)
	out.Obj, guards = obj, append(guards, more...)
	for _, w := range m.Rows {
		v, more := guardedRow(w)
		guards = append(guards, more...)
		out.Rows = append(out.Rows, v)
	}
	out.Cols = append(out.Cols, colBehind())[:len(m.Cols)]
	out.Rows = append(out.Rows, row("= 5/6"))[:len(m.Rows)]
	return out, guards
}

// isGuardedModel reports whether a guarded model is as it was made from another one.
func isGuardedModel(m impl.Model, before impl.Model) bool {
	n, k := len(before.Cols), len(before.Rows)
	for i, w := range m.Rows {
		if !isGuardedRow(w, before.Rows[i]) {
			return false
		}
	}
	terms := impl.Row{Terms: m.Obj}
	return sameModel(m, before) && sameCol(m.Cols[:n+1][n], colBehind()) && sameRow(m.Rows[:k+1][k], row("= 5/6")) && isGuardedRow(terms, impl.Row{Terms: before.Obj})
}

// scratch overwrites all the room of a list of terms.
func scratch(l []impl.Term) {
	all := l[:cap(l)]
	for i := range all {
		all[i] = impl.Term{Col: 77, Coef: fraction(minus(77), 5)}
	}
}

// checkSlicesAreApart overwrites one list of a result after the other, with the room behind it, and looks at the other ones.
func checkSlicesAreApart(t *testing.T, name string, m impl.Model, want impl.Model) {
	t.Helper()
	for i, w := range m.Rows {
		scratch(w.Terms)
		if !sameModel(withRowAt(m, i, want.Rows[i]), want) {
			t.Fatalf("the terms of row %d of %s share memory with others", i, name)
		}
		copy(w.Terms, want.Rows[i].Terms)
	}
	scratch(m.Obj)
	if !sameModel(withObj(m, want.Obj), want) {
		t.Fatalf("the Obj of %s shares memory with a row", name)
	}
	clear(m.Cols[:cap(m.Cols)])
	clear(m.Rows[:cap(m.Rows)])
}

func TestModelArgumentsStayAndResultsAreNew(t *testing.T) {
	models := append(modelSamples(), impl.Model{}, model("col x 0 -; min 0:0; row 0:1 <= 1"), model("col x 0 1; row 0:1 1:1 = 1; row 0:1 1:1 = 1; row 2:1 <= 5/7"), withLimit(model("col x 0 1; min 0:1; row 0:1 <= 1"), 0, false, impl.Rat{}), withLimit(modelSamples()[0], 0, true, fraction(plus(2), 4)))
	points := [][]impl.Rat{nil, vector("1"), vector("1 -1/2"), vector("1 -1/2 1000000000"), {greatest(), smallest()}, {fraction(plus(1), 1), {}}, copies(8, fraction(plus(1), 2))}
	for _, m := range models {
		for _, o := range models {
			for _, x := range points {
				for _, r := range []impl.Rat{fraction(plus(), 1), fraction(minus(7), 2), {}} {
					checkModelMemory(t, m, o, x, r)
				}
			}
		}
	}
}

func checkModelMemory(t *testing.T, m impl.Model, o impl.Model, x []impl.Rat, r impl.Rat) {
	t.Helper()
	first, guards := guardedModel(m)
	second, more := guardedModel(o)
	point, most := guardedVec(append(slices.Clone(x), r))
	results, wanted := modelCalls(first, second, point[:len(x)], point[len(x)]), modelCalls(m, o, x, r)
	checkPartsAreNew(t, modelParts(results), modelParts(wanted), slices.Concat(guards, more, most))
	for name, result := range results {
		if !sameModel(result, wanted[name]) {
			t.Fatalf("%s = %v, want %v", name, result, wanted[name])
		}
		checkSlicesAreApart(t, name, result, wanted[name])
	}
	names, violated := impl.ColNames(first), impl.ViolatedRows(first, point[:len(x)])
	clear(names[:cap(names)])
	clear(violated[:cap(violated)])
	isPointSame := sameVec(point[:len(x)+2], append(slices.Clone(x), r, fraction(plus(5), 6)))
	if !isGuardedModel(first, m) || !isGuardedModel(second, o) || !isPointSame {
		t.Fatalf("%v, %v or %v was changed, or a result shares memory with it", m, o, x)
	}
}
