package tests

import (
	"fmt"
	"math/big"
	"math/rand"
	"regexp"
	"slices"
	"strings"
	"testing"

	"loop.example/g00802/impl"
)

const (
	nameForm   = `[a-z][a-z0-9]{0,7}`
	numberForm = `-?[0-9]+(?:/[0-9]+)?`
	termForm   = numberForm + `\*` + nameForm
	termsForm  = `(?:0|` + termForm + `(?: \+ ` + termForm + `)*)`
)

var (
	modelForm = regexp.MustCompile(`\A((?:(?:col|int) ` + nameForm + ` ` + numberForm + ` (?:` + numberForm + `|-)\n){1,8})min (` + termsForm + `)\n((?:row ` + termsForm + ` (?:<=|>=|=) ` + numberForm + `\n){0,10})\z`)
	pointForm = regexp.MustCompile(`\A` + nameForm + `=` + numberForm + `(?: ` + nameForm + `=` + numberForm + `)*\z`)
)

// textReader reads a text that has the form of a model, by regular expressions and math/big.
type textReader struct {
	names []string
	isBad bool
}

func (r *textReader) number(s string) impl.Rat {
	value, ok := new(big.Rat).SetString(s)
	if !ok || value.RatString() != s {
		r.isBad = true
		return impl.Rat{}
	}
	rat := ratOf(value)
	r.isBad = r.isBad || isZeroRat(rat)
	return rat
}

func (r *textReader) terms(s string) []impl.Term {
	var out []impl.Term
	before := -1
	for _, part := range regexp.MustCompile(termForm).FindAllString(s, -1) {
		coef, name, _ := strings.Cut(part, "*")
		col := slices.Index(r.names, name)
		r.isBad = r.isBad || col <= before || coef == "0"
		before = col
		out = append(out, impl.Term{Col: col, Coef: r.number(coef)})
	}
	return out
}

func (r *textReader) col(line string) impl.Col {
	words := strings.Split(line, " ")
	r.isBad = r.isBad || slices.Contains(r.names, words[1])
	r.names = append(r.names, words[1])
	c := impl.Col{Name: words[1], Lo: r.number(words[2]), Integer: words[0] == "int"}
	if words[3] != "-" {
		c.Hi = r.number(words[3])
	}
	return c
}

func (r *textReader) row(line string) impl.Row {
	for _, sense := range []int{1, 2, 3} {
		if left, right, ok := strings.Cut(line, " "+signs()[sense]+" "); ok {
			return impl.Row{Terms: r.terms(left), Sense: sense, Rhs: r.number(right)}
		}
	}
	panic("no row: " + line)
}

// modelOfText returns the model that a text must be parsed to, and whether there is one.
func modelOfText(s string) (impl.Model, bool) {
	parts := modelForm.FindStringSubmatch(s)
	if parts == nil {
		return impl.Model{}, false
	}
	var r textReader
	var m impl.Model
	for line := range strings.Lines(parts[1]) {
		m.Cols = append(m.Cols, r.col(strings.TrimSuffix(line, "\n")))
	}
	m.Obj = r.terms(parts[2])
	for line := range strings.Lines(parts[3]) {
		m.Rows = append(m.Rows, r.row(strings.TrimSuffix(line, "\n")))
	}
	if r.isBad {
		return impl.Model{}, false
	}
	return m, true
}

// pointOfText is modelOfText for a point of a valid model.
func pointOfText(m impl.Model, s string) ([]impl.Rat, bool) {
	if !pointForm.MatchString(s) {
		return nil, false
	}
	var r textReader
	var x []impl.Rat
	for _, part := range strings.Split(s, " ") {
		name, number, _ := strings.Cut(part, "=")
		r.names = append(r.names, name)
		x = append(x, r.number(number))
	}
	if r.isBad || !slices.Equal(r.names, namesOf(m)) {
		return nil, false
	}
	return x, true
}

func numberText(r impl.Rat) string { return ratValue(r).RatString() }

func termsText(l []impl.Term, names []string) string {
	if len(l) == 0 {
		return "0"
	}
	var parts []string
	for _, term := range l {
		parts = append(parts, numberText(term.Coef)+"*"+names[term.Col])
	}
	return strings.Join(parts, " + ")
}

// modelText returns the text of a valid model.
func modelText(m impl.Model) string {
	var out strings.Builder
	for _, c := range m.Cols {
		hi := "-"
		if !isZeroRat(c.Hi) {
			hi = numberText(c.Hi)
		}
		fmt.Fprintf(&out, "%s %s %s %s\n", map[bool]string{true: "int", false: "col"}[c.Integer], c.Name, numberText(c.Lo), hi)
	}
	fmt.Fprintf(&out, "min %s\n", termsText(m.Obj, namesOf(m)))
	for _, w := range m.Rows {
		fmt.Fprintf(&out, "row %s %s %s\n", termsText(w.Terms, namesOf(m)), signs()[w.Sense], numberText(w.Rhs))
	}
	return out.String()
}

// pointText returns the text of a point with one element for every column.
func pointText(m impl.Model, x []impl.Rat) string {
	var parts []string
	for i, c := range m.Cols {
		parts = append(parts, c.Name+"="+numberText(x[i]))
	}
	return strings.Join(parts, " ")
}

// checkModelText formats a valid model and parses its text.
func checkModelText(t *testing.T, m impl.Model) {
	t.Helper()
	want := modelText(m)
	if got := impl.FormatModel(m); got != want {
		t.Fatalf("FormatModel(%v) = %q, want %q", m, got, want)
	}
	got, ok := impl.ParseModel(want)
	wantModel(t, "ParseModel", got, ok, m, true, want)
}

func checkPointText(t *testing.T, m impl.Model, x []impl.Rat) {
	t.Helper()
	want := pointText(m, x)
	if got := impl.FormatPoint(m, x); got != want {
		t.Fatalf("FormatPoint(%v, %v) = %q, want %q", m, x, got, want)
	}
	wantParsedPoint(t, m, want, x, true)
}

func wantParsedPoint(t *testing.T, m impl.Model, s string, want []impl.Rat, wantOk bool) {
	t.Helper()
	if got, ok := impl.ParsePoint(m, s); ok != wantOk || !sameVec(got, want) {
		t.Fatalf("ParsePoint(%v, %.300q) = %v, %v, want %v, %v", m, s, got, ok, want, wantOk)
	}
}

// checkModelTexts parses all texts, and returns how many of them are those of a model.
func checkModelTexts(t *testing.T, texts []string) int {
	t.Helper()
	found := 0
	for _, s := range texts {
		want, isText := modelOfText(s)
		got, ok := impl.ParseModel(s)
		wantModel(t, "ParseModel", got, ok, want, isText, fmt.Sprintf("%.500q", s))
		if isText {
			found++
		}
	}
	return found
}

func noModelTexts(t *testing.T, texts ...string) {
	t.Helper()
	for _, s := range texts {
		got, ok := impl.ParseModel(s)
		wantModel(t, "ParseModel", got, ok, impl.Model{}, false, fmt.Sprintf("%.500q", s))
	}
	if found := checkModelTexts(t, texts); found > 0 {
		t.Fatalf("%d of %.500q are texts of models", found, texts)
	}
}

func noPointText(t *testing.T, m impl.Model, texts ...string) {
	t.Helper()
	for _, s := range texts {
		wantParsedPoint(t, m, s, nil, false)
	}
}

// withoutText calls every function that takes a model with one that is not valid.
func withoutText(t *testing.T, bad impl.Model) {
	t.Helper()
	if got := impl.FormatModel(bad); got != "" {
		t.Fatalf("FormatModel(%v) = %q", bad, got)
	}
	zero, named := fraction(plus(), 1), strings.Join(append(namesOf(bad), ""), "=0 ")
	for _, x := range [][]impl.Rat{nil, copies(len(bad.Cols), zero), copies(len(bad.Cols)+1, zero)} {
		if got := impl.FormatPoint(bad, x); got != "" {
			t.Fatalf("FormatPoint(%v, %v) = %q", bad, x, got)
		}
	}
	noPointText(t, bad, "", "-", "=0", "x=0", strings.TrimSuffix(named, " "))
	wantInts(t, "ModelStats", impl.ModelStats(bad), nil, bad)
}

func TestFormatModelEdges(t *testing.T) {
	cases := []struct{ m, want string }{
		{"int x 0 3; int y 0 -; min 0:-3 1:-2; row 0:2 1:2 <= 7", "int x 0 3\nint y 0 -\nmin -3*x + -2*y\nrow 2*x + 2*y <= 7\n"},
		{"col x 0 -", "col x 0 -\nmin 0\n"}, {"int x 0 -", "int x 0 -\nmin 0\n"}, {"col x 0 0", "col x 0 0\nmin 0\n"}, {"col a1b2c3d4 -5 -3; min 0:1", "col a1b2c3d4 -5 -3\nmin 1*a1b2c3d4\n"}, {"int z9 -7/2 -1/1000000000; min 0:-1/2", "int z9 -7/2 -1/1000000000\nmin -1/2*z9\n"},
		{"col x 5/3 -1/2; min 0:1", "col x 5/3 -1/2\nmin 1*x\n"}, {"col y 0 -; int x -1 -; min 1:1", "col y 0 -\nint x -1 -\nmin 1*x\n"}, {"int min 0 1; col row -1 1; int int 0 -; col col 1/2 3/2; min 0:1 1:1 2:1 3:1; row 1:1 3:1 = 1", "int min 0 1\ncol row -1 1\nint int 0 -\ncol col 1/2 3/2\nmin 1*min + 1*row + 1*int + 1*col\nrow 1*row + 1*col = 1\n"},
		{"col x 0 -; row <= 0", "col x 0 -\nmin 0\nrow 0 <= 0\n"}, {"col x 0 -; row >= 1/2; row = -1; row <= -1", "col x 0 -\nmin 0\nrow 0 >= 1/2\nrow 0 = -1\nrow 0 <= -1\n"}, {"col x 0 1; row 0:1 <= 1; row 0:1 <= 1", "col x 0 1\nmin 0\nrow 1*x <= 1\nrow 1*x <= 1\n"},
		{"col x 0 1; int y 0 1; min 1:2; row 0:1 <= 1; row 1:-1 >= -1; row 0:1/2 1:-1/3 = 0; row 1:1 = 1/2; row 0:7 >= 0; row 0:1 1:1 <= 10", "col x 0 1\nint y 0 1\nmin 2*y\nrow 1*x <= 1\nrow -1*y >= -1\nrow 1/2*x + -1/3*y = 0\nrow 1*y = 1/2\nrow 7*x >= 0\nrow 1*x + 1*y <= 10\n"},
		{"col x -" + nines + " " + nines + "; min 0:1/" + nines + "; row 0:" + nines + " = -1/" + nines, "col x -" + nines + " " + nines + "\nmin 1/" + nines + "*x\nrow " + nines + "*x = -1/" + nines + "\n"},
	}
	for _, c := range cases {
		m := model(c.m)
		if got := impl.FormatModel(m); got != c.want {
			t.Errorf("FormatModel of %q = %q, want %q", c.m, got, c.want)
		}
		got, ok := impl.ParseModel(c.want)
		wantModel(t, "ParseModel", got, ok, m, true, c.want)
		checkModelText(t, m)
	}
}

func TestModelTextOfInvalidModels(t *testing.T) {
	for _, m := range modelSamples() {
		checkModelText(t, m)
		for _, bad := range brokenModels(m) {
			withoutText(t, bad)
		}
	}
	for _, n := range []int{0, 9, 10, 40, 41, 1000} {
		withoutText(t, wideModel(n))
		withoutText(t, withObj(wideModel(n), fullTerms(n, fraction(plus(1), 1))))
	}
	withoutText(t, impl.Model{Rows: []impl.Row{row("<= 0")}})
}

func TestModelTextOfEverySize(t *testing.T) {
	for n := 1; n <= 10; n++ {
		for k := range 13 {
			for _, w := range everySense(impl.Row{Terms: fullTerms(n, fraction(minus(1), 2)), Rhs: fraction(plus(), 1)}) {
				m := withRowsOf(withObj(wideModel(n), fullTerms(n, fraction(plus(1), 1))), slices.Repeat([]impl.Row{w}, k)...)
				s := modelText(m)
				if n <= 8 && k <= 10 {
					checkModelText(t, m)
				} else {
					withoutText(t, m)
					noModelTexts(t, s)
				}
			}
		}
	}
	for mask := range 1 << 6 {
		m := wideModel(3)
		for i := range 3 {
			m.Cols[i].Integer = mask>>i&1 == 1
			if mask>>(i+3)&1 == 1 {
				m.Cols[i].Hi = impl.Rat{}
			}
		}
		checkModelText(t, m)
	}
}

// shuffledNames gives a model other names, whose order is not that of the alphabet.
func shuffledNames(random *rand.Rand, m impl.Model) impl.Model {
	names := strings.Fields("x y a z9 abcdefgh xx x1 min row col int q0000000 zzzzzzzz")
	random.Shuffle(len(names), func(i int, j int) { names[i], names[j] = names[j], names[i] })
	for i := range m.Cols {
		m = withName(m, i, names[i])
	}
	return m
}

// largeModel returns a model of fractions of up to the given number of limbs.
func largeModel(random *rand.Rand, n int, most int) impl.Model {
	m := impl.Model{Obj: termsOf(sparse(random, randomVec(random, n, most)))}
	for _, name := range colNames(n) {
		c := impl.Col{Name: name, Lo: randomRat(random, most), Integer: random.Intn(2) == 0}
		if random.Intn(2) == 0 {
			c.Hi = randomRat(random, most)
		}
		m.Cols = append(m.Cols, c)
	}
	for range random.Intn(11) {
		m.Rows = append(m.Rows, impl.Row{Terms: termsOf(sparse(random, randomVec(random, n, most))), Sense: random.Intn(3) + 1, Rhs: randomRat(random, most)})
	}
	return m
}

func TestP12ModelsAreRecovered(t *testing.T) {
	random := rand.New(rand.NewSource(54))
	for n := 1; n <= 8; n++ {
		for range 150 {
			checkModelText(t, shuffledNames(random, smallModel(random, wholePoint(random, n))))
			checkModelText(t, shuffledNames(random, largeModel(random, n, random.Intn(24)+1)))
		}
	}
}

// Two models have the same text only if they are equal.
func TestP12DifferentModelsHaveDifferentTexts(t *testing.T) {
	for _, m := range modelSamples() {
		s := impl.FormatModel(m)
		for _, o := range differentModels(m) {
			if got := impl.FormatModel(o); got == s || impl.ModelOk(o) != (got != "") {
				t.Fatalf("FormatModel of %v and of %v = %q", m, o, got)
			}
		}
	}
}

func TestParseModelInvalid(t *testing.T) {
	const x, y = "int x 0 3\n", "col y 0 -\n"
	noModelTexts(t,
		"", "\n", "\n\n", " ", "x", "-", "0", "min", "min ", "min 0", "min 0\n", "min\n", "col\n", "int\n", "row\n", "col", "row 0 <= 0\n", "min 0\nrow 0 <= 0\n", x, "col x 0 -", "col x 0 -\n", x+y, x+"row 0 <= 0\n",
		// The end of the text.
		x+"min 0", x+"min 0\n\n", x+"min 0\n\n\n", x+"min 0\r\n", x+"min 0\n\r", x+"min 0\n ", x+"min 0\n\x00", x+"min 0 \n", x+"min 0\nrow 0 <= 0", x+"min 0\nrow 0 <= 0\n\n", x+"min 0\nrow 0 <= 0\r\n", x+"min 0\nrow 0 <= 0 \n", x+"min 0\nx", x+"min 0\nend\n", x+"min 0\n#\n", x+"min 0\v", x+"min 0\u2028",
		// Empty lines and spaces.
		"\n"+x+"min 0\n", x+"\nmin 0\n", x+"min 0\n\nrow 0 <= 0\n", " "+x+"min 0\n", x+" min 0\n", x+"min  0\n", x+"min 0\n row 0 <= 0\n", x+"min 0\nrow  0 <= 0\n", "int  x 0 3\nmin 0\n", "int x  0 3\nmin 0\n", "int x 0  3\nmin 0\n", "int x 0 3 \nmin 0\n", "intx 0 3\nmin 0\n", "int x0 3\nmin 0\n", "int x 03\nmin 0\n", x+"min0\n", x+"min 0\nrow0 <= 0\n", "int\tx 0 3\nmin 0\n", x+"min\t0\n", x+"min 0\nrow\t0 <= 0\n",
		"int x 0 3\r\nmin 0\r\n", "int x 0 3\r\nmin 0\n", "int x 0 3\rmin 0\n", "int x 0 3 min 0\n", "\ufeff"+x+"min 0\n", x+"min 0 row 0 <= 0\n", x+"min 0\nrow 0 <= 0 row 0 <= 0\n",
		// The order of the lines.
		"min 0\n"+x, x+"min 0\n"+y, "min 0\n"+x+y, x+"row 0 <= 0\nmin 0\n", "row 0 <= 0\n"+x+"min 0\n", x+"row 0 <= 0\n"+y+"min 0\n", x+"min 0\nmin 0\n", x+"min 0\nrow 0 <= 0\nmin 0\n", x+"min 1*x\nmin 0\n", x+"min 0\nmin 1*x\n", x+"min 1*x\nmin 1*x\n", x+"row 1*x <= 0\n"+y+"min 0\n", x+"min 1*x\n"+y+"row 1*y <= 0\n", x+"min 0\nrow 0 <= 0\n"+y, x+"row 0 <= 0\n", x+y+"row 1*x <= 0\nrow 1*y <= 0\n", "min 0\n"+x+"min 0\n",
		// Unknown words.
		"Int x 0 3\nmin 0\n", "COL x 0 3\nmin 0\n", "var x 0 3\nmin 0\n", "integer x 0 3\nmin 0\n", "in x 0 3\nmin 0\n", "co x 0 3\nmin 0\n", "x 0 3\nmin 0\n", "row x 0 3\nmin 0\n", "min x 0 3\nmin 0\n", x+"max 0\n", x+"Min 0\n", x+"mi 0\n", x+"mini 0\n", x+"0\n", x+"minimize 0\n", x+"min 0\nROW 0 <= 0\n", x+"min 0\nrows 0 <= 0\n", x+"min 0\nro 0 <= 0\n", x+"min 0\n0 <= 0\n", x+"min 0\n# row 0 <= 0\n", "# x\n"+x+"min 0\n", "\xff x 0 3\nmin 0\n", x+"min 0\nsolve\n", x+"min 0\n:row 0 <= 0\n",
	)
}

func TestParseModelOfInvalidParts(t *testing.T) {
	for _, number := range []string{"", "+1", "01", "00", "-0", "-01", "1/1", "2/4", "4/2", "0/5", "1/0", "0/0", "1/-2", "-", "--1", "1.5", "1e3", "a", "x", "1/", "/2", "1/2/3", "1/02", "0x1", "1_0", "\u0661", "1\x00", "1,", "\u22121", nines + "9", "-" + nines + "9", "1/" + nines + "9", nines + "/1" + strings.Repeat("0", 216)} {
		texts := []string{"int x " + number + " 3\nmin 0\n", "col x " + number + " -\nmin 0\n", "col y 0 1\nint x " + number + " 1\nmin 0\n", "col x 0 -\nmin " + number + "*x\n", "col x 0 -\nmin 0\nrow " + number + "*x <= 1\n", "col x 0 -\nmin 0\nrow 0 <= " + number + "\n", "col x 0 -\nmin 0\nrow 1*x = " + number + "\n"}
		if number != "-" {
			texts = append(texts, "int x 0 "+number+"\nmin 0\n", "col y 0 -\ncol x -1 "+number+"\nmin 0\n")
		}
		noModelTexts(t, texts...)
	}
	for _, name := range append(badNames(), "y", "min 0", "=", "*", "0", "x\r", "\u017f") {
		noModelTexts(t, "int y 0 1\ncol "+name+" 0 3\nmin 0\n", "int "+name+" 0 3\ncol y 0 1\nmin 0\n", "col y 0 1\nint "+name+" 0 -\nmin 1*"+name+"\n", "col y 0 1\nint "+name+" 0 -\nmin 0\nrow 1*"+name+" <= 1\n")
	}
	for _, words := range []string{"", "x", "x 0", "x 0 ", "x  0", "0 3", "x 0 3 4", "x 0 3 -", "x 0 - -", "x - -", "x - 3", "- 0 3", "x y 0 3", "x 0 3 int", "x=0 3", "x 0,3", "x 0..3"} {
		noModelTexts(t, "col "+words+"\nmin 0\n", "int "+words+"\nmin 0\n", "col y 0 1\nint "+words+"\nmin 0\n")
	}
	for _, terms := range []string{"", "x", "1", "-0", "0*x", "1*z", "1*x + 1*x", "1*y + 1*x", "1*x+1*y", "1*x + 0", "0 + 1*x", "1*x - 1*y", "1*x + ", " + 1*x", "1*x  + 1*y", "1*x + 1*y ", " 1*x", "2/4*x", "1*X", "*x", "1*", "1x", "x*1", "1*x <= 1", "0 0", "00", "1*x + 0*y", "1*x + 1*yy"} {
		noModelTexts(t, "col x 0 -\nint y 0 1\nmin "+terms+"\n", "col x 0 -\nint y 0 1\nmin 0\nrow "+terms+" <= 1\n", "col x 0 -\nint y 0 1\nmin 0\nrow 0 = 0\nrow "+terms+" = 1/2\n")
	}
	for _, sense := range []string{"", "<", ">", "==", "=<", "=>", "<>", "!=", "=  ", " =", "\u2264", "le"} {
		noModelTexts(t, "col x 0 -\nmin 0\nrow 1*x "+sense+" 1\n", "col x 0 -\nmin 0\nrow 0 "+sense+" 0\n")
	}
}

// A model has at most 8 columns and 10 rows; longer texts are refused, too, and quickly.
func TestParseModelOfManyLines(t *testing.T) {
	col, line := func(i int) string { return fmt.Sprintf("col c%d 0 -\n", i) }, "row 1*c0 <= 1\n"
	for n := range 25 {
		var cols string
		for i := range n {
			cols += col(i)
		}
		for k := range 25 {
			s := cols + "min 0\n" + strings.Repeat(line, k)
			_, ok := impl.ParseModel(s)
			wantBool(t, "ParseModel", ok, n >= 1 && n <= 8 && k <= 10, n, "columns,", k, "rows")
			checkModelTexts(t, []string{s, cols + strings.Repeat("min 0\n", k), cols + strings.Repeat(line, k)})
		}
	}
	const most, name = 50000, "col x 0 -\n"
	noModelTexts(t,
		strings.Repeat(name, most), name+strings.Repeat("min 0\n", most), name+"min 0\n"+strings.Repeat("row 0 <= 0\n", most), strings.Repeat("\n", most), strings.Repeat(" ", most), strings.Repeat("col ", most), strings.Repeat("x", most), "col "+strings.Repeat("x", most)+" 0 -\nmin 0\n", "col x "+strings.Repeat("1", most)+" -\nmin 0\n", "col x 0 "+strings.Repeat("1", most)+"\nmin 0\n",
		name+"min "+strings.Repeat("1*x + ", most)+"1*x\n", name+"min "+strings.Repeat("1", most)+"*x\n", name+"min 0\nrow "+strings.Repeat("1*x + ", most)+"1*x <= 0\n", name+"min 0\nrow 0 <= "+strings.Repeat("1", most)+"\n", name+"min 0\nrow "+strings.Repeat(" <= ", most)+"\n", name+"min 0"+strings.Repeat("\n", most), "col x 0"+strings.Repeat(" ", most)+"-\nmin 0\n",
	)
}

// editedTexts returns texts that differ from one in a single place: one byte too many, one too few or another one.
func editedTexts(s string, alphabet string) []string {
	var out []string
	for i := range len(s) + 1 {
		for j := range len(alphabet) {
			out = append(out, s[:i]+alphabet[j:j+1]+s[i:])
			if i < len(s) {
				out = append(out, s[:i]+alphabet[j:j+1]+s[i+1:])
			}
		}
		if i == len(s) {
			break
		}
		out = append(out, s[:i], s[i:], s[:i]+s[i+1:], s[:i]+s[i:i+1]+s[i:])
		if i > 0 {
			out = append(out, s[:i-1]+s[i:i+1]+s[i-1:i]+s[i+1:])
		}
	}
	return out
}

func TestParseModelOfEditedTexts(t *testing.T) {
	found, all := 0, 0
	for _, m := range []string{"int x 0 3; int y 0 -; min 0:-3 1:-2; row 0:2 1:2 <= 7", "col x 0 -", "col c 1 -1/2; int b -1/3 -; col a 10 5; min 0:1/2 2:-1; row 2:1 >= 0; row 0:1 1:-1 2:7/3 = 1/2; row <= 1; row 1:1 <= 0", "int min 0 1; col row -1 1; col col 0 -; min 0:1 1:1; row 1:1 2:1 = 1; row = 0"} {
		texts := editedTexts(modelText(model(m)), " \n\r\t-+0123/*=<>abxymn\x00\xff")
		found, all = found+checkModelTexts(t, texts), all+len(texts)
	}
	if found < 300 || all-found < 10000 {
		t.Errorf("%d of %d texts are those of models", found, all)
	}
}

// Of a few lines in any order, exactly those are a model that begin with columns and have one min behind these.
func TestParseModelOfEveryOrderOfLines(t *testing.T) {
	lines := []string{"col a 0 -\n", "int b 0 1\n", "min 0\n", "min 1*a\n", "row 0 <= 1\n", "row 1*b >= 0\n", "\n", "col a 1 2"}
	texts := []string{""}
	for start, n := 0, 0; n < 5; n++ {
		end := len(texts)
		for _, s := range texts[start:end] {
			for _, line := range lines {
				texts = append(texts, s+line)
			}
		}
		start = end
	}
	if found := checkModelTexts(t, texts); found < 50 || len(texts) < 30000 {
		t.Errorf("%d of %d texts are those of models", found, len(texts))
	}
}

func TestParseModelAcceptsOnlyFormattedLines(t *testing.T) {
	var texts []string
	for _, s := range textsUpTo(5, "012-/ ") {
		texts = append(texts, "col a "+s+"\nmin 0\n")
	}
	for _, s := range textsUpTo(5, "01-+*a ") {
		texts = append(texts, "int a 0 -\nmin "+s+"\n")
	}
	for _, s := range textsUpTo(4, " ab0-\n") {
		texts = append(texts, "col"+s+" 0 -\nmin 0\n", "col a 0 -\nmin 0"+s, "col a 0 -\nmin 0\nrow 0"+s+"= 1\n", "col a 0 -"+s+"min 0\n")
	}
	if found := checkModelTexts(t, texts); found < 60 || len(texts) < 20000 {
		t.Errorf("%d of %d texts are those of models", found, len(texts))
	}
}

func TestFormatPointEdges(t *testing.T) {
	cases := []struct{ m, x, want string }{
		{"col x 0 -", "0", "x=0"}, {"col x 0 -", "-7/2", "x=-7/2"}, {"int abcdefgh 0 1", "1/2", "abcdefgh=1/2"}, {"int x 0 3; int y 0 -; min 0:-3 1:-2; row 0:2 1:2 <= 7", "3 1/2", "x=3 y=1/2"}, {"int x 0 3; int y 0 -; row 0:2 1:2 <= 7", "100 -100", "x=100 y=-100"},
		{"col y 0 -; col x 0 -", "1 2", "y=1 x=2"}, {"col z 1 0; col a9 0 -; int m 5 -5", "-1/1000000000 0 1000000000", "z=-1/1000000000 a9=0 m=1000000000"}, {"col x 0 -", nines, "x=" + nines}, {"col x 0 -; col y 0 1", "-" + nines + " 1/" + nines, "x=-" + nines + " y=1/" + nines},
		{"int a 0 1; col b 0 1; int c 0 1; col d 0 1; int e 0 1; col f 0 1; int g 0 1; col h 0 1", "1 2 3 4 5 6 7 8", "a=1 b=2 c=3 d=4 e=5 f=6 g=7 h=8"},
	}
	for _, c := range cases {
		if got := impl.FormatPoint(model(c.m), vector(c.x)); got != c.want {
			t.Errorf("FormatPoint of %q, %s = %q, want %q", c.m, c.x, got, c.want)
		}
		wantParsedPoint(t, model(c.m), c.want, vector(c.x), true)
	}
}

func TestP12PointsAreRecovered(t *testing.T) {
	random := rand.New(rand.NewSource(55))
	feasible := map[bool]int{}
	for n := 1; n <= 8; n++ {
		for range 100 {
			x := wholePoint(random, n)
			m := shuffledNames(random, smallModel(random, x))
			feasible[impl.Feasible(m, x)]++
			for _, y := range [][]impl.Rat{x, smallVec(random, n), randomVec(random, n, 2), randomVec(random, n, 24)} {
				checkPointText(t, m, y)
			}
		}
	}
	if feasible[true] < 50 || feasible[false] < 50 {
		t.Errorf("%d points are feasible, %d are not", feasible[true], feasible[false])
	}
}

// There must be an element for every column, no more, and all of them must be fractions.
func TestFormatPointOfWrongForm(t *testing.T) {
	for n := 1; n <= 8; n++ {
		m := wideModel(n)
		points := [][]impl.Rat{nil, {}, make([]impl.Rat, n), copies(100000, fraction(plus(), 1))}
		for k := range 45 {
			if x := copies(k, fraction(minus(1), 2)); k == n {
				checkPointText(t, m, x)
			} else {
				points = append(points, x)
			}
		}
		for i := range n {
			for _, bad := range invalidRats() {
				points = append(points, withElement(copies(n, fraction(plus(1), 1)), i, bad))
			}
		}
		for _, x := range points {
			if got := impl.FormatPoint(m, x); got != "" {
				t.Fatalf("FormatPoint of %d columns, %v = %q", n, x, got)
			}
		}
	}
}

func TestParsePointInvalid(t *testing.T) {
	m := model("int x 0 3; col y 0 -; col x1 0 1")
	noPointText(t, m,
		"", " ", "-", "0", "x", "x=", "x=1", "x=1 y=2", "1 2 3", "x=1 y=2 x1", "x=1 y=2 x1=", "x=1 y=2 3", "=1 =2 =3", "x1 y2 x13",
		"y=2 x=1 x1=3", "x1=3 y=2 x=1", "x=1 x1=3 y=2", "x=1 x=1 x=1", "x=1 x=1 y=2 x1=3", "x=1 y=2 y=2 x1=3", "x=1 y=2 x1=3 x1=3", "x=1 y=2 x1=3 x=1", "x=1 y=2 y=3", "x=1 y=2 z=3", "x=1 y=2 x1=3 z=4", "x=1 y=2 x=3", "x1=1 y=2 x1=3", "x=1 y=2 xx=3", "X=1 y=2 x1=3", "x=1 Y=2 x1=3", "x0=1 y=2 x1=3", "x=1 y=2 x11=3", "=1 y=2 x1=3", "xx=1 y=2 x1=3",
		" x=1 y=2 x1=3", "x=1 y=2 x1=3 ", "x=1  y=2 x1=3", "x=1 y=2  x1=3", "x=1 y=2x1=3", "x=1y=2 x1=3", "x= 1 y=2 x1=3", "x =1 y=2 x1=3", "x = 1 y = 2 x1 = 3", "x=1 y=2 x1= 3", "x=1 y=2 x1 =3", "x=1\ty=2 x1=3", "x=1 y=2\u00a0x1=3",
		"x=1 y=2 x1=3\n", "\nx=1 y=2 x1=3", "x=1\ny=2\nx1=3", "x=1 y=2\nx1=3", "x=1 y=2 x1=3\r\n", "x=1 y=2 x1=3\r", "x=1, y=2, x1=3", "x=1,y=2,x1=3", "x=1;y=2;x1=3", "x:1 y:2 x1:3", "x==1 y=2 x1=3", "x=1= y=2 x1=3", "x=x=1 y=2 x1=3", "(x=1 y=2 x1=3)", "x=1 y=2 x1=3\x00", "x=1 y=2 x1=\xff", "x=1 + y=2 + x1=3", "1*x y=2 x1=3", "x=1 y=y x1=3",
		strings.Repeat("x=1 ", 100000), strings.Repeat(" ", 100000), strings.Repeat("x", 100000), "x="+strings.Repeat("1", 200000)+" y=2 x1=3", "x=1 y=2 x1="+strings.Repeat("1", 200000), "x=1 y=2 x1=3"+strings.Repeat(" x1=3", 100000), strings.Repeat("=", 100000),
	)
	wantParsedPoint(t, m, "x=1 y=2 x1=3", vector("1 2 3"), true)
	for _, number := range []string{"", "+1", "01", "00", "-0", "-01", "1/1", "2/4", "4/2", "0/5", "1/0", "0/0", "1/-2", "-", "--1", "1.5", "1e3", "a", "1/", "/2", "1/2/3", "1/02", "\u0661", nines + "9", "1/" + nines + "9"} {
		noPointText(t, m, "x="+number+" y=2 x1=3", "x=1 y="+number+" x1=3", "x=1 y=2 x1="+number)
		noPointText(t, model("col x 0 -"), "x="+number)
	}
}

func TestParsePointOfEditedTexts(t *testing.T) {
	found, all := 0, 0
	for m, x := range map[string]string{"int x 0 3; col y 0 -": "3 1/2", "col x 0 -": "-20", "col b 0 1; int a 1 -; col ab 0 0": "-1/3 10 0"} {
		m := model(m)
		texts := append(editedTexts(pointText(m, vector(x)), " \n\r-+0123/=abxy\x00\xff"), textsUpTo(5, "x=10-/ ")...)
		for _, s := range texts {
			want, isText := pointOfText(m, s)
			wantParsedPoint(t, m, s, want, isText)
			if isText {
				found++
			}
		}
		all += len(texts)
	}
	if found < 100 || all-found < 3000 {
		t.Errorf("%d of %d texts are those of points", found, all)
	}
}

func TestModelStatsEdges(t *testing.T) {
	cases := []struct {
		m    string
		want []int
	}{
		{"col x 0 -", []int{1, 0, 0, 0, 0}}, {"int x 0 -", []int{1, 1, 0, 0, 0}}, {"col x 0 0", []int{1, 0, 0, 0, 1}}, {"int x 0 3", []int{1, 1, 0, 0, 1}}, {"col x 0 -; min 0:5", []int{1, 0, 0, 0, 0}}, {"col x 0 -; row <= 0", []int{1, 0, 1, 0, 0}}, {"col x 0 -; row <= 0; row = 1; row >= 1", []int{1, 0, 3, 0, 0}}, {"col x 0 -; row 0:1 = 1", []int{1, 0, 1, 1, 0}},
		{"int x 0 3; int y 0 -; min 0:-3 1:-2; row 0:2 1:2 <= 7", []int{2, 2, 1, 2, 1}}, {"col x 0 3; int y 0 -; col z 1 -1; min 0:1 1:1 2:1; row 0:1 1:1 2:1 <= 1; row = 0; row 2:1 >= 1; row 0:1 2:1 = 5", []int{3, 1, 4, 6, 2}}, {"int a 0 1; col b 0 1; int c 0 1; col d 0 1; int e 0 1; col f 0 1; int g 0 1; col h 0 1; row 0:1 7:-1 = 0", []int{8, 4, 1, 2, 8}},
	}
	for _, c := range cases {
		wantInts(t, "ModelStats", impl.ModelStats(model(c.m)), c.want, c.m)
	}
	for n := 1; n <= 8; n++ {
		m := withRowsOf(wideModel(n), slices.Repeat([]impl.Row{{Terms: fullTerms(n, smallest()), Sense: 3, Rhs: greatest()}}, 10)...)
		wantInts(t, "ModelStats", impl.ModelStats(m), []int{n, 0, 10, 10 * n, n}, n)
	}
}

// What ModelStats counts can be counted in the text of the model, too.
func TestModelStatsOfManyModels(t *testing.T) {
	random := rand.New(rand.NewSource(56))
	for range 1500 {
		m := smallModel(random, wholePoint(random, random.Intn(8)+1))
		s := modelText(m)
		cols, rows, _ := strings.Cut(s, "min ")
		_, rows, _ = strings.Cut(rows, "\n")
		uppers := strings.Count(cols, "\n") - strings.Count(cols, " -\n")
		want := []int{strings.Count(cols, "\n"), strings.Count("\n"+cols, "\nint "), strings.Count(rows, "\n"), strings.Count(rows, "*"), uppers}
		wantInts(t, "ModelStats", impl.ModelStats(m), want, s)
	}
}

// textCalls returns the models that are parsed from the text of a model, and as a model without columns the point.
func textCalls(m impl.Model, x []impl.Rat) map[string]impl.Model {
	s := impl.FormatModel(m)
	first, _ := impl.ParseModel(s)
	second, _ := impl.ParseModel(s)
	var point impl.Model
	parsed, _ := impl.ParsePoint(m, impl.FormatPoint(m, x))
	for _, r := range parsed {
		point.Rows = append(point.Rows, impl.Row{Rhs: r})
	}
	return map[string]impl.Model{"ParseModel": first, "ParseModel of the same text": second, "ParsePoint": point}
}

func TestModelTextArgumentsStayAndResultsAreNew(t *testing.T) {
	models := append(modelSamples(), impl.Model{}, model("col x 0 -; min 0:0; row 0:1 <= 1"), model("col x 0 1; row 0:1 1:1 = 1"), model("col x 1 1; int y 1 1; min 0:1 1:1; row 0:1 1:1 = 1; row 0:1 1:1 = 1"), withLimit(modelSamples()[0], 0, true, fraction(plus(2), 4)))
	points := [][]impl.Rat{nil, vector("1"), vector("1 1"), vector("1 -1/2"), vector("1 -1/2 1000000000"), {greatest(), smallest()}, {fraction(plus(1), 1), {}}, copies(8, fraction(plus(1), 2))}
	for _, m := range models {
		for _, x := range points {
			checkTextMemory(t, m, x)
		}
	}
}

func checkTextMemory(t *testing.T, m impl.Model, x []impl.Rat) {
	t.Helper()
	first, guards := guardedModel(m)
	point, more := guardedVec(x)
	results, wanted := textCalls(first, point), textCalls(m, x)
	checkPartsAreNew(t, modelParts(results), modelParts(wanted), slices.Concat(guards, more))
	for name, result := range results {
		if !sameModel(result, wanted[name]) {
			t.Fatalf("%s = %v, want %v", name, result, wanted[name])
		}
		checkSlicesAreApart(t, name, result, wanted[name])
	}
	stats := impl.ModelStats(first)
	parsed, _ := impl.ParsePoint(first, impl.FormatPoint(first, point))
	clear(stats[:cap(stats)])
	clear(parsed[:cap(parsed)])
	if !isGuardedModel(first, m) || !sameVec(point[:len(x)+1], append(slices.Clone(x), fraction(plus(5), 6))) {
		t.Fatalf("%v or %v was changed, or a result shares memory with it", m, x)
	}
}
