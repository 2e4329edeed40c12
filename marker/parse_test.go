package marker_test

import (
	"regexp"
	"slices"
	"strings"
	"testing"

	"dovetail/api"
	"dovetail/checks"
	"dovetail/marker"
	"dovetail/pyspec"
)

func sameReq(a, b api.Pyreq) bool {
	return a.Name == b.Name && slices.Equal(a.Extras, b.Extras) && a.Spec == b.Spec && a.HasMark == b.HasMark && same(a.Mark, b.Mark)
}

// req is a requirement without a marker.
func req(name, spec string, extras ...string) api.Pyreq {
	return api.Pyreq{Name: name, Spec: spec, Extras: extras}
}

func marked(q api.Pyreq, m api.Mark) api.Pyreq {
	q.HasMark, q.Mark = true, m
	return q
}

// reads checks what a requirement's text is read as.
func reads(t *testing.T, s string, want api.Pyreq) {
	t.Helper()
	if q, f := marker.Parse(s); f != (api.Fault{}) || !sameReq(q, want) {
		t.Errorf("Parse(%q) = %+v, %v, not %+v", s, q, f, want)
	}
}

// faults checks where requirements' texts go wrong.
func faults(t *testing.T, wanted map[string]api.Fault) {
	t.Helper()
	for s, want := range wanted {
		if q, f := marker.Parse(s); f != want || !sameReq(q, api.Pyreq{}) {
			t.Errorf("Parse(%q) = %+v, %v, not %v", s, q, f, want)
		}
	}
}

// P11.1: requirements of all parts, with blanks of both kinds between, and without.
func TestRequirements(t *testing.T) {
	old := comp(variable("python_version"), "<", text("3.8"))
	reads(t, "Foo.Bar[X, y_z] (>=1.0,<2) ; python_version < '3.8'", marked(req("foo-bar", ">=1.0,<2", "x", "y-z"), old))
	for _, b := range []string{"", " ", "\t", " \t "} {
		for extras, names := range map[string][]string{"": nil, "[]": nil, "[Q]": {"q"}, "[r,Q.q]": {"q-q", "r"}} {
			for in, spec := range map[string]string{"": "", "()": "", ">=1.0": ">=1.0", "(>=1.0)": ">=1.0", "~=1.0,!=1.5.*": "~=1.0,!=1.5.*", "(===x)": "===x", "<1 , >2": "<1 , >2", "(<1\t,>2)": "<1\t,>2"} {
				for name, normal := range map[string]string{"a": "a", "A_b": "a-b"} {
					spaced := strings.NewReplacer("[", "["+b, "]", b+"]", ",Q", b+","+b+"Q").Replace(extras)
					inside := strings.NewReplacer("(", "("+b, ")", b+")").Replace(in)
					head := b + name + b + spaced + b + inside + b
					reads(t, head, req(normal, spec, names...))
					reads(t, head+";"+b+"python_version"+b+"<"+b+"'3.8'"+b, marked(req(normal, spec, names...), old))
				}
			}
		}
	}
}

// P11.1: names, of requirements and of extras.
func TestNamesOfRequirements(t *testing.T) {
	long48, long49 := strings.Repeat("Ab", 24), strings.Repeat("a", 49)
	for s, normal := range map[string]string{"a": "a", "0": "0", "Z": "z", "a.b": "a-b", "A--_..B": "a-b", "1-2": "1-2", "x_y-z.w": "x-y-z-w", long48: strings.ToLower(long48), "os_name": "os-name", "and": "and", "a" + strings.Repeat("-", 46) + "b": "a-b"} {
		reads(t, s, req(normal, ""))
		reads(t, " "+s+">1", req(normal, ">1"))
		reads(t, "q["+s+"]", req("q", "", normal))
		reads(t, "q[ zz, "+s+" ]<1", req("q", "<1", slices.Sorted(slices.Values([]string{"zz", normal}))...))
	}
	for _, s := range []string{"a-", "a_", "a.", "a--", "A.B_", "a-.", long49, long48 + "-", long48 + ".b", "a" + strings.Repeat("-", 47) + "b"} {
		faults(t, map[string]api.Fault{
			s: {Err: name, At: 0}, "\t " + s: {Err: name, At: 2}, s + " >1": {Err: name, At: 0}, s + ">1": {Err: name, At: 0}, s + "!": {Err: name, At: 0}, s + "\xff": {Err: name, At: 0}, s + "[-]": {Err: name, At: 0}, s + ";": {Err: name, At: 0},
			"q[" + s + "]": {Err: name, At: 2}, "q[ x ,\t" + s: {Err: name, At: 7}, "q[" + s + ",,": {Err: name, At: 2}, "q[x," + s + "]!": {Err: name, At: 4},
		})
	}
	for _, s := range []string{"-", "_", ".", "-a", "_a", ".a", "!", "(", ")", "]", ",", ";", "'", "=", "\n", "\r", "\x00", "\x7f", "\x80", "\xff", "\xc3\xa9", "@"} {
		faults(t, map[string]api.Fault{
			s: {Err: form, At: 0}, " " + s: {Err: form, At: 1}, s + "a": {Err: form, At: 0}, "\t\t" + s + long49: {Err: form, At: 2},
			"q[," + s: {Err: form, At: 2}, "q[x," + s: {Err: form, At: 4}, "q[x, " + s + "a]": {Err: form, At: 5},
		})
		if s != "]" {
			faults(t, map[string]api.Fault{"q[" + s: {Err: form, At: 2}, "q[\t" + s + "a": {Err: form, At: 3}})
		}
	}
	faults(t, map[string]api.Fault{"": {Err: short, At: 0}, " ": {Err: short, At: 1}, "\t \t": {Err: short, At: 3}, "[x]": {Err: form, At: 0}, " [x": {Err: form, At: 1}})
}

// P11.1: none between [ and ], one, eight and nine, alike ones, and commas.
func TestExtras(t *testing.T) {
	for _, s := range []string{"a[]", "a []", "a[ ]", "a\t[ \t] "} {
		reads(t, s, req("a", ""))
	}
	reads(t, "a[x]", req("a", "", "x"))
	reads(t, "a[b,a]", req("a", "", "a", "b"))
	reads(t, "a[B,a,b,A.a,a--A]", req("a", "", "a", "a-a", "b"))
	reads(t, "a[x,X,x]>1", req("a", ">1", "x"))
	reads(t, "a[10,9,1]", req("a", "", "1", "10", "9"))
	reads(t, "a[h,g,f,e,d,c,b,a]", req("a", "", "a", "b", "c", "d", "e", "f", "g", "h"))
	reads(t, "a[x,x,x,x,x,x,x,x]", req("a", "", "x"))
	faults(t, map[string]api.Fault{
		"a[a,b,c,d,e,f,g,h,i]": {Err: long, At: 18}, "a[x,x,x,x,x,x,x,x,x]": {Err: long, At: 18}, "a[a,b,c,d,e,f,g,h, \ti": {Err: long, At: 20}, "a[a,b,c,d,e,f,g,h,i,j,k": {Err: long, At: 18}, "a[a,b,c,d,e,f,g,h,i!": {Err: long, At: 18}, "a [a, b, c, d, e, f, g, h, i] !": {Err: long, At: 27},
		// No ninth one begins there, or it is none.
		"a[a,b,c,d,e,f,g,h,]": {Err: form, At: 18}, "a[a,b,c,d,e,f,g,h,-i": {Err: form, At: 18}, "a[a,b,c,d,e,f,g,h,": {Err: short, At: 18}, "a[a,b,c,d,e,f,g,h,i-]": {Err: name, At: 18}, "a[a,b,c,d,e,f,g,h i]": {Err: form, At: 18},
		"a[,]": {Err: form, At: 2}, "a[,x]": {Err: form, At: 2}, "a[ ,x]": {Err: form, At: 3}, "a[x,]": {Err: form, At: 4}, "a[x, ]": {Err: form, At: 5}, "a[x,,y]": {Err: form, At: 4}, "a[x y]": {Err: form, At: 4}, "a[x;y]": {Err: form, At: 3}, "a[x(y)]": {Err: form, At: 3}, "a[x[y]]": {Err: form, At: 3}, "a[[x]]": {Err: form, At: 2}, "a[x)": {Err: form, At: 3}, "a[x>1]": {Err: form, At: 3}, "a[x\n]": {Err: form, At: 3}, "a[x\xff": {Err: form, At: 3}, "a[x;": {Err: form, At: 3}, "a[x and": {Err: form, At: 4},
		"a[": {Err: short, At: 2}, "a[ ": {Err: short, At: 3}, "a[x": {Err: short, At: 3}, "a[x\t": {Err: short, At: 4}, "a[x,": {Err: short, At: 4}, "a[x, ": {Err: short, At: 5}, "a[x,y": {Err: short, At: 5},
		"a]": {Err: form, At: 1}, "a[x]]": {Err: form, At: 4}, "a[x][y]": {Err: form, At: 4}, "a[] []": {Err: form, At: 4}, "a[x]y": {Err: form, At: 4}, "a[x],": {Err: form, At: 4}, "a>1[x]": {Err: form, At: 3}, "a()[x]": {Err: form, At: 3},
	})
}

// wrongSpecs is specifiers with each fault of chapter 10, without blanks at their ends.
func wrongSpecs() []string {
	digits := strings.Repeat("9", 65)
	return []string{
		"<", ">", "<=", ">=", "==", "!=", "~=", "===", "=", "!", "~", "=1", "!1", "~1", "^1", "1", "1.0", "x", "foo", "*", "@ x", ",", ",<1", "<1,", "<1 ,", "<1,,<2", "<1, ,<2", "<,1", "< ,1", "<1 2", "<1 <2", "<1<2", "<x", "< 1x", "<1.0 ,\t>1!", "<v", "==1+", ">=1.*", "==1a1.*", "!= .*", "~=1", "~=1.0+a", "<1+a", "<1,~=1", "===\x7f", "===a\xff", "===a b", "<1 \n", "\xff", "\x00", "<1\r", "<" + digits, "== " + digits + ".*", strings.Repeat("<1,", 32) + "<1", strings.Repeat("<1,", 32) + "x", strings.Repeat("<1,", 32), "''", "[x]", "]",
	}
}

// P11.1: specifiers in parentheses and without, blanks at their ends, and each fault of chapter 10 at its place.
func TestSpecifiers(t *testing.T) {
	for _, spec := range []string{"<1", "~=1.4.2", ">= 1.0 ,\t!=1.5.*", "===a", "===[x]", "==1.0+a", "====", strings.Repeat("<1,", 31) + ">2"} {
		for _, b := range []string{"", " ", "\t ", "   "} {
			reads(t, "a"+b+spec+b, req("a", spec))
			reads(t, "a["+b+"]"+b+spec+b+";''<''", marked(req("a", spec), comp(text(""), "<", text(""))))
			reads(t, "a("+b+spec+b+")", req("a", spec))
			reads(t, "a"+b+"[x]"+b+"("+b+spec+b+")"+b+";"+b+"''<''", marked(req("a", spec, "x"), comp(text(""), "<", text(""))))
		}
	}
	for _, spec := range wrongSpecs() {
		_, f := pyspec.Parse(spec)
		if f.Err == api.OK {
			t.Fatalf("%q has no fault", spec)
		}
		for _, head := range []string{"a", "a ", "a[x]", "\ta\t[]  "} {
			// What stands right behind a name may go on with it.
			if _, is := marker.Name("a" + spec[:1]); is && head == "a" {
				continue
			}
			for _, b := range []string{"", " ", "\t\t"} {
				want := api.Fault{Err: f.Err, At: len(head+b) + f.At}
				if spec[:1] != "[" || strings.Contains(head, "[") {
					faults(t, map[string]api.Fault{head + b + spec: want, head + b + spec + b: want, head + b + spec + b + ";": want, head + b + spec + ";foo": want, head + b + spec + " ; ''<''": want})
				}
				want.At++
				faults(t, map[string]api.Fault{head + "(" + b + spec: want, head + "(" + b + spec + b: want, head + "(" + b + spec + b + ")": want, head + "(" + b + spec + ")x": want, head + "(" + b + spec + ") ;foo": want})
			}
		}
	}
	faults(t, map[string]api.Fault{
		"b< ": {Err: short, At: 2}, "b<\t ;": {Err: short, At: 2}, "b (< )": {Err: short, At: 4}, "b( <\t": {Err: short, At: 4}, "b <1, ": {Err: short, At: 5},
		"a(": {Err: short, At: 2}, "a( ": {Err: short, At: 3}, "a(<1": {Err: short, At: 4}, "a(<1 ": {Err: short, At: 5}, "a[x]\t(<1,>2\t\t": {Err: short, At: 13}, "a(===x;": {Err: short, At: 7}, "a(===x; ''<''": {Err: form, At: 8},
		"a(<1;": {Err: form, At: 4}, "a(;)": {Err: form, At: 2}, "a(<1 ;''<'')": {Err: form, At: 5}, "a((<1))": {Err: form, At: 2}, "a(()": {Err: form, At: 2}, "a<1)": {Err: form, At: 3}, "a)": {Err: form, At: 1}, "a<1 (": {Err: form, At: 4}, "a<1(>2)": {Err: form, At: 3}, "a <1()": {Err: form, At: 4},
		"a b": {Err: form, At: 2}, "a and b": {Err: form, At: 2}, "a,b": {Err: form, At: 1}, "a\n": {Err: form, At: 1}, "a#b": {Err: form, At: 1}, "a@b": {Err: form, At: 1}, "a @ https://x": {Err: form, At: 2}, "a\xff": {Err: form, At: 1}, "a\x00": {Err: form, At: 1}, "a'x'": {Err: form, At: 1}, "a \r": {Err: form, At: 2},
	})
	// A specifier as it stands ends at the first ; and one in parentheses at the first ).
	reads(t, "a===x)y", req("a", "===x)y"))
	reads(t, "a(===x;y)", req("a", "===x;y"))
	reads(t, "a===(", req("a", "===("))
	faults(t, map[string]api.Fault{"a===x;y": {Err: word, At: 6}, "a(===x)y)": {Err: form, At: 7}, "a===;": {Err: short, At: 4}, "a(===)": {Err: short, At: 5}})
}

// P11.1: what may stand behind specifiers in parentheses, and what may not.
func TestBehindParentheses(t *testing.T) {
	for _, head := range []string{"a()", "a(<1)", "a [x] ( <1 )"} {
		for _, b := range []string{"", " ", " \t"} {
			at := len(head + b)
			reads(t, head+b+";"+b+"''<''", func() api.Pyreq {
				q, _ := marker.Parse(head)
				return marked(q, comp(text(""), "<", text("")))
			}())
			for _, s := range []string{"x", "foo", "and", "or", "os_name", "_", "A", "1", ",", ",>2", "<1", ">", "(", ")", "()", "(<1)", "[", "[x]", "]", "'", `"x"`, "=", "!", "\n", "\r", "\x00", "\x7f", "\xff", "-", ".", "x;''<''", "and ''<''"} {
				faults(t, map[string]api.Fault{head + b + s: {Err: form, At: at}, head + b + s + " ; ''<''": {Err: form, At: at}})
			}
			faults(t, map[string]api.Fault{head + b + ";": {Err: short, At: at + 1}, head + b + "; ": {Err: short, At: at + 2}, head + b + ";;": {Err: form, At: at + 1}, head + b + ";foo": {Err: word, At: at + 1}})
		}
	}
}

// P11.1: a ; with nothing behind it, with blanks alone, with what is no marker.
func TestMarkersOfRequirements(t *testing.T) {
	for _, head := range []string{"a", " a ", "a[x]", "a>1", "a (>1)\t"} {
		at := len(head) + 1
		faults(t, map[string]api.Fault{
			head + ";": {Err: short, At: at}, head + "; ": {Err: short, At: at + 1}, head + ";\t  ": {Err: short, At: at + 3}, head + "; foo == 'x'": {Err: word, At: at + 1}, head + ";;": {Err: form, At: at}, head + "; ;": {Err: form, At: at + 1}, head + ";)": {Err: form, At: at}, head + ";1": {Err: form, At: at}, head + "; (": {Err: short, At: at + 2}, head + ";os_name": {Err: short, At: at + 7}, head + ";''<'' ;": {Err: form, At: at + 6}, head + ";''<'' foo": {Err: word, At: at + 6}, head + ";''<'' and": {Err: short, At: at + 9}, head + ";''<''\n": {Err: form, At: at + 5}, head + ";''<' ": {Err: short, At: at + 5}, head + ";" + strings.Repeat("(", 9): {Err: deep, At: at + 8}, head + ";" + strings.Repeat("''<''or", 33): {Err: long, At: at + 224},
		})
	}
	reads(t, "a;''<''", marked(req("a", ""), comp(text(""), "<", text(""))))
	reads(t, "a;(os_name=='x')\tor os_name=='y' ", marked(req("a", ""), or(is("x"), is("y"))))
	reads(t, "a;os_name==';'", marked(req("a", ""), is(";")))
	reads(t, "a<1;os_name=='#)'", marked(req("a", "<1"), is("#)")))
}

// P11.1: the bytes of a requirement.
func TestLengthOfRequirements(t *testing.T) {
	blanks := strings.Repeat(" ", api.MaxSpec)
	reads(t, "a"+blanks[:255], req("a", ""))
	reads(t, blanks[:255]+"a", req("a", ""))
	reads(t, "a"+blanks[:253]+"<1", req("a", "<1"))
	reads(t, "a["+blanks[:253]+"]", req("a", ""))
	reads(t, "a==="+strings.Repeat("x", 252), req("a", "==="+strings.Repeat("x", 252)))
	reads(t, "a;os_name=='"+strings.Repeat("x", 243)+"'", marked(req("a", ""), is(strings.Repeat("x", 243))))
	faults(t, map[string]api.Fault{
		"a" + blanks:                      {Err: long, At: 256},
		blanks + "a":                      {Err: long, At: 256},
		"-" + blanks:                      {Err: long, At: 256},
		"a-" + blanks:                     {Err: long, At: 256},
		"a;" + blanks:                     {Err: long, At: 256},
		"a===" + strings.Repeat("x", 253): {Err: long, At: 256},
		"a;os_name=='" + strings.Repeat("x", 244) + "'": {Err: long, At: 256},
		strings.Repeat("a", 257):                        {Err: long, At: 256},
		strings.Repeat("[", 1<<18):                      {Err: long, At: 256},
		strings.Repeat("a", 256):                        {Err: name, At: 0},
		blanks:                                          {Err: short, At: 256},
		"a;" + blanks[:254]:                             {Err: short, At: 256},
		"a" + blanks[:254] + "x":                        {Err: form, At: 255},
		"a(" + blanks[:254]:                             {Err: short, At: 256},
	})
}

var (
	nameRun  = regexp.MustCompile(`^[A-Za-z0-9][A-Za-z0-9._-]*`)
	noBlanks = regexp.MustCompile(`[^ \t]`)
)

// wantedReq is P11.1 of Parse by its words, as a row of steps over what is left.
type wantedReq struct {
	s   string
	at  int
	req api.Pyreq
	f   api.Fault
}

func (w *wantedReq) next() byte {
	if place := noBlanks.FindStringIndex(w.s[w.at:]); place != nil {
		w.at += place[0]
		return w.s[w.at]
	}
	w.at = len(w.s)
	return 0
}

func (w *wantedReq) fail(err api.Errno, at int) bool {
	if err == form && at == len(w.s) {
		err = short
	}
	w.f = api.Fault{Err: err, At: at}
	return false
}

func (w *wantedReq) name() (string, bool) {
	w.next()
	run := nameRun.FindString(w.s[w.at:])
	if run == "" {
		return "", w.fail(form, w.at)
	}
	normal, ok := wantedName(run)
	if !ok {
		return "", w.fail(name, w.at)
	}
	w.at += len(run)
	return normal, true
}

func (w *wantedReq) extras() bool {
	if w.next() != '[' {
		return true
	}
	w.at++
	if w.next() == ']' {
		w.at++
		return true
	}
	for count := 1; ; count++ {
		w.next()
		at := w.at
		normal, ok := w.name()
		if !ok {
			return false
		}
		if count == 9 {
			return w.fail(long, at)
		}
		w.req.Extras = append(w.req.Extras, normal)
		c := w.next()
		w.at++
		if c == ']' {
			slices.Sort(w.req.Extras)
			w.req.Extras = slices.Compact(w.req.Extras)
			return true
		}
		if c != ',' {
			return w.fail(form, min(w.at-1, len(w.s)))
		}
	}
}

func (w *wantedReq) spec() bool {
	end := byte(';')
	if w.next() == '(' {
		w.at++
		end = ')'
	}
	stop := strings.IndexByte(w.s[w.at:]+string(end), end) + w.at
	w.req.Spec = strings.Trim(w.s[w.at:stop], " \t")
	if _, f := pyspec.Parse(w.req.Spec); f.Err != api.OK {
		w.next()
		// ErrShort is told where the specifiers end, whatever follows.
		w.f = api.Fault{Err: f.Err, At: w.at + f.At}
		return false
	}
	w.at = stop
	if end == ')' && stop == len(w.s) {
		return w.fail(short, stop)
	}
	if end == ')' {
		w.at++
	}
	return true
}

func (w *wantedReq) mark() bool {
	c := w.next()
	if w.at == len(w.s) {
		return true
	}
	if c != ';' {
		return w.fail(form, w.at)
	}
	w.req.HasMark = true
	w.req.Mark, w.f = wantedMarker(w.s, w.at+1)
	return w.f.Err == api.OK
}

func wantedParse(s string) (api.Pyreq, api.Fault) {
	if len(s) > 256 {
		return api.Pyreq{}, api.Fault{Err: long, At: 256}
	}
	w := wantedReq{s: s}
	var ok bool
	w.req.Name, ok = w.name()
	if ok && w.extras() && w.spec() && w.mark() {
		return w.req, api.Fault{}
	}
	return api.Pyreq{}, w.f
}

// everyReq is all short rows of what requirements are made of, and each byte at each kind of place.
func everyReq() []string {
	l := slices.Concat(
		checks.Rows([]string{"a", "-", "[", "]", ",", " "}, 6),
		checks.Rows([]string{"a", "(", ")", "<1", ";", " ", ","}, 5),
		checks.Rows([]string{"Q[x]", "(<1)", "===", ";", "''<''", "\t", "or", ")"}, 5),
		checks.Rows([]string{"a", ";", "os_name", "'", "(", ")", "=="}, 5),
	)
	for _, row := range checks.Rows([]string{"x", ",", "]", " ", "-"}, 4) {
		l = append(l, "a[h,g,f,e,d,c,b,"+row, "a[a,a,a,a,a,a,a,a,"+row)
	}
	for c := range 256 {
		b := string([]byte{byte(c)})
		for _, place := range [][2]string{
			{"", ""}, {"", "a"}, {" ", "a"}, {"a", ""}, {"a", "b"}, {"a", ">1"}, {"a ", ""}, {"a ", ">1"}, {"a[", ""}, {"a[", "]"}, {"a[", "x]"}, {"a[x", "]"}, {"a[x ", "y]"}, {"a[x,", "y]"}, {"a[x,", ""}, {"a[x]", ""}, {"a[x]", "<1"}, {"a<", ""}, {"a<1", ""}, {"a<1", ";''<''"}, {"a(", ""}, {"a(", "<1)"}, {"a(<1", ")"}, {"a(<1", ""}, {"a(<1)", ""}, {"a(<1)", ";''<''"}, {"a;", ""}, {"a;", "''<''"}, {"a;''<''", ""}, {"a===", ""}, {"a===x", ""}, {"a(===", "x)"},
		} {
			l = append(l, place[0]+b+place[1])
		}
	}
	return l
}

// P11.1 of Parse by its words, and P11.3 of what is read.
func TestParseEverywhere(t *testing.T) {
	kinds := map[api.Errno]int{}
	for _, s := range everyReq() {
		q, f := marker.Parse(s)
		if want, wrong := wantedParse(s); f != wrong || !sameReq(q, want) {
			t.Fatalf("Parse(%q) = %+v, %v, not %+v, %v", s, q, f, want, wrong)
		}
		kinds[f.Err]++
		if q.HasMark != marker.Fit(q.Mark) {
			t.Fatalf("%q is read as %+v, whose marker is not fit", s, q)
		}
	}
	for _, err := range []api.Errno{api.OK, form, short, long, word, name} {
		if kinds[err] < 50 {
			t.Errorf("only %d texts of the kind %d", kinds[err], err)
		}
	}
}
