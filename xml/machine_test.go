package xml_test

import (
	"strconv"
	"strings"

	"dovetail/api"
)

// machine takes a text byte by byte, by the chapter's words: at each byte it knows what takes the next one. What it has taken without a fault can go on.
type machine struct {
	at    int
	next  func(c byte)
	fault api.Fault
	// The elements that are open, the outermost first, and whether each one has text by now.
	open    []api.Xml
	hasText []bool
	root    api.Xml
	// Whether the text may end here.
	whole bool
	// The name that was read last, and its place; the value that is read; the place of the < that was read last.
	name   string
	nameAt int
	value  string
	lessAt int
}

// machineReads is what a text is read as, and where it goes wrong; its length is left to another test.
func machineReads(s string) (api.Xml, api.Fault) {
	m := &machine{}
	m.next = m.first
	for m.at = range len(s) {
		m.next(s[m.at])
		if m.fault.Err != api.OK {
			return api.Xml{}, m.fault
		}
	}
	if !m.whole {
		return api.Xml{}, api.Fault{Err: short, At: len(s)}
	}
	return m.root, api.Fault{}
}

func (m *machine) wrong(err api.Errno, at int) { m.fault = api.Fault{Err: err, At: at} }

// expect takes the bytes of a text; with the last one something is done.
func (m *machine) expect(s string, do func()) {
	m.next = func(c byte) {
		switch {
		case c != s[0]:
			m.wrong(form, m.at)
		case len(s) > 1:
			m.expect(s[1:], do)
		default:
			do()
		}
	}
}

// until takes bytes up to an end; with its last one something is done with what stands ahead of it.
func (m *machine) until(end string, do func(bytes string)) {
	taken := ""
	m.next = func(c byte) {
		taken += string([]byte{c})
		if ahead, found := strings.CutSuffix(taken, end); found {
			do(ahead)
		}
	}
}

// comment takes a comment behind its "<!"; with its last byte something is done.
func (m *machine) comment(do func()) {
	m.expect("--", func() { m.until("-->", func(string) { do() }) })
}

// first takes the text's first byte.
func (m *machine) first(c byte) {
	m.ahead(c)
	if c != '<' {
		return
	}
	m.next = func(c byte) {
		if c != '?' {
			m.aheadOpen(c)
			return
		}
		m.expect("xml", func() {
			m.next = func(c byte) {
				if !isIn(blanks, c) {
					m.wrong(form, m.at)
				}
				m.until("?>", func(string) { m.next = m.ahead })
			}
		})
	}
}

// ahead takes a byte ahead of the outermost element.
func (m *machine) ahead(c byte) {
	m.next = m.ahead
	switch {
	case c == '<':
		m.lessAt, m.next = m.at, m.aheadOpen
	case !isIn(blanks, c):
		m.wrong(form, m.at)
	}
}

func (m *machine) aheadOpen(c byte) {
	if c == '!' {
		m.comment(func() { m.next = m.ahead })
	} else {
		m.begin(c)
	}
}

// behind takes a byte behind the outermost element.
func (m *machine) behind(c byte) {
	switch {
	case c == '<':
		m.whole = false
		m.expect("!", func() {
			m.comment(func() { m.whole, m.next = true, m.behind })
		})
	case !isIn(blanks, c):
		m.wrong(form, m.at)
	}
}

func (m *machine) last() *api.Xml { return &m.open[len(m.open)-1] }

// begin takes the first byte of an element's name.
func (m *machine) begin(c byte) {
	switch {
	case !isIn(nameFirst, c):
		m.wrong(form, m.at)
	case len(m.open) == 8:
		m.wrong(deep, m.lessAt)
	}
	m.open, m.hasText = append(m.open, api.Xml{At: m.lessAt}), append(m.hasText, false)
	m.takeName(c, func(c byte) {
		m.last().Name = m.name
		m.tag(c)
	})
}

// takeName takes a name, whose first byte is there; then takes the byte behind it.
func (m *machine) takeName(c byte, then func(c byte)) {
	m.name, m.nameAt = string([]byte{c}), m.at
	m.next = func(c byte) {
		switch {
		case !isIn(nameBytes, c):
			then(c)
		case len(m.name) == 48:
			m.wrong(long, m.at)
		default:
			m.name += string([]byte{c})
		}
	}
}

// tag takes the byte right behind an element's name or an attribute.
func (m *machine) tag(c byte) {
	switch {
	case isIn(blanks, c):
		m.next = m.tagBlank
	case c == '/':
		m.last().TextAt = m.at
		m.expect(">", m.end)
	case c == '>':
		m.next = m.content
	default:
		m.wrong(form, m.at)
	}
}

func (m *machine) tagBlank(c byte) {
	if isIn(nameFirst, c) {
		m.takeName(c, m.behindAttr)
	} else {
		m.tag(c)
	}
}

// behindAttr takes the byte behind an attribute's name.
func (m *machine) behindAttr(c byte) {
	for _, a := range m.last().Attrs {
		if a.Name == m.name {
			m.wrong(twice, m.nameAt)
			return
		}
	}
	m.equals(c)
}

func (m *machine) equals(c byte) {
	m.next = m.equals
	switch {
	case c == '=':
		m.next = m.quote
	case !isIn(blanks, c):
		m.wrong(form, m.at)
	}
}

func (m *machine) quote(c byte) {
	switch {
	case isIn(`"'`, c):
		m.value = ""
		m.within(c)
	case !isIn(blanks, c):
		m.wrong(form, m.at)
	}
}

// within takes a value's bytes, up to a quote.
func (m *machine) within(quote byte) {
	m.next = func(c byte) {
		switch c {
		case quote:
			m.last().Attrs = append(m.last().Attrs, api.Attr{Name: m.name, Value: m.value})
			m.next = m.tag
		case '<':
			m.wrong(form, m.at)
		case '&':
			m.reference(func(said string) {
				m.value += said
				m.within(quote)
			})
		default:
			m.value += string([]byte{c})
		}
	}
}

// say lays text that begins at a place behind what the element has.
func (m *machine) say(at int, said string) {
	x, has := m.last(), &m.hasText[len(m.open)-1]
	if !*has {
		*has, x.TextAt = true, at
	}
	x.Text += said
	m.next = m.content
}

// content takes a byte in an element.
func (m *machine) content(c byte) {
	switch at := m.at; c {
	case '<':
		m.lessAt, m.next = at, m.contentOpen
	case '&':
		m.reference(func(said string) { m.say(at, said) })
	default:
		m.say(at, string([]byte{c}))
	}
}

func (m *machine) contentOpen(c byte) {
	switch c {
	case '/':
		if !m.hasText[len(m.open)-1] {
			m.last().TextAt = m.lessAt
		}
		m.endName(m.last().Name)
	case '!':
		m.next = m.mark
	default:
		m.begin(c)
	}
}

// mark takes the byte behind "<!" in an element.
func (m *machine) mark(c byte) {
	switch c {
	case '-':
		m.expect("-", func() { m.until("-->", func(string) { m.next = m.content }) })
	case '[':
		m.expect("CDATA[", func() {
			at := m.at + 1
			m.until("]]>", func(bytes string) { m.say(at, bytes) })
		})
	default:
		m.wrong(form, m.at)
	}
}

// endName takes what is left of a name behind "</".
func (m *machine) endName(left string) {
	m.next = func(c byte) {
		switch {
		case left != "" && c == left[0]:
			m.endName(left[1:])
		case left != "" || isIn(nameBytes, c):
			m.wrong(word, m.at)
		default:
			m.endBlank(c)
		}
	}
}

func (m *machine) endBlank(c byte) {
	m.next = m.endBlank
	switch {
	case c == '>':
		m.end()
	case !isIn(blanks, c):
		m.wrong(form, m.at)
	}
}

// end closes the innermost element.
func (m *machine) end() {
	x := *m.last()
	m.open, m.hasText = m.open[:len(m.open)-1], m.hasText[:len(m.open)-1]
	if len(m.open) == 0 {
		m.root, m.whole, m.next = x, true, m.behind
		return
	}
	m.last().Kids = append(m.last().Kids, x)
	m.next = m.content
}

// reference takes what stands behind an &; with its last byte something is done with what it says.
func (m *machine) reference(do func(said string)) {
	at, taken := m.at, ""
	m.next = func(c byte) {
		taken += string([]byte{c})
		decimal, isDecimal := strings.CutPrefix(taken, "#")
		hex, isHex := strings.CutPrefix(taken, "#x")
		switch {
		case taken == "#" || taken == "#x":
		case isHex:
			m.digit(at, hex, digits+"abcdefABCDEF", 16, do)
		case isDecimal:
			m.digit(at, decimal, digits, 10, do)
		default:
			m.letter(taken, do)
		}
	}
}

// letter looks at the last byte of what is taken of a name.
func (m *machine) letter(taken string, do func(said string)) {
	goesOn := false
	for name, said := range names() {
		if taken == name+";" {
			do(said)
			return
		}
		goesOn = goesOn || strings.HasPrefix(name+";", taken)
	}
	if !goesOn {
		m.wrong(form, m.at)
	}
}

// digit looks at the last byte of what is taken of a number.
func (m *machine) digit(at int, taken, set string, base int, do func(said string)) {
	switch before, last := taken[:len(taken)-1], taken[len(taken)-1]; {
	case last == ';' && before != "":
		n, err := strconv.ParseUint(before, base, 64)
		if err != nil || n < 1 || n > 1114111 || 0xd800 <= n && n <= 0xdfff {
			m.wrong(kind, at)
			return
		}
		do(string(rune(n)))
	case !isIn(set, last):
		m.wrong(form, m.at)
	case len(before) == 8:
		m.wrong(kind, at)
	}
}
