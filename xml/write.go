package xml

import "dovetail/api"

// The bytes that have names.
const escaped = `<>&"'`

// byteName is what stands behind the & of a reference to a byte by its name; nothing, if it has none.
func byteName(c byte) string {
	switch c {
	case '<':
		return "lt;"
	case '>':
		return "gt;"
	case '&':
		return "amp;"
	case '"':
		return "quot;"
	case '\'':
		return "apos;"
	}
	return ""
}

func appendEscaped(text []byte, s string) []byte {
	for i := range len(s) {
		if name := byteName(s[i]); name != "" {
			text = append(append(text, '&'), name...)
		} else {
			text = append(text, s[i])
		}
	}
	return text
}

// appendElement lays a fit element's text behind others.
func appendElement(text []byte, x api.Xml) []byte {
	text = append(append(text, '<'), x.Name...)
	for _, a := range x.Attrs {
		text = append(append(append(text, ' '), a.Name...), `="`...)
		text = append(appendEscaped(text, a.Value), '"')
	}
	text = appendEscaped(append(text, '>'), x.Text)
	for _, kid := range x.Kids {
		text = appendElement(text, kid)
	}
	return append(append(append(text, "</"...), x.Name...), '>')
}
