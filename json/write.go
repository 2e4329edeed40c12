package json

import "dovetail/api"

const (
	null = "null"
	no   = "false"
	yes  = "true"
)

// appendValue lays a fit value's text behind others.
func appendValue(text []byte, j api.Json) []byte {
	switch j.Kind {
	case api.JsNull:
		return append(text, null...)
	case api.JsFalse:
		return append(text, no...)
	case api.JsTrue:
		return append(text, yes...)
	case api.JsNumber:
		return append(text, j.Text...)
	case api.JsString:
		return appendString(text, j.Text)
	case api.JsList:
		return append(appendKids(append(text, '['), j), ']')
	}
	return append(appendKids(append(text, '{'), j), '}')
}

// appendKids lays a list's kids behind a text, or an object's with their keys.
func appendKids(text []byte, j api.Json) []byte {
	for i, kid := range j.Kids {
		if i > 0 {
			text = append(text, ',')
		}
		if j.Kind == api.JsObject {
			text = append(appendString(text, j.Keys[i]), ':')
		}
		text = appendValue(text, kid)
	}
	return text
}

func appendString(text []byte, s string) []byte {
	text = append(text, '"')
	for i := range len(s) {
		switch c := s[i]; {
		case c == '"' || c == '\\':
			text = append(text, '\\', c)
		case c < ' ':
			text = append(text, '\\', 'u', '0', '0', smallHexDigits[c>>4], smallHexDigits[c&0xf])
		default:
			text = append(text, c)
		}
	}
	return append(text, '"')
}
