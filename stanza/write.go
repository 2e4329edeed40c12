package stanza

import (
	"dovetail/api"
	"dovetail/scan"
)

const (
	between = ": "
	newline = "\n"
)

// size is how many bytes a field's line has.
func size(f api.Field) int { return len(f.Name) + len(between) + len(f.Value) + len(newline) }

func appendField(text []byte, f api.Field) []byte {
	text = append(text, f.Name...)
	text = append(text, between...)
	text = append(text, f.Value...)
	return append(text, newline...)
}

// fits tells whether a field is one that a text can be read as.
func fits(f api.Field) bool { return isLowName(f.Name) && isValue(f.Value) }

func isLowName(s string) bool {
	return 0 < len(s) && len(s) <= api.MaxName && nameEnd(s) == len(s) && scan.Lower(s) == s
}

func isValue(s string) bool {
	stripped, _ := scan.Strip(s)
	return stripped == s && valueEnd(s) == len(s)
}
