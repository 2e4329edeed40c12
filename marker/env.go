package marker

import (
	"iter"
	"strings"

	"dovetail/api"
	"dovetail/scan"
)

func readEnv(s string) []api.Var {
	if len(s) > api.MaxText {
		panic(api.Fault{Err: api.ErrLong, At: api.MaxText})
	}
	var env []api.Var
	for line := range settings(s) {
		env = append(env, readVar(line, env))
	}
	return env
}

// settings hands out the lines that say something, without blanks at their ends.
func settings(s string) iter.Seq[api.Piece] {
	return func(yield func(api.Piece) bool) {
		for _, line := range scan.Lines(s) {
			text, ahead := scan.Strip(line.Text)
			if text == "" || text[0] == '#' {
				continue
			}
			if !yield(api.Piece{Text: text, At: line.At + ahead, Line: line.Line}) {
				return
			}
		}
	}
}

// readVar reads a line behind those that have set an environment.
func readVar(line api.Piece, env []api.Var) api.Var {
	name, value, found := strings.Cut(line.Text, "=")
	end := printedEnd(value)
	switch {
	case !isVar(name) || name == extra:
		panic(api.Fault{Err: api.ErrWord, At: line.At})
	case isSet(env, name):
		panic(api.Fault{Err: api.ErrTwice, At: line.At})
	case !found:
		panic(api.Fault{Err: api.ErrShort, At: line.At + len(line.Text)})
	case end < len(value):
		panic(api.Fault{Err: api.ErrForm, At: line.At + len(name) + len("=") + end})
	}
	return api.Var{Name: name, Value: value}
}

// valueOf is what an environment sets a variable to, and whether it does.
func valueOf(env []api.Var, name string) (string, bool) {
	for _, v := range env {
		if v.Name == name {
			return v.Value, true
		}
	}
	return "", false
}

func isSet(env []api.Var, name string) bool {
	_, ok := valueOf(env, name)
	return ok
}
