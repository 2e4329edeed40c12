// Package checks is what the tests of several layers share. No layer calls it.
package checks

import (
	"cmp"
	"slices"
	"strconv"
	"strings"
)

// Texts is all texts over an alphabet, up to a length.
func Texts(alphabet string, most int) []string {
	var bytes []string
	for i := range len(alphabet) {
		bytes = append(bytes, alphabet[i:i+1])
	}
	return Rows(bytes, most)
}

// Rows is all rows of some pieces, each as one text, up to a count.
func Rows(pieces []string, most int) []string {
	var all []string
	for _, row := range Lists(pieces, most) {
		all = append(all, strings.Join(row, ""))
	}
	return all
}

// Lists is all lists of some items, up to a count, the shorter ones first.
func Lists[T any](items []T, most int) [][]T {
	all, last := [][]T{nil}, [][]T{nil}
	for range most {
		var longer [][]T
		for _, list := range last {
			for _, item := range items {
				longer = append(longer, append(slices.Clone(list), item))
			}
		}
		all, last = append(all, longer...), longer
	}
	return all
}

// Begins is how many bytes of a text, from its beginning on, a whole one can begin with. ends is what makes a text whole that can be.
func Begins(s string, ends []string, whole func(string) bool) int {
	for i := range len(s) {
		if !slices.ContainsFunc(ends, func(end string) bool { return whole(s[:i+1] + end) }) {
			return i
		}
	}
	return len(s)
}

// Rising tells the pairs of a list that compare does not put where they stand, the first one ahead of all.
func Rising(l []string, compare func(a, b string) int) []string {
	var wrong []string
	for i, a := range l {
		for j, b := range l {
			if got, want := compare(a, b), cmp.Compare(i, j); got != want {
				wrong = append(wrong, strconv.Quote(a)+" to "+strconv.Quote(b)+" is "+strconv.Itoa(got)+", not "+strconv.Itoa(want))
			}
		}
	}
	return wrong
}

// Alike tells the pairs of a row, each text with itself among them, that compare does not find alike.
func Alike(rows [][]string, compare func(a, b string) int) []string {
	var wrong []string
	for _, row := range rows {
		for _, a := range row {
			for _, b := range row {
				if got := compare(a, b); got != 0 {
					wrong = append(wrong, strconv.Quote(a)+" to "+strconv.Quote(b)+" is "+strconv.Itoa(got)+", not alike")
				}
			}
		}
	}
	return wrong
}

// Order tells where compare is no order of a list: turned round it must be turned, go on from pair to pair, and what is alike must be alike with all.
func Order(l []string, compare func(a, b string) int) []string {
	answers := make([][]int, len(l))
	for i, a := range l {
		for _, b := range l {
			answers[i] = append(answers[i], compare(a, b))
		}
	}
	var wrong []string
	for i, a := range l {
		for j, b := range l {
			if answers[i][j] != -answers[j][i] {
				wrong = append(wrong, strconv.Quote(a)+" and "+strconv.Quote(b)+" turned round")
			}
			for k, c := range l {
				if !goesOn(answers[i][j], answers[j][k], answers[i][k]) {
					wrong = append(wrong, strconv.Quote(a)+", "+strconv.Quote(b)+", "+strconv.Quote(c))
				}
			}
		}
	}
	return wrong
}

// goesOn tells whether a to c may be so, where a to b and b to c are.
func goesOn(ab, bc, ac int) bool {
	if ab == 0 && ac != bc {
		return false
	}
	return ab > 0 || bc > 0 || ac <= 0
}

// Sorts tells where sort does not make a list again of itself in other orders, changes what it is given, or hands it out.
func Sorts(want []string, sort func([]string) []string) []string {
	var wrong []string
	for step := range 20 {
		room := append(mixed(want, step/2+1, step%2 > 0), "spare room")
		kept := slices.Clone(room)
		got := sort(room[:len(want)])
		if !slices.Equal(got, want) {
			wrong = append(wrong, "sorted at step "+strconv.Itoa(step)+": "+strconv.Quote(strings.Join(got, " ")))
		}
		clear(got)
		_ = append(got, "")
		if !slices.Equal(room, kept) {
			wrong = append(wrong, "changed at step "+strconv.Itoa(step))
		}
	}
	if len(sort(nil)) > 0 || len(sort([]string{})) > 0 {
		wrong = append(wrong, "something of nothing")
	}
	return wrong
}

// mixed is a list in another order (itself at step 1): what stands steps apart follows on each other, and all is perhaps turned round.
func mixed(l []string, step int, turned bool) []string {
	var m []string
	for start := range step {
		for i := start; i < len(l); i += step {
			m = append(m, l[i])
		}
	}
	if turned {
		slices.Reverse(m)
	}
	return m
}

// Stays tells where sort does not leave texts that are alike in their order. early is texts that are alike, late likewise, all of them behind those of early.
func Stays(early, late []string, sort func([]string) []string) []string {
	var l, first, last []string
	for i := range 200 {
		// Squares bring each list's texts in no even order.
		a, b := early[i*i%len(early)], late[(i*i+i/len(late))%len(late)]
		l, first, last = append(l, b, a), append(first, a), append(last, b)
	}
	if got := sort(l); !slices.Equal(got, slices.Concat(first, last)) {
		return []string{"the alike don't stay in their order: " + strconv.Quote(strings.Join(got, " "))}
	}
	return nil
}
