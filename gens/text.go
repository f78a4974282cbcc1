package gens

import (
	"strconv"
	"strings"

	"goit/api"
	"goit/tuple"
)

const (
	none    = "-"
	between = ","
)

// Text is a set as text.
func Text(l []api.Backend) string {
	if len(l) == 0 {
		return none
	}
	var parts []string
	for _, b := range l {
		parts = append(parts, strconv.Itoa(b.Id)+"@"+tuple.Addr(b.Addr)+"*"+strconv.Itoa(b.Weight))
	}
	return strings.Join(parts, between)
}

// Parse is the set whose text s is.
func Parse(s string) ([]api.Backend, bool) {
	var l []api.Backend
	if s != none {
		for _, part := range strings.Split(s, between) {
			l = append(l, parseOne(part))
		}
	}
	if !May(l) || Text(l) != s { // a part that is none has become another one
		return nil, false
	}
	return l, true
}

// parseOne is a backend, or one with zero values: Parse holds it against the text.
func parseOne(s string) api.Backend {
	id, rest, _ := strings.Cut(s, "@")
	addr, weight, _ := strings.Cut(rest, "*")
	var b api.Backend
	b.Id, _ = strconv.Atoi(id)
	b.Addr, _ = tuple.ParseAddr(addr)
	b.Weight, _ = strconv.Atoi(weight)
	return b
}
