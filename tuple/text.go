package tuple

import (
	"strconv"
	"strings"

	"goit/api"
)

// Names of protocols.
const (
	tcp     = "tcp"
	udp     = "udp"
	unknown = "?"
)

// Addr is an address as text.
func Addr(a uint32) string {
	var parts []string
	for shift := 24; shift >= 0; shift -= 8 {
		parts = append(parts, strconv.Itoa(int(byte(a>>shift))))
	}
	return strings.Join(parts, ".")
}

// ParseAddr is the address whose text s is.
func ParseAddr(s string) (uint32, bool) {
	var a uint32
	for _, part := range strings.Split(s, ".") {
		n, e := strconv.ParseUint(part, 10, 8)
		if e != nil {
			return 0, false
		}
		a = a<<8 | uint32(n)
	}
	if Addr(a) != s { // another number of parts, needless noughts
		return 0, false
	}
	return a, true
}

// Text is a tuple as text.
func Text(t api.Tuple) string {
	return name(t.Proto) + " " + end(t.Src, t.Sport) + ">" + end(t.Dst, t.Dport)
}

func name(proto int) string {
	switch proto {
	case api.TCP:
		return tcp
	case api.UDP:
		return udp
	}
	return unknown
}

func end(addr uint32, port int) string { return Addr(addr) + ":" + strconv.Itoa(port) }

// Parse is the tuple whose text s is.
func Parse(s string) (api.Tuple, bool) {
	proto, ends, _ := strings.Cut(s, " ")
	from, to, _ := strings.Cut(ends, ">")
	t := api.Tuple{Proto: number(proto)}
	t.Src, t.Sport = parseEnd(from)
	t.Dst, t.Dport = parseEnd(to)
	if !May(t) || Text(t) != s { // a part that is none has become another one
		return api.Tuple{}, false
	}
	return t, true
}

// number is the protocol of a name, 0 if there is none.
func number(name string) int {
	switch name {
	case tcp:
		return api.TCP
	case udp:
		return api.UDP
	}
	return 0
}

// parseEnd is an address and a port, or zero values: Parse holds them against the text.
func parseEnd(s string) (uint32, int) {
	addr, port, _ := strings.Cut(s, ":")
	a, _ := ParseAddr(addr)
	n, _ := strconv.Atoi(port)
	return a, n
}
