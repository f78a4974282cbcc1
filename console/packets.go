package console

import (
	"strconv"
	"strings"

	"goit/api"
	"goit/ip"
	"goit/octet"
	"goit/tuple"
)

const (
	headLen  = 20 // of IP
	ttl      = 64
	tcpWords = 5
	udpLen   = 8
	digits   = "0123456789abcdef"
	nothing  = "-"
)

// packet hands a packet in, and tells what came of it, and the packet.
func (c *Console) packet(args []string) (string, api.Errno) {
	b, ok := onlyHex(args)
	if !ok {
		return "", api.ErrForm
	}
	o, e := c.b.Do(api.Step{Kind: api.SPacket, Data: b})
	text := outcome(o)
	if o.Verdict == api.VForward {
		text += ":" + hex(o.Packet)
	}
	return text, e
}

// send hands in a packet made of a tuple.
func (c *Console) send(args []string) (string, api.Errno) {
	t, ok := tuple.Parse(strings.Join(args, " "))
	if !ok {
		return "", api.ErrForm
	}
	o, e := c.b.Do(api.Step{Kind: api.SPacket, Data: made(t)})
	return outcome(o), e
}

func outcome(o api.Out) string {
	if o.Verdict == api.VForward {
		return "to " + strconv.Itoa(o.Backend)
	}
	return "drop " + strconv.Itoa(o.Reason)
}

// made is a packet of a tuple, with nothing in it.
func made(t api.Tuple) []byte {
	var w octet.Writer
	w.U16(t.Sport)
	w.U16(t.Dport)
	if t.Proto == api.TCP {
		w.Raw(make([]byte, 8))
		w.U8(tcpWords << 4)
		w.Raw(make([]byte, 7))
	} else {
		w.U16(udpLen)
		w.U16(0)
	}
	head := ip.Build(api.Header{Len: headLen + w.Len(), TTL: ttl, Proto: t.Proto, Src: t.Src, Dst: t.Dst})
	return append(head, w.Bytes()...)
}

func hex(b []byte) string {
	var s strings.Builder
	for _, x := range b {
		s.WriteByte(digits[x>>4])
		s.WriteByte(digits[x&15])
	}
	return s.String()
}

// onlyHex is the bytes of the only word there is.
func onlyHex(args []string) ([]byte, bool) {
	if len(args) != 1 {
		return nil, false
	}
	return parseHex(args[0])
}

func parseHex(s string) ([]byte, bool) {
	if s == nothing {
		return nil, true
	}
	if len(s)%2 != 0 || len(s) > 2*api.MaxPacket {
		return nil, false
	}
	var b []byte
	for i := 0; i < len(s); i += 2 {
		high, low := strings.IndexByte(digits, s[i]), strings.IndexByte(digits, s[i+1])
		if high < 0 || low < 0 {
			return nil, false
		}
		b = append(b, byte(high<<4|low))
	}
	return b, true
}
