package console_test

import (
	"encoding/hex"
	"strings"
	"testing"

	"goit/api"
	"goit/balancer"
	"goit/console"
	"goit/encap"
	"goit/ip"
	"goit/state"
	"goit/tuple"
)

// says speaks lines to a console: each is a line, and behind it what it tells.
func says(t *testing.T, c *console.Console, lines ...string) {
	t.Helper()
	for i := 0; i+1 < len(lines); i += 2 {
		if got := c.Line(lines[i]); got != lines[i+1] {
			t.Errorf("%q tells %q, not %q", lines[i], got, lines[i+1])
		}
	}
}

const (
	one  = "tcp 1.2.3.4:5>6.7.8.9:80"
	two  = "udp 1.2.3.4:6>6.7.8.9:53"
	pool = "1@10.0.0.9*1"
)

// packet is the bytes of a packet of a tuple, as text.
func packet(t *testing.T, text string, ttl int) string {
	t.Helper()
	k, ok := tuple.Parse(text)
	if !ok {
		t.Fatalf("%q", text)
	}
	body := []byte{byte(k.Sport >> 8), byte(k.Sport), byte(k.Dport >> 8), byte(k.Dport), 0, 8, 0, 0}
	if k.Proto == api.TCP {
		body = append(body[:4], 0, 0, 0, 0, 0, 0, 0, 0, 0x50, 0, 0, 0, 0, 0, 0, 0)
	}
	b := append(ip.Build(api.Header{Len: 20 + len(body), TTL: ttl, Proto: k.Proto, Src: k.Src, Dst: k.Dst}), body...)
	return hex.EncodeToString(b)
}

// P26.1
func TestNew(t *testing.T) {
	c := console.New()
	says(t, c, "flows", "", "backends", "-", "drains", "", "files", "m s000001", "now", "0", "gen", "0", "version", "3", "lost", "0", "sick", "no")
	if b := c.Balancer(); b == nil || b.Disk().Quota() != 20000 || b.Version() != 3 {
		t.Error("Balancer")
	}
}

// P26.1: how many flows, how long, how great a packet, how long a segment
func TestWhatABalancerIsAtFirst(t *testing.T) {
	c := console.New()
	says(t, c, "gen "+pool, "ok", "tick 11", "ok", "now", "11")
	for _, port := range strings.Fields("11 12 13 14 15 16 17 18 19") {
		says(t, c, "send tcp 1.2.3.4:"+port+">6.7.8.9:80", "to 1")
	}
	if got := c.Line("flows"); strings.Count(got, ";") != 7 || strings.Contains(got, ":19>") || !strings.HasSuffix(got, "=1/1@11") {
		t.Errorf("flows %s", got)
	}
	says(t, c, "tick 29", "ok")
	if got := c.Line("flows"); strings.Count(got, ";") != 7 {
		t.Errorf("flows %s", got)
	}
	says(t, c, "tick 1", "ok", "flows", "", "now", "41")
	for length, want := range map[int]string{1480: "to 1:", 1481: "drop 11"} {
		b := append(ip.Build(api.Header{Len: length, TTL: 9, Proto: api.UDP}), 0, 1, 0, 2, 0, 8, 0, 0)
		b = append(b, make([]byte, length-len(b))...)
		if got := c.Line("packet " + hex.EncodeToString(b)); !strings.HasPrefix(got, want) {
			t.Errorf("of %d bytes: %.20s", length, got)
		}
	}
	c = console.New() // 28 bytes of a generation, and 43 of each flow: 200
	says(t, c, "gen "+pool, "ok", "send tcp 1.2.3.4:1>6.7.8.9:80", "to 1", "send tcp 1.2.3.4:2>6.7.8.9:80", "to 1", "send tcp 1.2.3.4:3>6.7.8.9:80", "to 1", "send tcp 1.2.3.4:4>6.7.8.9:80", "to 1", "files", "m s000001")
	c = console.New() // three flows, and 26 of a drain, and 18 of its end: 201
	says(t, c, "gen "+pool, "ok", "send tcp 1.2.3.4:1>6.7.8.9:80", "to 1", "send tcp 1.2.3.4:2>6.7.8.9:80", "to 1", "send tcp 1.2.3.4:3>6.7.8.9:80", "to 1", "drain 1 9", "ok", "files", "m s000001", "clear 1", "ok", "files", "m s000001 s000002")
}

// P26.1
func TestGenAndPackets(t *testing.T) {
	c := console.New()
	says(t, c, "send "+one, "drop 10", "gen "+pool, "ok", "backends", pool, "gen", "1", "send "+one, "to 1", "flows", one+"=1/1@0",
		"tick 7", "ok", "now", "7", "send "+two, "to 1", "flows", one+"=1/1@0; "+two+"=1/1@7")
	says(t, c, "gen 2@0.0.0.7*3,5@0.0.0.8*10", "ok", "backends", "2@0.0.0.7*3,5@0.0.0.8*10", "gen", "2", "gen -", "ok", "backends", "-", "gen", "3", "send "+one, "drop 10")
}

// P26.1
func TestPacket(t *testing.T) {
	c := console.New()
	b := packet(t, one, 9)
	raw, _ := hex.DecodeString(b)
	wrapped, _ := encap.Wrap(raw, 10<<24|9<<16|9<<8|9, 10<<24|9, 1500)
	says(t, c, "packet -", "drop 1", "packet "+b, "drop 10", "gen "+pool, "ok", "packet "+b, "to 1:"+hex.EncodeToString(wrapped), "flows", one+"=1/1@0",
		"packet "+packet(t, two, 1), "drop 7", "packet 00", "drop 1", "packet "+b[:len(b)-2], "drop 5", "packet "+strings.Repeat("00", 2000), "drop 2")
}

// P26.1: the packet that is made of a tuple
func TestSend(t *testing.T) {
	for _, text := range []string{one, two, "tcp 255.255.255.255:65535>0.0.0.0:0", "udp 0.0.0.0:0>255.255.255.255:65535"} {
		a, b := console.New(), console.New()
		says(t, a, "gen "+pool, "ok", "send "+text, "to 1")
		says(t, b, "gen "+pool, "ok")
		if got := b.Line("packet " + packet(t, text, 64)); !strings.HasPrefix(got, "to 1:") {
			t.Errorf("%s: %s", text, got)
		}
		if a.Line("flows") != b.Line("flows") || a.Line("flows") != text+"=1/1@0" {
			t.Errorf("%s: %s", text, a.Line("flows"))
		}
	}
}

// P26.1
func TestSteps(t *testing.T) {
	c := console.New()
	says(t, c, "gen 1@0.0.0.1*1,2@0.0.0.2*1,3@0.0.0.3*1", "ok", "drain 2 9", "ok", "drain 1 7", "ok", "drains", "1@7 2@9", "clear 1", "ok", "drains", "2@9", "clear 1", "error 6", "drain 9 9", "error 6", "drain 1 0", "error 1",
		"tick 9", "ok", "backends", "1@0.0.0.1*1,3@0.0.0.3*1", "gen", "2", "tick 0", "ok", "tick -1", "error 1", "tick 1000001", "error 1", "now", "9")
	says(t, c, "sync", "ok", "compact", "ok", "files", "m s000002", "upgrade 3", "ok", "files", "m s000003", "upgrade 2", "error 10", "upgrade 4", "error 10")
}

// P26.1
func TestFaults(t *testing.T) {
	c := console.New()
	says(t, c, "gen "+pool, "ok", "fault 1", "ok", "send "+one, "to 1", "sick", "yes", "lost", "1", "sync", "error 12", "send "+two, "to 1", "lost", "2", "compact", "ok", "sick", "no", "lost", "2", "fault 1", "ok", "sync", "error 8", "sync", "ok")
	says(t, c, "tick 3", "ok", "crash -", "ok", "flows", one+"=1/1@3; "+two+"=1/1@3", "now", "3", "send tcp 1.2.3.4:7>6.7.8.9:80", "to 1", "crash 0000ff", "ok", "flows", one+"=1/1@3; "+two+"=1/1@3")
}

// P26.1
func TestHand(t *testing.T) {
	c := console.New()
	says(t, c, "gen "+pool, "ok", "send "+one, "to 1", "tick 2", "ok", "hand", "ok", "hand -1 5", "ok", "flows", one+"=1/1@0", "hand 5 0", "error 11", "flows", one+"=1/1@2", "hand 5 1", "error 11", "hand 0", "error 3", "hand 0 0 0", "error 3", "gen", "1")
}

// P26.1
func TestRenew(t *testing.T) {
	c := console.New()
	says(t, c, "gen "+pool, "ok", "tick 5", "ok", "new 12 8 30 3", "error 1", "new 13 8 30", "error 3", "new 13 8 30 4", "error 1", "new 13 -1 30 1", "error 1", "now", "5", "gen", "1")
	old := c.Balancer()
	says(t, c, "new 3 1 2 1", "ok", "now", "0", "gen", "0", "version", "1", "gen "+pool, "ok", "send "+one, "to 1", "send "+two, "to 1", "flows", one+"=1/1@0", "tick 1", "ok", "flows", one+"=1/1@0", "tick 1", "ok", "flows", "")
	if c.Balancer() == old || c.Balancer().Version() != 1 || old.Now() != 5 {
		t.Error("it is the old one")
	}
}

// P26.1
func TestSpaces(t *testing.T) {
	c := console.New()
	says(t, c, "", "", "   ", "", "  tick   3  ", "ok", " now ", "3", "\tnow", "error 3", "now\t", "error 3", "now\n", "error 3", "now\r", "error 3", "send  tcp   1.2.3.4:5>6.7.8.9:80 ", "drop 10")
}

// P26.1
func TestLinesThatAreNone(t *testing.T) {
	c := console.New()
	says(t, c, "gen "+pool, "ok", "tick 3", "ok", "send "+one, "to 1", "sync", "ok")
	was, ops := c.Balancer().State(), c.Balancer().Disk().Ops()
	for _, line := range []string{"x", "NOW", "nows", "now 1", "gen 1", "gen x", "gen " + pool + " " + pool, "gen 1@10.0.0.9*11", "gen 2@0.0.0.1*1,1@0.0.0.1*1", "gen -,-", "backends -", "flows 1", "drains 1", "files 1", "version 1", "lost 1", "sick 1",
		"packet", "packet 0", "packet 000", "packet 0g", "packet g0", "packet 00A0", "packet 0A", "packet 00 00", "packet --", "packet " + strings.Repeat("00", 2001),
		"send", "send tcp", "send tcp 1.2.3.4:5", "send icmp 1.2.3.4:5>6.7.8.9:80", "send " + one + " x", "send tcp 1.2.3.4:5>6.7.8.9:65536", "send ? 1.2.3.4:5>6.7.8.9:80",
		"tick", "tick x", "tick 1 1", "tick 01", "tick +1", "tick -0", "tick 1.0", "tick 0x1", "tick 1_0", "tick 9223372036854775808", "tick 99999999999999999999", "drain", "drain 1", "drain 1 x", "drain x 1", "drain 1 1 1", "clear", "clear x", "clear 1 1", "sync 1", "compact 1",
		"crash", "crash x", "crash 0", "crash 00 00", "crash " + strings.Repeat("00", 2001), "fault", "fault x", "upgrade", "upgrade x", "hand 1", "hand x x", "hand 1 1 1", "new", "new 13 8 30 x", "new 13 8 30 3 1"} {
		says(t, c, line, "error 3")
	}
	says(t, c, "tick 9223372036854775807", "error 1", "tick -9223372036854775808", "error 1")
	if !state.Same(c.Balancer().State(), was) || c.Balancer().Disk().Ops() != ops || c.Balancer().Now() != 3 {
		t.Error("lines that are none do something")
	}
}

// P26.1
func TestLongLines(t *testing.T) {
	c := console.New()
	says(t, c, "now"+strings.Repeat(" ", 4497), "0", "now"+strings.Repeat(" ", 4498), "error 3", strings.Repeat(" ", 4500), "", strings.Repeat(" ", 4501), "error 3")
}

// P26.1
func TestGone(t *testing.T) {
	c := console.New()
	says(t, c, "gen "+pool, "ok", "tick 3", "ok", "send "+one, "to 1")
	d := c.Balancer().Disk()
	if d.Remove("m") != api.OK || d.SyncDir() != api.OK {
		t.Fatal("m is there yet")
	}
	says(t, c, "crash -", "error 6", "now", "3", "flows", "", "gen", "0", "backends", "-", "version", "3", "send "+one, "error 12", "packet 00", "error 12", "tick 1", "error 12", "hand", "error 12", "fault 1", "error 12", "tick x", "error 3", "crash 01", "error 6", "new 13 8 30 3", "ok", "tick 1", "ok")
}

// P26.2
func TestRun(t *testing.T) {
	for lines, want := range map[string]string{
		"":        "",
		"\n\n":    "",
		"now":     "0\n",
		"now\n":   "0\n",
		"\nnow\n": "0\n",
		"gen " + pool + "\nsend " + one + "\nbackends": "ok\nto 1\n" + pool + "\n",
		"x\n  \nflows\ntick 2\nnow":                    "error 3\nok\n2\n",
		"now\r\nnow":                                   "error 3\n0\n",
		strings.Repeat("x", 4501) + "\nnow\n":          "error 3\n0\n",
	} {
		if got, e := console.Run([]byte(lines)); got != want || e != api.OK {
			t.Errorf("%q tells %q, %d", lines, got, e)
		}
	}
	most := []byte(strings.Repeat("now\n", 65536/4))
	if got, e := console.Run(most); e != api.OK || got != strings.Repeat("0\n", 65536/4) {
		t.Errorf("%d", e)
	}
	if got, e := console.Run(append(most, ' ')); e != api.ErrLong || got != "" {
		t.Errorf("more: %d", e)
	}
}

// R3
func TestNil(t *testing.T) {
	var c *console.Console
	if c.Line("now") != "" || c.Line(strings.Repeat(" ", 5000)) != "" || c.Balancer() != (*balancer.Balancer)(nil) {
		t.Error("a nil console has something")
	}
}

// P26.3
func TestRefusedLinesChangeNothing(t *testing.T) {
	a, b := console.New(), console.New()
	for _, line := range []string{"gen " + pool, "drain 1 5", "send " + one, "tick 2", "drain 2 3", "clear 7", "tick -1", "upgrade 1", "new 4 4 4 4", "tick 3", "gen 5@0.0.0.5*1", "send " + two, "drain 5 -1", "sync", "upgrade 9", "send " + one} {
		text := a.Line(line)
		if !strings.HasPrefix(text, "error") {
			b.Line(line)
		}
		if !state.Same(a.Balancer().State(), b.Balancer().State()) || !state.Same(a.Balancer().Sure(), b.Balancer().Sure()) || a.Balancer().Now() != b.Balancer().Now() || a.Balancer().Disk().Ops() != b.Balancer().Disk().Ops() {
			t.Errorf("%q (%s) changes something", line, text)
		}
	}
}
