package console

import (
	"strconv"
	"strings"

	"goit/api"
	"goit/gens"
	"goit/tuple"
)

// tell is what a word asks for that stands alone.
func (c *Console) tell(word string) (string, bool) {
	switch word {
	case "flows":
		return joined(c.b.State().Flows, flow, "; "), true
	case "backends":
		return gens.Text(c.b.State().Backends), true
	case "drains":
		return joined(c.b.State().Drains, drain, " "), true
	case "files":
		return strings.Join(c.b.Disk().Names(), " "), true
	case "now":
		return decimal(c.b.Now()), true
	case "gen":
		return decimal(c.b.State().Gen), true
	case "version":
		return decimal(c.b.Version()), true
	case "lost":
		return decimal(c.b.Lost()), true
	case "sick":
		return yesOrNo(c.b.Sick()), true
	}
	return "", false
}

// joined is the texts of l, with something between.
func joined[T any](l []T, text func(x T) string, between string) string {
	var parts []string
	for _, x := range l {
		parts = append(parts, text(x))
	}
	return strings.Join(parts, between)
}

func flow(f api.Flow) string {
	return tuple.Text(f.Tuple) + "=" + decimal(f.Backend) + "/" + decimal(f.Gen) + "@" + decimal(f.Seen)
}

func drain(d api.Drain) string { return decimal(d.Backend) + "@" + decimal(d.Until) }

func decimal[N int | int64](n N) string { return strconv.FormatInt(int64(n), 10) }

func yesOrNo(yes bool) string {
	if yes {
		return "yes"
	}
	return "no"
}
