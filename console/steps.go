package console

import (
	"strconv"

	"goit/api"
	"goit/gens"
)

// step is the step that words say.
func step(word string, args []string) (api.Step, bool) {
	switch word {
	case "tick":
		return counted(api.STick, args)
	case "fault":
		return counted(api.SFault, args)
	case "upgrade":
		return counted(api.SUpgrade, args)
	case "sync":
		return api.Step{Kind: api.SSync}, len(args) == 0
	case "compact":
		return api.Step{Kind: api.SCompact}, len(args) == 0
	case "gen":
		return generation(args)
	case "drain":
		n, ok := numbers(args, 2)
		return api.Step{Kind: api.SDrain, Backend: n[0], N: n[1]}, ok
	case "clear":
		n, ok := numbers(args, 1)
		return api.Step{Kind: api.SClear, Backend: n[0]}, ok
	case "crash":
		picks, ok := onlyHex(args)
		return api.Step{Kind: api.SCrash, Picks: picks}, ok
	case "hand":
		return handOff(args)
	}
	return api.Step{}, false
}

func counted(kind int, args []string) (api.Step, bool) {
	n, ok := numbers(args, 1)
	return api.Step{Kind: kind, N: n[0]}, ok
}

func generation(args []string) (api.Step, bool) {
	if len(args) != 1 {
		return api.Step{}, false
	}
	l, ok := gens.Parse(args[0])
	return api.Step{Kind: api.SGen, Backends: l}, ok
}

// handOff is one that is cut somewhere, or, without words, nowhere.
func handOff(args []string) (api.Step, bool) {
	if len(args) == 0 {
		return api.Step{Kind: api.SHand, N: -1}, true
	}
	n, ok := numbers(args, 2)
	return api.Step{Kind: api.SHand, N: n[0], X: n[1]}, ok
}

// numbers is what args say, if they are so many decimals; if not, as many noughts.
func numbers(args []string, many int) ([]int, bool) {
	l := make([]int, many)
	if len(args) != many {
		return l, false
	}
	for i, word := range args {
		n, e := strconv.Atoi(word)
		if e != nil || strconv.Itoa(n) != word { // a plus, needless noughts
			return make([]int, many), false
		}
		l[i] = n
	}
	return l, true
}
