package pairs

import (
	"slices"

	"squeaker/api"
)

// validAviary tells whether an aviary with a valid flock is valid.
func validAviary(a api.Aviary) bool {
	return isIn(a.Limit.Den, 1, api.MaxDen) && isIn(a.Limit.Num, 0, a.Limit.Den) &&
		isIn(a.Boxes, 0, api.MaxBirds) && validMatches(a)
}

func validMatches(a api.Aviary) bool {
	if len(a.Matches) > api.MaxMatches {
		return false
	}
	for i, m := range a.Matches {
		again := func(other api.Match) bool { return other.Cock == m.Cock && other.Hen == m.Hen }
		if !validMatch(a.Flock.Birds, m) || slices.ContainsFunc(a.Matches[:i], again) {
			return false
		}
	}
	return true
}

func validMatch(birds []api.Bird, m api.Match) bool {
	return isOfSex(birds, m.Cock, api.Cock) && isOfSex(birds, m.Hen, api.Hen) && isIn(m.Worth, 1, api.MaxWorth)
}

func isOfSex(birds []api.Bird, n, sex int) bool {
	return isIn(n, 0, len(birds)-1) && birds[n].Sex == sex
}

func validShed(s api.Shed) bool {
	tooLong := func(light int) bool { return !isIn(light, 0, api.MaxLight) }
	return isIn(len(s.Light), 1, api.MaxLights) && !slices.ContainsFunc(s.Light, tooLong) &&
		isIn(s.Dark, 0, api.MaxLight) && isIn(s.Need, 1, api.MaxNeed) && isIn(s.Row, 0, api.MaxLights)
}

func isIn(n, low, high int) bool { return low <= n && n <= high }
