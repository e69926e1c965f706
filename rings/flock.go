package rings

import "squeaker/api"

// question returns the first error of a question about some birds of a flock, but for that there is no truth.
func question(f api.Flock, birds ...int) api.Errno {
	if e := Check(f); e != api.OK {
		return e
	}
	if manyPedigrees(f.Birds) > api.MaxTrees {
		return api.ErrMany
	}
	for _, b := range birds {
		if !within(b, 0, len(f.Birds)-1) {
			return api.ErrArg
		}
	}
	return api.OK
}

func validBird(birds []api.Bird, i int) bool {
	b := birds[i]
	return within(b.Ring, 0, api.MaxRing) &&
		(b.Sex == api.Cock || b.Sex == api.Hen) &&
		0 <= b.Born.Low && b.Born.Low <= b.Born.High && b.Born.High <= api.MaxYear &&
		validParents(birds, i, b.Sires, api.Cock) &&
		validParents(birds, i, b.Dams, api.Hen)
}

// validParents tells whether some numbers can be the possible parents of one sex of the bird i.
func validParents(birds []api.Bird, i int, parents []int, sex int) bool {
	if len(parents) > api.MaxMay {
		return false
	}
	before := nobody
	for _, p := range parents {
		if p <= before || p >= len(birds) || p == i || birds[p].Sex != sex {
			return false
		}
		before = p
	}
	return true
}

func within(n, low, high int) bool { return low <= n && n <= high }
