// Package equate: what makes terms one; of equations that were asked already whether
// they may be. There may be more of them than a list that is given has, and their
// terms may have more knots, up to MaxGrown.
package equate

import "metaprune/api"

// Solve is what stands for variables, so that all equations hold: as little as may be.
func Solve(l []api.Pair) ([]api.Bind, api.Errno) {
	if e := refusal(l); e != api.OK {
		return nil, e
	}
	return solve(l)
}
