package infer

import (
	"metaprune/api"
	"metaprune/trees"
)

// isCase: is ty what p becomes, if some types stand for p's bases?
func isCase(p, ty api.Type) bool {
	stands := map[int]api.Type{}
	var fits func(p, ty api.Type) bool
	fits = func(p, ty api.Type) bool {
		if len(p.Subs) == 0 {
			x, ok := stands[p.Base]
			if !ok {
				stands[p.Base] = ty
			}
			return !ok || isSame(x, ty)
		}
		return len(ty.Subs) == 2 && fits(p.Subs[0], ty.Subs[0]) && fits(p.Subs[1], ty.Subs[1])
	}
	return fits(p, ty)
}

func isSame(a, b api.Type) bool { return trees.Same(a, b, subsOf, isAlike) }

func isAlike(a, b api.Type) bool { return a.Base == b.Base }
