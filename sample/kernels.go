package sample

import (
	"anamorph/api"
	"anamorph/cubic"
	"anamorph/linear"
	"anamorph/near"
)

// names are those of the kernels.
var names = [...]string{
	api.Near:   "near",
	api.Linear: "linear",
	api.Cubic:  "cubic",
	api.Super:  "super",
}

// kernel is what a kernel tells of a place, and of which columns it asks.
type kernel struct {
	by    func(get near.Get, c int, u, v int64) []byte
	reach func(lo, hi int64) (int64, int64)
}

// kernels is the four of them.
func kernels() [4]kernel {
	between := kernel{linear.By, linear.Reach}
	return [...]kernel{
		api.Near:   {near.By, near.Reach},
		api.Linear: between,
		api.Cubic:  {cubic.By, cubic.Reach},
		api.Super:  between, // at each of its places
	}
}

// Reach is the least and the greatest column that a kernel asks for.
func Reach(kernel int, lo, hi int64) (int64, int64) {
	if !is(kernel) {
		return 0, 0
	}
	return kernels()[kernel].reach(lo, hi)
}

// Name is a kernel's name.
func Name(kernel int) string {
	if !is(kernel) {
		return ""
	}
	return names[kernel]
}

// Named is the kernel of a name; false: there is none.
func Named(s string) (int, bool) {
	for kernel, name := range names {
		if name == s {
			return kernel, true
		}
	}
	return 0, false
}

// is tells whether there is such a kernel.
func is(kernel int) bool { return api.Near <= kernel && kernel <= api.Super }
