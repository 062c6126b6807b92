package rules

import "chandlery/api"

// job: what the job asks for is done, by its Kind.
func (k *maker) job(x api.Item) [][]int {
	ways := map[uint8]func(meant []int) [][]int{
		api.Install: k.install,
		api.Erase:   k.erase,
		api.Upgrade: k.upgrade,
		api.Sync:    k.sync,
	}
	return ways[k.jobs[x.P].Kind](k.ask.Meant(x.P))
}

// install: one of those that are meant is there.
func (k *maker) install(meant []int) [][]int { return oneOf(meant...) }

// erase: none of those that are meant is there.
func (k *maker) erase(meant []int) [][]int { return noneOf(meant) }

// upgrade: of each that is meant there is a successor.
func (k *maker) upgrade(meant []int) [][]int { return followed(meant, k.ask.Successors) }

// sync: of each that is meant, and that has newcomers, there is one of these.
func (k *maker) sync(meant []int) [][]int { return followed(meant, k.ask.Newcomers) }

// followed asks, for each of some packages, for one of those that may follow it, if there are any.
func followed(meant []int, by func(i int) []int) [][]int {
	var lists [][][]int
	for _, i := range meant {
		if l := by(i); len(l) > 0 {
			lists = append(lists, oneOf(l...))
		}
	}
	return collected(lists...)
}
