package control

import (
	"cmp"
	"slices"

	"careen/api"
)

// rightMembers tells whether a controller's members may be, at its level.
func rightMembers(c api.Control) bool {
	if !within(len(c.Members), 1, api.MaxMembers) {
		return false
	}
	ahead := 0
	for _, m := range c.Members {
		if m.Name <= ahead || !isName(m.Name) || !isVersion(m.Bin) || m.Bin < c.Level {
			return false
		}
		ahead = m.Name
	}
	return true
}

// rightPlaces tells whether a controller's places may be, if its members may.
func rightPlaces(c api.Control) bool {
	return within(len(c.Places), 1, api.MaxShards) && !slices.ContainsFunc(c.Places, func(p api.Place) bool {
		_, there := find(c.Members, p.Owner)
		return !there || !within(p.Epoch, 1, api.MaxNum) || !mayMove(c.Members, p)
	})
}

// mayMove tells whether a place may move to whom it does.
func mayMove(l []api.Member, p api.Place) bool {
	_, there := find(l, p.To)
	return p.To == 0 || there && p.To != p.Owner
}

// changed is a controller of which one place was changed. What is changed is a copy, so that with an error the controller is as it was.
func changed(c api.Control, shard int, change func(p *api.Place) api.Errno) (api.Control, api.Errno) {
	if !Right(c) {
		return c, api.ErrArg
	}
	if !within(shard, 0, len(c.Places)-1) {
		return c, api.ErrShard
	}
	next := owned(c)
	if fault := change(&next.Places[shard]); fault != api.OK {
		return c, fault
	}
	return next, api.OK
}

// loadOf is how many places a member has, what is on its way counted where it goes.
func loadOf(l []api.Place, name int) int {
	n := 0
	for _, p := range l {
		if p.To == name || p.To == 0 && p.Owner == name {
			n++
		}
	}
	return n
}

// find is where a member stands in a list that may be, or is to stand, and whether it is there.
func find(l []api.Member, name int) (int, bool) {
	return slices.BinarySearchFunc(l, name, func(m api.Member, name int) int {
		return cmp.Compare(m.Name, name)
	})
}

// owned is a controller in new memory: who has the one may write into it, while another has the other.
func owned(c api.Control) api.Control {
	c.Members, c.Places = slices.Clone(c.Members), slices.Clone(c.Places)
	return c
}

func isVersion(v int) bool {
	return v == api.V1 || v == api.V2
}

func isName(n int) bool {
	return within(n, 1, api.MaxName)
}

func within(n, low, high int) bool {
	return n >= low && n <= high
}
