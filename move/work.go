package move

import (
	"slices"

	"careen/api"
	"careen/host"
	"careen/journal"
	"careen/shard"
)

// work is a move that goes on, or is given up, in memory that nobody else has, and its hosts. With an error it is thrown away: so what was done to it ahead of that need not be undone.
type work struct {
	api.Move
	from, to api.Host
}

// doing is what a stage does.
type doing func(w *work) api.Errno

// steps has, by the stage, how a move goes on.
func steps() map[int]doing {
	return map[int]doing{
		api.MoveBegun:  (*work).freeze,
		api.MoveFrozen: (*work).carry,
		api.MoveThere:  (*work).drop,
	}
}

// gives has, by the stage, how a move is given up: behind MoveFrozen the new one has the shard, and may have changed it.
func gives() map[int]doing {
	return map[int]doing{
		api.MoveBegun:  (*work).end,
		api.MoveFrozen: (*work).thaw,
	}
}

// do does what its stage does, of those that there are.
func (w *work) do(does map[int]doing) api.Errno {
	doStage, known := does[w.Stage]
	if !known {
		return api.ErrArg
	}
	return doStage(w)
}

// freeze freezes the shard where it is: its bytes are told ahead of that, since one that can't be told is to be served on.
func (w *work) freeze() api.Errno {
	if fault := w.tell(); fault != api.OK {
		return fault
	}
	return w.reach(api.MoveFrozen, w.put(&w.from, api.EntFreeze, ""))
}

// carry lets one more part come; when all are there, the new one adopts the shard, if it can still read them.
func (w *work) carry() api.Errno {
	if w.Come < len(w.Parts) {
		w.Come++
		return api.OK
	}
	v, _, fault := journal.Load(w.to.Disk)
	if fault != api.OK {
		return fault
	}
	if v != w.Version {
		return w.tell()
	}
	return w.reach(api.MoveThere, w.put(&w.to, api.EntAdopt, Join(w.Parts)))
}

// drop drops the shard where it was. That it is there no more already is no error: there is nothing else to come.
func (w *work) drop() api.Errno {
	fault := w.put(&w.from, api.EntDrop, "")
	if fault == api.ErrShard {
		fault = api.OK
	}
	return w.reach(api.MoveDone, fault)
}

// end gives up what did nothing yet.
func (w *work) end() api.Errno {
	return w.reach(api.MoveEnded, api.OK)
}

// thaw lets the shard be written again where it is.
func (w *work) thaw() api.Errno {
	w.Parts = nil
	return w.reach(api.MoveEnded, w.put(&w.from, api.EntThaw, ""))
}

// tell tells the shard's bytes anew, as the new one is to have it, in the format of its disk; none of them came yet.
func (w *work) tell() api.Errno {
	_, l, fault := journal.Load(w.from.Disk)
	if fault != api.OK {
		return fault
	}
	v, _, fault := journal.Load(w.to.Disk)
	if fault != api.OK {
		return fault
	}
	i := slices.IndexFunc(l, func(s api.Shard) bool { return s.Id == w.Shard })
	if i < 0 {
		return api.ErrShard
	}
	s := l[i]
	if s.Epoch >= w.Epoch { // two hosts would have it in one epoch
		return api.ErrArg
	}
	s.Epoch, s.Frozen = w.Epoch, false
	data, fault := shard.Encode(v, s)
	if fault != api.OK {
		return fault
	}
	w.Version, w.Parts, w.Come = v, Split(data), 0
	return api.OK
}

// put puts an entry of the move's shard on one of its hosts.
func (w *work) put(h *api.Host, kind int, data string) api.Errno {
	next, fault := host.Put(*h, api.Entry{Kind: kind, Shard: w.Shard, Data: data})
	*h = next
	return fault
}

// reach brings the move to a stage, unless there was an error on the way.
func (w *work) reach(stage int, fault api.Errno) api.Errno {
	if fault == api.OK {
		w.Stage = stage
	}
	return fault
}
