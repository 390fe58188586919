package journal

import (
	"cmp"
	"slices"

	"careen/api"
	"careen/shard"
)

// work is right shards whose Ids rise, in memory that nobody else has, and the version by which entries are applied to them.
type work struct {
	version int
	shards  []api.Shard
}

// doing is what an entry does. With an error it did nothing.
type doing func(e api.Entry) api.Errno

// does has, by its kind, what each entry does.
func (w *work) does() map[int]doing {
	return map[int]doing{
		api.EntAdopt:  w.adopt,
		api.EntDrop:   w.drop,
		api.EntCall:   w.call,
		api.EntFreeze: w.freeze,
		api.EntThaw:   w.thaw,
	}
}

// apply applies entries, one behind the other, up to the first one that can't be.
func (w *work) apply(l ...api.Entry) api.Errno {
	does := w.does()
	for _, e := range l {
		do, known := does[e.Kind]
		if !known {
			return api.ErrArg
		}
		if fault := do(e); fault != api.OK {
			return fault
		}
	}
	return api.OK
}

// mayWrite tells what is wrong with an entry that is to be written. It is tried on the work itself, which is given up behind that.
func (w *work) mayWrite(e api.Entry) api.Errno {
	if w.version == api.V1 && marks(e) {
		return api.ErrVersion
	}
	return w.apply(e)
}

func (w *work) adopt(e api.Entry) api.Errno {
	s, fault := shard.Decode(w.version, e.Data)
	if fault != api.OK || s.Id != e.Shard {
		return api.ErrForm
	}
	i, there := w.find(s.Id)
	if !there {
		w.shards = slices.Insert(w.shards, i, s)
	}
	w.shards[i] = s
	return api.OK
}

func (w *work) drop(e api.Entry) api.Errno {
	i, fault := w.bare(e)
	if fault == api.OK {
		w.shards = slices.Delete(w.shards, i, i+1)
	}
	return fault
}

func (w *work) call(e api.Entry) api.Errno {
	c, ok := callOf(e.Data)
	if !ok || c.Shard != e.Shard {
		return api.ErrForm
	}
	i, there := w.find(e.Shard)
	if !there {
		return api.ErrShard
	}
	w.shards[i], _, _ = shard.Ask(w.version, w.shards[i], c) // a call that is refused leaves the shard as it was: that is no error here
	return api.OK
}

func (w *work) freeze(e api.Entry) api.Errno {
	return w.setFrozen(e, true)
}

func (w *work) thaw(e api.Entry) api.Errno {
	return w.setFrozen(e, false)
}

func (w *work) setFrozen(e api.Entry, frozen bool) api.Errno {
	i, fault := w.bare(e)
	if fault == api.OK {
		w.shards[i].Frozen = frozen
	}
	return fault
}

// bare is where the shard of an entry stands that has no Data.
func (w *work) bare(e api.Entry) (int, api.Errno) {
	if e.Data != "" {
		return 0, api.ErrArg
	}
	i, there := w.find(e.Shard)
	if !there {
		return 0, api.ErrShard
	}
	return i, api.OK
}

// find is where the shard of an Id stands, or is to stand, and whether it is there.
func (w *work) find(id int) (int, bool) {
	return slices.BinarySearchFunc(w.shards, id, func(s api.Shard, id int) int {
		return cmp.Compare(s.Id, id)
	})
}

// marks tells whether an entry is a call that only version 2 knows.
func marks(e api.Entry) bool {
	c, ok := callOf(e.Data)
	return e.Kind == api.EntCall && ok && c.Op.Kind == api.OpMark
}

// copied are shards in new memory, all lists within them, too.
func copied(l []api.Shard) []api.Shard {
	all := slices.Clone(l)
	for i := range all {
		all[i].Table = slices.Clone(all[i].Table)
		for k := range all[i].Table {
			r := &all[i].Table[k]
			r.Extra = slices.Clone(r.Extra)
		}
		all[i].Cache = slices.Clone(all[i].Cache)
		for k := range all[i].Cache {
			r := &all[i].Cache[k].Reply
			r.Keys = slices.Clone(r.Keys)
		}
	}
	return all
}
