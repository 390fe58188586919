package host

import (
	"slices"

	"careen/api"
	"careen/disk"
	"careen/journal"
	"careen/shard"
)

// worker is a host that works, and the first error that it met. Behind an error it does nothing any more, so that the host is as it was.
type worker struct {
	api.Host
	fault api.Errno
}

// keep keeps an error, if it is the first one.
func (w *worker) keep(fault api.Errno) {
	if w.fault == api.OK {
		w.fault = fault
	}
}

// refuse keeps an error, where it applies.
func (w *worker) refuse(applies bool, fault api.Errno) {
	if applies {
		w.keep(fault)
	}
}

// load is its disk's format, and its shards.
func (w *worker) load() (int, []api.Shard) {
	if w.fault != api.OK {
		return 0, nil
	}
	v, l, fault := journal.Load(w.Disk)
	w.keep(fault)
	return v, l
}

// write puts an entry behind its log, where it pends.
func (w *worker) write(e api.Entry) {
	if w.fault == api.OK {
		w.Disk, w.fault = journal.Write(w.Disk, e)
	}
}

// sync lets last what pends.
func (w *worker) sync() {
	if w.fault == api.OK {
		w.Disk = disk.Sync(w.Disk)
	}
}

// rewrite writes all of its disk anew, in a format.
func (w *worker) rewrite(v int) {
	if w.fault == api.OK {
		w.Disk, w.fault = journal.Rewrite(w.Disk, v)
	}
}

// rise lets it be up, with a binary.
func (w *worker) rise(bin int) {
	if w.fault == api.OK {
		w.Up, w.Bin = true, bin
	}
}

// ask asks a call of its shard, and tells the reply, and whether the call was written. Then it pends: the power may go ahead of the sync.
func (w *worker) ask(c api.Call) (api.Reply, bool) {
	w.refuse(!w.Up, api.ErrDown)
	v, l := w.load()
	i := slices.IndexFunc(l, func(s api.Shard) bool { return s.Id == c.Shard })
	if i < 0 {
		w.keep(api.ErrShard)
		return api.Reply{Errno: w.fault}, false
	}
	_, r, changed := shard.Ask(v, l[i], c)
	if changed {
		w.writeCall(c)
	}
	if w.fault != api.OK {
		return api.Reply{Errno: w.fault}, false
	}
	return r, changed
}

// writeCall writes a call that a shard did: the log has the call itself, and who loads it does it again.
func (w *worker) writeCall(c api.Call) {
	data, fault := journal.Call(c)
	w.keep(fault)
	w.write(api.Entry{Kind: api.EntCall, Shard: c.Shard, Data: data})
}
