package shard

import (
	"strings"

	"careen/api"
	"careen/convert"
	"careen/record"
	"careen/sum"
	"careen/varint"
)

// giver puts a shard's parts one behind the other, by a version.
type giver struct {
	strings.Builder
	version int
}

// bytesOf is a right shard's bytes.
func bytesOf(v int, s api.Shard) (string, api.Errno) {
	g := giver{version: v}
	g.WriteString(letter(v))
	g.numbers(s.Id, s.Epoch, flag(s.Frozen), len(s.Table), len(s.Cache))
	for _, r := range s.Table {
		if e := g.record(r); e != api.OK {
			return "", e
		}
	}
	for _, d := range s.Cache {
		g.done(d)
	}
	g.WriteString(ending(v, g.String()))
	return g.String(), api.OK
}

// numbers puts numbers. A right shard's are all numbers that may be put, so no error is lost here.
func (g *giver) numbers(l ...int) {
	for _, n := range l {
		s, _ := varint.Put(n)
		g.WriteString(s)
	}
}

// text puts a text, and how many bytes it has ahead of it.
func (g *giver) text(s string) {
	g.numbers(len(s))
	g.WriteString(s)
}

// record puts a table's record, which is of version 2, as the giver's version writes it.
func (g *giver) record(r api.Record) api.Errno {
	own, e := convert.To(api.V2, g.version, r)
	if e != api.OK {
		return e
	}
	s, e := record.Encode(g.version, own)
	if e != api.OK {
		return e
	}
	g.text(s)
	return api.OK
}

// done puts a client's last call.
func (g *giver) done(d api.Done) {
	g.numbers(d.Client, d.Id, int(d.Reply.Errno), d.Reply.Rev)
	g.text(d.Reply.Value)
	g.numbers(len(d.Reply.Keys))
	for _, key := range d.Reply.Keys {
		g.text(key)
	}
}

// rest is what is left of a text. Where that ends too early, or is not what is to be taken, taking it ends by a panic: so what takes many things one behind the other need not ask behind each.
type rest struct {
	left string
}

// number takes a number.
func (r *rest) number() int {
	n, k, e := varint.Take(r.left)
	if e != api.OK {
		panic(e)
	}
	r.left = r.left[k:]
	return n
}

// upTo takes a number that is at most most. Counts are held to their limits here, ahead of what they count: else a great one would have much taken for nothing.
func (r *rest) upTo(most int) int {
	n := r.number()
	if n > most {
		panic(api.ErrForm)
	}
	return n
}

// bytes takes so many bytes.
func (r *rest) bytes(n int) string {
	if n > len(r.left) {
		panic(api.ErrCut)
	}
	s := r.left[:n]
	r.left = r.left[n:]
	return s
}

// text takes a text, ahead of which stands how many bytes it has.
func (r *rest) text() string {
	return r.bytes(r.number())
}

// taker takes a shard's parts from what is left, by a version.
type taker struct {
	rest
	version int
}

// taken is the right shard whose bytes a text is; false: there is none. Whether the shard is right is asked ahead of the sum, since one that is right has few bytes.
func taken(v int, s string) (x api.Shard, ok bool) {
	defer func() {
		if recover() != nil {
			x, ok = api.Shard{}, false
		}
	}()
	t := taker{rest: rest{left: s}, version: v}
	x = t.shard()
	return x, Right(x) && t.left == ending(v, s[:len(s)-len(t.left)])
}

// shard takes all but what a shard's bytes end with.
func (t *taker) shard() api.Shard {
	if t.bytes(1) != letter(t.version) {
		panic(api.ErrForm)
	}
	s := api.Shard{Id: t.number(), Epoch: t.number(), Frozen: t.upTo(1) == 1}
	records, replies := t.upTo(api.MaxKeys), t.upTo(api.MaxClients)
	for range records {
		s.Table = append(s.Table, t.record())
	}
	for range replies {
		s.Cache = append(s.Cache, t.done())
	}
	return s
}

// record takes a record, and makes it one of version 2, as a table's are.
func (t *taker) record() api.Record {
	own, e := record.Decode(t.version, t.text())
	if e != api.OK {
		panic(e)
	}
	r, e := convert.To(t.version, api.V2, own)
	if e != api.OK {
		panic(e)
	}
	return r
}

// done takes a client's last call.
func (t *taker) done() api.Done {
	d := api.Done{Client: t.number(), Id: t.number()}
	d.Reply = api.Reply{Errno: api.Errno(t.number()), Rev: t.number(), Value: t.text()}
	for range t.upTo(api.MaxScan) {
		d.Reply.Keys = append(d.Reply.Keys, t.text())
	}
	return d
}

// letter is what a shard's bytes begin with, by a version.
func letter(v int) string {
	if v == api.V1 {
		return "s"
	}
	return "t"
}

// ending is what a shard's bytes end with, by a version, behind all others.
func ending(v int, s string) string {
	if v == api.V1 {
		return ""
	}
	return sum.Bytes(sum.Of(s))
}

// flag is what stands for whether something is so.
func flag(is bool) int {
	if is {
		return 1
	}
	return 0
}
