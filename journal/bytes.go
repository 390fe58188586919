package journal

import (
	"strconv"
	"strings"

	"careen/api"
	"careen/frame"
	"careen/shard"
	"careen/varint"
)

const maxText = 1000 // bytes of a call's text

// numbers and texts are a call's, in the order of its bytes: who writes them and who reads them go through the same ones.
func numbers(c *api.Call) [7]*int {
	return [...]*int{&c.Shard, &c.Epoch, &c.Client, &c.Id, &c.Op.Kind, &c.Op.Rev, &c.Op.Life}
}

func texts(c *api.Call) [4]*string {
	return [...]*string{&c.Op.Key, &c.Op.Value, &c.Op.To, &c.Op.Note}
}

// bytesOf is a call's bytes.
func bytesOf(c api.Call) (string, api.Errno) {
	var b strings.Builder
	for _, n := range numbers(&c) {
		s, fault := varint.Put(*n)
		if fault != api.OK {
			return "", fault
		}
		b.WriteString(s)
	}
	for _, text := range texts(&c) {
		if len(*text) > maxText {
			return "", api.ErrArg
		}
		b.WriteString(sized(*text))
	}
	return b.String(), api.OK
}

// callOf is the call whose bytes a text is; false: there is none.
func callOf(s string) (api.Call, bool) {
	var c api.Call
	ok := true
	for _, n := range numbers(&c) {
		if *n, s, ok = takeNumber(s); !ok {
			return api.Call{}, false
		}
	}
	for _, text := range texts(&c) {
		if *text, s, ok = takeText(s); !ok || len(*text) > maxText {
			return api.Call{}, false
		}
	}
	return c, s == ""
}

// baseOf is the Base of right shards, in a format.
func baseOf(v int, l []api.Shard) (string, api.Errno) {
	if !isVersion(v) {
		return "", api.ErrArg
	}
	var b strings.Builder
	b.WriteString(strconv.Itoa(v))
	for _, one := range l {
		s, fault := shard.Encode(v, one)
		if fault != api.OK {
			return "", fault
		}
		b.WriteString(sized(s))
	}
	return b.String(), api.OK
}

// ofBase is the format whose Base a text is, and the shards; false: it is no format's.
func ofBase(base string) (int, []api.Shard, bool) {
	if base == "" {
		return api.V1, nil, true
	}
	v := int(base[0]) - '0'
	l, ok := shardsOf(v, base[1:])
	if !isVersion(v) || !ok {
		return 0, nil, false
	}
	return v, l, true
}

// shardsOf are the shards that stand behind a Base's digit.
func shardsOf(v int, s string) ([]api.Shard, bool) {
	var l []api.Shard
	for s != "" {
		text, left, ok := takeText(s)
		one, fault := shard.Decode(v, text)
		if !ok || fault != api.OK {
			return nil, false
		}
		l, s = append(l, one), left
	}
	return l, right(l)
}

// frameOf is an entry's frame.
func frameOf(e api.Entry) api.Frame {
	return api.Frame{Kind: e.Kind, Data: number(e.Shard) + e.Data}
}

// entriesOf are the entries of a log, by a version.
func entriesOf(v int, log string) ([]api.Entry, api.Errno) {
	frames, _, fault := frame.Scan(v, log)
	if fault != api.OK {
		return nil, fault
	}
	var l []api.Entry
	for _, f := range frames {
		n, data, ok := takeNumber(f.Data)
		if !ok || f.Flags != 0 {
			return nil, api.ErrForm
		}
		l = append(l, api.Entry{Kind: f.Kind, Shard: n, Data: data})
	}
	return l, api.OK
}

// sized is a text, and how many bytes it has ahead of it.
func sized(s string) string {
	return number(len(s)) + s
}

// number is a number's bytes. How long texts are, and the Ids of shards that are there, are all numbers that may be put, so no error is lost here.
func number(n int) string {
	s, _ := varint.Put(n)
	return s
}

// takeNumber takes a number from a text's beginning, and tells what is left.
func takeNumber(s string) (int, string, bool) {
	n, k, fault := varint.Take(s)
	return n, s[k:], fault == api.OK
}

// takeText takes a text, ahead of which stands how many bytes it has, from a text's beginning, and tells what is left.
func takeText(s string) (string, string, bool) {
	n, left, ok := takeNumber(s)
	if !ok || n > len(left) {
		return "", "", false
	}
	return left[:n], left[n:], true
}
