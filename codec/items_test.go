package codec_test

import (
	"encoding/binary"
	"reflect"
	"strings"

	"chandlery/api"
	"chandlery/codec"
	"chandlery/pkg"
)

// bounds are the allowed ranges by the names of the fields; of a text, of its length; of all packages together, below what they leave.
var bounds = map[string][2]int{
	"Repos": {0, 16}, "Priority": {0, 1024}, "Packages": {0, 256}, "Installed": {0, 256},
	"Name": {0, 64}, "Epoch": {0, 2147483647}, "Ver": {0, 64}, "Rel": {0, 64}, "Arch": {1, 4}, "Vendor": {0, 64},
	"Provides": {0, 32}, "Requires": {0, 32}, "Conflicts": {0, 32}, "Obsoletes": {0, 32},
	"Recommends": {0, 32}, "Supplements": {0, 32}, "Suggests": {0, 32}, "Enhances": {0, 32},
	"Files": {0, 32}, "File": {0, 64}, "Op": {0, 6}, "Kind": {1, 7}, "Args": {2, 24},
}

// numBy are the bytes of a number, found by other means than the program's.
func numBy(n int) string { return string(binary.AppendUvarint(nil, uint64(n))) }

// textBy are the bytes of a text.
func textBy(s string) string { return numBy(len(s)) + s }

// item is a number, or a text, of data.
type item struct {
	name        string // of its field; of one of Files: File
	bytes       string
	place       int
	least, most int
	text        bool // then the range is that of its length
}

// end is the place behind an item.
func (i item) end() int { return i.place + len(i.bytes) }

// first is the place of the first byte of a text, or of a number.
func (i item) first() int {
	if i.text {
		return i.place + 1 // the length of a text that may be is one byte
	}
	return i.place
}

// listing are the items of data, one after another.
type listing struct {
	items  []item
	starts []int // where the packages begin
	at     int
	left   int // packages
}

// put adds an item.
func (l *listing) put(name, bytes string, text bool) {
	b := bounds[name]
	if name == "Packages" || name == "Installed" {
		b[1] = l.left
	}
	l.items = append(l.items, item{name, bytes, l.at, b[0], b[1], text})
	l.at += len(bytes)
}

// add adds the items of v, field by field, valid or not.
func (l *listing) add(name string, v reflect.Value) {
	switch x := v.Interface().(type) {
	case api.Rich:
		l.put("Kind", numBy(int(x.Kind)), false)
		if x.Kind == api.Atom {
			l.add("Dep", reflect.ValueOf(x.Dep))
		} else {
			l.add("Args", reflect.ValueOf(x.Args))
		}
		return
	case api.Dep:
		l.put("Name", textBy(x.Name), true)
		l.put("Op", numBy(int(x.Op)), false)
		if x.Op != api.Any {
			l.add("EVR", reflect.ValueOf(x.EVR))
		}
		return
	case api.Package:
		l.starts = append(l.starts, l.at)
	}
	switch v.Kind() {
	case reflect.Struct:
		for i := range v.NumField() {
			l.add(v.Type().Field(i).Name, v.Field(i))
		}
	case reflect.Slice:
		l.put(name, numBy(v.Len()), false)
		if name == "Packages" || name == "Installed" {
			l.left -= v.Len()
		}
		for i := range v.Len() {
			l.add(strings.TrimSuffix(name, "s"), v.Index(i))
		}
	case reflect.String:
		l.put(name, textBy(v.String()), true)
	case reflect.Int:
		l.put(name, numBy(int(v.Int())), false)
	case reflect.Uint8:
		l.put(name, numBy(int(v.Uint())), false)
	}
}

// listed are the items of data, valid or not, found by other means than the program's.
func listed(d codec.Data) listing {
	l := listing{left: 256}
	l.add("", reflect.ValueOf(d))
	return l
}

// itemsBy are the items of data, valid or not.
func itemsBy(d codec.Data) []item { return listed(d).items }

// joined are the bytes of items.
func joined(items []item) string {
	var s strings.Builder
	for _, i := range items {
		s.WriteString(i.bytes)
	}
	return s.String()
}

// bytesBy are the bytes of data, valid or not, found by other means than the program's.
func bytesBy(d codec.Data) string { return joined(itemsBy(d)) }

// with are the bytes of items, with others in place of those of one.
func with(items []item, n int, bytes string) string {
	return joined(items[:n]) + bytes + joined(items[n+1:])
}

// find is the number of an item: of those of that name the one that so many others precede.
func find(items []item, name string, others int) int {
	for n, i := range items {
		if i.name == name {
			if others == 0 {
				return n
			}
			others--
		}
	}
	panic("no " + name)
}

// fault is an error, and its place.
type fault struct {
	place int
	e     api.Errno
}

// reading goes over bytes, by a description of the data: their types and the names of their fields. It panics with the first fault.
type reading struct {
	s    string
	at   int
	left int // packages
}

// num is the next number.
func (r *reading) num(least, most int) int {
	rest := r.s[r.at:]
	last := strings.IndexFunc(rest[:min(9, len(rest))], func(c rune) bool { return c < 128 })
	switch n, _ := binary.Uvarint([]byte(rest[:last+1])); {
	case last < 0 && len(rest) >= 9:
		panic(fault{r.at, api.ErrRange})
	case last < 0:
		panic(fault{r.at, api.ErrShort})
	case last > 0 && rest[last] == 0:
		panic(fault{r.at, api.ErrWide})
	case int(n) < least || int(n) > most:
		panic(fault{r.at, api.ErrRange})
	default:
		r.at += last + 1
		return int(n)
	}
}

// named is the next number, in the range of that name.
func (r *reading) named(name string) int {
	if name == "Packages" || name == "Installed" {
		n := r.num(0, r.left)
		r.left -= n
		return n
	}
	return r.num(bounds[name][0], bounds[name][1])
}

// fillRich reads a part of a rich dependency.
func (r *reading) fillRich(nest int) api.Rich {
	start := r.at
	part := api.Rich{Kind: uint8(r.named("Kind"))}
	if part.Kind == api.Atom {
		r.fill("Dep", reflect.ValueOf(&part.Dep).Elem())
		return part
	}
	if nest > 7 {
		panic(fault{start, api.ErrDeep})
	}
	for range r.named("Args") {
		part.Args = append(part.Args, r.fillRich(nest+1))
	}
	return part
}

// fill reads what v holds.
func (r *reading) fill(name string, v reflect.Value) {
	start := r.at
	switch v.Kind() {
	case reflect.Struct:
		if _, rich := v.Interface().(api.Rich); rich {
			v.Set(reflect.ValueOf(r.fillRich(0)))
			return
		}
		for i := range v.NumField() {
			if d, dep := v.Interface().(api.Dep); i == 2 && dep && d.Op == api.Any {
				return
			}
			r.fill(v.Type().Field(i).Name, v.Field(i))
		}
		if p, whole := v.Interface().(api.Package); whole && !pkg.May(p) {
			panic(fault{start, api.ErrForm})
		}
	case reflect.Slice:
		for n := r.named(name); n > 0; n-- {
			element := reflect.New(v.Type().Elem()).Elem()
			r.fill(strings.TrimSuffix(name, "s"), element)
			v.Set(reflect.Append(v, element))
		}
	case reflect.String:
		n := r.named(name)
		if r.at+n > len(r.s) {
			panic(fault{r.at, api.ErrShort})
		}
		v.SetString(r.s[r.at : r.at+n])
		r.at += n
	case reflect.Int:
		v.SetInt(int64(r.named(name)))
	case reflect.Uint8:
		v.SetUint(uint64(r.named(name)))
	}
}

// decodeBy are the data of bytes, found by other means than the program's.
func decodeBy(s string) (d codec.Data, place int, e api.Errno) {
	if len(s) > 1<<22 {
		return codec.Data{}, 0, api.ErrTooLarge
	}
	defer func() {
		if f, ok := recover().(fault); ok {
			d, place, e = codec.Data{}, f.place, f.e
		}
	}()
	r := reading{s: s, left: 256}
	r.fill("", reflect.ValueOf(&d).Elem())
	if r.at < len(s) {
		panic(fault{r.at, api.ErrLong})
	}
	return d, 0, api.OK
}
