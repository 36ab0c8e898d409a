package whole_test

import (
	"bytes"
	"math"
	"math/rand"
	"reflect"

	"tollgate/sample"
)

// maker makes arguments by chance: right ones, that others answered ahead, and such that nobody should hand in.
type maker struct {
	r     *rand.Rand
	known map[reflect.Type][]reflect.Value // right ones, and objects that came to be
	heard [][]byte                         // what is heard in talks: it means something somewhere
	late  [][]byte                         // what was answered of late
	well  int                              // how many calls answered without an error
}

const mostKnown = 40

// learn keeps a value of its type; the eldest ones give way by chance.
func (m *maker) learn(v reflect.Value) {
	list := m.known[v.Type()]
	if len(list) < mostKnown {
		m.known[v.Type()] = append(list, v)
		return
	}
	list[m.r.Intn(mostKnown)] = v
}

// keep keeps bytes that were answered, as some others did.
func (m *maker) keep(b []byte) {
	if len(b) == 0 || len(b) > 20000 {
		return
	}
	if b = bytes.Clone(b); len(m.late) < mostKnown {
		m.late = append(m.late, b)
		return
	}
	m.late[m.r.Intn(mostKnown)] = b
}

func (m *maker) of(t reflect.Type) reflect.Value {
	if list := m.known[t]; len(list) > 0 && m.r.Intn(4) > 0 {
		return m.oneOf(list[m.r.Intn(len(list))])
	}
	v := reflect.New(t).Elem()
	switch t.Kind() {
	case reflect.Pointer:
		if m.r.Intn(2) > 0 {
			v.Set(reflect.New(t.Elem()))
		}
	case reflect.Bool:
		v.SetBool(m.r.Intn(2) > 0)
	case reflect.Int:
		v.SetInt(int64(m.number()))
	case reflect.Uint8, reflect.Uint64:
		v.SetUint(uint64(m.number()) & (1<<t.Bits() - 1))
	case reflect.String:
		v.SetString(string(m.bytes()))
	case reflect.Struct:
		for i := range t.NumField() {
			v.Field(i).Set(m.of(t.Field(i).Type))
		}
	case reflect.Array:
		if t.Elem().Kind() != reflect.Int {
			m.fill(v)
			break
		}
		for i := range v.Len() {
			v.Index(i).Set(m.of(t.Elem()))
		}
	case reflect.Slice:
		if t.Elem().Kind() == reflect.Uint8 {
			v.SetBytes(sample.Roomy(m.bytes()))
			break
		}
		for range m.r.Intn(4) {
			v = reflect.Append(v, m.of(t.Elem()))
		}
	}
	return v
}

// oneOf is a copy of a right one; now and then one part of it is another.
func (m *maker) oneOf(v reflect.Value) reflect.Value {
	c := copyOf(v)
	if v.Kind() == reflect.Struct && m.r.Intn(4) == 0 {
		i := m.r.Intn(c.NumField())
		c.Field(i).Set(m.of(c.Field(i).Type()))
	}
	return c
}

func (m *maker) number() int {
	switch m.r.Intn(8) {
	case 0:
		edges := []int{16, 32, 64, 100, 255, 256, 1000, 2048, 4000, 4096, 8160, 16384, 16385, 16640, 32768, 65536, 1 << 31, 1 << 32, 1 << 62, math.MaxInt, math.MinInt}
		return edges[m.r.Intn(len(edges))] + m.r.Intn(3) - 1
	case 1:
		return -m.r.Intn(300)
	case 2:
		return int(m.r.Uint64())
	}
	return m.r.Intn(30)
}

// bytes are some that were heard, with a change now and then, or any.
func (m *maker) bytes() []byte {
	list := m.heard
	if m.r.Intn(3) == 0 {
		list = m.late
	}
	if len(list) == 0 || m.r.Intn(6) == 0 {
		sizes := []int{0, 0, 1, 2, 5, 12, 16, 24, 32, 64, 65, 253, 254, 300, 2048, 2049, 4096, 4097, 16400, 33000, 66000}
		return sample.Filled(sizes[m.r.Intn(len(sizes))], m.r.Intn(1000))
	}
	b := bytes.Clone(list[m.r.Intn(len(list))])
	switch at := m.r.Intn(len(b)); m.r.Intn(10) {
	case 0:
		b[at] ^= 1 << m.r.Intn(8)
	case 1:
		b = b[:at]
	case 2:
		b = append(b, list[m.r.Intn(len(list))]...)
	}
	return b
}

// fill fills an array: with noughts, with ones, with small numbers, or with any.
func (m *maker) fill(v reflect.Value) {
	kind := m.r.Intn(4)
	for i := range v.Len() {
		switch {
		case kind == 1:
			v.Index(i).SetUint(math.MaxUint64 & (1<<v.Type().Elem().Bits() - 1))
		case kind == 2 && (i == 0 || i == v.Len()-1):
			v.Index(i).SetUint(uint64(m.r.Intn(4)))
		case kind == 3:
			v.Index(i).SetUint(m.r.Uint64() & (1<<v.Type().Elem().Bits() - 1))
		}
	}
}

// eachBytes lets f see each list of bytes in a value; objects are left out.
func eachBytes(v reflect.Value, f func([]byte)) {
	switch v.Kind() {
	case reflect.Slice:
		if v.Type().Elem().Kind() == reflect.Uint8 {
			f(v.Bytes())
			return
		}
		for i := range v.Len() {
			eachBytes(v.Index(i), f)
		}
	case reflect.Struct:
		for i := range v.NumField() {
			eachBytes(v.Field(i), f)
		}
	}
}

// roomsOf are copies of all lists of bytes in values, with what stands in their spare room.
func roomsOf(list []reflect.Value) [][]byte {
	var all [][]byte
	for _, v := range list {
		eachBytes(v, func(b []byte) { all = append(all, bytes.Clone(b[:cap(b)])) })
	}
	return all
}

// copyOf is a value that shares no list with v; objects stay the same. What is empty is nil.
func copyOf(v reflect.Value) reflect.Value {
	c := reflect.New(v.Type()).Elem()
	switch v.Kind() {
	case reflect.Slice:
		for i := range v.Len() {
			c = reflect.Append(c, copyOf(v.Index(i)))
		}
	case reflect.Struct:
		for i := range v.NumField() {
			c.Field(i).Set(copyOf(v.Field(i)))
		}
	default:
		c.Set(v)
	}
	return c
}

func copiesOf(list []reflect.Value) []reflect.Value {
	var all []reflect.Value
	for _, v := range list {
		all = append(all, copyOf(v))
	}
	return all
}

// same: are these the same but for objects, of which just counts whether there is one?
func same(a, b reflect.Value) bool {
	if a.Kind() == reflect.Pointer {
		return a.IsNil() == b.IsNil()
	}
	return reflect.DeepEqual(copyOf(a).Interface(), copyOf(b).Interface())
}

func isZero(v reflect.Value) bool { return same(v, reflect.New(v.Type()).Elem()) }
