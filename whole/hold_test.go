package whole_test

import (
	"bytes"
	"fmt"
	"math/rand"
	"reflect"
	"slices"
	"strings"
	"testing"

	"tollgate/api"
	"tollgate/cert"
	"tollgate/curve"
	"tollgate/der"
	"tollgate/eap"
	"tollgate/hello"
	"tollgate/house"
	"tollgate/mont"
	"tollgate/radius"
	"tollgate/town"
	"tollgate/world"
)

var home town.Town

// newMaker knows right values of all kinds.
func newMaker(t *testing.T, seed int) *maker {
	t.Helper()
	m := &maker{r: rand.New(rand.NewSource(int64(seed))), known: map[reflect.Type][]reflect.Value{}}
	for _, p := range house.Paths([2]int{3800, 4000}, [2]int{300, 200}) {
		c := home.On(t, p)
		for _, v := range []any{c, c.Peer, c.Port, c.Server, c.Peer.Tls, c.Server.Tls, c.Peer.Tls.Saved, c.Peer.Tls.Chain, c.Peer.Tls.Roots, c.Server.Tls.Chain} {
			m.learn(reflect.ValueOf(v))
		}
		h := hearAll(t, c)
		m.heard = append(m.heard, h.all()...)
		for _, b := range h.certs {
			one, _ := cert.Read(b)
			m.learn(reflect.ValueOf(one))
		}
	}
	share, _ := curve.Public([32]byte{31: 7})
	for _, v := range []any{
		hello.Msg{Kind: hello.Client, Share: share}, hello.Msg{Kind: hello.Server, Share: share}, hello.Msg{Kind: hello.Server, Retry: true},
		hello.Msg{Kind: hello.Finished}, hello.Msg{Kind: hello.Extensions}, der.Of(der.Seq, der.Num(5), der.Word("ab")), der.Num(5), curve.Base(),
		eap.Packet{Code: eap.Request, Type: eap.Tls, Data: []byte{0x20}}, eap.Packet{Code: eap.Success}, mont.Of(curve.Order()),
		radius.Packet{Code: radius.Ask, Attrs: radius.Split([]byte{2, 0, 0, 5, 1})}, radius.Packet{Code: radius.Challenge, Attrs: radius.Split([]byte{1, 1, 0, 6, 13, 32})},
	} {
		m.learn(reflect.ValueOf(v))
	}
	for what := world.Start; what <= world.Tick; what++ {
		m.learn(reflect.ValueOf(world.Step{What: what, Bag: what % 4}))
	}
	for _, b := range []string{"the gate's secret", "start", "calm 500", "tick\nstart\ncalm 20\ndrop to-peer 0", "deliver from-server 0", "inject to-server 0f"} {
		m.heard = append(m.heard, []byte(b))
	}
	return m
}

// called is a call under way.
type called struct {
	name string
	f    reflect.Value
	args []reflect.Value
}

func (c *called) String() string {
	var all []string
	for _, v := range c.args {
		if v.Kind() == reflect.Pointer {
			all = append(all, fmt.Sprintf("an object (%v)", !v.IsNil()))
			continue
		}
		all = append(all, fmt.Sprintf("%.200v", fmt.Sprint(v.Interface())))
	}
	return c.name + "(" + strings.Join(all, ", ") + ")"
}

// hand calls; what it answers. A panic is a fault.
func (c *called) hand(t *testing.T) (results []reflect.Value) {
	t.Helper()
	defer func() {
		if why := recover(); why != nil {
			t.Errorf("%v panics: %v", c, why)
			results = nil
		}
	}()
	if c.f.Type().IsVariadic() {
		return c.f.CallSlice(c.args)
	}
	return c.f.Call(c.args)
}

// Any calls in any order, with anything: each ends, none panics; the rules that hold everywhere hold.
func TestAnyCalls(t *testing.T) {
	all := calls()
	var names []string
	for name := range all {
		names = append(names, name)
	}
	slices.Sort(names)
	for seed := range 8 {
		t.Run(fmt.Sprint(seed), func(t *testing.T) {
			t.Parallel()
			m := newMaker(t, seed)
			for range 40 {
				for _, name := range names {
					m.try(t, name, reflect.ValueOf(all[name]))
				}
			}
			if !t.Failed() && m.well < 400 {
				t.Errorf("%d calls answer without an error: what is handed in is too wild", m.well)
			}
		})
	}
}

// try makes a call, and holds the rules against what it does.
func (m *maker) try(t *testing.T, name string, f reflect.Value) {
	t.Helper()
	c := &called{name: name, f: f}
	for i := range f.Type().NumIn() {
		c.args = append(c.args, m.of(f.Type().In(i)))
	}
	ahead, rooms := copiesOf(c.args), roomsOf(c.args)
	results := c.hand(t)
	if t.Failed() {
		return
	}
	c.areUnchanged(t, ahead, rooms)
	if c.areZeroBesideErrors(t, results); slices.ContainsFunc(results, isOK) {
		m.well++
	}
	told := copiesOf(results)
	if !slices.ContainsFunc(c.args, func(v reflect.Value) bool { return v.Kind() == reflect.Pointer }) {
		again := (&called{name, f, copiesOf(ahead)}).hand(t)
		c.areSame(t, "answers another time", again, told)
	}
	for _, v := range c.args {
		eachBytes(v, spoil)
	}
	c.areSame(t, "answers what it was given", results, told)
	c.areApart(t, results)
	for _, v := range told {
		if v.Kind() == reflect.Pointer && !v.IsNil() || v.Kind() == reflect.Struct && !isZero(v) {
			m.learn(v)
		}
		eachBytes(v, m.keep)
		if v.Kind() == reflect.String {
			m.keep([]byte(v.String()))
		}
	}
}

func isOK(v reflect.Value) bool { return v.Type() == reflect.TypeFor[api.Errno]() && v.Int() == 0 }

func spoil(b []byte) {
	b = b[:cap(b)]
	for i := range b {
		b[i] ^= 0xA5
	}
}

// areUnchanged: lists and bytes that are handed in aren't changed, their spare room neither.
func (c *called) areUnchanged(t *testing.T, ahead []reflect.Value, rooms [][]byte) {
	t.Helper()
	for i, v := range c.args {
		if !same(v, ahead[i]) {
			t.Errorf("%v changes argument %d", c, i)
		}
	}
	if !slices.EqualFunc(roomsOf(c.args), rooms, bytes.Equal) {
		t.Errorf("%v changes the spare room of an argument", c)
	}
}

// areZeroBesideErrors: with an error, or where a bool says that there is nothing, every other result is its zero value.
// An end may say an alert, trust tells a place, and script what happened ahead.
func (c *called) areZeroBesideErrors(t *testing.T, results []reflect.Value) {
	t.Helper()
	none := false
	for i, v := range results {
		if v.Type() == reflect.TypeFor[api.Errno]() {
			e := api.Errno(v.Int())
			none = none || e != api.OK
			if e < api.OK || e > api.ErrWeak || e == api.ErrNak || e == api.ErrLost {
				t.Errorf("%v: error %d", c, e)
			}
		}
		none = none || i > 0 && v.Kind() == reflect.Bool && !v.Bool() && len(results) == 2
	}
	switch c.name {
	case "tls.Side.Feed", "method.Method.Step", "peer.Peer.Take", "trust.Check", "script.Run":
		return
	}
	for i, v := range results {
		if none && v.Type() != reflect.TypeFor[api.Errno]() && !isZero(v) {
			t.Errorf("%v: result %d is %.100v beside an error", c, i, fmt.Sprint(v))
		}
	}
}

func (c *called) areSame(t *testing.T, what string, got, want []reflect.Value) {
	t.Helper()
	for i := range min(len(got), len(want)) {
		if !same(got[i], want[i]) {
			t.Errorf("%v: result %d: it %s", c, i, what)
		}
	}
}

// areApart: no two lists of one answer share memory.
func (c *called) areApart(t *testing.T, results []reflect.Value) {
	t.Helper()
	var lists [][]byte
	for _, v := range results {
		eachBytes(v, func(b []byte) { lists = append(lists, b) })
	}
	if len(lists) > 60 {
		lists = lists[:60]
	}
	for i, b := range lists {
		var others [][]byte
		for _, other := range lists[i+1:] {
			others = append(others, bytes.Clone(other))
		}
		spoil(b)
		for k, other := range others {
			if !bytes.Equal(other, lists[i+1+k]) {
				t.Errorf("%v: lists %d and %d of its answer are shared", c, i, i+1+k)
			}
		}
	}
}
