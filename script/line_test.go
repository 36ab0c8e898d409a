package script_test

import (
	"fmt"
	"math"
	"math/rand"
	"strings"
	"testing"

	"tollgate/api"
	"tollgate/sample"
	"tollgate/script"
	"tollgate/world"
)

func TestExamples(t *testing.T) {
	told, number, e := isRun(t, "start")
	if told != "peer idle gate asking talks 0 kept 0 bags 1 0 0 0 error 0\n" || number != 0 || e != api.OK {
		t.Errorf("%q, line %d, error %d", told, number, e)
	}
	for line, want := range map[string]world.Step{
		"start":                        {What: world.Start},
		"tick":                         {What: world.Tick},
		"deliver to-peer 0":            {What: world.Deliver, Bag: world.ToPeer},
		"drop from-peer 7":             {What: world.Drop, Bag: world.FromPeer, At: 7},
		"twice to-server 999999":       {What: world.Twice, Bag: world.ToServer, At: 999999},
		"change from-server 10 f0":     {What: world.Change, Bag: world.FromServ, At: 10, By: 0xF0},
		"inject to-peer 00ff1a":        {What: world.Inject, Bag: world.ToPeer, Bytes: []byte{0, 255, 26}},
		"inject from-server -":         {What: world.Inject, Bag: world.FromServ},
		"change to-peer 0 00":          {What: world.Change},
		"inject to-server 0123456789a": {What: -1},
	} {
		s, e := script.Read(line)
		if want.What < 0 {
			if e != api.ErrForm || !sameStep(s, world.Step{}) {
				t.Errorf("%q: %s, error %d", line, named(s), e)
			}
			continue
		}
		if e != api.OK || !sameStep(s, want) {
			t.Errorf("%q: %s, error %d", line, named(s), e)
		}
		if again, e := script.Write(want); e != api.OK || again != line {
			t.Errorf("%q is written as %q, error %d", line, again, e)
		}
	}
}

// numbers stand about the edges, or have the last bits of one that may be.
func numbers() []int {
	return []int{math.MinInt, math.MinInt + 1, -1 << 32, -1000000, -999999, -256, -10, -1, 0, 1, 2, 3, 4, 5, 6, 7, 8, 9, 10, 11, 99, 100, 255, 256, 99999, 100000, 100001, 999998, 999999, 1000000, 1000001, 1<<31 + 1, 1 << 32, 1<<32 + 1, math.MaxInt - 1, math.MaxInt}
}

// Each of these as each part: the parts that a line doesn't have don't count.
func TestWriteOfNumbers(t *testing.T) {
	written := 0
	for _, what := range numbers() {
		for _, bag := range numbers() {
			for _, at := range numbers() {
				for _, b := range [][]byte{nil, {}, {0}, {255, 16}} {
					if isWritten(t, world.Step{What: what, Bag: bag, At: at, By: byte(at), Bytes: b}) {
						written++
					}
				}
			}
		}
	}
	if written < 4000 {
		t.Errorf("%d are written", written)
	}
}

func TestWriteOfBytes(t *testing.T) {
	for by := range 256 {
		isWritten(t, world.Step{What: world.Change, By: byte(by)})
		isWritten(t, world.Step{What: world.Inject, Bytes: []byte{byte(by)}})
		isWritten(t, world.Step{What: world.Inject, Bytes: []byte{byte(by), byte(by)}})
	}
	for _, n := range []int{0, 1, 2, 3, 100, 4094, 4095, 4096, 4097, 4098, 5000, 8192, 8193, 1 << 20} {
		b := sample.Filled(n, 3)
		if ok := isWritten(t, world.Step{What: world.Inject, Bag: 2, Bytes: b}); ok != (n <= 4096) {
			t.Errorf("%d bytes: %v", n, ok)
		}
		// Where bytes don't count there may be any number.
		for what := world.Start; what <= world.Tick; what++ {
			isWritten(t, world.Step{What: what, Bytes: b})
		}
		if ok := isRead(t, fmt.Sprintf("inject to-server %x", b)); ok != (0 < n && n <= 4096) {
			t.Errorf("%d bytes: %v", n, ok)
		}
		isRead(t, fmt.Sprintf("inject to-server %x0", b))
		isRead(t, fmt.Sprintf("inject to-server 0%x", b))
		isRead(t, fmt.Sprintf("inject to-server %x ", b))
		isRead(t, fmt.Sprintf("inject to-server %X", b))
		isRead(t, fmt.Sprintf("inject to-server %xg", b))
		isRead(t, fmt.Sprintf("inject to-server %x-", b))
	}
}

// All numbers that there are, and no others, come back.
func TestAllNumbers(t *testing.T) {
	for n := 0; n <= 1000100; n++ {
		s := world.Step{What: world.Drop, Bag: 1, At: n}
		line, e := script.Write(s)
		if (e == api.OK) != (n <= 999999) {
			t.Fatalf("%d: error %d", n, e)
		}
		if e != api.OK {
			line = fmt.Sprint("drop from-peer ", n)
		}
		if back, f := script.Read(line); f != e || e == api.OK && back.At != n {
			t.Fatalf("%q: %s, error %d", line, named(back), f)
		}
	}
}

// lines are right ones, of all kinds.
func lines() []string {
	return []string{"start", "tick", "deliver to-peer 0", "drop from-peer 10", "twice to-server 999999", "deliver from-server 100000", "change to-peer 5 a0", "change from-server 120 09", "inject to-peer -", "inject from-peer 0f", "inject to-server 00a1ff", "inject from-server 90"}
}

// Each right line with one character more, fewer, or another one.
func TestLinesThatAreNearlyRight(t *testing.T) {
	chars := []string{" ", "-", "0", "1", "9", "a", "f", "g", "F", "A", "x", "+", "_", ".", "\t", "\n", "\r", "\x00", "\x80", "\u00A0", "s", "t", "  "}
	right := 0
	for _, line := range lines() {
		if !isRead(t, line) {
			t.Errorf("%q is no line", line)
		}
		isRead(t, strings.ToUpper(line))
		for i := range len(line) + 1 {
			for _, c := range chars {
				if isRead(t, line[:i]+c+line[i:]) {
					right++
				}
				if i < len(line) && isRead(t, line[:i]+c+line[i+1:]) {
					right++
				}
			}
			isRead(t, line[:i])
			isRead(t, line[i:])
			if i < len(line) {
				isRead(t, line[:i]+line[i+1:])
			}
		}
	}
	if right < 100 {
		t.Errorf("%d others are right", right)
	}
}

// Words of all kinds, in any order and number.
func TestAnyWords(t *testing.T) {
	words := []string{"start", "tick", "deliver", "drop", "twice", "change", "inject", "calm", "to-peer", "from-peer", "to-server", "from-server", "0", "1", "00", "01", "10", "-", "ff", "999999", "1000000", "99999999999999999999", "-1", "-0", "+1", "0x1", "1e1", "1_0", "", "#", "Start", "to-Peer", "from-serv", "topeer", "0f0f", "0F"}
	r := rand.New(rand.NewSource(1))
	for _, a := range words {
		isRead(t, a)
		for _, b := range words {
			isRead(t, a+" "+b)
			isRead(t, a+b)
			for _, c := range words {
				isRead(t, a+" "+b+" "+c)
				isRead(t, a+" "+b+" "+c+" "+words[r.Intn(len(words))])
				isRead(t, a+" "+b+" "+c+" ff")
				isRead(t, a+" "+b+" "+c+" 0")
			}
		}
	}
	for _, line := range []string{"", " ", "\n", "calm 5", "start start", "tick 0", "start to-peer 0", "deliver to-peer 0 ff", "change to-peer 0", "change to-peer 0 ff ff", "inject to-peer 0f 0f", "inject to-peer", "deliver to-peer", "deliver", "#start"} {
		if isRead(t, line) {
			t.Errorf("%q is a line", line)
		}
	}
	for range 20000 {
		b := sample.Filled(r.Intn(30), r.Int())
		isRead(t, string(b))
		isRead(t, lines()[r.Intn(len(lines()))]+string(b))
	}
	for _, n := range []int{1 << 16, 1 << 22} {
		for _, line := range []string{"deliver to-peer ", "change to-peer 1 ", "inject to-peer ", ""} {
			for _, c := range []string{"0", "1", "f", " ", "-", "a b "} {
				isRead(t, line+strings.Repeat(c, n))
			}
		}
	}
}

// A step's bytes are its own, and stay as they are.
func TestLinesAreNew(t *testing.T) {
	want := []byte{0, 1, 0xAB}
	handed := sample.Roomy(want)
	line, _ := script.Write(world.Step{What: world.Inject, Bytes: handed})
	sample.Unchanged(t, "a step's bytes", handed, want)
	first, _ := script.Read(line)
	second, _ := script.Read(line)
	first.Bytes[0] ^= 0xFF
	clear(handed)
	if third, _ := script.Read(line); !sameStep(second, third) || line != "inject to-peer 0001ab" {
		t.Errorf("%q: %s, not %s", line, named(second), named(third))
	}
}
