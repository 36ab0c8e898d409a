package piece_test

import (
	"bytes"
	"math"
	"testing"

	"tollgate/api"
	"tollgate/piece"
	"tollgate/sample"
)

func TestStartAndAck(t *testing.T) {
	for range 2 {
		s, a := piece.Start(), piece.Ack()
		if !bytes.Equal(s, []byte{0x20}) || !bytes.Equal(a, []byte{0}) {
			t.Errorf("%x, %x", s, a)
		}
		clear(s[:cap(s)])
		a[0] = 0xFF
	}
}

func TestExample(t *testing.T) {
	flight := []byte("abcdefghijklmnopqrst")
	all, e := piece.Split(flight, 16)
	if e != api.OK || !samePieces(all, [][]byte{[]byte("\xC0\x00\x00\x00\x14abcdefghijk"), []byte("\x00lmnopqrst")}) {
		t.Errorf("%x, error %d", all, e)
	}
}

// Each small flight by each small size, and by sizes that aren't allowed.
func TestSplitOfSmallFlights(t *testing.T) {
	for size := -3; size < 50; size++ {
		for n := range 260 {
			isSplit(t, filled(n), size)
		}
	}
}

// edges are the counts of a flight at which it has one piece more by that size, one less and one more beside each.
func edges(size int) []int {
	all := []int{0, 1}
	for _, n := range []int{size - 1, size - 5 + size - 1, size - 5 + 2*(size-1), size - 5 + 3*(size-1), most - 1} {
		all = append(all, n-1, n, n+1)
	}
	return all
}

// Each size, at the counts that have one piece more.
func TestSplitByEachSize(t *testing.T) {
	for size := leastSize; size <= mostSize; size++ {
		for _, n := range edges(size) {
			if size%50 == 0 || size < 100 || size > mostSize-5 || n < 100 || n == size {
				isSplit(t, filled(n), size)
			}
		}
	}
}

func TestSplitTellsHowMany(t *testing.T) {
	for _, x := range []struct{ n, size, pieces, last int }{
		{0, 16, 1, 1}, {1, 16, 1, 2}, {15, 16, 1, 16}, {16, 16, 2, 6}, {20, 16, 2, 10}, {25, 16, 2, 15}, {26, 16, 2, 16}, {27, 16, 3, 2}, {41, 16, 3, 16}, {42, 16, 4, 2},
		{3999, 4000, 1, 4000}, {4000, 4000, 2, 6}, {7994, 4000, 2, 4000}, {7995, 4000, 3, 2}, {most, 4000, 9, 781}, {most, 16, 2185, 13},
	} {
		all, e := piece.Split(filled(x.n), x.size)
		if e != api.OK || len(all) != x.pieces || len(all[len(all)-1]) != x.last {
			t.Errorf("%d bytes by %d: %d pieces, error %d", x.n, x.size, len(all), e)
		}
	}
}

func TestSplitErrorsInTurn(t *testing.T) {
	for _, n := range []int{0, 1, 20, most, most + 1, 1 << 20} {
		for _, size := range []int{math.MinInt, -4000, -16, -1, 0, 1, 15, 4001, 4002, 1 << 16, 1<<16 + 16, 1<<32 + 16, math.MaxInt} {
			if all, e := piece.Split(make([]byte, n), size); e != api.ErrArg || len(all) > 0 {
				t.Errorf("%d bytes by %d: %d pieces, error %d", n, size, len(all), e)
			}
		}
	}
	for _, n := range []int{most + 1, most + 2, 1 << 16, 1<<16 + 1, 1 << 20} {
		for _, size := range []int{16, 17, 100, 4000} {
			if all, e := piece.Split(make([]byte, n), size); e != api.ErrBig || len(all) > 0 {
				t.Errorf("%d bytes by %d: %d pieces, error %d", n, size, len(all), e)
			}
		}
	}
	for _, size := range []int{16, 4000} {
		isSplit(t, filled(most), size)
		isSplit(t, nil, size)
	}
}

// Flights one after the other go through one Joiner.
func TestSplitOneAfterTheOther(t *testing.T) {
	j := piece.New()
	for i := range 200 {
		flight := sample.Filled(i*i%3000, i)
		size := leastSize + i*7
		all, e := piece.Split(flight, size)
		if e != api.OK {
			t.Fatalf("%d bytes by %d: error %d", len(flight), size, e)
		}
		isJoined(t, j, all, flight)
	}
}
