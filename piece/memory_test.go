package piece_test

import (
	"bytes"
	"testing"

	"tollgate/api"
	"tollgate/piece"
	"tollgate/sample"
)

func spoil(b []byte) {
	b = b[:cap(b)]
	for i := range b {
		b[i] ^= 0xA5
	}
}

func TestStartAndAckAreNewMemory(t *testing.T) {
	for _, x := range []func() []byte{piece.Start, piece.Ack} {
		first, second := x(), x()
		want := bytes.Clone(first)
		spoil(first)
		if !bytes.Equal(second, want) || !bytes.Equal(x(), want) {
			t.Errorf("%x: two answers share memory", want)
		}
	}
}

func TestSplitKeepsAndChangesNothing(t *testing.T) {
	for _, size := range []int{15, 16, 17, 100, 4000, 4001} {
		for _, n := range []int{0, 1, 15, 16, 40, 200, 9000, most, most + 1} {
			flight := filled(n)
			handed := sample.Roomy(flight)
			all, e := piece.Split(handed, size)
			again, _ := piece.Split(handed, size)
			sample.Unchanged(t, "the flight", handed, flight)
			for _, p := range again {
				spoil(p)
			}
			clear(again[:cap(again)])
			sample.Unchanged(t, "the flight", handed, flight)
			spoil(handed)
			if e == api.OK && !samePieces(all, piecesOf(flight, size)) {
				t.Errorf("%d bytes by %d: an answer isn't new memory", n, size)
			}
		}
	}
}

// No two pieces of one answer share memory, neither their bytes nor their room.
func TestSplitAnswersPiecesApart(t *testing.T) {
	for _, size := range []int{16, 17, 100} {
		flight := filled(170)
		want := piecesOf(flight, size)
		for i := range want {
			all, _ := piece.Split(flight, size)
			spoil(all[i])
			for k, p := range all {
				if k != i && !bytes.Equal(p, want[k]) {
					t.Errorf("by %d: pieces %d and %d share memory", size, i, k)
				}
			}
		}
	}
}

// What was handed in may become something else, ahead of the last piece and behind it.
func TestTakeKeepsAndChangesNothing(t *testing.T) {
	for _, size := range []int{16, 50, 400} {
		for _, n := range []int{0, 1, 10, 49, 200} {
			flight := filled(n)
			j := piece.New()
			for range 3 {
				var got []byte
				for _, p := range piecesOf(flight, size) {
					handed := sample.Roomy(p)
					b, whole, e := j.Take(handed)
					sample.Unchanged(t, "a piece", handed, p)
					spoil(handed)
					if e != api.OK {
						t.Fatalf("%d bytes by %d: error %d", n, size, e)
					}
					if whole {
						got = b
					}
				}
				if !bytes.Equal(got, flight) {
					t.Errorf("%d bytes by %d: what was handed in is kept", n, size)
				}
			}
		}
	}
}

func TestTakeOfWrongPiecesChangesNothing(t *testing.T) {
	for wrong := range wrongPieces() {
		for _, ahead := range [][]byte{{0}, put(0xC0, 30, filled(20)...)} {
			j := piece.New()
			j.Take(ahead)
			handed := sample.Roomy([]byte(wrong))
			j.Take(handed)
			sample.Unchanged(t, "a wrong piece", handed, []byte(wrong))
		}
	}
}

// A flight that was answered isn't the Joiner's any more, and no later one shares its memory.
func TestTakeAnswersNewMemory(t *testing.T) {
	for _, size := range []int{16, 50, 400} {
		j := piece.New()
		var answers, wanted [][]byte
		for i := range 20 {
			flight := sample.Filled(60+i, i)
			for _, p := range piecesOf(flight, size) {
				if b, whole, _ := j.Take(p); whole {
					answers, wanted = append(answers, b), append(wanted, flight)
				}
			}
		}
		if !samePieces(answers, wanted) {
			t.Fatalf("by %d: a flight became another", size)
		}
		for i := range answers {
			spoil(answers[i])
			if !samePieces(answers[i+1:], wanted[i+1:]) {
				t.Errorf("by %d: two answers share memory", size)
			}
		}
		isJoined(t, j, piecesOf(filled(90), size), filled(90))
	}
}

// One that is spoilt while the next flight comes leaves that as it is.
func TestTakeSharesNothingWithWhatWaits(t *testing.T) {
	j := piece.New()
	first, _, _ := j.Take(put(0, 0, filled(50)...))
	all := piecesOf(filled(70), 16)
	for i, p := range all {
		spoil(first)
		b, whole, e := j.Take(p)
		if i == len(all)-1 && (e != api.OK || !whole || !bytes.Equal(b, filled(70))) {
			t.Errorf("%x, error %d", b, e)
		}
	}
}
