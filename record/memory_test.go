package record_test

import (
	"bytes"
	"testing"

	"tollgate/api"
	"tollgate/record"
	"tollgate/sample"
)

func TestBareKeepsAndChangesNothing(t *testing.T) {
	for _, n := range []int{0, 1, 20, most, most + 1} {
		b := sample.Filled(n, 1)
		handed := sample.Roomy(b)
		rec, _ := record.Bare(22, handed)
		again, _ := record.Bare(22, handed)
		sample.Unchanged(t, "the bytes", handed, b)
		clear(handed[:cap(handed)])
		clear(again[:cap(again)])
		if n <= most && !bytes.Equal(rec, whole(22, b)) {
			t.Errorf("%d bytes: an answer isn't new memory", n)
		}
		clear(rec[:cap(rec)])
		if later, _ := record.Bare(22, b); n <= most && !bytes.Equal(later, whole(22, b)) {
			t.Errorf("%d bytes: an answer is kept", n)
		}
	}
}

func TestCutKeepsAndChangesNothing(t *testing.T) {
	for _, n := range []int{0, 1, 20, most + 1, mostBody} {
		for _, behind := range []int{0, 1, 9} {
			first, second := whole(23, sample.Filled(n, 2)), sample.Filled(behind, 3)
			b := append(bytes.Clone(first), second...)
			handed := sample.Roomy(b)
			rec, rest, e := record.Cut(handed)
			sample.Unchanged(t, "the bytes", handed, b)
			clear(handed[:cap(handed)])
			if e != api.OK || !bytes.Equal(rec, first) || !bytes.Equal(rest, second) {
				t.Errorf("%d bytes: an answer isn't new memory: error %d", n, e)
			}
			clear(rec[:cap(rec)])
			if !bytes.Equal(rest, second) {
				t.Errorf("%d bytes: the record shares memory with what is behind it", n)
			}
			handed = sample.Roomy(b)
			rec, rest, _ = record.Cut(handed)
			clear(rest[:cap(rest)])
			if !bytes.Equal(rec, first) {
				t.Errorf("%d bytes: what is behind shares memory with the record", n)
			}
			clear(rec[:cap(rec)])
			sample.Unchanged(t, "the bytes", handed, b)
		}
	}
}

func TestBodyKeepsAndChangesNothing(t *testing.T) {
	for _, n := range []int{0, 1, 20, most} {
		held := sample.Filled(n, 4)
		b := whole(21, held)
		handed := sample.Roomy(b)
		_, body, _ := record.Body(handed)
		_, again, _ := record.Body(handed)
		clear(again[:cap(again)])
		sample.Unchanged(t, "the bytes", handed, b)
		clear(handed[:cap(handed)])
		if !bytes.Equal(body, held) {
			t.Errorf("%d bytes: an answer isn't new memory", n)
		}
	}
}

func TestWrongRecordsStayAsTheyWere(t *testing.T) {
	o := record.New(secretOf(1))
	for _, b := range [][]byte{nil, {22}, {22, 3}, {22, 3, 3}, {22, 3, 3, 0}, {24, 3, 3, 0, 0}, whole(22, sample.Filled(most+1, 1)), whole(23, sample.Filled(90, 2)),
		put(22, mostBody+1, []byte{1}), put(23, 100, sample.Filled(20, 3)), append(whole(23, sample.Filled(40, 1)), 1, 2)} {
		handed := sample.Roomy(b)
		record.Cut(handed)
		record.Body(handed)
		o.Open(handed)
		sample.Unchanged(t, "a wrong record", handed, b)
	}
}

func TestSealKeepsAndChangesNothing(t *testing.T) {
	secret := secretOf(2)
	for _, n := range []int{0, 1, 20, most - 20} {
		for _, pad := range []int{0, 1, 20} {
			s := record.New(secret)
			b := sample.Filled(n, 5)
			handed := sample.Roomy(b)
			rec, e := s.Seal(22, handed, pad)
			sample.Unchanged(t, "the bytes", handed, b)
			clear(handed[:cap(handed)])
			isNotSealed(t, s, 22, sample.Roomy(make([]byte, most+1)), 0, api.ErrBig)
			second, _ := s.Seal(22, b, pad)
			clear(second[:cap(second)])
			if e != api.OK || !bytes.Equal(rec, sealedBy(t, secret, 0, inner(b, 22, pad))) {
				t.Errorf("%d bytes: an answer isn't new memory: error %d", n, e)
			}
			clear(rec[:cap(rec)])
			isSealed(t, s, secret, 2, 23, b, pad)
		}
	}
}

func TestOpenKeepsAndChangesNothing(t *testing.T) {
	secret := secretOf(3)
	for _, n := range []int{0, 1, 20, most} {
		o := record.New(secret)
		held := sample.Filled(n, 6)
		b, next := sealedBy(t, secret, 0, inner(held, 22, 0)), sealedBy(t, secret, 1, inner(held, 22, 0))
		handed := sample.Roomy(b)
		kind, got, e := o.Open(handed)
		sample.Unchanged(t, "the record", handed, b)
		clear(handed[:cap(handed)])
		_, second, _ := o.Open(next)
		clear(second[:cap(second)])
		if e != api.OK || kind != 22 || !bytes.Equal(got, held) {
			t.Errorf("%d bytes: an answer isn't new memory: error %d", n, e)
		}
		clear(got[:cap(got)])
		isOpened(t, o, sealedBy(t, secret, 2, inner(held, 23, 0)), 23, held)
	}
}
