package tests

import (
	"bytes"
	"encoding/binary"
	"math"
	"slices"
	"testing"

	"loop.example/g00767/impl"
)

// recKinds are the kinds as the document numbers them.
func recKinds() []int64 {
	return []int64{
		impl.RcPhase, impl.RcPod, impl.RcBusy, impl.RcFree, impl.RcGive, impl.RcLock,
		impl.RcUnlock, impl.RcClock, impl.RcBand, impl.RcBoot, impl.RcLockBy, impl.RcProbe,
	}
}

// fieldEdges are where a number takes a byte more, and the least and the
// greatest that a field may be.
func fieldEdges() []int64 {
	return []int64{0, 1, 127, 128, 129, 255, 256, 16383, 16384, 16385, 65536, 999999, 1000000}
}

// wrongFields are the ones just outside, and some that look right in fewer
// bits.
func wrongFields() []int64 {
	return []int64{
		-1, 1000001, -128, -1000000, 1 << 20, 1<<21 - 1, 1 << 21, 1 << 28, 1<<32 + 1,
		math.MaxInt64, math.MinInt64, math.MinInt64 + 1,
	}
}

func wrongKinds() []int64 {
	return []int64{0, 13, -1, -12, 14, 127, 128, 129, 257, 1<<32 + 1, math.MaxInt64, math.MinInt64, math.MinInt64 + 1}
}

// manyRecs are count records of which hardly two are alike.
func manyRecs(count int) []impl.Rec {
	list := []impl.Rec{}
	for i := range int64(count) {
		list = append(list, impl.Rec{Kind: 1 + i%12, A: i * 7919 % 1000001, B: i * i * 104729 % 1000001})
	}
	return list
}

// plainBytes is how the document tells of the bytes, by the library's numbers
// of 7 bits.
func plainBytes(list []impl.Rec) []byte {
	b := binary.AppendUvarint(nil, uint64(len(list)))
	for _, r := range list {
		b = binary.AppendUvarint(b, uint64(r.Kind))
		b = binary.AppendUvarint(b, uint64(r.A))
		b = binary.AppendUvarint(b, uint64(r.B))
	}
	return b
}

// plainRecs is what the document asks of ReadRecs, told the long way: b is
// read in any form, and the list stands where it would be written as b.
func plainRecs(b []byte) ([]impl.Rec, bool) {
	rest, short := b, false
	next := func() int64 {
		n, size := binary.Uvarint(rest)
		if size <= 0 || n > 1000000 {
			short = true
			return 0
		}
		rest = rest[size:]
		return int64(n)
	}
	list := []impl.Rec{}
	count := next()
	if count > 80 {
		return nil, false
	}
	for range count {
		r := impl.Rec{Kind: next(), A: next(), B: next()}
		if short || r.Kind < 1 || r.Kind > 12 {
			return nil, false
		}
		list = append(list, r)
	}
	if short || len(rest) > 0 || !bytes.Equal(plainBytes(list), b) {
		return nil, false
	}
	return list, true
}

// wantThereAndBack checks a list that is right in every way.
func wantThereAndBack(t *testing.T, list []impl.Rec) {
	t.Helper()
	for _, r := range list {
		if !impl.RecOk(r) {
			t.Errorf("%v is right", r)
		}
	}
	b, ok := impl.RecBytes(list)
	if !ok || !bytes.Equal(b, plainBytes(list)) {
		t.Errorf("RecBytes of %v are %v, %v", list, b, ok)
	}
	back, ok := impl.ReadRecs(b)
	if !ok || !slices.Equal(back, list) {
		t.Errorf("%v came back as %v, %v", list, back, ok)
	}
}

func wantNoBytes(t *testing.T, list []impl.Rec) {
	t.Helper()
	if b, ok := impl.RecBytes(list); ok || len(b) != 0 {
		t.Errorf("RecBytes of what is not right are %v, %v", b, ok)
	}
}

func wantNoRecs(t *testing.T, name string, b []byte) {
	t.Helper()
	if list, ok := impl.ReadRecs(b); ok || len(list) != 0 {
		t.Errorf("%s: ReadRecs of %v is %v, %v", name, b, list, ok)
	}
}

func TestPromise3KindsAreNumbered(t *testing.T) {
	if !slices.Equal(recKinds(), []int64{1, 2, 3, 4, 5, 6, 7, 8, 9, 10, 11, 12}) {
		t.Error("the kinds are", recKinds())
	}
	if impl.MaxField != 1000000 || impl.MaxRecs != 80 {
		t.Error("the limits are", impl.MaxField, impl.MaxRecs)
	}
}

func TestPromise3TheBytesThemselves(t *testing.T) {
	for _, c := range []struct {
		list []impl.Rec
		want []byte
	}{
		{nil, []byte{0}},
		{[]impl.Rec{}, []byte{0}},
		{[]impl.Rec{{Kind: impl.RcPhase}}, []byte{1, 1, 0, 0}},
		{[]impl.Rec{{Kind: impl.RcProbe, A: 1, B: 2}}, []byte{1, 12, 1, 2}},
		{[]impl.Rec{{Kind: 9, A: 127, B: 128}}, []byte{1, 9, 127, 128, 1}},
		{[]impl.Rec{{Kind: 9, A: 16383, B: 16384}}, []byte{1, 9, 255, 127, 128, 128, 1}},
		{[]impl.Rec{{Kind: 8, A: 1000000, B: 999999}}, []byte{1, 8, 192, 132, 61, 191, 132, 61}},
		{
			[]impl.Rec{{Kind: 2, A: 11, B: 6}, {Kind: 8, A: 300}, {Kind: 2, A: 11, B: 6}},
			[]byte{3, 2, 11, 6, 8, 172, 2, 0, 2, 11, 6},
		},
	} {
		if b, ok := impl.RecBytes(c.list); !ok || !bytes.Equal(b, c.want) {
			t.Errorf("RecBytes of %v are %v, %v, not %v", c.list, b, ok, c.want)
		}
		if list, ok := impl.ReadRecs(c.want); !ok || !slices.Equal(list, c.list) {
			t.Errorf("ReadRecs of %v is %v, %v, not %v", c.want, list, ok, c.list)
		}
	}
}

func TestPromise3HowMany(t *testing.T) {
	for count := range 81 {
		wantThereAndBack(t, manyRecs(count))
	}
	if b, _ := impl.RecBytes(manyRecs(80)); len(b) == 0 || b[0] != 80 {
		t.Error("80 records begin with", b)
	}
	for _, count := range []int{81, 82, 127, 128, 160, 256, 256 + 80, 1000, 65536} {
		wantNoBytes(t, manyRecs(count))
		wantNoRecs(t, "too many", plainBytes(manyRecs(count)))
	}
}

func TestPromise3EachKind(t *testing.T) {
	for _, kind := range recKinds() {
		for _, a := range fieldEdges() {
			for _, b := range fieldEdges() {
				wantThereAndBack(t, []impl.Rec{{Kind: kind, A: a, B: b}})
			}
		}
	}
	for _, kind := range wrongKinds() {
		wantWrong(t, impl.Rec{Kind: kind})
		wantWrong(t, impl.Rec{Kind: kind, A: 1000000, B: 1000000})
	}
}

func TestPromise3FieldsJustOutside(t *testing.T) {
	wantWrong(t, impl.Rec{})
	for _, kind := range recKinds() {
		for _, n := range wrongFields() {
			wantWrong(t, impl.Rec{Kind: kind, A: n})
			wantWrong(t, impl.Rec{Kind: kind, B: n})
			wantWrong(t, impl.Rec{Kind: kind, A: n, B: n})
		}
	}
}

// wantWrong checks that r is refused wherever it stands, and that no bytes are
// read as it.
func wantWrong(t *testing.T, r impl.Rec) {
	t.Helper()
	if impl.RecOk(r) {
		t.Errorf("%v is not right", r)
	}
	for _, place := range []int{0, 1, 40, 79} {
		list := manyRecs(80)
		list[place] = r
		wantNoBytes(t, list)
		wantNoRecs(t, "one of many", plainBytes(list))
		wantNoBytes(t, list[:place+1])
		wantNoRecs(t, "the last one", plainBytes(list[:place+1]))
	}
}

func TestPromise3BytesThatAreNone(t *testing.T) {
	for _, c := range []struct {
		name string
		b    []byte
	}{
		{"nil", nil},
		{"no bytes", []byte{}},
		{"the count has no end", []byte{128}},
		{"the count has no end, two bytes", []byte{129, 128}},
		{"no record of one", []byte{1}},
		{"a kind alone", []byte{1, 1}},
		{"no B", []byte{1, 1, 0}},
		{"A has no end", []byte{1, 1, 128}},
		{"B has no end", []byte{1, 1, 0, 255}},
		{"between two records", []byte{2, 1, 0, 0}},
		{"between two of three", []byte{3, 1, 0, 0, 12, 0, 0}},
		{"behind no record", []byte{0, 0}},
		{"behind one", []byte{1, 1, 0, 0, 0}},
		{"a whole record behind one", []byte{1, 1, 0, 0, 1, 0, 0}},
		{"a whole list behind one", []byte{1, 1, 0, 0, 1, 1, 0, 0}},
		{"the count could be shorter, 0", []byte{128, 0}},
		{"the count could be shorter, 1", []byte{129, 0, 1, 0, 0}},
		{"the count could be shorter by two", []byte{129, 128, 0, 1, 0, 0}},
		{"the kind could be shorter", []byte{1, 129, 0, 0, 0}},
		{"the kind could be shorter by two", []byte{1, 129, 128, 0, 0, 0}},
		{"A could be shorter, 0", []byte{1, 1, 128, 0, 0}},
		{"A could be shorter, 127", []byte{1, 1, 255, 0, 0}},
		{"A could be shorter, 128", []byte{1, 1, 128, 129, 0, 0}},
		{"A could be shorter, 16383", []byte{1, 1, 255, 255, 0, 0}},
		{"A could be shorter, 1000000", []byte{1, 1, 192, 132, 189, 0, 0}},
		{"B could be shorter, 0", []byte{1, 1, 0, 128, 0}},
		{"B could be shorter by two", []byte{1, 1, 0, 128, 128, 0}},
		{"B could be shorter, 1000000", []byte{1, 1, 0, 192, 132, 189, 0}},
		{"no kind 0", []byte{1, 0, 0, 0}},
		{"no kind 13", []byte{1, 13, 0, 0}},
		{"no kind 127", []byte{1, 127, 0, 0}},
		{"no kind 129", []byte{1, 129, 1, 0, 0}},
		{"A is 1000001", []byte{1, 1, 193, 132, 61, 0}},
		{"B is 1000001", []byte{1, 1, 0, 193, 132, 61}},
		{"A is the greatest of three bytes", []byte{1, 1, 255, 255, 127, 0}},
		{"A has four bytes", []byte{1, 1, 128, 128, 128, 1, 0}},
		{"B has five bytes", []byte{1, 1, 0, 255, 255, 255, 255, 15}},
		{"the second one is not right", []byte{2, 1, 0, 0, 13, 0, 0}},
		{"the last one is not right", []byte{3, 1, 0, 0, 2, 0, 0, 3, 0, 193, 132, 61}},
	} {
		wantNoRecs(t, c.name, c.b)
		if list, ok := plainRecs(c.b); ok {
			t.Errorf("%s: the test is wrong, these are %v", c.name, list)
		}
	}
}

// A number may be longer than 64 bits can hold: what would be lost of it is not
// passed over.
func TestPromise3NumbersThatAreTooLong(t *testing.T) {
	for size := 1; size <= 40; size++ {
		for _, last := range []byte{0, 1, 2, 127} {
			long := append(bytes.Repeat([]byte{128}, size), last)
			endless := bytes.Repeat([]byte{255}, size)
			for _, n := range [][]byte{long, append([]byte{129}, long...), endless, append(slices.Clone(endless), last)} {
				for _, parts := range [][][]byte{
					{n, {1, 0, 0}},
					{{1}, n, {0, 0}},
					{{1, 1}, n, {0}},
					{{1, 1, 0}, n},
				} {
					wantAsPlain(t, bytes.Join(parts, nil))
				}
			}
		}
	}
	wantNoRecs(t, "a count of 1 and a bit past all", append(append([]byte{129}, bytes.Repeat([]byte{128}, 9)...), 1, 1, 0, 0))
	wantNoRecs(t, "a field of 0 and a bit past all", append(append([]byte{1, 1}, bytes.Repeat([]byte{128}, 10)...), 1, 0))
}

// A great count is refused, however much lies behind it.
func TestPromise3CountsPastTheLimit(t *testing.T) {
	records := bytes.Repeat([]byte{1, 0, 0}, 400)
	for _, count := range []int{0, 1, 2, 79, 80, 81, 82, 127, 128, 129, 208, 255, 256, 257, 336, 400} {
		b := append(binary.AppendUvarint(nil, uint64(count)), records[:3*count]...)
		list, ok := impl.ReadRecs(b)
		if want := count <= 80; ok != want || want && len(list) != count || !want && len(list) != 0 {
			t.Errorf("%d records: %d, %v", count, len(list), ok)
		}
	}
	for _, count := range []uint64{81, 1000, 1 << 20, 1 << 32, 1<<32 + 1, 1 << 63, math.MaxInt64, math.MaxUint64} {
		wantNoRecs(t, "a count alone", binary.AppendUvarint(nil, count))
		wantNoRecs(t, "a count and one record", append(binary.AppendUvarint(nil, count), 1, 0, 0))
	}
}

func wantAsPlain(t *testing.T, b []byte) {
	t.Helper()
	list, ok := impl.ReadRecs(b)
	want, right := plainRecs(b)
	if ok != right || !slices.Equal(list, want) {
		t.Fatalf("ReadRecs of %v is %v, %v, not %v, %v", b, list, ok, want, right)
	}
	if !ok {
		return
	}
	if back, ok := impl.RecBytes(list); !ok || !bytes.Equal(back, b) {
		t.Fatalf("%v came back as %v, %v", b, back, ok)
	}
}

// All short bytes: those that are read are the ones that would be written.
func TestPromise3AllShortBytes(t *testing.T) {
	for i := range 256 {
		wantAsPlain(t, []byte{byte(i)})
		for j := range 256 {
			wantAsPlain(t, []byte{byte(i), byte(j)})
			wantAsPlain(t, []byte{1, byte(i), byte(j), 0})
			wantAsPlain(t, []byte{1, 1, byte(i), byte(j)})
			wantAsPlain(t, []byte{1, 1, byte(i), byte(j), 7})
			wantAsPlain(t, []byte{1, 1, 192, byte(i), byte(j), 7})
		}
	}
	wantAllOf(t, []byte{0, 1, 2, 12, 13, 127, 128, 129, 255}, nil, 6)
	wantAllOf(t, []byte{0, 1, 128}, nil, 10)
}

// wantAllOf goes through all that are begun like b and have at most more bytes
// of these behind it.
func wantAllOf(t *testing.T, these, b []byte, more int) {
	wantAsPlain(t, b)
	if more == 0 {
		return
	}
	for _, c := range these {
		wantAllOf(t, these, append(slices.Clip(b), c), more-1)
	}
}

// Of a list's bytes, whatever is torn off, put behind or altered, no other list
// comes than the one that makes just those bytes.
func TestPromise3BytesThatAreAltered(t *testing.T) {
	for _, count := range []int{0, 1, 2, 5, 80} {
		b, _ := impl.RecBytes(manyRecs(count))
		for i := range b {
			wantNoRecs(t, "torn off", b[:i])
			wantAsPlain(t, b[i:])
			for n := range 256 {
				altered := slices.Clone(b)
				altered[i] = byte(n)
				wantAsPlain(t, altered)
			}
			wantAsPlain(t, slices.Delete(slices.Clone(b), i, i+1))
			wantAsPlain(t, slices.Insert(slices.Clone(b), i, 0))
			wantAsPlain(t, slices.Insert(slices.Clone(b), i, 128))
		}
		for n := range 256 {
			wantNoRecs(t, "one behind", append(slices.Clone(b), byte(n)))
		}
	}
}
