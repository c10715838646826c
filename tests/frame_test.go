package tests

import (
	"bytes"
	"encoding/binary"
	"math/big"
	"math/rand"
	"slices"
	"testing"

	"loop.example/g00767/impl"
)

// plainSum is the sum of the document told the other way round: one great
// number, and its rest only at the end.
func plainSum(b []byte) int64 {
	sum := big.NewInt(7)
	for _, c := range b {
		sum.Add(sum.Mul(sum, big.NewInt(31)), big.NewInt(int64(c)))
	}
	return sum.Mod(sum, big.NewInt(65521)).Int64()
}

// headed puts ahead of body what tells that it has length bytes and that sum.
func headed(length int, sum int64, body []byte) []byte {
	b := binary.LittleEndian.AppendUint16(nil, uint16(length))
	b = binary.LittleEndian.AppendUint16(b, uint16(sum))
	return append(b, body...)
}

// wholeOf is a frame of body with a right head, whatever body is.
func wholeOf(body []byte) []byte {
	return headed(len(body), plainSum(body), body)
}

func plainFrame(list []impl.Rec) []byte {
	return wholeOf(plainBytes(list))
}

func plainStore(lists ...[]impl.Rec) []byte {
	b := []byte{}
	for _, list := range lists {
		b = append(b, plainFrame(list)...)
	}
	return b
}

// plainFrames is what the document asks of ReadFrames, told the long way: b
// begins with the frame of a list, or it does not.
func plainFrames(b []byte) ([][]impl.Rec, int64) {
	if len(b) < 2 {
		return nil, 0
	}
	end := 4 + int(binary.LittleEndian.Uint16(b))
	if len(b) < end {
		return nil, 0
	}
	list, ok := plainRecs(b[4:end])
	if !ok || !bytes.Equal(b[:end], plainFrame(list)) {
		return nil, 0
	}
	behind, size := plainFrames(b[end:])
	return append([][]impl.Rec{list}, behind...), int64(end) + size
}

func sameLists(a, b [][]impl.Rec) bool {
	return slices.EqualFunc(a, b, func(x, y []impl.Rec) bool { return slices.Equal(x, y) })
}

func wantFrames(t *testing.T, name string, b []byte, size int64, lists ...[]impl.Rec) {
	t.Helper()
	got, n := impl.ReadFrames(b)
	if n != size || !sameLists(got, lists) {
		t.Errorf("%s: ReadFrames of %v are %v, %d, not %v, %d", name, b, got, n, lists, size)
	}
}

func wantAsPlainFrames(t *testing.T, b []byte) {
	t.Helper()
	got, n := impl.ReadFrames(b)
	if lists, size := plainFrames(b); n != size || !sameLists(got, lists) {
		t.Fatalf("ReadFrames of %v are %v, %d, not %v, %d", b, got, n, lists, size)
	}
}

// wantAdded checks WithFrame where it adds the frame behind the first size
// bytes of b.
func wantAdded(t *testing.T, name string, b []byte, size int, list []impl.Rec) {
	t.Helper()
	want := slices.Concat(b[:size], plainFrame(list))
	if got, ok := impl.WithFrame(b, list); !ok || !bytes.Equal(got, want) {
		t.Errorf("%s: WithFrame behind %v is %v, %v, not %v", name, b, got, ok, want)
	}
}

func wantNotAdded(t *testing.T, name string, b []byte, list []impl.Rec) {
	t.Helper()
	if got, ok := impl.WithFrame(b, list); ok || !bytes.Equal(got, b) {
		t.Errorf("%s: WithFrame behind %v is %v, %v, not what it was", name, b, got, ok)
	}
}

// someLists are such that their frames are of many sizes, an empty one among
// them, and one whose length takes both bytes.
func someLists() [][]impl.Rec {
	return [][]impl.Rec{
		manyRecs(1), {}, manyRecs(5), {}, {}, manyRecs(80), {{Kind: impl.RcProbe, A: 1000000, B: 1000000}}, manyRecs(40),
	}
}

// wrongLists are such of which RecBytes is false.
func wrongLists() [][]impl.Rec {
	lists := [][]impl.Rec{manyRecs(81), manyRecs(1000), {{}}}
	for _, r := range []impl.Rec{{Kind: 13}, {Kind: -1}, {Kind: 1, A: -1}, {Kind: 1, B: -1}, {Kind: 1, A: 1000001}, {Kind: 12, B: 1000001}} {
		lists = append(lists, []impl.Rec{r}, append(manyRecs(3), r), append([]impl.Rec{r}, manyRecs(3)...))
	}
	return lists
}

// notRecs are bytes of which ReadRecs is false.
func notRecs() map[string][]byte {
	return map[string][]byte{
		"no bytes at all":          {},
		"no record of one":         {1},
		"a byte behind none":       {0, 0},
		"a byte behind one":        {1, 1, 0, 0, 0},
		"no B":                     {1, 1, 0},
		"no kind":                  {1, 0, 0, 0},
		"kind 13":                  {1, 13, 0, 0},
		"a count that is too long": {128, 0},
		"A is 1000001":             {1, 1, 193, 132, 61, 0},
		"81 records":               plainBytes(manyRecs(81)),
		"a frame in a frame":       plainFrame(manyRecs(1)),
		"the longest there can be": bytes.Repeat([]byte{0}, 65535),
	}
}

func TestPromise4Sums(t *testing.T) {
	for _, c := range []struct {
		b    []byte
		want int64
	}{
		{nil, 7},
		{[]byte{}, 7},
		{[]byte{0}, 217},
		{[]byte{1}, 218},
		{[]byte{255}, 472},
		{[]byte{0, 0}, 6727},
		{[]byte{0, 0, 0}, 208537 - 3*65521},
		{[]byte{1, 1, 1, 0}, ((218*31+1)%65521*31 + 1) % 65521 * 31 % 65521},
	} {
		if got := impl.SumOf(c.b); got != c.want {
			t.Errorf("SumOf %v is %d, not %d", c.b, got, c.want)
		}
	}
	if impl.MaxStore != 1200 {
		t.Error("MaxStore is", impl.MaxStore)
	}
	random := rand.New(rand.NewSource(4))
	for size := range 300 {
		b := make([]byte, size)
		for i := range b {
			b[i] = byte(random.Intn(256))
		}
		wantSum(t, b)
	}
	for _, c := range []byte{0, 1, 127, 128, 255} {
		wantSum(t, bytes.Repeat([]byte{c}, 5000))
	}
}

func wantSum(t *testing.T, b []byte) {
	t.Helper()
	if got, want := impl.SumOf(b), plainSum(b); got != want {
		t.Errorf("SumOf %v is %d, not %d", b, got, want)
	}
}

func TestPromise4TheFramesThemselves(t *testing.T) {
	for _, c := range []struct {
		list []impl.Rec
		want []byte
	}{
		{nil, []byte{1, 0, 217, 0, 0}},
		{[]impl.Rec{}, []byte{1, 0, 217, 0, 0}},
		{[]impl.Rec{{Kind: impl.RcPhase, A: 1}}, []byte{4, 0, 8851 % 256, 8851 / 256, 1, 1, 1, 0}},
	} {
		if b, ok := impl.Framed(c.list); !ok || !bytes.Equal(b, c.want) {
			t.Errorf("Framed of %v is %v, %v, not %v", c.list, b, ok, c.want)
		}
		wantFrames(t, "one frame", c.want, int64(len(c.want)), c.list)
	}
	for count := range 81 {
		list := manyRecs(count)
		b, ok := impl.Framed(list)
		if !ok || !bytes.Equal(b, plainFrame(list)) {
			t.Errorf("Framed of %v is %v, %v", list, b, ok)
		}
		wantFrames(t, "one frame", b, int64(len(b)), list)
	}
	if b, _ := impl.Framed(slices.Repeat([]impl.Rec{{Kind: 1, A: 1000000, B: 1000000}}, 80)); len(b) != 565 || b[0] != 49 || b[1] != 2 {
		t.Error("the longest frame is", b)
	}
}

func TestPromise4NoFrameOfWrongRecords(t *testing.T) {
	for _, list := range wrongLists() {
		if b, ok := impl.Framed(list); ok || len(b) != 0 {
			t.Errorf("Framed of %v is %v, %v", list, b, ok)
		}
	}
}

func TestPromise4NoBytes(t *testing.T) {
	wantFrames(t, "nil", nil, 0)
	wantFrames(t, "no bytes", []byte{}, 0)
	for _, list := range someLists() {
		wantAdded(t, "behind nil", nil, 0, list)
		wantAdded(t, "behind no bytes", []byte{}, 0, list)
	}
}

// However much of the last frame is torn off, those ahead of it are read, and
// the next frame comes to lie where it was.
func TestPromise4TornOff(t *testing.T) {
	lists := someLists()
	for count := range lists {
		ahead := plainStore(lists[:count]...)
		whole := append(slices.Clone(ahead), plainFrame(lists[count])...)
		for cut := len(ahead); cut < len(whole); cut++ {
			wantFrames(t, "torn off", whole[:cut], int64(len(ahead)), lists[:count]...)
			wantAdded(t, "torn off", whole[:cut], len(ahead), []impl.Rec{{Kind: impl.RcBand, A: 6}})
		}
		wantFrames(t, "whole", whole, int64(len(whole)), lists[:count+1]...)
	}
}

// A store may be torn anywhere, not only in its last frame.
func TestPromise4TornAnywhere(t *testing.T) {
	store := plainStore(someLists()...)
	for cut := range len(store) + 1 {
		wantAsPlainFrames(t, store[:cut])
		wantAsPlainFrames(t, store[cut:])
	}
}

// ReadFrames has no bound of its own: MaxStore is one of WithFrame.
func TestPromise4MoreThanAStore(t *testing.T) {
	lists := slices.Repeat(someLists(), 20)
	b := plainStore(lists...)
	if len(b) <= 10*impl.MaxStore {
		t.Fatal("too few bytes for this test:", len(b))
	}
	wantFrames(t, "many", b, int64(len(b)), lists...)
	wantFrames(t, "many, torn off", b[:len(b)-1], int64(len(b)-len(plainFrame(manyRecs(40)))), lists[:len(lists)-1]...)
}

// wantNotWhole checks that b is no frame, wherever it stands, and that nothing
// behind it is looked at.
func wantNotWhole(t *testing.T, name string, b []byte) {
	t.Helper()
	first, next := manyRecs(2), manyRecs(3)
	ahead, behind := plainFrame(first), plainStore(next, nil)
	wantFrames(t, name, b, 0)
	wantFrames(t, name+", the first", slices.Concat(b, behind), 0)
	wantFrames(t, name+", the last", slices.Concat(ahead, b), int64(len(ahead)), first)
	wantFrames(t, name+", between", slices.Concat(ahead, b, behind), int64(len(ahead)), first)
	wantAdded(t, name, slices.Concat(ahead, b, behind), len(ahead), next)
	wantAdded(t, name+", alone", b, 0, next)
}

func TestPromise4LengthsThatAreWrong(t *testing.T) {
	for _, list := range someLists() {
		body := plainBytes(list)
		for _, length := range []int{len(body) + 1, len(body) + 256, len(body) * 2, 1200, 32768, 65535} {
			b := headed(length, plainSum(body), body)
			wantFrames(t, "more than there is", b, 0)
			wantAdded(t, "more than there is", b, 0, list)
		}
		wantNotWhole(t, "one more", headed(len(body)+1, plainSum(body), body))
		wantNotWhole(t, "one less", headed(len(body)-1, plainSum(body), body))
		wantNotWhole(t, "none", headed(0, plainSum(body), body))
		wantNotWhole(t, "the higher byte first", append([]byte{0, 1}, plainFrame(nil)[2:]...))
	}
	first := manyRecs(2)
	ahead := plainFrame(first)
	wantFrames(t, "a length alone", append(slices.Clone(ahead), 1, 0), int64(len(ahead)), first)
	wantFrames(t, "a head alone", append(slices.Clone(ahead), 1, 0, 217, 0), int64(len(ahead)), first)
}

func TestPromise4SumsThatAreWrong(t *testing.T) {
	for _, list := range someLists() {
		body := plainBytes(list)
		sum := plainSum(body)
		for _, off := range []int64{1, -1, 2, 255, 256, -256, 257, 32768} {
			wantNotWhole(t, "a sum that is off", headed(len(body), sum+off, body))
		}
		wantNotWhole(t, "the higher byte first", headed(len(body), sum%256*256+sum/256, body))
		wantNotWhole(t, "of the length too", headed(len(body), plainSum(plainFrame(list)), body))
	}
}

// A sum is never 65521 or more, though two bytes could hold that.
func TestPromise4SumsPastTheModulus(t *testing.T) {
	found := 0
	for a := range int64(20000) {
		body := plainBytes([]impl.Rec{{Kind: impl.RcClock, A: a}})
		if sum := plainSum(body); sum+65521 <= 65535 {
			found++
			wantNotWhole(t, "a sum that is 65521 more", headed(len(body), sum+65521, body))
		}
	}
	if found == 0 {
		t.Fatal("no list for this test")
	}
}

func TestPromise4BytesThatAreNoRecords(t *testing.T) {
	for name, body := range notRecs() {
		wantNotWhole(t, name, wholeOf(body))
	}
}

func TestPromise4NothingBehindIsLookedAt(t *testing.T) {
	wantNotWhole(t, "four noughts", []byte{0, 0, 0, 0})
	wantNotWhole(t, "a hundred noughts", make([]byte, 100))
	wantNotWhole(t, "all bits", bytes.Repeat([]byte{255}, 70000))
	frame := plainFrame(manyRecs(4))
	for i := range frame {
		for n := range 256 {
			b := slices.Clone(frame)
			b[i] = byte(n)
			wantAsPlainFrames(t, b)
			wantAsPlainFrames(t, slices.Concat(plainFrame(nil), b, frame))
		}
		wantAsPlainFrames(t, slices.Delete(slices.Clone(frame), i, i+1))
		wantAsPlainFrames(t, slices.Insert(slices.Clone(frame), i, frame[i]))
	}
}

// All short bytes: those that are read are the ones that would be written.
func TestPromise4AllShortBytes(t *testing.T) {
	for i := range 256 {
		for j := range 256 {
			wantAsPlainFrames(t, []byte{byte(i), byte(j)})
			wantAsPlainFrames(t, []byte{1, 0, byte(i), byte(j), 0})
			wantAsPlainFrames(t, []byte{byte(i), byte(j), 217, 0, 0, 1, 0, 217, 0, 0})
			wantAsPlainFrames(t, []byte{1, 0, 217, 0, byte(i), byte(j)})
		}
	}
}

func TestPromise4FramesOneByOne(t *testing.T) {
	store, lists := []byte{}, [][]impl.Rec{}
	for i, list := range slices.Concat(someLists()[:5], someLists()[6:], someLists()[:5]) {
		next, ok := impl.WithFrame(store, list)
		if !ok || !bytes.Equal(next, slices.Concat(store, plainFrame(list))) {
			t.Fatalf("frame %d behind %v: %v, %v", i, store, next, ok)
		}
		store, lists = next, append(lists, list)
		wantFrames(t, "one by one", store, int64(len(store)), lists...)
	}
}

// storeOf is a store of just that many bytes (28 or more), of frames of 8 bytes
// and of 5.
func storeOf(t *testing.T, size int) []byte {
	t.Helper()
	b := []byte{}
	for (size-len(b))%5 != 0 {
		b = append(b, plainFrame([]impl.Rec{{Kind: impl.RcPhase, A: 1}})...)
	}
	for len(b) < size {
		b = append(b, plainFrame(nil)...)
	}
	if len(b) != size {
		t.Fatalf("%d bytes are no store of %d", len(b), size)
	}
	return b
}

func TestPromise4AStoreThatIsFull(t *testing.T) {
	eight, nine := []impl.Rec{{Kind: impl.RcPhase}}, []impl.Rec{{Kind: impl.RcPhase, A: 128}}
	wantAdded(t, "1200 bytes by 8", storeOf(t, 1192), 1192, eight)
	wantNotAdded(t, "1201 bytes by 9", storeOf(t, 1192), nine)
	wantAdded(t, "1200 bytes by 5", storeOf(t, 1195), 1195, nil)
	wantNotAdded(t, "1201 bytes by 5", storeOf(t, 1196), nil)
	wantNotAdded(t, "1205 bytes", storeOf(t, 1200), nil)
	wantNotAdded(t, "more than full already", storeOf(t, 1600), nil)
	long := slices.Repeat([]impl.Rec{{Kind: 1, A: 1000000, B: 1000000}}, 80)
	wantAdded(t, "the longest one", storeOf(t, 635), 635, long)
	wantNotAdded(t, "the longest one, by one byte", storeOf(t, 636), long)
}

// What is torn does not count, and where nothing is added it stays.
func TestPromise4AFullStoreThatIsTorn(t *testing.T) {
	eight, nine := []impl.Rec{{Kind: impl.RcPhase}}, []impl.Rec{{Kind: impl.RcPhase, A: 128}}
	tail := plainFrame(manyRecs(60))
	for cut := range tail {
		wantAdded(t, "1200 bytes", slices.Concat(storeOf(t, 1192), tail[:cut]), 1192, eight)
		wantNotAdded(t, "1201 bytes", slices.Concat(storeOf(t, 1192), tail[:cut]), nine)
		wantNotAdded(t, "1205 bytes", slices.Concat(storeOf(t, 1200), tail[:cut]), nil)
	}
	garbage := bytes.Repeat([]byte{9}, 5000)
	wantAdded(t, "garbage alone", garbage, 0, nine)
	wantAdded(t, "garbage behind", slices.Concat(storeOf(t, 1192), garbage), 1192, eight)
	wantNotAdded(t, "garbage behind", slices.Concat(storeOf(t, 1192), garbage), nine)
}

func TestPromise4WrongRecordsAreNotAdded(t *testing.T) {
	torn := plainStore(someLists()[:4]...)
	torn = torn[:len(torn)-1]
	for _, list := range wrongLists() {
		wantNotAdded(t, "wrong records", nil, list)
		wantNotAdded(t, "wrong records", plainStore(someLists()[:4]...), list)
		wantNotAdded(t, "wrong records behind a torn frame", torn, list)
		wantNotAdded(t, "wrong records behind garbage", []byte{1, 2, 3, 4, 5, 6, 7}, list)
	}
}
