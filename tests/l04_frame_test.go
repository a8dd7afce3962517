package tests

import (
	"fmt"
	"math"
	"math/rand/v2"
	"strconv"
	"strings"
	"testing"

	"loop.example/g00814/impl"
)

// Promise 4: a frame comes back from its bytes; what was changed a little is refused.

const (
	frSend    = 1
	frAck     = 2
	frHello   = 3
	frNack    = 4
	maxBody   = 40
	maxDevice = 6
	maxEpoch  = 60000
	maxSeq    = 60000
	geOk      = 0
	geShort   = 1
	geCheck   = 2
	geForm    = 3
)

func TestFrameConstants(t *testing.T) {
	got := []int{impl.FrSend, impl.FrAck, impl.FrHello, impl.FrNack, impl.MaxBody, impl.MaxDevice, impl.MaxEpoch, impl.MaxSeq, impl.GeOk, impl.GeShort, impl.GeCheck, impl.GeForm}
	if want := "[1 2 3 4 40 6 60000 60000 0 1 2 3]"; fmt.Sprint(got) != want {
		t.Errorf("%v, want %s", got, want)
	}
}

func anyBytes() string {
	all := make([]byte, 256)
	for i := range all {
		all[i] = byte(i)
	}
	return string(all)
}

func rightFrames() []impl.Frame {
	frames := []impl.Frame{
		{Kind: frSend, Device: 2, Epoch: 258, Seq: 3, Id: 4, Body: "hi"},
		{Kind: frSend, Device: 1, Epoch: 0, Seq: 1, Id: 1},
		{Kind: frSend, Device: maxDevice, Epoch: maxEpoch, Seq: maxSeq, Id: maxId, Body: strings.Repeat("\xff", maxBody)},
		{Kind: frSend, Device: 3, Epoch: 255, Seq: 255, Id: 255, Body: strings.Repeat("\x00", maxBody)},
		{Kind: frSend, Device: 3, Epoch: 256, Seq: 256, Id: 256, Body: strings.Repeat("\x00\xff\n", 13)},
		{Kind: frSend, Device: 4, Epoch: 65535 - 255*23, Seq: 512, Id: 1024, Body: "\x00"},
		{Kind: frSend, Device: 5, Epoch: 1, Seq: 2, Id: 3, Body: "\n"},
		{Kind: frSend, Device: 5, Epoch: 1, Seq: 2, Id: 3, Body: "\xff"},
		{Kind: frSend, Device: 5, Epoch: 1, Seq: 2, Id: 3, Body: " \t\n 12"},
		{Kind: frAck, Device: 1, Epoch: 0, Seq: 1},
		{Kind: frAck, Device: 2, Epoch: 7, Seq: 255},
		{Kind: frAck, Device: maxDevice, Epoch: maxEpoch, Seq: maxSeq},
		{Kind: frHello, Device: 1},
		{Kind: frHello, Device: 3, Epoch: 255},
		{Kind: frHello, Device: maxDevice, Epoch: maxEpoch},
		{Kind: frNack, Device: 1, Epoch: 0, Seq: 1},
		{Kind: frNack, Device: 5, Epoch: 9, Seq: 10},
		{Kind: frNack, Device: maxDevice, Epoch: maxEpoch, Seq: maxSeq},
	}
	all := anyBytes()
	for at := 0; at < len(all); at += maxBody {
		frames = append(frames, impl.Frame{Kind: frSend, Device: 1 + at%maxDevice, Epoch: at, Seq: 1 + at, Id: 1 + at, Body: all[at:min(at+maxBody, len(all))]})
	}
	for n := range maxBody + 1 {
		frames = append(frames, impl.Frame{Kind: frSend, Device: 2, Epoch: 40, Seq: 41, Id: 42, Body: strings.Repeat("k", n)})
	}
	return frames
}

// Each of these is but one thing away from a right Frame, or from two.
func wrongFrames() []impl.Frame {
	long := strings.Repeat("b", maxBody+1)
	frames := []impl.Frame{
		{},
		{Device: 1, Seq: 1},
		{Device: 1, Seq: 1, Id: 1, Body: "b"},
		{Kind: 5, Device: 1, Seq: 1},
		{Kind: 5, Device: 1},
		{Kind: 5, Device: 1, Seq: 1, Id: 1, Body: "b"},
		{Kind: -1, Device: 1, Seq: 1},
		{Kind: 256 + frSend, Device: 1, Seq: 1, Id: 1},
		{Kind: 256 + frAck, Device: 1, Seq: 1},
		{Kind: math.MinInt, Device: 1, Seq: 1},
		{Kind: math.MaxInt, Device: 1, Seq: 1},
		{Kind: frSend, Device: 1, Seq: 1, Id: 0},
		{Kind: frSend, Device: 1, Seq: 1, Id: -1},
		{Kind: frSend, Device: 1, Seq: 1, Id: maxId + 1},
		{Kind: frSend, Device: 1, Seq: 1, Id: 65536 + 1},
		{Kind: frSend, Device: 1, Seq: 1, Id: math.MaxInt},
		{Kind: frSend, Device: 1, Seq: 1, Id: 1, Body: long},
		{Kind: frSend, Device: 1, Seq: 1, Id: 1, Body: strings.Repeat("b", 256)},
		{Kind: frSend, Device: 1, Seq: 1, Id: 1, Body: strings.Repeat("b", 256+maxBody)},
		{Kind: frSend, Device: 1, Seq: 0, Id: 1},
	}
	for _, kind := range []int{frAck, frHello, frNack} {
		seq := 1
		if kind == frHello {
			seq = 0
		}
		frames = append(frames,
			impl.Frame{Kind: kind, Device: 1, Seq: seq, Id: 1},
			impl.Frame{Kind: kind, Device: 1, Seq: seq, Id: -1},
			impl.Frame{Kind: kind, Device: 1, Seq: seq, Id: maxId},
			impl.Frame{Kind: kind, Device: 1, Seq: seq, Id: 65536},
			impl.Frame{Kind: kind, Device: 1, Seq: seq, Body: "b"},
			impl.Frame{Kind: kind, Device: 1, Seq: seq, Body: "\x00"},
			impl.Frame{Kind: kind, Device: 1, Seq: seq, Body: long},
			impl.Frame{Kind: kind, Device: 1, Seq: seq, Id: 1, Body: "b"},
			impl.Frame{Kind: kind, Device: 1, Seq: 1 - seq})
	}
	for _, f := range []impl.Frame{{Kind: frSend, Device: 1, Seq: 1, Id: 1, Body: "b"}, {Kind: frAck, Device: 1, Seq: 1}, {Kind: frHello, Device: 1}, {Kind: frNack, Device: 1, Seq: 1}} {
		for _, device := range []int{math.MinInt, -1, 0, maxDevice + 1, 256 + 1, math.MaxInt} {
			g := f
			g.Device = device
			frames = append(frames, g)
		}
		for _, beyond := range []int{math.MinInt, -1, 60001, 65535, 65536, 65537, math.MaxInt} {
			g, h := f, f
			g.Epoch, h.Seq = beyond, beyond
			frames = append(frames, g, h)
		}
	}
	return frames
}

func TestFrameOk(t *testing.T) {
	for _, f := range rightFrames() {
		if !impl.FrameOk(f) {
			t.Errorf("FrameOk(%#v) = false", f)
		}
	}
	for _, f := range wrongFrames() {
		if impl.FrameOk(f) {
			t.Errorf("FrameOk(%#v) = true", f)
		}
	}
}

// plainFrameOk tells for each kind what the other parts may be.
func plainFrameOk(f impl.Frame) bool {
	limits := map[int]struct{ leastSeq, mostSeq, leastId, mostId, mostBody int }{
		frSend:  {1, maxSeq, 1, maxId, maxBody},
		frAck:   {1, maxSeq, 0, 0, 0},
		frHello: {0, 0, 0, 0, 0},
		frNack:  {1, maxSeq, 0, 0, 0},
	}
	l, known := limits[f.Kind]
	return known && between(f.Device, 1, maxDevice) && between(f.Epoch, 0, maxEpoch) &&
		between(f.Seq, l.leastSeq, l.mostSeq) && between(f.Id, l.leastId, l.mostId) && len(f.Body) <= l.mostBody
}

// plainSum adds up each byte as often as the second sum meets it.
func plainSum(s string) string {
	once, often := 0, 0
	for i := range len(s) {
		once += int(s[i])
		often += int(s[i]) * (len(s) - i)
	}
	return string([]byte{byte(often % 255), byte(once % 255)})
}

// plainHead is what stands ahead of the sum; of numbers beyond two bytes the lowest ones.
func plainHead(f impl.Frame, length int) string {
	return string([]byte{
		byte(f.Kind), byte(f.Device), byte(f.Epoch >> 8), byte(f.Epoch), byte(f.Seq >> 8), byte(f.Seq),
		byte(f.Id >> 8), byte(f.Id), byte(length),
	}) + f.Body
}

func withSum(s string) string {
	return s + plainSum(s)
}

func plainPut(f impl.Frame) string {
	return withSum(plainHead(f, len(f.Body)))
}

// plainGet reads the length that the frame tells, and looks whether all that stands behind it is just the sum.
func plainGet(s string) (impl.Frame, int) {
	if len(s) < 11 {
		return impl.Frame{}, geShort
	}
	if plainSum(s[:len(s)-2]) != s[len(s)-2:] {
		return impl.Frame{}, geCheck
	}
	two := func(at int) int { return 256*int(s[at]) + int(s[at+1]) }
	length := int(s[8])
	if len(s) != 11+length {
		return impl.Frame{}, geForm
	}
	f := impl.Frame{Kind: int(s[0]), Device: int(s[1]), Epoch: two(2), Seq: two(4), Id: two(6), Body: s[9 : 9+length]}
	if !plainFrameOk(f) {
		return impl.Frame{}, geForm
	}
	return f, geOk
}

func plainFrameText(f impl.Frame) string {
	name := []string{"", "send", "ack", "hello", "nack"}[f.Kind]
	text := fmt.Sprintf("%s %d %d %d %d", name, f.Device, f.Epoch, f.Seq, f.Id)
	if f.Kind == frSend {
		text += " " + strconv.Itoa(len(f.Body))
	}
	return text
}

// sameFrame holds all that is told of a Frame against the plain ways, whether it is right or not.
func sameFrame(t *testing.T, f impl.Frame) {
	t.Helper()
	ok, put, text := impl.FrameOk(f), impl.PutFrame(f), impl.FrameText(f)
	if ok != plainFrameOk(f) {
		t.Fatalf("FrameOk(%#v) = %v", f, ok)
	}
	if !ok {
		if put != "" || text != "" {
			t.Fatalf("of the wrong %#v: %q, %q", f, put, text)
		}
		return
	}
	if put != plainPut(f) || text != plainFrameText(f) {
		t.Fatalf("of %#v: %q, want %q; %q, want %q", f, put, plainPut(f), text, plainFrameText(f))
	}
	got, code := impl.GetFrame(put)
	if got != f || code != geOk || impl.PutFrame(got) != put {
		t.Fatalf("GetFrame(%q) = %#v, %d, want %#v", put, got, code, f)
	}
}

// sameGet holds GetFrame against the plain way, and tells the code.
func sameGet(t *testing.T, s string) int {
	t.Helper()
	got, code := impl.GetFrame(s)
	want, wantCode := plainGet(s)
	if got != want || code != wantCode {
		t.Fatalf("GetFrame(%q) = %#v, %d, want %#v, %d", s, got, code, want, wantCode)
	}
	if code != geOk && got != (impl.Frame{}) || code == geOk && impl.PutFrame(got) != s {
		t.Fatalf("GetFrame(%q) = %#v, %d", s, got, code)
	}
	return code
}

func TestFrameAtEachEdge(t *testing.T) {
	for _, kind := range []int{-1, 0, 1, 2, 3, 4, 5, 6, 257, 258, 259, 260} {
		for _, device := range []int{-1, 0, 1, 2, 6, 7, 257} {
			for _, epoch := range []int{-1, 0, 1, 255, 256, 59999, 60000, 60001, 65536} {
				for _, seq := range []int{-1, 0, 1, 2, 255, 256, 59999, 60000, 60001, 65537} {
					for _, id := range []int{-1, 0, 1, 2, 9998, 9999, 10000, 65536, 65537} {
						for _, length := range []int{0, 1, 39, 40, 41, 256} {
							sameFrame(t, impl.Frame{Kind: kind, Device: device, Epoch: epoch, Seq: seq, Id: id, Body: strings.Repeat("b", length)})
						}
					}
				}
			}
		}
	}
}

func TestPutFrame(t *testing.T) {
	for _, c := range []struct {
		f    impl.Frame
		want string
	}{
		{impl.Frame{Kind: frSend, Device: 2, Epoch: 258, Seq: 3, Id: 4, Body: "hi"}, "\x01\x02\x01\x02\x00\x03\x00\x04\x02hi" + "\x9a\xe0"},
		{impl.Frame{Kind: frSend, Device: 1, Seq: 1, Id: 1}, "\x01\x01\x00\x00\x00\x01\x00\x01\x00" + "\x17\x04"},
		{impl.Frame{Kind: frSend, Device: 6, Epoch: 60000, Seq: 60000, Id: 9999, Body: "\x00\xff\n"}, "\x01\x06\xea\x60\xea\x60\x27\x0f\x03\x00\xff\n" + "\x25\xe0"},
		{impl.Frame{Kind: frAck, Device: 2, Epoch: 7, Seq: 256}, "\x02\x02\x00\x07\x01\x00\x00\x00\x00" + "\x51\x0c"},
		{impl.Frame{Kind: frHello, Device: 1}, "\x03\x01\x00\x00\x00\x00\x00\x00\x00" + "\x23\x04"},
		{impl.Frame{Kind: frNack, Device: 5, Epoch: 9, Seq: 10}, "\x04\x05\x00\x09\x00\x0a\x00\x00\x00" + "\xaa\x1c"},
	} {
		if got := impl.PutFrame(c.f); got != c.want {
			t.Errorf("PutFrame(%#v) = %q, want %q", c.f, got, c.want)
		}
		if got, code := impl.GetFrame(c.want); got != c.f || code != geOk {
			t.Errorf("GetFrame(%q) = %#v, %d, want %#v", c.want, got, code, c.f)
		}
	}
}

func TestFrameComesBack(t *testing.T) {
	for _, f := range rightFrames() {
		sameFrame(t, f)
		if got := impl.PutFrame(f); len(got) != 11+len(f.Body) {
			t.Errorf("PutFrame(%#v) has %d bytes", f, len(got))
		}
	}
	for _, f := range wrongFrames() {
		sameFrame(t, f)
	}
}

func TestEachNumberOfAFrameComesBack(t *testing.T) {
	for n := range maxEpoch + 1 {
		sameFrame(t, impl.Frame{Kind: frHello, Device: 1 + n%maxDevice, Epoch: n})
		sameFrame(t, impl.Frame{Kind: frAck, Device: 1 + n%maxDevice, Epoch: maxEpoch - n, Seq: 1 + n%maxSeq})
		sameFrame(t, impl.Frame{Kind: frNack, Device: 1 + n%maxDevice, Epoch: n, Seq: 1 + n%maxSeq})
		sameFrame(t, impl.Frame{Kind: frSend, Device: 1 + n%maxDevice, Epoch: n, Seq: 1 + n%maxSeq, Id: 1 + n%maxId, Body: string([]byte{byte(n)})})
	}
}

func TestFrameText(t *testing.T) {
	for _, c := range []struct {
		f    impl.Frame
		want string
	}{
		{impl.Frame{Kind: frSend, Device: 2, Epoch: 258, Seq: 3, Id: 4, Body: "hi"}, "send 2 258 3 4 2"},
		{impl.Frame{Kind: frSend, Device: 1, Seq: 1, Id: 1}, "send 1 0 1 1 0"},
		{impl.Frame{Kind: frSend, Device: 6, Epoch: 60000, Seq: 60000, Id: 9999, Body: strings.Repeat("\n", 40)}, "send 6 60000 60000 9999 40"},
		{impl.Frame{Kind: frAck, Device: 3, Epoch: 10, Seq: 20}, "ack 3 10 20 0"},
		{impl.Frame{Kind: frHello, Device: 1}, "hello 1 0 0 0"},
		{impl.Frame{Kind: frHello, Device: 4, Epoch: 100}, "hello 4 100 0 0"},
		{impl.Frame{Kind: frNack, Device: 1, Seq: 9}, "nack 1 0 9 0"},
		{impl.Frame{}, ""},
		{impl.Frame{Kind: 5, Device: 1, Seq: 1}, ""},
		{impl.Frame{Kind: frHello, Device: 1, Seq: 1}, ""},
		{impl.Frame{Kind: frAck, Device: 1, Seq: 1, Body: "b"}, ""},
	} {
		if got := impl.FrameText(c.f); got != c.want {
			t.Errorf("FrameText(%#v) = %q, want %q", c.f, got, c.want)
		}
	}
}

// refused looks for a code, and for the zero Frame beside it.
func refused(t *testing.T, s string, want int) {
	t.Helper()
	if f, code := impl.GetFrame(s); code != want || f != (impl.Frame{}) {
		t.Errorf("GetFrame(%q) = %#v, %d, want %d", s, f, code, want)
	}
}

// Texts of fewer than 11 bytes are too short, whether their sum fits or not.
func TestGetFrameShort(t *testing.T) {
	refused(t, "", geShort)
	for _, f := range rightFrames() {
		s := impl.PutFrame(f)
		for n := range 11 {
			refused(t, s[:n], geShort)
			refused(t, s[len(s)-n:], geShort)
		}
		for n := range 9 {
			refused(t, withSum(s[:n]), geShort)
		}
	}
	for n := range 11 {
		refused(t, strings.Repeat("\x00", n), geShort)
		refused(t, strings.Repeat("\xff", n), geShort)
	}
}

func TestGetFrameOfEachLength(t *testing.T) {
	hello := "\x03\x01\x00\x00\x00\x00\x00\x00\x00\x23\x04"
	if f, code := impl.GetFrame(hello); len(hello) != 11 || code != geOk || f != (impl.Frame{Kind: frHello, Device: 1}) {
		t.Errorf("GetFrame(%q) = %#v, %d", hello, f, code)
	}
	refused(t, hello[:10], geShort)
	refused(t, strings.Repeat("a", 11), geCheck)
	refused(t, strings.Repeat("\x00", 11), geForm)
	refused(t, withSum(strings.Repeat("\x01", 9)), geForm)

	longest := impl.Frame{Kind: frSend, Device: 1, Seq: 1, Id: 1, Body: strings.Repeat("b", 40)}
	s := impl.PutFrame(longest)
	if f, code := impl.GetFrame(s); len(s) != 51 || code != geOk || f != longest {
		t.Errorf("GetFrame(%q) = %#v, %d", s, f, code)
	}
	longest.Body += "b"
	tooLong := plainPut(longest)
	if len(tooLong) != 52 {
		t.Fatal(len(tooLong))
	}
	refused(t, tooLong, geForm)
	refused(t, tooLong[:51], geCheck)
	refused(t, s+"b", geCheck)
	refused(t, strings.Repeat("b", 52), geCheck)
	refused(t, strings.Repeat("\x00", 52), geForm)
}

// Where several reasons apply, the first one counts.
func TestGetFrameWhichReasonComesFirst(t *testing.T) {
	right := impl.PutFrame(impl.Frame{Kind: frAck, Device: 2, Epoch: 258, Seq: 3})
	for _, c := range []struct {
		s    string
		want int
	}{
		{withSum("\x02\x02\x01\x02\x00\x03\x00\x00"), geShort},
		{right[:10], geShort},
		{"\x07\x09\xff\xff\xff\xff\xff\xff\x09\x01"[:10], geShort},
		{right[:10] + "\x00", geCheck},
		{right[:9] + "\x00" + right[10:], geCheck},
		{right[:9] + right[10:] + right[9:10], geCheck},
		{"\x07" + right[1:], geCheck},
		{right[:1] + "\x07" + right[2:], geCheck},
		{right[:8] + "\x01" + right[9:], geCheck},
		{right + "\x00", geCheck},
		{right + "\x00\x01", geCheck},
		{right + right, geCheck},
		{withSum("\x07" + right[1:9]), geForm},
		{withSum(right), geForm},
	} {
		refused(t, c.s, c.want)
	}
}

// A sum fits over these bytes, but they are PutFrame of none.
func TestGetFrameOfNone(t *testing.T) {
	for _, f := range wrongFrames() {
		g := f
		g.Kind, g.Device = f.Kind&255, f.Device&255
		g.Epoch, g.Seq, g.Id = f.Epoch&65535, f.Seq&65535, f.Id&65535
		// Cut to its bytes, a number that is much too great may be a right one.
		if g == f && len(f.Body) < 256 {
			refused(t, plainPut(f), geForm)
		}
		sameGet(t, plainPut(f))
	}
	for _, f := range rightFrames() {
		for length := range 256 {
			if length != len(f.Body) {
				refused(t, withSum(plainHead(f, length)), geForm)
			}
		}
		head := plainHead(f, len(f.Body))
		for _, behind := range []string{"\x00", "\xff", "b", "\x00\x00", plainSum(head), strings.Repeat("b", 256)} {
			refused(t, withSum(head+behind), geForm)
		}
		refused(t, withSum("\x00"+head), geForm)
		if len(f.Body) > 0 {
			refused(t, withSum(head[:len(head)-1]), geForm)
			refused(t, withSum(head[:9]+head[10:]+"bb"), geForm)
		}
	}
}

// Every byte of the head is once every other one, with a sum that fits.
func TestGetFrameOfEachHead(t *testing.T) {
	for _, f := range rightFrames() {
		head := []byte(plainHead(f, len(f.Body)))
		for at := range 9 {
			was := head[at]
			for b := range 256 {
				head[at] = byte(b)
				sameGet(t, withSum(string(head)))
			}
			head[at] = was
		}
	}
}

// alike tells whether a sum by 255 can't tell two bytes apart.
func alike(b, c byte) bool {
	return b%255 == c%255
}

func TestGetFrameTellsOfOneByte(t *testing.T) {
	for _, f := range rightFrames() {
		s := impl.PutFrame(f)
		changed := []byte(s)
		for at := range changed {
			for b := range 256 {
				if byte(b) == s[at] {
					continue
				}
				changed[at] = byte(b)
				code := sameGet(t, string(changed))
				// The sum itself is told to the byte.
				if unseen := alike(s[at], byte(b)) && at < len(s)-2; unseen == (code == geCheck) {
					t.Fatalf("GetFrame(%q) tells %d, with byte %d at place %d for %d", changed, code, b, at, s[at])
				}
			}
			changed[at] = s[at]
		}
	}
}

func TestGetFrameTellsOfNeighbours(t *testing.T) {
	for _, f := range rightFrames() {
		s := impl.PutFrame(f)
		for at := range len(s) - 1 {
			if s[at] == s[at+1] {
				continue
			}
			changed := []byte(s)
			changed[at], changed[at+1] = s[at+1], s[at]
			code := sameGet(t, string(changed))
			if unseen := alike(s[at], s[at+1]) && at+1 < len(s)-2; unseen == (code == geCheck) {
				t.Fatalf("GetFrame(%q) tells %d, with places %d and the next one changed", changed, code, at)
			}
		}
	}
}

// Bytes 0 and 255 are alike to the sum: what was changed is another frame, or none.
func TestGetFrameWhereTheSumCannotTell(t *testing.T) {
	f := impl.Frame{Kind: frSend, Device: 2, Epoch: 256, Seq: 512, Id: 768, Body: "a\x00\xff"}
	head := plainHead(f, 3)
	s := impl.PutFrame(f)
	change := func(at int, to string) string { return s[:at] + to + s[at+len(to):] }
	for _, c := range []struct {
		s    string
		want impl.Frame
	}{
		{change(3, "\xff"), impl.Frame{Kind: frSend, Device: 2, Epoch: 511, Seq: 512, Id: 768, Body: "a\x00\xff"}},
		{change(5, "\xff"), impl.Frame{Kind: frSend, Device: 2, Epoch: 256, Seq: 767, Id: 768, Body: "a\x00\xff"}},
		{change(7, "\xff"), impl.Frame{Kind: frSend, Device: 2, Epoch: 256, Seq: 512, Id: 1023, Body: "a\x00\xff"}},
		{change(10, "\xff"), impl.Frame{Kind: frSend, Device: 2, Epoch: 256, Seq: 512, Id: 768, Body: "a\xff\xff"}},
		{change(11, "\x00"), impl.Frame{Kind: frSend, Device: 2, Epoch: 256, Seq: 512, Id: 768, Body: "a\x00\x00"}},
		{change(10, "\xff\x00"), impl.Frame{Kind: frSend, Device: 2, Epoch: 256, Seq: 512, Id: 768, Body: "a\xff\x00"}},
	} {
		if got, code := impl.GetFrame(c.s); got != c.want || code != geOk {
			t.Errorf("GetFrame(%q) = %#v, %d, want %#v", c.s, got, code, c.want)
		}
	}
	if s[:len(s)-2] != head {
		t.Fatalf("PutFrame(%#v) = %q", f, s)
	}
	for _, c := range []struct {
		f  impl.Frame
		at int
	}{
		{impl.Frame{Kind: frSend, Device: 1, Epoch: 0, Seq: 255, Id: 1, Body: "b"}, 2},
		{impl.Frame{Kind: frSend, Device: 1, Epoch: 0, Seq: 255, Id: 1, Body: "b"}, 4},
		{impl.Frame{Kind: frSend, Device: 1, Epoch: 0, Seq: 255, Id: 1, Body: "b"}, 5},
		{impl.Frame{Kind: frSend, Device: 1, Epoch: 0, Seq: 1, Id: 255, Body: "b"}, 6},
		{impl.Frame{Kind: frSend, Device: 1, Epoch: 0, Seq: 1, Id: 255, Body: "b"}, 7},
		{impl.Frame{Kind: frSend, Device: 1, Epoch: 0, Seq: 1, Id: 255}, 8},
		{impl.Frame{Kind: frHello, Device: 1}, 5},
		{impl.Frame{Kind: frAck, Device: 1, Seq: 1}, 7},
		{impl.Frame{Kind: frNack, Device: 1, Seq: 1}, 8},
	} {
		changed := []byte(impl.PutFrame(c.f))
		changed[c.at] = 255 - changed[c.at]
		refused(t, string(changed), geForm)
	}
}

// A sum of 0 is told as byte 0, and never as byte 255.
func TestGetFrameSumOfNothing(t *testing.T) {
	for _, place := range []int{1, 2} {
		seen := 0
		for n := 1; n <= maxSeq; n++ {
			s := []byte(impl.PutFrame(impl.Frame{Kind: frAck, Device: 1, Seq: n}))
			if s[len(s)-place] == 0 {
				seen++
				s[len(s)-place] = 255
				refused(t, string(s), geCheck)
			}
		}
		if seen == 0 {
			t.Error("no frame whose sum has a byte 0 at", place)
		}
	}
}

// Promise 15: every function answers at any arguments, and keeps nothing from one call to another.

func TestFramesOfAnyNumbers(t *testing.T) {
	r := rand.New(rand.NewPCG(4, 1))
	odd := func(usual ...int) int {
		if r.IntN(6) == 0 {
			return oddNumbers[r.IntN(len(oddNumbers))]
		}
		return usual[r.IntN(len(usual))]
	}
	right := 0
	for range 200000 {
		body := randomBytes(r, odd(0, 0, 0, 1, 5, 39, 40, 41, 300)&511)
		f := impl.Frame{Kind: odd(1, 2, 3, 4), Device: odd(1, 3, 6), Epoch: odd(0, 1, 255, 60000), Seq: odd(0, 1, 60000), Id: odd(0, 0, 1, 9999), Body: body}
		sameFrame(t, f)
		if plainFrameOk(f) {
			right++
		}
	}
	if right < 10000 {
		t.Errorf("but %d of them are right", right)
	}
}

func randomBytes(r *rand.Rand, n int) string {
	bytes := make([]byte, n)
	for i := range bytes {
		bytes[i] = byte(r.UintN(256))
	}
	return string(bytes)
}

func TestGetFrameOfAnyBytes(t *testing.T) {
	r := rand.New(rand.NewPCG(4, 2))
	for n := range 300 {
		for range 20 {
			s := randomBytes(r, n)
			sameGet(t, s)
			sameGet(t, withSum(s))
		}
	}
	for _, s := range []string{strings.Repeat("\x00", 1<<20), strings.Repeat("\xff", 1<<20), strings.Repeat("a", 1<<20)} {
		sameGet(t, s)
		sameGet(t, withSum(s))
	}
}

// Frames of which some bytes were changed, taken out, or put in; some with a sum that fits again.
func TestGetFrameOfChangedFrames(t *testing.T) {
	r := rand.New(rand.NewPCG(4, 3))
	frames := rightFrames()
	codes := [4]int{}
	for range 300000 {
		s := []byte(impl.PutFrame(frames[r.IntN(len(frames))]))
		for range 1 + r.IntN(3) {
			at := r.IntN(len(s))
			switch r.IntN(4) {
			case 0:
				s[at] = byte(r.UintN(256))
			case 1:
				s[at] = 255 - s[at]
			case 2:
				s = append(s[:at], s[at+1:]...)
			case 3:
				s = append(s[:at+1], s[at:]...)
			}
		}
		text := string(s)
		if r.IntN(2) == 0 && len(s) > 1 {
			text = withSum(text[:len(s)-2])
		}
		codes[sameGet(t, text)]++
	}
	for code, times := range codes {
		if times < 100 {
			t.Errorf("code %d was told %d times", code, times)
		}
	}
}

func TestFramesKeepNothing(t *testing.T) {
	for _, f := range rightFrames() {
		s := impl.PutFrame(f)
		for _, other := range []string{"", s[:10], s + "x", withSum(s), "\x03\x01\x00\x00\x00\x00\x00\x00\x00\x23\x04"} {
			_, first := impl.GetFrame(other)
			if got, code := impl.GetFrame(s); got != f || code != geOk {
				t.Errorf("GetFrame(%q) = %#v, %d behind GetFrame(%q)", s, got, code, other)
			}
			if _, again := impl.GetFrame(other); again != first {
				t.Errorf("GetFrame(%q) tells %d, and %d later", other, first, again)
			}
		}
	}
}
