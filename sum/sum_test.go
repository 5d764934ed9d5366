package sum_test

import (
	"bytes"
	"hash/crc32"
	"math/rand"
	"strings"
	"testing"

	"confluence/sum"
)

// some returns random byte strings, the empty one among them.
func some(n int) [][]byte {
	x := rand.New(rand.NewSource(2))
	all := [][]byte{nil, {}}
	for len(all) < n {
		b := make([]byte, x.Intn(70))
		x.Read(b)
		all = append(all, b)
	}
	return all
}

// roomy returns a copy of b with spare capacity, and the whole of its memory.
func roomy(b []byte) (part, whole []byte) {
	whole = append(bytes.Clone(b), "spare memory"...)
	return whole[:len(b)], whole
}

// spoil overwrites b, its spare capacity included.
func spoil(b []byte) {
	b = b[:cap(b)]
	for i := range b {
		b[i] ^= 0x5a
	}
}

// refuses checks that b isn't opened.
func refuses(t *testing.T, what string, b []byte) {
	t.Helper()
	if c, ok := sum.Open(b); ok || len(c) != 0 {
		t.Errorf("%s: %x is opened: %x, %v", what, b, c, ok)
	}
}

func TestP21CrcOfKnownBytes(t *testing.T) {
	for _, c := range []struct {
		b    string
		want uint32
	}{
		{"", 0},
		{"123456789", 0xcbf43926},
		{"a", 0xe8b7be43},
		{"abc", 0x352441c2},
		{"\x00", 0xd202ef8d},
		{"\x00\x00\x00\x00", 0x2144df1c},
		{"\xff\xff\xff\xff", 0xffffffff},
		{"\xff", 0xff000000},
		{"\x80", 0x3fba6cad},
		{strings.Repeat("\x00", 32), 0x190a55ad},
		{strings.Repeat("\xff", 32), 0xff6cab0b},
		{"The quick brown fox jumps over the lazy dog", 0x414fa339},
	} {
		if got := sum.Crc([]byte(c.b)); got != c.want {
			t.Errorf("Crc of %q: %08x, not %08x", c.b, got, c.want)
		}
	}
	if sum.Crc(nil) != 0 {
		t.Errorf("Crc of nil: %08x", sum.Crc(nil))
	}
}

func TestP21CrcOfAnyBytes(t *testing.T) {
	for i := range 256 {
		b := []byte{byte(i)}
		if got, want := sum.Crc(b), crc32.ChecksumIEEE(b); got != want {
			t.Errorf("Crc of %x: %08x, not %08x", b, got, want)
		}
	}
	big := bytes.Repeat([]byte("0123456789abcdef!"), 1<<16)
	for _, b := range append(some(500), big) {
		if got, want := sum.Crc(b), crc32.ChecksumIEEE(b); got != want {
			t.Errorf("Crc of %d bytes: %08x, not %08x", len(b), got, want)
		}
	}
}

func TestP21SealPutsTheSumAhead(t *testing.T) {
	for _, c := range []struct{ b, want string }{
		{"", "\x00\x00\x00\x00"},
		{"123456789", "\x26\x39\xf4\xcb123456789"},
		{"a", "\x43\xbe\xb7\xe8a"},
		{"\xff", "\x00\x00\x00\xff\xff"},
		{"\x00\x00\x00\x00", "\x1c\xdf\x44\x21\x00\x00\x00\x00"},
	} {
		if got := sum.Seal([]byte(c.b)); string(got) != c.want {
			t.Errorf("Seal of %q: %x, not %x", c.b, got, c.want)
		}
	}
	if got := sum.Seal(nil); string(got) != "\x00\x00\x00\x00" {
		t.Errorf("Seal of nil: %x", got)
	}
}

func TestP21OpenGivesBackWhatWasSealed(t *testing.T) {
	for _, b := range append(some(300), []byte("ab"), make([]byte, 4), bytes.Repeat([]byte("x"), 100000)) {
		if c, ok := sum.Open(sum.Seal(b)); !ok || !bytes.Equal(c, b) {
			t.Errorf("%x was sealed, %x is opened, %v", b, c, ok)
		}
		if c, ok := sum.Open(sum.Seal(sum.Seal(b))); !ok || !bytes.Equal(c, sum.Seal(b)) {
			t.Errorf("%x was sealed twice, %x is opened, %v", b, c, ok)
		}
	}
	if c, ok := sum.Open(make([]byte, 4)); !ok || len(c) != 0 {
		t.Errorf("the seal of no bytes: %x, %v", c, ok)
	}
}

func TestP21OpenRefusesWhatIsTooShort(t *testing.T) {
	refuses(t, "nil", nil)
	for n := range 4 {
		refuses(t, "zero bytes", make([]byte, n))
		refuses(t, "the beginning of a seal", sum.Seal([]byte("ab"))[:n])
	}
}

func TestP21OpenRefusesATurnedBit(t *testing.T) {
	for _, b := range []string{"", "a", "ab", "\x00\x00\x00\x00", "a longer text, of some forty bytes or so"} {
		sealed := sum.Seal([]byte(b))
		for i := range 8 * len(sealed) {
			turned := bytes.Clone(sealed)
			turned[i/8] ^= 1 << (i % 8)
			refuses(t, "one bit turned", turned)
		}
	}
}

func TestP21OpenRefusesWhatIsNoSeal(t *testing.T) {
	sealed := sum.Seal([]byte("abc"))
	for n := range len(sealed) {
		refuses(t, "cut", sealed[:n])
	}
	refuses(t, "with a byte behind it", append(bytes.Clone(sealed), 0))
	refuses(t, "with a byte ahead of it", append([]byte{0}, sealed...))
	refuses(t, "five zero bytes", make([]byte, 5))
	refuses(t, "eight zero bytes", make([]byte, 8))
	refuses(t, "all ones", bytes.Repeat([]byte{0xff}, 4))
	refuses(t, "the most significant byte first", []byte("\xcb\xf4\x39\x26123456789"))
	refuses(t, "without the final inversion", []byte("\xd9\xc6\x0b\x34123456789"))
	refuses(t, "the sum behind the bytes", []byte("123456789\x26\x39\xf4\xcb"))
	refuses(t, "two bytes swapped", append(bytes.Clone(sealed[:4]), "acb"...))
}

func TestP21OpensJustTheResultsOfSeal(t *testing.T) {
	for _, b := range some(3000) {
		c, ok := sum.Open(b)
		if want := len(b) >= 4 && bytes.Equal(sum.Seal(b[4:]), b); ok != want || ok && !bytes.Equal(c, b[4:]) {
			t.Errorf("%x: %x, %v", b, c, ok)
		}
	}
}

func TestP21ChangesNoArgument(t *testing.T) {
	for _, b := range append(some(100), sum.Seal([]byte("sealed")), sum.Seal(nil)) {
		part, whole := roomy(b)
		before := bytes.Clone(whole)
		sum.Crc(part)
		sum.Seal(part)
		sum.Open(part)
		if !bytes.Equal(whole, before) {
			t.Errorf("%x is changed to %x", before, whole)
		}
		if got, want := sum.Crc(part), sum.Crc(b); got != want {
			t.Errorf("with spare memory: %08x, not %08x", got, want)
		}
	}
}

func TestP21AnswersNewMemory(t *testing.T) {
	for _, b := range []string{"", "a", "ab", strings.Repeat("long", 100)} {
		part, whole := roomy([]byte(b))
		before := bytes.Clone(whole)
		first, second := sum.Seal(part), sum.Seal(part)
		spoil(first)
		if !bytes.Equal(whole, before) || !bytes.Equal(second, sum.Seal([]byte(b))) {
			t.Errorf("Seal of %q shares memory", b)
		}
		part, whole = roomy(second)
		before = bytes.Clone(whole)
		one, _ := sum.Open(part)
		two, ok := sum.Open(part)
		spoil(one)
		if !ok || !bytes.Equal(whole, before) || string(two) != b {
			t.Errorf("Open of the seal of %q shares memory", b)
		}
		spoil(whole)
		if string(two) != b {
			t.Errorf("what was opened is kept in the argument: %q", two)
		}
	}
}
