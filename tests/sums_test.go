package tests

import (
	"crypto/sha256"
	"encoding/hex"
	"regexp"
	"strings"
	"testing"

	"loop.example/codicil/impl"
)

// P1: what others say the sum is.
func TestSumsThatAreKnown(t *testing.T) {
	long := "abcdbcdecdefdefgefghfghighijhijkijkljklmklmnlmnomnopnopq"
	for text, want := range map[string]string{
		"":                             "e3b0c44298fc1c149afbf4c8996fb92427ae41e4649b934ca495991b7852b855",
		"abc":                          "ba7816bf8f01cfea414140de5dae2223b00361a396177a9cb410ff61f20015ad",
		long:                           "248d6a61d20638b8e5c026930c3e6039a33ce45964ff2167f6ecedd419db06c1",
		strings.Repeat("a", 1_000_000): "cdc76e5c9914fb9281a1c7e284d73e67f1809a48a497200e046d39ccc7112cd0",
	} {
		if got := impl.HashSum(text); got != want {
			t.Errorf("a text of %d bytes: %s, not %s", len(text), got, want)
		}
	}
}

// P1: of each size, so that each way to fill up the last block is there (55, 56, 64 bytes and so on).
func TestSumsOfEachSize(t *testing.T) {
	var bytes []byte
	for size := range 700 {
		checkSum(t, string(bytes))
		checkSum(t, strings.Repeat("\x00", size))
		checkSum(t, strings.Repeat("\xff", size))
		bytes = append(bytes, byte(size*size+size/3))
	}
}

func TestSumsOfLongTexts(t *testing.T) {
	c := newChance()
	for _, size := range []int{4095, 4096, 8191, 65535, 65536, 100_003, 1 << 22} {
		bytes := make([]byte, size)
		c.Read(bytes)
		checkSum(t, string(bytes))
	}
}

var sumForm = regexp.MustCompile(`^[0-9a-f]{64}$`)

func checkSum(t *testing.T, text string) {
	t.Helper()
	sum := sha256.Sum256([]byte(text))
	got := impl.HashSum(text)
	if got != hex.EncodeToString(sum[:]) {
		t.Errorf("a text of %d bytes: %s, not %x", len(text), got, sum)
	}
	if !sumForm.MatchString(got) {
		t.Errorf("a text of %d bytes: %q is not 64 figures", len(text), got)
	}
}
