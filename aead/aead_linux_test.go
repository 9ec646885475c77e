package aead_test

import (
	"strconv"
	"syscall"
	"testing"

	"fardel/aead"
	"fardel/api"
)

// P11.2: a text that needs one count more than there are is told ErrCount, ahead of any of its bytes: as no memory holds so many, they are room that is set aside and can't be read.
func TestTooLong(t *testing.T) {
	if strconv.IntSize < 64 {
		t.Skip("no list is so long")
	}
	long := uint64(1)<<38 - 64 + 1
	b, err := syscall.Mmap(-1, 0, int(long), syscall.PROT_NONE, syscall.MAP_ANON|syscall.MAP_PRIVATE|syscall.MAP_NORESERVE)
	if err != nil {
		t.Skip("no room can be set aside: ", err)
	}
	defer syscall.Munmap(b)
	if sealed, e := aead.Seal([32]byte{1}, [12]byte{2}, b, nil); len(sealed) != 0 || e != api.ErrCount {
		t.Errorf("%d bytes, %v", len(sealed), e)
	}
}
