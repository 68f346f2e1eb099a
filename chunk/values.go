package chunk

import (
	"rick/api"
	"rick/pack"
	"rick/runs"
	"rick/xors"
)

// rawSize is how many bytes a value has that is laid as it is.
const rawSize = 8

// putValues is values as bytes, laid in a way.
func putValues(l []uint64, way int) ([]byte, api.Errno) {
	switch way {
	case api.Xor:
		return xors.Put(l)
	case api.Run:
		return runs.Put(l)
	case api.Packed:
		return pack.Put(l)
	}
	return putRaw(l), api.OK
}

// getValues is n values that bytes begin with, laid in a way, and how many bytes they have.
func getValues(b []byte, n, way int) ([]uint64, int, api.Errno) {
	switch way {
	case api.Xor:
		return xors.Get(b, n)
	case api.Run:
		return runs.Get(b, n)
	case api.Packed:
		return pack.Get(b, n)
	}
	return getRaw(b, n)
}

func putRaw(l []uint64) []byte {
	var b []byte
	for _, v := range l {
		for k := range rawSize {
			b = append(b, byte(v>>(8*(rawSize-1-k))))
		}
	}
	return b
}

func getRaw(b []byte, n int) ([]uint64, int, api.Errno) {
	size := n * rawSize
	if len(b) < size {
		return nil, 0, api.ErrShort
	}
	l := make([]uint64, n)
	for i, c := range b[:size] {
		l[i/rawSize] = l[i/rawSize]<<8 | uint64(c)
	}
	return l, size, api.OK
}
