package codec

import "longstop/api"

const sumBytes = 8

// nibbleSums: what the polynomial 0x42f0e1eba9ea3693 makes of each four bits
// that leave the register at its upper end. Sixteen of them spare the steps bit
// by bit; 256 for whole bytes would be more than a table here may hold.
var nibbleSums = [16]uint64{
	0x0000000000000000, 0x42f0e1eba9ea3693, 0x85e1c3d753d46d26, 0xc711223cfa3e5bb5,
	0x493366450e42ecdf, 0x0bc387aea7a8da4c, 0xccd2a5925d9681f9, 0x8e224479f47cb76a,
	0x9266cc8a1c85d9be, 0xd0962d61b56fef2d, 0x17870f5d4f51b498, 0x5577eeb6e6bb820b,
	0xdb55aacf12c73561, 0x99a54b24bb2d03f2, 0x5eb4691841135847, 0x1c4488f3e8f96ed4,
}

// Sum gives the CRC-64 of b.
func Sum(b []byte) uint64 {
	var register uint64
	for _, x := range b {
		register ^= uint64(x) << 56
		register = register<<4 ^ nibbleSums[register>>60]
		register = register<<4 ^ nibbleSums[register>>60]
	}
	return register
}

// Record gives the record in which b is.
func Record(b []byte) ([]byte, api.Errno) {
	if len(b) > api.MaxBytes {
		return nil, api.ErrSize
	}
	record := appendNumber(make([]byte, 0, mostGroups+len(b)+sumBytes), len(b))
	record = append(record, b...)
	return appendSum(record, Sum(b)), api.OK
}

// Unrecord gives what is in the record that b begins with, and how many bytes
// that record has. It reads b where it lies, without a Reader, so that a log is
// gone through record by record without a copy of all that follows each.
func Unrecord(b []byte) (in []byte, size int, e api.Errno) {
	n, head, e := takeLength(b)
	if e != api.OK {
		return nil, 0, e
	}
	if len(b)-head < n+sumBytes {
		return nil, 0, api.ErrEnd
	}
	inside := b[head : head+n]
	if Sum(inside) != takeSum(b[head+n:]) {
		return nil, 0, api.ErrSum
	}
	return append([]byte(nil), inside...), head + n + sumBytes, api.OK
}

func appendSum(b []byte, sum uint64) []byte {
	for shift := 56; shift >= 0; shift -= 8 {
		b = append(b, byte(sum>>shift))
	}
	return b
}

func takeSum(b []byte) uint64 {
	var sum uint64
	for _, x := range b[:sumBytes] {
		sum = sum<<8 | uint64(x)
	}
	return sum
}
