package disk

// unlit is the count of a fuse that does not burn.
const unlit = -1

// fuse is the power: it is off, or goes behind so many operations.
type fuse struct {
	off  bool
	left int
}

func newFuse() *fuse { return &fuse{left: unlit} }

func (f *fuse) light(k int) { f.left = k }

// burn tells whether an operation may be done: at the fuse's end the power goes.
func (f *fuse) burn() bool {
	if f.left == 0 {
		f.off = true
		return false
	}
	if f.left > 0 {
		f.left--
	}
	return true
}

// renew brings the power back.
func (f *fuse) renew() { *f = *newFuse() }
