package impl

import "slices"

const OK = 0
const ErrForm = 1
const ErrMany = 2
const ErrRange = 3
const ErrNone = 4
const ErrText = 5
const ErrTaken = 6
const ErrFull = 7
const ErrState = 8
const MaxCoord = 1000
const MaxDims = 3

type Rect struct {
	Low  []int64
	High []int64
}
type IntResult struct {
	Code  int64
	Value int64
}
type IntsResult struct {
	Code int64
	List []int64
}
type RectResult struct {
	Code int64
	Rect Rect
}

const minDims = 2

// A corner has room for the most dimensions there are; the numbers of those
// that a box has not stay 0, where they change no sum and no comparison.
type corner [MaxDims]int64

// A box is what is reckoned with in place of a Rect: an assignment copies it
// whole, so that nothing done to it reaches an argument.
type box [2]corner

const lowCorner = 0
const highCorner = 1

func within(least int64, most int64, numbers ...int64) bool {
	for _, n := range numbers {
		if n < least || n > most {
			return false
		}
	}
	return true
}

func rises(numbers []int64) bool {
	for i := 1; i < len(numbers); i++ {
		if numbers[i] <= numbers[i-1] {
			return false
		}
	}
	return true
}

func PointFault(p []int64, dims int64) int64 {
	if !within(minDims, MaxDims, dims) {
		return ErrRange
	}
	if int64(len(p)) != dims {
		return ErrMany
	}
	if !within(-MaxCoord, MaxCoord, p...) {
		return ErrRange
	}
	return OK
}

func RectFault(r Rect, dims int64) int64 {
	if code := PointFault(r.Low, dims); code != OK {
		return code
	}
	if code := PointFault(r.High, dims); code != OK {
		return code
	}
	for i := range r.Low {
		if r.Low[i] > r.High[i] {
			return ErrForm
		}
	}
	return OK
}

// The first box alone says how many dimensions there are.
func dimsOf(r Rect) int64 {
	return int64(len(r.Low))
}

func rectsFault(a Rect, b Rect) int64 {
	if code := RectFault(a, dimsOf(a)); code != OK {
		return code
	}
	return RectFault(b, dimsOf(a))
}

func cornerFrom(p []int64) corner {
	var c corner
	copy(c[:], p)
	return c
}

func boxFrom(r Rect) box {
	return box{cornerFrom(r.Low), cornerFrom(r.High)}
}

func (c corner) point(dims int64) []int64 {
	p := make([]int64, dims)
	copy(p, c[:])
	return p
}

func (b box) rect(dims int64) Rect {
	return Rect{Low: b[lowCorner].point(dims), High: b[highCorner].point(dims)}
}

func (b box) union(other box) box {
	for i := range MaxDims {
		b[lowCorner][i] = min(b[lowCorner][i], other[lowCorner][i])
		b[highCorner][i] = max(b[highCorner][i], other[highCorner][i])
	}
	return b
}

// Only what boxes that meet have in common is a box.
func (b box) common(other box) box {
	for i := range MaxDims {
		b[lowCorner][i] = max(b[lowCorner][i], other[lowCorner][i])
		b[highCorner][i] = min(b[highCorner][i], other[highCorner][i])
	}
	return b
}

func (b box) meets(other box) bool {
	for i := range MaxDims {
		if b[lowCorner][i] > other[highCorner][i] || other[lowCorner][i] > b[highCorner][i] {
			return false
		}
	}
	return true
}

func (b box) covers(other box) bool {
	return b.union(other) == b
}

// A product, unlike a sum, is spoilt by the 0 of a dimension that the box has
// not, so it has to know how many there are.
func (b box) area(dims int64) int64 {
	area := int64(1)
	for i := range dims {
		area *= b[highCorner][i] - b[lowCorner][i]
	}
	return area
}

func (b box) margin() int64 {
	sum := int64(0)
	for i := range MaxDims {
		sum += b[highCorner][i] - b[lowCorner][i]
	}
	return sum
}

func (b box) distance(c corner) int64 {
	sum := int64(0)
	for i, n := range c {
		sum += max(b[lowCorner][i]-n, n-b[highCorner][i], 0)
	}
	return sum
}

func (b box) overlap(other box, dims int64) int64 {
	if !b.meets(other) {
		return 0
	}
	return b.common(other).area(dims)
}

func (b box) growth(other box, dims int64) int64 {
	return b.union(other).area(dims) - b.area(dims)
}

func UnionOf(a Rect, b Rect) RectResult {
	if code := rectsFault(a, b); code != OK {
		return RectResult{Code: code}
	}
	return RectResult{Rect: boxFrom(a).union(boxFrom(b)).rect(dimsOf(a))}
}

func Meets(a Rect, b Rect) bool {
	return rectsFault(a, b) == OK && boxFrom(a).meets(boxFrom(b))
}

func Covers(a Rect, b Rect) bool {
	return rectsFault(a, b) == OK && boxFrom(a).covers(boxFrom(b))
}

func AreaOf(r Rect) IntResult {
	if code := RectFault(r, dimsOf(r)); code != OK {
		return IntResult{Code: code}
	}
	return IntResult{Value: boxFrom(r).area(dimsOf(r))}
}

func MarginOf(r Rect) IntResult {
	if code := RectFault(r, dimsOf(r)); code != OK {
		return IntResult{Code: code}
	}
	return IntResult{Value: boxFrom(r).margin()}
}

func OverlapOf(a Rect, b Rect) IntResult {
	if code := rectsFault(a, b); code != OK {
		return IntResult{Code: code}
	}
	return IntResult{Value: boxFrom(a).overlap(boxFrom(b), dimsOf(a))}
}

func GrowthOf(a Rect, b Rect) IntResult {
	if code := rectsFault(a, b); code != OK {
		return IntResult{Code: code}
	}
	return IntResult{Value: boxFrom(a).growth(boxFrom(b), dimsOf(a))}
}

func DistOf(r Rect, p []int64) IntResult {
	if code := RectFault(r, dimsOf(r)); code != OK {
		return IntResult{Code: code}
	}
	if code := PointFault(p, dimsOf(r)); code != OK {
		return IntResult{Code: code}
	}
	return IntResult{Value: boxFrom(r).distance(cornerFrom(p))}
}

func SameRects(a Rect, b Rect) bool {
	return slices.Equal(a.Low, b.Low) && slices.Equal(a.High, b.High)
}
