package impl

import (
	"math/bits"
	"strconv"
	"strings"
)

const Point = 65536
const MaxLen = 1073741823
const MaxDigits = 15
const MaxOrder = 3
const MaxBad = 10000
const Overfull = 1000000
const MaxGlue = 10000

// maxShift bounds what one glue's place is moved by: the total of a row may be far less than a part of it.
const maxShift = 1 << 60

const (
	unitPt = iota
	unitMm
	unitIn
	unitPc
	unitSp
)

const (
	orderPt = iota
	orderFil
	orderFill
	orderFilll
)

type Glue struct {
	Size       int64
	Plus       int64
	PlusOrder  int64
	Minus      int64
	MinusOrder int64
}

type Setting struct {
	Sign  int64
	Order int64
	Want  int64
	Have  int64
	Bad   int64
	Over  int64
}

// unit is what a length may be told in: num / den of the small unit each.
type unit struct {
	name string
	num  int64
	den  int64
}

var units = [...]unit{
	unitPt: {"pt", Point, 1},
	unitMm: {"mm", 473628672, 2540},
	unitIn: {"in", 473628672, 100},
	unitPc: {"pc", 786432, 1},
	unitSp: {"sp", 1, 1},
}

var orderNames = [...]string{
	orderPt:    "pt",
	orderFil:   "fil",
	orderFill:  "fill",
	orderFilll: "filll",
}

// whole is every type of whole numbers.
type whole interface {
	~int | ~int8 | ~int16 | ~int32 | ~int64 | ~uint | ~uint8 | ~uint16 | ~uint32 | ~uint64 | ~uintptr
}

// nearest is x / y to the nearest, of two the one further from 0; y is not 0.
// The rest is held against what is missing to a whole y, since twice the rest might wrap.
func nearest[T whole](x, y T) T {
	quotient, rest := x/y, x%y
	if (rest < 0) == (y < 0) {
		missing := y - rest
		if y > 0 && rest >= missing || y < 0 && rest <= missing {
			quotient++
		}
		return quotient
	}
	missing := y + rest
	if rest < 0 && rest+missing <= 0 || rest > 0 && rest+missing >= 0 {
		quotient--
	}
	return quotient
}

// product is x * y in two words, made of halves so that nothing is lost.
func product(x, y uint64) (high, low uint64) {
	const half = 32
	const mask = 1<<half - 1
	x1, x0 := x>>half, x&mask
	y1, y0 := y>>half, y&mask
	middle := x1*y0 + x0*y0>>half
	carry := x0*y1 + middle&mask
	return x1*y1 + middle>>half + carry>>half, x * y
}

// magnitude is right for the least int64 too, whose negative is none.
func magnitude(x int64) uint64 {
	if x < 0 {
		return -uint64(x)
	}
	return uint64(x)
}

// scaled is x * num / den to the nearest; where it is beyond bound on either side, that bound and false. den is not 0.
func scaled(x, num, den int64, bound int64) (int64, bool) {
	inside := true
	size := uint64(bound)
	divisor := magnitude(den)
	high, low := product(magnitude(x), magnitude(num))
	if high >= divisor {
		inside = false
	} else if quotient, rest := bits.Div64(high, low, divisor); quotient > size {
		inside = false
	} else if quotient += nearest(rest, divisor); quotient > size {
		inside = false
	} else {
		size = quotient
	}
	if (x < 0) != (num < 0) != (den < 0) {
		return -int64(size), inside
	}
	return int64(size), inside
}

func fits(x int64) bool { return -MaxLen <= x && x <= MaxLen }

func Ratio(x int64, num int64, den int64) (int64, bool) {
	if den == 0 {
		return 0, false
	}
	answer, ok := scaled(x, num, den, MaxLen)
	if !ok {
		return 0, false
	}
	return answer, true
}

func ParseLen(s string) (int64, bool) {
	x, _, ok := parseLen(s)
	return x, ok
}

// parseLen tells, too, whether the text has the form of a length, for one that is too large has it.
func parseLen(s string) (x int64, form, ok bool) {
	negative, rest := takeSign(s)
	digits, scale, name, isNumber := takeDecimal(rest)
	u, isUnit := unitNamed(name)
	if !isNumber || !isUnit {
		return 0, false, false
	}
	if negative {
		digits = -digits
	}
	x, ok = Ratio(digits, u.num, scale*u.den)
	return x, true, ok
}

func unitNamed(name string) (unit, bool) {
	for _, u := range units {
		if u.name == name {
			return u, true
		}
	}
	return unit{}, false
}

func takeSign(s string) (negative bool, rest string) {
	if s == "" || s[0] != '+' && s[0] != '-' {
		return false, s
	}
	return s[0] == '-', s[1:]
}

// takeDecimal reads digits / scale from the beginning of s, at most MaxDigits digits and one dot.
func takeDecimal(s string) (digits int64, scale int64, rest string, ok bool) {
	scale = 1
	count, at, dot := 0, 0, false
	for ; at < len(s); at++ {
		c := s[at]
		if c == '.' && !dot {
			dot = true
			continue
		}
		if c < '0' || c > '9' {
			break
		}
		if count == MaxDigits {
			return 0, 0, "", false
		}
		count++
		digits = digits*10 + int64(c-'0')
		if dot {
			scale *= 10
		}
	}
	return digits, scale, s[at:], count > 0
}

func decimal(n int64) string { return strconv.FormatInt(n, 10) }

func ShowLen(x int64) string {
	if !fits(x) {
		return ""
	}
	return showDecimal(x) + orderNames[orderPt]
}

// showDecimal is the shortest decimal number of points that is read as x; x fits.
// Five digits always do, as steps of 1/100000 are finer than those of 1/65536.
func showDecimal(x int64) string {
	places, scale := 1, int64(10)
	number := lowerNearest(x*scale, Point)
	for nearest(number*Point, scale) != x {
		places++
		scale *= 10
		number = lowerNearest(x*scale, Point)
	}
	sign := ""
	if number < 0 {
		sign, number = "-", -number
	}
	part := decimal(number % scale)
	zeros := strings.Repeat("0", places-len(part))
	return sign + decimal(number/scale) + "." + zeros + part
}

// lowerNearest is x / y to the nearest, of two the lesser; y is even and above 0.
func lowerNearest(x, y int64) int64 {
	raised := x + y/2 - 1
	quotient := raised / y
	if raised%y < 0 {
		quotient--
	}
	return quotient
}

func orderOk(order int64) bool { return 0 <= order && order <= MaxOrder }

func GlueOk(g Glue) bool {
	return fits(g.Size) && fits(g.Plus) && fits(g.Minus) && orderOk(g.PlusOrder) && orderOk(g.MinusOrder)
}

// give is how far a glue grows or shrinks, so that one rule serves both.
type give struct {
	amount int64
	order  int64
}

func plusOf(g Glue) give  { return give{g.Plus, g.PlusOrder} }
func minusOf(g Glue) give { return give{g.Minus, g.MinusOrder} }

func AddGlue(a Glue, b Glue) (Glue, bool) {
	if !GlueOk(a) || !GlueOk(b) {
		return Glue{}, false
	}
	plus := addGive(plusOf(a), plusOf(b))
	minus := addGive(minusOf(a), minusOf(b))
	sum := Glue{a.Size + b.Size, plus.amount, plus.order, minus.amount, minus.order}
	if !GlueOk(sum) {
		return Glue{}, false
	}
	return sum, true
}

func addGive(a, b give) give {
	if a.order < b.order {
		a, b = b, a
	}
	if a.order == b.order {
		a.amount += b.amount
	} else if a.amount == 0 {
		a = b
	}
	if a.amount == 0 {
		return give{}
	}
	return a
}

func ShowGlue(g Glue) string {
	if !GlueOk(g) {
		return ""
	}
	return ShowLen(g.Size) + showGive(" plus ", plusOf(g)) + showGive(" minus ", minusOf(g))
}

func showGive(word string, g give) string {
	if g.amount == 0 {
		return ""
	}
	return word + showDecimal(g.amount) + orderNames[g.order]
}

// wide is a whole number of 256 bits, its least word first: room for the cubes of any lengths.
type wide [4]uint64

func (w wide) times(m uint64) wide {
	carry := uint64(0)
	for i := range w {
		high, low := product(w[i], m)
		w[i] = low + carry
		if w[i] < low {
			high++
		}
		carry = high
	}
	return w
}

func (w wide) atMost(v wide) bool {
	for i := len(w) - 1; i >= 0; i-- {
		if w[i] != v[i] {
			return w[i] < v[i]
		}
	}
	return true
}

func cube(x int64) wide {
	return wide{uint64(x)}.times(uint64(x)).times(uint64(x))
}

func Badness(short int64, can int64) int64 {
	if short <= 0 {
		return 0
	}
	if can <= 0 {
		return MaxBad
	}
	missing, room := cube(short).times(200), cube(can)
	// The greatest bad with bad - 1/2 not above the ratio; both sides are held against each other times 2 * room.
	low, high := int64(0), int64(MaxBad)
	for low < high {
		bad := (low + high + 1) / 2
		if room.times(uint64(2*bad - 1)).atMost(missing) {
			low = bad
		} else {
			high = bad - 1
		}
	}
	return low
}

func gluesOk(gs []Glue) bool {
	if len(gs) > MaxGlue {
		return false
	}
	for _, g := range gs {
		if !GlueOk(g) {
			return false
		}
	}
	return true
}

func Share(gs []Glue, width int64, target int64) ([]int64, Setting) {
	if !gluesOk(gs) || !fits(width) || !fits(target) {
		return nil, Setting{}
	}
	return shareOut(gs, width, target)
}

// shareOut is Share but for the bounds of its arguments.
func shareOut(gs []Glue, width, target int64) ([]int64, Setting) {
	lens := make([]int64, len(gs))
	want := target - width
	for i, g := range gs {
		lens[i] = g.Size
		want -= g.Size
	}
	set := settle(want, totals(gs, plusOf), totals(gs, minusOf))
	if set.Have <= 0 {
		return lens, set
	}
	part := plusOf
	if set.Sign < 0 {
		part = minusOf
	}
	given := set
	given.Want -= set.Over
	for i, p := range portions(gs, part, given) {
		lens[i] += set.Sign * p
	}
	return lens, set
}

// settle is how glues with these totals are set when they have to become longer by want in all, or shorter if it is below 0.
func settle(want int64, plus, minus [MaxOrder + 1]int64) Setting {
	if want > 0 {
		return stretch(want, plus)
	}
	if want < 0 {
		return shrink(-want, minus)
	}
	return Setting{}
}

func stretch(want int64, plus [MaxOrder + 1]int64) Setting {
	order, have := highest(plus)
	set := Setting{Sign: 1, Order: order, Want: want, Have: have}
	set.Bad = boundBad(set)
	if have <= 0 {
		set.Bad = MaxBad
	}
	return set
}

func shrink(want int64, minus [MaxOrder + 1]int64) Setting {
	order, have := highest(minus)
	set := Setting{Sign: -1, Order: order, Want: want, Have: have}
	if have <= 0 || order == 0 && have < want {
		set.Over = want - max(have, 0)
		set.Bad = Overfull
		return set
	}
	set.Bad = boundBad(set)
	return set
}

// boundBad is how bad a setting is: a glue of a higher order has no bound that it could pass.
func boundBad(set Setting) int64 {
	if set.Order > 0 {
		return 0
	}
	return Badness(set.Want, set.Have)
}

// portions are what each glue gives so that all give Want. Each is the difference of two rounded sums: so roundings never add up.
func portions(gs []Glue, part func(Glue) give, set Setting) []int64 {
	out := make([]int64, len(gs))
	sum, ahead := int64(0), int64(0)
	for i, g := range gs {
		p := part(g)
		if p.order != set.Order {
			continue
		}
		sum += p.amount
		here, _ := scaled(set.Want, sum, set.Have, maxShift)
		out[i] = here - ahead
		ahead = here
	}
	return out
}

func totals(gs []Glue, part func(Glue) give) [MaxOrder + 1]int64 {
	var sums [MaxOrder + 1]int64
	for _, g := range gs {
		p := part(g)
		sums[p.order] += p.amount
	}
	return sums
}

func highest(sums [MaxOrder + 1]int64) (order, total int64) {
	for order = MaxOrder; order > 0 && sums[order] == 0; order-- {
	}
	return order, sums[order]
}

func SumGlue(gs []Glue) (int64, []int64, []int64) {
	if !gluesOk(gs) {
		return 0, nil, nil
	}
	size := int64(0)
	for _, g := range gs {
		size += g.Size
	}
	plus, minus := totals(gs, plusOf), totals(gs, minusOf)
	return size, plus[:], minus[:]
}
