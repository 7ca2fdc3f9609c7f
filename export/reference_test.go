package export_test

import (
	"encoding/binary"
	"fmt"
	"hash/adler32"
	"math"
	"slices"
	"strconv"
	"strings"

	"tarnfell/api"
	"tarnfell/level"
	"tarnfell/shape"
)

// This file has the document's rules, written down another time: slow, and with each operation rounded by way of a double, which never rounds twice.

func times(a, b float32) float32 { return float32(float64(a) * float64(b)) }
func plus(a, b float32) float32  { return float32(float64(a) + float64(b)) }
func minus(a, b float32) float32 { return float32(float64(a) - float64(b)) }
func over(a, b float32) float32  { return float32(float64(a) / float64(b)) }
func root(a float32) float32     { return float32(math.Sqrt(float64(a))) }
func size(a float32) float32     { return float32(math.Abs(float64(a))) }

// floor goes by way of a double, which has no bounds that matter.
func floor(v float32, least, most int) int {
	return int(math.Min(math.Max(math.Floor(float64(v)), float64(least)), float64(most)))
}

// smallHalf is the magnitude of the half with these bits, as if there were no infinities.
func smallHalf(bits int) float64 {
	exponent, part := bits>>10, float64(bits%1024)
	if exponent == 0 {
		return math.Ldexp(part, -24)
	}
	return math.Ldexp(1024+part, exponent-25)
}

// halfOf looks for the two halves between which a single lies.
func halfOf(v float32) int {
	if math.IsNaN(float64(v)) {
		return 0x7e00
	}
	sign, much := 0, math.Abs(float64(v))
	if math.Signbit(float64(v)) {
		sign = 0x8000
	}
	low, high := 0, 0x7c00
	for high-low > 1 {
		if i := (low + high) / 2; smallHalf(i) <= much {
			low = i
		} else {
			high = i
		}
	}
	return sign + nearer(much, low, smallHalf(low), smallHalf(high))
}

// nearer gives the first one of two successive numbers, or the other one, by whose value is nearer.
func nearer(v float64, n int, low, high float64) int {
	if v-low > high-v || v-low == high-v && n%2 != 0 {
		return n + 1
	}
	return n
}

func wholeOf(half int) float32 {
	v := smallHalf(half % 0x8000)
	if half%0x8000 >= 0x7c00 {
		v = math.Inf(1)
	}
	if half >= 0x8000 {
		v = math.Copysign(v, -1)
	}
	return float32(v)
}

// smallShort is the magnitude of the short with these bits, as if there were no infinities.
func smallShort(bits int) float64 {
	exponent, part := bits>>7, float64(bits%128)
	if exponent == 0 {
		return math.Ldexp(part, -133)
	}
	return math.Ldexp(128+part, exponent-134)
}

func shortOf(v float32) int {
	if math.IsNaN(float64(v)) {
		return 0x7fc0
	}
	bits := int(math.Float32bits(v) >> 16)
	sign, low := bits&0x8000, bits&0x7fff
	if math.IsInf(float64(v), 0) {
		return bits
	}
	return sign + nearer(math.Abs(float64(v)), low, smallShort(low), smallShort(low+1))
}

// levelOf gives a level ahead of its bounds.
func levelOf(s api.Scaling, v float32) float64 {
	return math.Floor(float64(plus(over(minus(v, s.Low), s.Step), 0.5)))
}

func valueOfLevel(s api.Scaling, n int) float32 { return plus(s.Low, times(float32(n), s.Step)) }

// packedOf uses the numbers of package binary, which have the form of Pack.
func packedOf(l []int) string {
	var text []byte
	for _, n := range l {
		text = binary.AppendVarint(text, int64(n))
	}
	return string(text)
}

// signed puts the sum behind a text.
func signed(text string) string {
	return string(binary.BigEndian.AppendUint32([]byte(text), adler32.Checksum([]byte(text))))
}

func headOf(format int, r api.Region) string {
	text := append([]byte("TARN"), byte(format))
	for _, n := range []int{r.X, r.Y, r.W, r.H} {
		text = binary.BigEndian.AppendUint32(text, uint32(int64(n)))
	}
	return string(text)
}

func scaleOf(s api.Scaling) string {
	text := binary.BigEndian.AppendUint32(nil, math.Float32bits(s.Low))
	text = binary.BigEndian.AppendUint32(text, math.Float32bits(s.Step))
	return string(append(text, byte(s.Bits)))
}

// bitsOf puts the bits of numbers one after the other, as text, and makes bytes of them.
func bitsOf(l []int, bits int) string {
	var text strings.Builder
	for _, n := range l {
		fmt.Fprintf(&text, "%0*b", bits, n)
	}
	for text.Len()%8 != 0 {
		text.WriteByte('0')
	}
	var bytes []byte
	for i := 0; i < text.Len(); i += 8 {
		n, _ := strconv.ParseUint(text.String()[i:i+8], 2, 8)
		bytes = append(bytes, byte(n))
	}
	return string(bytes)
}

func deltasOf(l []int) []int {
	deltas := slices.Clone(l)
	for i := 1; i < len(l); i++ {
		deltas[i] = l[i] - l[i-1]
	}
	return deltas
}

// fileOf gives a file, what it is read as, and whether a field has one.
func fileOf(f api.Field, format int, s api.Scaling) (string, api.Field, bool) {
	text, back, right := []byte(headOf(format, f.Region)), api.Field{Region: f.Region}, true
	var levels []int
	for _, v := range f.V {
		read := v
		switch format {
		case api.FormatFull:
			text = binary.BigEndian.AppendUint32(text, math.Float32bits(v))
		case api.FormatHalf:
			text = binary.BigEndian.AppendUint16(text, uint16(halfOf(v)))
			read = wholeOf(halfOf(v))
		case api.FormatShort:
			text = binary.BigEndian.AppendUint16(text, uint16(shortOf(v)))
			read = math.Float32frombits(uint32(shortOf(v)) << 16)
		default:
			n := levelOf(s, v)
			if n < 0 || n >= math.Ldexp(1, s.Bits) {
				return "", api.Field{}, false
			}
			levels = append(levels, int(n))
			read = valueOfLevel(s, int(n))
		}
		right = right && isHeight(read)
		back.V = append(back.V, read)
	}
	if format >= api.FormatLevels {
		text = append(text, scaleOf(s)...)
	}
	if format == api.FormatLevels {
		text = append(text, bitsOf(levels, s.Bits)...)
	}
	if format == api.FormatDeltas {
		text = append(text, packedOf(deltasOf(levels))...)
	}
	if !right {
		return "", api.Field{}, false
	}
	return signed(string(text)), back, true
}

func lostOf(f, g api.Field, bytes int) api.Lost {
	lost := api.Lost{Cell: at(f.X, f.Y), Bytes: bytes}
	for _, p := range cells(f.Region) {
		v, w := valueOf(f, p), valueOf(g, p)
		if d := size(minus(v, w)); d > lost.Worst {
			lost.Worst, lost.Cell = d, p
		}
		if sameBits(v, w) {
			lost.Exact++
		}
	}
	return lost
}

// rowsOf has a line for each row of a region, with the words of its cells.
func rowsOf(r api.Region, word func(p api.Point) string) string {
	var text strings.Builder
	for y := r.Y; y < r.Y+r.H; y++ {
		var words []string
		for x := r.X; x < r.X+r.W; x++ {
			words = append(words, word(at(x, y)))
		}
		text.WriteString(strings.Join(words, " ") + "\n")
	}
	return text.String()
}

func grayOf(f api.Field, low, high float32) string {
	return fmt.Sprintf("P2\n%d %d\n255\n", f.W, f.H) + rowsOf(f.Region, func(p api.Point) string {
		share := over(minus(valueOf(f, p), low), minus(high, low))
		return strconv.Itoa(floor(plus(times(share, 255), 0.5), 0, 255))
	})
}

func colorsOf(p []api.Tint, v float32) [3]int {
	parts := func(t api.Tint) [3]int { return [3]int{t.Red, t.Green, t.Blue} }
	if v <= p[0].At {
		return parts(p[0])
	}
	for i, b := range p[1:] {
		if a := p[i]; v < b.At {
			var c [3]int
			s := over(minus(v, a.At), minus(b.At, a.At))
			for k := range c {
				from, to := float32(parts(a)[k]), float32(parts(b)[k])
				c[k] = floor(plus(plus(from, times(minus(to, from), s)), 0.5), 0, 255)
			}
			return c
		}
	}
	return parts(p[len(p)-1])
}

func pictureOf(f api.Field, p []api.Tint, light [3]int) string {
	lit := flat(f.Region, 1)
	if light != [3]int{} {
		lit, _ = shape.Shade(f, light[0], light[1], light[2])
	}
	return fmt.Sprintf("P3\n%d %d\n255\n", lit.W, lit.H) + rowsOf(lit.Region, func(at api.Point) string {
		var words []string
		for _, c := range colorsOf(p, valueOf(f, at)) {
			words = append(words, strconv.Itoa(floor(plus(times(float32(c), valueOf(lit, at)), 0.5), 0, 1000)))
		}
		return strings.Join(words, " ")
	})
}

func objectOf(l []api.Triangle, f api.Field) string {
	var text strings.Builder
	numbers := map[api.Point]int{}
	for _, p := range cells(region(0, 0, f.W, f.H)) {
		for _, t := range l {
			if (p == t.A || p == t.B || p == t.C) && numbers[p] == 0 {
				n := len(numbers)
				numbers[p] = n + 1
				fmt.Fprintf(&text, "v %d %s %d\n", p.X, strconv.FormatFloat(float64(f.V[p.Y*f.W+p.X]), 'g', -1, 32), p.Y)
			}
		}
	}
	for _, t := range l {
		fmt.Fprintln(&text, "f", numbers[t.A], numbers[t.B], numbers[t.C])
	}
	return text.String()
}

// axes are those of a camera: ahead, to the right, and the rise ahead.
func axes(c api.Camera) (fx, fy, rx, ry, e float32) {
	m := root(plus(times(c.DX, c.DX), times(c.DY, c.DY)))
	fx, fy = over(c.DX, m), over(c.DY, m)
	return fx, fy, -fy, fx, over(c.DH, m)
}

// spotOf gives what Project gives, whatever is ahead.
func spotOf(c api.Camera, x, y, h float32) (api.Spot, float32) {
	fx, fy, rx, ry, e := axes(c)
	px, py, pz := minus(x, c.X), minus(y, c.Y), minus(h, c.H)
	a := plus(times(px, fx), times(py, fy))
	b := plus(times(px, rx), times(py, ry))
	u := minus(pz, times(e, a))
	return api.Spot{X: times(over(b, a), c.Zoom), Y: times(over(u, a), c.Zoom)}, a
}

// rayOf is that of the sign in a column and a line.
func rayOf(c api.Camera, column, line, wide, high int) api.Ray {
	fx, fy, rx, ry, e := axes(c)
	off := func(i, many int) float32 {
		return over(minus(plus(float32(i), 0.5), times(float32(many), 0.5)), c.Zoom)
	}
	s, t := off(column, wide), times(off(line, high), 2)
	return api.Ray{X: c.X, Y: c.Y, H: c.H, DX: plus(fx, times(rx, s)), DY: plus(fy, times(ry, s)), DH: minus(e, t), Most: 4096}
}

func drawnOf(f api.Field, c api.Camera, wide, high int) (string, api.Errno) {
	var text strings.Builder
	for line := range high {
		for column := range wide {
			s, struck, e := level.Hit(f, rayOf(c, column, line, wide, high))
			if e != api.OK {
				return "", e
			}
			sign := " "
			if struck {
				sign = "#%*+=-:."[floor(over(s.T, 8), 0, 7):][:1]
			}
			text.WriteString(sign)
		}
		text.WriteString("\n")
	}
	return text.String(), api.OK
}
