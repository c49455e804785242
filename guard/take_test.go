package guard_test

import (
	"fmt"
	"math"
	"slices"
	"testing"

	"plumbline/api"
	"plumbline/guard"
)

func takeSquare(t *testing.T, n int, w []uint64, want api.Code) {
	t.Helper()
	a, c := guard.Square(n, w)
	name := fmt.Sprintf("Square(%d, %x)", n, w[:min(len(w), 9)])
	code(t, name, a, c, want)
	if c == api.Good && (a.Rows != n || a.Cols != n || !slices.Equal(words(a.Data...), w)) {
		t.Errorf("%s: %v", name, short(a))
	}
}

func takeAny(t *testing.T, m, n int, w []uint64, want api.Code) {
	t.Helper()
	a, c := guard.Any(m, n, w)
	name := fmt.Sprintf("Any(%d, %d, %x)", m, n, w[:min(len(w), 9)])
	code(t, name, a, c, want)
	if c == api.Good && (a.Rows != m || a.Cols != n || !slices.Equal(words(a.Data...), w)) {
		t.Errorf("%s: %v", name, short(a))
	}
}

// symmetric are the words of an n by n matrix in range.
func symmetric(n int, seed uint64) []uint64 {
	w := words(inRange(n*n, seed)...)
	for i := range n {
		for k := range i {
			w[i*n+k] = w[k*n+i]
		}
	}
	return w
}

// P5.1: of every size that may be.
func TestTaken(t *testing.T) {
	for _, n := range []int{0, 1, 2, 3, 7, 100, api.MaxSize - 1, api.MaxSize} {
		takeSquare(t, n, symmetric(n, 1), api.Good)
		takeAny(t, n, n, words(inRange(n*n, 2)...), api.Good)
		for _, m := range []int{0, 1, 2, 5, api.MaxSize} {
			takeAny(t, m, n, words(inRange(m*n, 3)...), api.Good)
		}
	}
	takeSquare(t, 0, []uint64{}, api.Good)
	takeAny(t, 0, 0, []uint64{}, api.Good)
}

// P5.1, P0.9: sizes that may not be, with as many words as they ask for, and with others.
func TestSizesNotTaken(t *testing.T) {
	for _, s := range sizesNot() {
		for _, l := range []int{0, 1, 2, api.MaxSize, s[0] * s[1]} {
			if 0 <= l && l <= 1<<20 {
				takeAny(t, s[0], s[1], make([]uint64, l), api.BadInput)
				takeSquare(t, max(s[0], s[1]), make([]uint64, l), squareCode(max(s[0], s[1]), l))
				takeSquare(t, min(s[0], s[1]), make([]uint64, l), squareCode(min(s[0], s[1]), l))
			}
		}
	}
	takeAny(t, api.MaxSize+1, api.MaxSize, make([]uint64, (api.MaxSize+1)*api.MaxSize), api.BadInput)
	takeAny(t, api.MaxSize, api.MaxSize+1, make([]uint64, (api.MaxSize+1)*api.MaxSize), api.BadInput)
	takeAny(t, -3, -4, make([]uint64, 12), api.BadInput)
	takeSquare(t, -3, make([]uint64, 9), api.BadInput)
	takeSquare(t, api.MaxSize+1, make([]uint64, (api.MaxSize+1)*(api.MaxSize+1)), api.BadInput)
	// Their products wrap round to a number of words that is there.
	takeSquare(t, 1<<32, nil, api.BadInput)
	takeAny(t, 1<<62, 4, nil, api.BadInput)
	takeAny(t, math.MaxInt, math.MaxInt, make([]uint64, 1), api.BadInput)
}

// squareCode is what comes of l words that are 0.
func squareCode(n, l int) api.Code {
	if 0 <= n && n <= api.MaxSize && n*n == l {
		return api.Good
	}
	return api.BadInput
}

// P5.1: one word too few, one too many, and other numbers of words.
func TestHowManyWords(t *testing.T) {
	for _, n := range []int{0, 1, 2, 3, 10, api.MaxSize} {
		for _, m := range []int{0, 1, 2, 5, api.MaxSize} {
			for _, l := range []int{m*n - 1, m*n + 1, m + n, 2 * m * n, 0} {
				if l >= 0 && l != m*n {
					takeAny(t, m, n, make([]uint64, l), api.BadInput)
				}
			}
		}
		for _, l := range []int{n*n - 1, n*n + 1, n, n * (n + 1) / 2, 0} {
			if l >= 0 && l != n*n {
				takeSquare(t, n, make([]uint64, l), api.BadInput)
			}
		}
	}
}

// P5.1: each word that is in range, at each place.
func TestWordsInRange(t *testing.T) {
	for _, w := range words(inside()...) {
		for at := range 6 {
			l := words(1, -2, 0, 0x1p-400, minus, -0x1p400)
			l[at] = w
			takeAny(t, 2, 3, l, api.Good)
			takeAny(t, 6, 1, l, api.Good)
		}
		takeSquare(t, 1, []uint64{w}, api.Good)
		takeSquare(t, 2, []uint64{0, w, w, minusZero}, api.Good)
		takeSquare(t, 2, []uint64{w, 0, minusZero, w}, api.Good)
	}
}

// P5.1: each finite word that is not, at each place: in range is asked of all words, on the diagonal and beside it.
func TestWordsOutOfRange(t *testing.T) {
	for _, w := range words(outside()...) {
		for at := range 6 {
			l := words(1, -2, 0, 0x1p-400, minus, -0x1p400)
			l[at] = w
			takeAny(t, 2, 3, l, api.OutOfRange)
		}
		takeSquare(t, 1, []uint64{w}, api.OutOfRange)
		takeSquare(t, 2, []uint64{0, w, w, 0}, api.OutOfRange)
		takeSquare(t, 2, []uint64{w, 0, minusZero, 0}, api.OutOfRange)
		takeSquare(t, 2, []uint64{0, minusZero, 0, w}, api.OutOfRange)
	}
}

// P5.1: each word that is of no finite float, at each place; also ahead of, and behind, one out of range: BadInput ahead of OutOfRange.
func TestWordsNotFinite(t *testing.T) {
	out := words(0x1p401)[0]
	for _, w := range endless() {
		for at := range 6 {
			l := words(1, -2, 0, 0x1p-400, minus, -0x1p400)
			l[at] = w
			takeAny(t, 2, 3, l, api.BadInput)
			for other := range 6 {
				if other != at {
					l := slices.Clone(l)
					l[other] = out
					takeAny(t, 3, 2, l, api.BadInput)
				}
			}
		}
		takeSquare(t, 1, []uint64{w}, api.BadInput)
		takeSquare(t, 2, []uint64{0, w, w, 0}, api.BadInput)
		takeSquare(t, 2, []uint64{w, out, out, 0}, api.BadInput)
		takeSquare(t, 2, []uint64{out, 0, 0, w}, api.BadInput)
	}
}

// P5.1: a word that is not that beside the diagonal from it, at each place; also with ones out of range: BadInput ahead of OutOfRange.
func TestNotSymmetric(t *testing.T) {
	const n = 5
	for i := range n {
		for k := range n {
			w := symmetric(n, 4)
			want, out := api.BadInput, api.BadInput
			if i == k {
				want, out = api.Good, api.OutOfRange
			}
			w[i*n+k] = words(0x1p-399)[0] // no other has it
			takeSquare(t, n, w, want)
			takeAny(t, n, n, w, api.Good)
			w[i*n+k] = words(least)[0]
			takeSquare(t, n, w, out)
			takeAny(t, n, n, w, api.OutOfRange)
		}
	}
	takeSquare(t, 2, words(0x1p401, 1, 2, 0), api.BadInput)
	takeSquare(t, 2, words(0, 1, 2, 0x1p-401), api.BadInput)
	takeSquare(t, 2, words(1, 0x1p401, 0x1p402, 1), api.BadInput)
	takeSquare(t, 2, words(1, 0x1p401, 0x1p401, 1), api.OutOfRange)
	takeSquare(t, 2, words(1, 3, -3, 1), api.BadInput)
	takeSquare(t, 2, words(1, least, -least, 1), api.BadInput)
	takeSquare(t, 2, words(1, 0, least, 1), api.BadInput)
	takeSquare(t, 2, words(1, minus, -least, 1), api.BadInput)
}

// P5.1: beside the diagonal from a 0 either 0 may stand; each stays as it is.
func TestBothZeros(t *testing.T) {
	l := words(minus, 0, minus, minus, 0, 0, 0, minus, 1)
	takeSquare(t, 3, l, api.Good)
	a, _ := guard.Square(3, l)
	if got := words(a.Data...); !slices.Equal(got, l) {
		t.Errorf("%x", got)
	}
	takeSquare(t, 2, []uint64{0, minusZero, 0, minusZero}, api.Good)
	takeSquare(t, 2, []uint64{0, 0, minusZero, 0}, api.Good)
	takeSquare(t, 2, words(1, 0, 0x1p-400, 1), api.BadInput)
	takeSquare(t, 2, words(1, -0x1p-400, minus, 1), api.BadInput)
}

// P5.1: at the greatest size, the last words and the first ones count as all others.
func TestGreatest(t *testing.T) {
	const n = api.MaxSize
	for _, at := range []int{0, 1, n - 1, n, n*n/2 + 3, n*n - n, n*n - 2, n*n - 1} {
		w := make([]uint64, n*n)
		w[at] = words(0x1p401)[0]
		takeAny(t, n, n, w, api.OutOfRange)
		mirrored := at%n*n + at/n
		if mirrored != at {
			takeSquare(t, n, w, api.BadInput)
		}
		w[mirrored] = w[at]
		takeSquare(t, n, w, api.OutOfRange)
		w[at], w[mirrored] = 0x7FF<<52, 0x7FF<<52
		takeSquare(t, n, w, api.BadInput)
		takeAny(t, n, n, w, api.BadInput)
	}
}

// P0.2, P0.9: any words are answered by what they are, asked one by one.
func TestAnyWords(t *testing.T) {
	next := stream(5)
	for range 20000 {
		n := int(next() % 3)
		w := make([]uint64, n*n)
		for i := range w {
			w[i] = next()
			if next()&3 != 0 {
				w[i] = words(inside()...)[next()%26]
			}
		}
		if n == 2 && next()&3 != 0 {
			w[2] = w[1]
		}
		want := worst(w)
		takeAny(t, n, n, w, want)
		if n == 2 && math.Float64frombits(w[1]) != math.Float64frombits(w[2]) {
			want = api.BadInput
		}
		takeSquare(t, n, w, want)
	}
}

// worst is what comes of words one by one.
func worst(w []uint64) api.Code {
	c := api.Good
	for _, x := range w {
		size := math.Abs(math.Float64frombits(x))
		if size != size || size > most {
			return api.BadInput
		}
		if size != 0 && (size < 0x1p-400 || size > 0x1p400) {
			c = api.OutOfRange
		}
	}
	return c
}
