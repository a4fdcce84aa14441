package derive

import (
	"math"
	"math/rand"
	"testing"

	"eddy/api"
)

// tells holds Input to what the document says of it.
func tells(t *testing.T, kind int, x, scale, want int64, err api.Errno) {
	t.Helper()
	if n, e := sayInput(kind, x, scale); n != want || e != err {
		t.Fatalf("Input(%d, %d, %d): the case itself is wrong: %d, %d", kind, x, scale, n, e)
	}
	if got, e := Input(kind, x, scale); got != want || e != err {
		t.Errorf("Input(%d, %d, %d): %d, %d, want %d, %d", kind, x, scale, got, e, want, err)
	}
}

func TestP19_5InputExamples(t *testing.T) {
	tells(t, api.KSquare, -3, 4, 36, api.OK)
	tells(t, api.KCount, 2, 4, 0, api.ErrUnit)
	tells(t, api.KMean, 2147483647, 2, 0, api.ErrRange)
	tells(t, api.KExt, 5, 2, 0, api.ErrScale)
}

func TestP19_5InputOfMeans(t *testing.T) {
	for _, c := range []struct{ scale, end int64 }{
		{1, 2147483647}, {2, 1073741823}, {3, 715827882}, {4, 536870911}, {1000, 2147483}, {mostScale - 1, 2048}, {mostScale, 2047},
	} {
		for _, sign := range []int64{1, -1} {
			tells(t, api.KMean, sign*(c.end-1), c.scale, sign*(c.end-1)*c.scale, api.OK)
			tells(t, api.KMean, sign*c.end, c.scale, sign*c.end*c.scale, api.OK)
			tells(t, api.KMean, sign*(c.end+1), c.scale, 0, api.ErrRange)
			tells(t, api.KMean, sign*(c.end+2), c.scale, 0, api.ErrRange)
		}
		tells(t, api.KMean, 0, c.scale, 0, api.OK)
		tells(t, api.KMean, 1, c.scale, c.scale, api.OK)
		for _, x := range []int64{1 << 43, 1 << 44, 1<<44 + 1, 1 << 62, math.MaxInt64, math.MinInt64, -1 << 44, -1 << 62} { // products that leave 64 bits, some of them come back to 0 or near it
			tells(t, api.KMean, x, c.scale, 0, api.ErrRange)
		}
	}
}

func TestP19_5InputOfCounts(t *testing.T) {
	for _, scale := range []int64{1, 2, 1000, mostScale - 1, mostScale} {
		tells(t, api.KCount, 0, scale, 0, api.OK)
		tells(t, api.KCount, 1, scale, scale, api.OK)
		for _, x := range []int64{-1, 2, -2, 3, 1 << 32, 1<<32 + 1, most, most + 1, -most, -most - 1, 1 << 44, math.MaxInt64, math.MinInt64} {
			tells(t, api.KCount, x, scale, 0, api.ErrUnit) // ahead of ErrRange
		}
	}
}

func TestP19_5InputOfSquares(t *testing.T) {
	for _, c := range []struct{ scale, end int64 }{
		{1, 46340}, {2, 32767}, {3, 26754}, {4, 23170}, {1000, 1465}, {mostScale - 1, 45}, {mostScale, 45},
	} {
		for _, sign := range []int64{1, -1} {
			tells(t, api.KSquare, sign*(c.end-1), c.scale, (c.end-1)*(c.end-1)*c.scale, api.OK)
			tells(t, api.KSquare, sign*c.end, c.scale, c.end*c.end*c.scale, api.OK)
			tells(t, api.KSquare, sign*(c.end+1), c.scale, 0, api.ErrRange)
			tells(t, api.KSquare, sign*(c.end+2), c.scale, 0, api.ErrRange)
		}
		tells(t, api.KSquare, 0, c.scale, 0, api.OK)
		for _, x := range []int64{46341, 65536, most, most + 1, 1 << 32, 1<<32 + 1, 3037000500, math.MaxInt64, math.MinInt64} { // squares that leave 64 bits, some of them come back to 0 or 1
			tells(t, api.KSquare, x, c.scale, 0, api.ErrRange)
			tells(t, api.KSquare, -x, c.scale, 0, api.ErrRange)
		}
	}
	tells(t, api.KSquare, 46340, mostScale, 0, api.ErrRange) // the square fits, times the scale it does not
}

func TestP19_5InputOfExtremes(t *testing.T) {
	for _, x := range []int64{0, 1, -1, 2, 5, -7, 46341, most - 1, 1 - most, most, -most} {
		tells(t, api.KExt, x, 1, x, api.OK)
	}
	for _, x := range []int64{most + 1, -most - 1, most + 2, -most - 2, 1 << 32, -1 << 32, 1<<32 + 1, math.MaxInt64, math.MinInt64} {
		tells(t, api.KExt, x, 1, 0, api.ErrRange)
	}
}

// What is named first is told: the kind, the scale, the unit, the range.
func TestP19_5InputOfWrongOnes(t *testing.T) {
	for _, kind := range []int{math.MinInt64, -1, 0, 5, 6, 1 << 32, 1<<32 + 1, math.MaxInt64} {
		for _, scale := range []int64{1, 4, 0, -1, mostScale + 1, math.MinInt64} {
			for _, x := range []int64{0, 1, 5, most + 1, math.MinInt64} {
				tells(t, kind, x, scale, 0, api.ErrKind)
			}
		}
	}
	for _, kind := range []int{api.KMean, api.KCount, api.KSquare, api.KExt} {
		for _, scale := range []int64{0, -1, -4, mostScale + 1, 1<<32 + 1, math.MaxInt64, math.MinInt64} {
			for _, x := range []int64{0, 1, 2, most + 1, math.MinInt64} {
				tells(t, kind, x, scale, 0, api.ErrScale)
			}
		}
	}
	for _, scale := range []int64{2, 3, 1000, mostScale} {
		for _, x := range []int64{0, 1, 5, most + 1} {
			tells(t, api.KExt, x, scale, 0, api.ErrScale)
		}
	}
}

func TestP19_5InputAtAllEdges(t *testing.T) {
	check := func(kind int, x, scale int64) {
		want, wantErr := sayInput(kind, x, scale)
		if got, err := Input(kind, x, scale); got != want || err != wantErr {
			t.Errorf("Input(%d, %d, %d): %d, %d, want %d, %d", kind, x, scale, got, err, want, wantErr)
		}
	}
	for _, kind := range kinds() {
		for _, x := range numbers() {
			for _, scale := range scales() {
				check(kind, x, scale)
			}
		}
	}
	r := rand.New(rand.NewSource(195))
	for i := range 40000 {
		scale := r.Int63n(1 << uint(1+i%20))
		for kind := range api.KExt + 2 {
			check(kind, int64(r.Uint64())>>uint(r.Intn(64)), scale)
			check(kind, r.Int63n(5)-2+most/max(scale, 1), scale)
		}
	}
}

func TestP19_6TextExamples(t *testing.T) {
	for _, c := range []struct {
		kind     int
		e, scale int64
		want     string
		err      api.Errno
	}{
		{api.KMean, 6, 4, "mean 3/2", api.OK}, {api.KMean, -6, 4, "mean -3/2", api.OK}, {api.KMean, 0, 4, "mean 0", api.OK}, {api.KMean, 8, 4, "mean 2", api.OK}, {api.KMean, -most, 1, "mean -2147483647", api.OK}, {api.KMean, 1, mostScale, "mean 1/1048576", api.OK},
		{api.KSquare, 6, 4, "second 3/2", api.OK}, {api.KSquare, -1, 4, "second -1/4", api.OK}, {api.KSquare, 0, 1, "second 0", api.OK}, {api.KSquare, most, mostScale, "second 2147483647/1048576", api.OK},
		{api.KCount, 100, 1000, "count 10", api.OK}, {api.KCount, 4, 10, "count 3", api.OK}, {api.KCount, 21, 10, "count 0", api.OK}, {api.KCount, 1, mostScale, "count 1048576", api.OK},
		{api.KMean, 6, 0, "", api.ErrScale}, {api.KMean, 6, mostScale + 1, "", api.ErrScale}, {api.KMean, most + 1, 4, "", api.ErrRange}, {api.KMean, -most - 1, 4, "", api.ErrRange}, {api.KMean, most + 1, -1, "", api.ErrScale},
		{api.KSquare, 6, 0, "", api.ErrScale}, {api.KSquare, 6, mostScale + 1, "", api.ErrScale}, {api.KSquare, most + 1, 4, "", api.ErrRange}, {api.KSquare, math.MinInt64, 4, "", api.ErrRange}, {api.KSquare, most + 1, -1, "", api.ErrScale},
		{api.KCount, 6, 0, "", api.ErrScale}, {api.KCount, 6, mostScale + 1, "", api.ErrScale}, {api.KCount, most + 1, 4, "", api.ErrRange}, {api.KCount, -most - 1, 4, "", api.ErrRange}, {api.KCount, 0, 10, "", api.ErrEmpty}, {api.KCount, -1, 10, "", api.ErrEmpty}, {api.KCount, -1, 0, "", api.ErrScale},
		{api.KExt, 6, 1, "", api.ErrKind}, {api.KExt, 6, 4, "", api.ErrKind}, {api.KExt, most + 1, 0, "", api.ErrKind}, {0, 6, 4, "", api.ErrKind}, {-1, 6, 4, "", api.ErrKind}, {5, 6, 4, "", api.ErrKind}, {0, most + 1, 0, "", api.ErrKind}, {math.MinInt64, 6, 4, "", api.ErrKind}, {math.MaxInt64, 6, 4, "", api.ErrKind}, {1<<32 + 1, 6, 4, "", api.ErrKind},
	} {
		if got, err := Text(c.kind, c.e, c.scale); got != c.want || err != c.err {
			t.Errorf("Text(%d, %d, %d): %q, %d, want %q, %d", c.kind, c.e, c.scale, got, err, c.want, c.err)
		}
	}
}

func TestP19_6TextAtAllEdges(t *testing.T) {
	for _, kind := range kinds() {
		for _, e := range numbers() {
			for _, scale := range scales() {
				want, wantErr := sayText(kind, e, scale)
				if got, err := Text(kind, e, scale); got != want || err != wantErr {
					t.Errorf("Text(%d, %d, %d): %q, %d, want %q, %d", kind, e, scale, got, err, want, wantErr)
				}
			}
		}
	}
}
