package tests

import (
	"math"
	"slices"
	"testing"

	"loop.example/g00087/impl"
)

type (
	phasor = impl.Phasor
	slim   = impl.Slim
	turn   = impl.Turn4
)

var (
	negative0 = math.Copysign(0, -1)
	infinity  = math.Inf(1)
	notNumber = math.NaN()
)

func ph(re float64, im float64) phasor {
	return phasor{Re: re, Im: im}
}

// sameFloat tells 0 and -0 apart, and takes all NaNs for one.
func sameFloat(x float64, y float64) bool {
	return math.Float64bits(x) == math.Float64bits(y) || math.IsNaN(x) && math.IsNaN(y)
}

func samePhasor(a phasor, b phasor) bool {
	return sameFloat(a.Re, b.Re) && sameFloat(a.Im, b.Im)
}

func samePhasors(a []phasor, b []phasor) bool {
	return slices.EqualFunc(a, b, samePhasor)
}

func sameSlim(a slim, b slim) bool {
	return sameFloat(float64(a.Re), float64(b.Re)) && sameFloat(float64(a.Im), float64(b.Im))
}

// No compiler fuses an operation of one of these with one of another: each is rounded by itself.

//go:noinline
func floatProduct(x float64, y float64) float64 { return x * y }

//go:noinline
func floatSum(x float64, y float64) float64 { return x + y }

//go:noinline
func floatDifference(x float64, y float64) float64 { return x - y }

func plainTimes(a phasor, b phasor) phasor {
	return ph(
		floatDifference(floatProduct(a.Re, b.Re), floatProduct(a.Im, b.Im)),
		floatSum(floatProduct(a.Re, b.Im), floatProduct(a.Im, b.Re)),
	)
}

func plainOver(a phasor, b phasor) (phasor, bool) {
	s := floatSum(floatProduct(b.Re, b.Re), floatProduct(b.Im, b.Im))
	for _, x := range []float64{a.Re, a.Im, b.Re, b.Im, s} {
		if math.IsNaN(x) || math.IsInf(x, 0) {
			return phasor{}, false
		}
	}
	if s == 0 {
		return phasor{}, false
	}
	p := plainTimes(a, ph(b.Re, math.Copysign(b.Im, flipped(b.Im))))
	return ph(p.Re/s, p.Im/s), true
}

// flipped is a number of the other sign than x.
func flipped(x float64) float64 {
	if math.Signbit(x) {
		return 1
	}
	return -1
}

// oddParts are both noughts, what is not finite, what is at a limit, and what is in between.
func oddParts() []float64 {
	return []float64{
		0, negative0, infinity, -infinity, notNumber, 1, -1, 3, -0.1, 1 + 0x1p-30, -1 - 0x1p-29, 0x1p-52 - 1,
		math.MaxFloat64, -math.MaxFloat64, math.SmallestNonzeroFloat64, -math.SmallestNonzeroFloat64, 1e-162, -1e154, 1.5e154,
	}
}

func oddPhasors() []phasor {
	var list []phasor
	for _, re := range oddParts() {
		for _, im := range oddParts() {
			list = append(list, ph(re, im))
		}
	}
	return list
}

func TestLimitsOfPhasors(t *testing.T) {
	if impl.MaxPhasors != 12 || impl.MaxTurns4 != 60 {
		t.Error(impl.MaxPhasors, impl.MaxTurns4)
	}
	kinds := []int{impl.TurnSet, impl.TurnAdd, impl.TurnTimes, impl.TurnOver, impl.TurnBar, impl.TurnFrom}
	if !slices.Equal(kinds, []int{1, 2, 3, 4, 5, 6}) {
		t.Error(kinds)
	}
}

func TestSlimmed(t *testing.T) {
	inf := float32(math.Inf(1))
	for _, c := range []struct {
		from float64
		want float32
	}{
		{0, 0}, {negative0, float32(negative0)}, {1.5, 1.5}, {0.1, 0.1}, {-1e9, -1e9},
		{infinity, inf}, {-infinity, -inf}, {notNumber, float32(notNumber)},
		{1 + 0x1p-24, 1}, {1 + 3*0x1p-24, 1 + 0x1p-22}, // as near to two: the even one
		{1 + 0x1p-24 + 0x1p-52, 1 + 0x1p-23}, {1 + 3*0x1p-24 - 0x1p-51, 1 + 0x1p-23}, // nearer to one
		{math.MaxFloat32, math.MaxFloat32}, {0x1.fffffefffffffp127, math.MaxFloat32}, // the greatest that comes to a finite one
		{0x1.ffffffp127, inf}, {-0x1.ffffffp127, -inf}, {0x1p128, inf}, {-math.MaxFloat64, -inf},
		{0x1p-149, 0x1p-149}, {-0x1p-149, -0x1p-149}, {3 * 0x1p-150, 0x1p-148}, {0x1p-150 + 0x1p-202, 0x1p-149},
		{0x1p-150, 0}, {-0x1p-150, float32(negative0)}, {math.SmallestNonzeroFloat64, 0}, {-math.SmallestNonzeroFloat64, float32(negative0)},
		{0x1.7fffffffp-149, 0x1p-149}, // rounded twice it would be more
	} {
		if got := impl.Slimmed(ph(c.from, 7)); !sameSlim(got, slim{Re: c.want, Im: 7}) {
			t.Errorf("Re %x: %x", c.from, got)
		}
		if got := impl.Slimmed(ph(7, c.from)); !sameSlim(got, slim{Re: 7, Im: c.want}) {
			t.Errorf("Im %x: %x", c.from, got)
		}
	}
}

func TestFull(t *testing.T) {
	for _, c := range []struct {
		from float32
		want float64
	}{
		{0, 0}, {float32(negative0), negative0}, {0.1, 0x1.99999ap-4}, {-1e9, -1e9}, {math.MaxFloat32, math.MaxFloat32},
		{float32(infinity), infinity}, {float32(-infinity), -infinity}, {float32(notNumber), notNumber},
		{0x1p-149, 0x1p-149}, {-0x1.fffffcp-127, -0x1.fffffcp-127},
	} {
		if got := impl.Full(slim{Re: c.from, Im: 7}); !samePhasor(got, ph(c.want, 7)) {
			t.Errorf("Re %x: %x", c.from, got)
		}
		if got := impl.Full(slim{Re: 7, Im: c.from}); !samePhasor(got, ph(7, c.want)) {
			t.Errorf("Im %x: %x", c.from, got)
		}
	}
}

// What is of the lesser size comes back from the other one as it was.
func TestSlimmedOfFull(t *testing.T) {
	for bits := uint64(0); bits < 1<<32; bits += 65521 {
		a := slim{Re: math.Float32frombits(uint32(bits)), Im: math.Float32frombits(uint32(bits * 77))}
		if got := impl.Slimmed(impl.Full(a)); !sameSlim(got, a) {
			t.Fatalf("%x: %x", a, got)
		}
	}
}

func TestPhTimes(t *testing.T) {
	for _, c := range []struct{ a, b, want phasor }{
		{ph(1, 2), ph(3, 4), ph(-5, 10)},
		{ph(0, 1), ph(0, 1), ph(-1, 0)},
		{ph(5, 0), ph(2, -3), ph(10, -15)},
		{ph(0, 0), ph(-1, -1), ph(0, negative0)},
		{ph(negative0, 0), ph(1, 1), ph(negative0, 0)},
		{ph(negative0, negative0), ph(1, 1), ph(0, negative0)},
		{ph(1e200, 1), ph(1e200, 1), ph(infinity, 2e200)},
		{ph(1e200, 1e200), ph(1e200, 1e200), ph(notNumber, infinity)}, // an infinity less another
		{ph(infinity, 0), ph(1, 0), ph(infinity, notNumber)},          // 0 times an infinity is not passed over
		{ph(infinity, infinity), ph(1, 1), ph(notNumber, infinity)},
		{ph(notNumber, 1), ph(1, 1), ph(notNumber, notNumber)},
		{ph(1e-200, 1e-200), ph(1e-200, -1e-200), ph(0, 0)},
	} {
		if got := impl.PhTimes(c.a, c.b); !samePhasor(got, c.want) {
			t.Errorf("%v %v: %v", c.a, c.b, got)
		}
	}
}

func TestPhTimesOverOddParts(t *testing.T) {
	list := oddPhasors()
	for _, a := range list {
		for _, b := range list {
			if got := impl.PhTimes(a, b); !samePhasor(got, plainTimes(a, b)) {
				t.Fatalf("%x %x: %x", a, b, got)
			}
		}
	}
}

// roundedTwice are products in which what a fused operation would keep is lost, each in another one of the four products.
func roundedTwice() []struct{ a, b, want phasor } {
	const x, y = 1 + 0x1p-30, 1 + 0x1p-29 // x x is y and 2^-60, and rounded it is y
	return []struct{ a, b, want phasor }{
		{ph(x, 1), ph(x, y), ph(0, 2+0x1p-28+0x1p-30)}, // a.Re b.Re
		{ph(1, x), ph(y, x), ph(0, 2+0x1p-28+0x1p-30)}, // a.Im b.Im
		{ph(x, 1), ph(-y, x), ph(-2-0x1p-28-0x1p-30, 0)},
		{ph(1, x), ph(x, -y), ph(2+0x1p-28+0x1p-30, 0)},
	}
}

// Each product is rounded by itself: here the last places of one would be left where it were not.
func TestPhTimesRoundsEachProduct(t *testing.T) {
	const x, y = 1 + 0x1p-30, 1 + 0x1p-29
	if math.FMA(x, x, -y) != 0x1p-60 || floatProduct(x, x) != y {
		t.Fatal("the numbers do not tell a fused operation")
	}
	for _, c := range roundedTwice() {
		got := impl.PhTimes(c.a, c.b)
		if !samePhasor(got, plainTimes(c.a, c.b)) || got.Re != 0 && got.Im != 0 {
			t.Errorf("%x %x: %x", c.a, c.b, got)
		}
		if back := impl.PhTimes(c.b, c.a); !samePhasor(back, got) {
			t.Errorf("turned about, %x %x: %x", c.b, c.a, back)
		}
		list := []phasor{c.a, c.b}
		checkTurned(t, list, turn{Kind: impl.TurnTimes, Z: c.b}, []phasor{got, c.b})
		checkTurned(t, list, turn{Kind: impl.TurnFrom, From: 1}, []phasor{got, c.b})
	}
}

// Promise 4: products may be turned about.
func TestProductsMayBeTurnedAbout(t *testing.T) {
	list := oddPhasors()
	for i, a := range list {
		for _, b := range list[i:] {
			if there, back := impl.PhTimes(a, b), impl.PhTimes(b, a); !samePhasor(there, back) {
				t.Fatalf("%x %x: %x %x", a, b, there, back)
			}
		}
	}
	for _, a := range oddThirds() {
		for _, b := range oddThirds() {
			if there, back := impl.PhTimes(a, b), impl.PhTimes(b, a); !samePhasor(there, back) || !samePhasor(there, plainTimes(a, b)) {
				t.Fatalf("%x %x: %x %x", a, b, there, back)
			}
		}
	}
}

// oddThirds are objects whose products and quotients are rounded nearly always.
func oddThirds() []phasor {
	var list []phasor
	for i := 1; i < 12; i++ {
		for k := 1; k < 12; k++ {
			list = append(list, ph(float64(i)/3, -float64(k)/7), ph(-1/float64(i), 1/float64(k)))
		}
	}
	return list
}

func TestPhOver(t *testing.T) {
	for _, c := range []struct{ a, b, want phasor }{
		{ph(-5, 10), ph(3, 4), ph(1, 2)},
		{ph(3, 4), ph(1, 2), ph(2.2, -0.4)},
		{ph(1, 0), ph(0, 1), ph(0, -1)},
		{ph(0, 0), ph(2, 0), ph(0, 0)},
		{ph(6, -4), ph(-2, 0), ph(-3, 2)},
		{ph(1, 1), ph(1e-160, 0), ph(1e-160/floatProduct(1e-160, 1e-160), 1e-160/floatProduct(1e-160, 1e-160))}, // s is below the normal ones
		{ph(1e300, 0), ph(1e100, 0), ph(infinity, 0)},                                                           // the product is too great
		{ph(1e300, 1e300), ph(1e100, 1e100), ph(infinity, notNumber)},
		{ph(1e-300, 0), ph(1e-50, 0), ph(0, 0)}, // the product is too small
	} {
		if got, ok := impl.PhOver(c.a, c.b); !ok || !samePhasor(got, c.want) {
			t.Errorf("%v %v: %v %v", c.a, c.b, got, ok)
		}
	}
}

func TestPhOverRefuses(t *testing.T) {
	one := ph(1, 1)
	for name, c := range map[string]struct{ a, b phasor }{
		"Re is a NaN":             {ph(notNumber, 1), one},
		"Im is a NaN":             {ph(1, notNumber), one},
		"Re is infinite":          {ph(infinity, 1), one},
		"Im is infinite":          {ph(1, -infinity), one},
		"Re of b is a NaN":        {one, ph(notNumber, 1)},
		"Im of b is a NaN":        {one, ph(1, notNumber)},
		"Re of b is infinite":     {one, ph(-infinity, 1)},
		"Im of b is infinite":     {one, ph(1, infinity)},
		"both noughts":            {one, ph(0, 0)},
		"both noughts below":      {one, ph(negative0, negative0)},
		"0 over 0":                {ph(0, 0), ph(0, negative0)},
		"s comes to 0":            {one, ph(1e-163, -1e-163)},
		"s of the smallest":       {one, ph(math.SmallestNonzeroFloat64, 0)},
		"s is infinite by Re":     {one, ph(1.5e154, 0)},
		"s is infinite by Im":     {one, ph(0, -1.5e154)},
		"s is infinite by both":   {one, ph(1.2e154, 1.2e154)},
		"s of the greatest":       {ph(0, 0), ph(math.MaxFloat64, 0)},
		"nothing finite anywhere": {ph(notNumber, infinity), ph(infinity, notNumber)},
	} {
		if got, ok := impl.PhOver(c.a, c.b); ok || !samePhasor(got, phasor{}) {
			t.Errorf("%s: %v %v", name, got, ok)
		}
		checkRefusedTurn(t, []phasor{one, c.a}, turn{Kind: impl.TurnOver, At: 1, Z: c.b})
	}
	// Just within: s is the smallest, and nearly the greatest.
	for _, b := range []phasor{ph(0x1p-537, 0), ph(0, 1.3e154), ph(9e153, 9e153)} {
		if got, ok := impl.PhOver(one, b); !ok {
			t.Error(b, got, ok)
		}
	}
}

func TestPhOverOverOddParts(t *testing.T) {
	list := append(oddPhasors(), oddThirds()...)
	for _, a := range list {
		for _, b := range list {
			got, ok := impl.PhOver(a, b)
			if want, done := plainOver(a, b); ok != done || !samePhasor(got, want) {
				t.Fatalf("%x %x: %x %v", a, b, got, ok)
			}
		}
	}
}

// The products in s are rounded, too: of many divisors s has another last place where one of them is not.
func TestPhOverRoundsTheProductsOfS(t *testing.T) {
	tellRe, tellIm := 0, 0
	for i := range 200 {
		b := ph(1+float64(i)/500/3, -1-float64(i)/500/7)
		re, im := floatProduct(b.Re, b.Re), floatProduct(b.Im, b.Im)
		if floatSum(re, im) != math.FMA(b.Re, b.Re, im) {
			tellRe++
		}
		if floatSum(re, im) != math.FMA(b.Im, b.Im, re) {
			tellIm++
		}
		for _, a := range oddThirds() {
			got, ok := impl.PhOver(a, b)
			if want, done := plainOver(a, b); !ok || !done || !samePhasor(got, want) {
				t.Fatalf("%x %x: %x %v", a, b, got, ok)
			}
		}
	}
	if tellRe < 10 || tellIm < 10 {
		t.Error("divisors that tell a fused s:", tellRe, tellIm)
	}
}

// Promise 4: what is multiplied and divided again is what it was, where nothing is rounded.
func TestMultipliedAndDividedAgain(t *testing.T) {
	for re := -6.0; re <= 6; re++ {
		for im := -6.0; im <= 6; im++ {
			b := ph(re, im)
			for _, a := range []phasor{ph(0, 0), ph(3, -4), ph(0.5, 8), ph(-1e9, 7), ph(0, 1), ph(-0.125, 0)} {
				back, ok := impl.PhOver(impl.PhTimes(a, b), b)
				if want := b != ph(0, 0); ok != want || ok && !impl.AlikePh([]phasor{back}, []phasor{a}) {
					t.Fatal(a, b, back, ok)
				}
				then, done := impl.TurnAll([]phasor{a}, []turn{{Kind: impl.TurnTimes, Z: b}, {Kind: impl.TurnOver, Z: b}})
				if done != ok || !impl.AlikePh(then, []phasor{a}) {
					t.Fatal("by turns:", a, b, then, done)
				}
			}
		}
	}
}

// Promise 4: what is barred twice is what it was, and barred once it has its Im with the other sign.
func TestBarredTwice(t *testing.T) {
	for _, a := range oddPhasors() {
		list := []phasor{ph(1, 1), a}
		bar := turn{Kind: impl.TurnBar, At: 1}
		once, ok := impl.Turned(list, bar)
		want := ph(a.Re, math.Copysign(a.Im, flipped(a.Im)))
		if !ok || !samePhasors(once, []phasor{ph(1, 1), want}) {
			t.Fatalf("%x: %x %v", a, once, ok)
		}
		if twice, ok := impl.Turned(once, bar); !ok || !samePhasors(twice, list) {
			t.Fatalf("%x: %x %v", a, twice, ok)
		}
		if both, ok := impl.TurnAll(list, []turn{bar, bar}); !ok || !samePhasors(both, list) {
			t.Fatalf("%x: %x %v", a, both, ok)
		}
	}
}

// checkTurned asks that the turn is done, also as a transaction of its own.
func checkTurned(t *testing.T, list []phasor, one turn, want []phasor) {
	t.Helper()
	if then, ok := impl.Turned(list, one); !ok || !samePhasors(then, want) {
		t.Errorf("turned %v: %x %v", one, then, ok)
	}
	if then, ok := impl.TurnAll(list, []turn{one}); !ok || !samePhasors(then, want) {
		t.Errorf("a transaction of %v: %x %v", one, then, ok)
	}
}

// checkRefusedTurn asks that the turn is refused, and each transaction that it is part of.
func checkRefusedTurn(t *testing.T, list []phasor, one turn) {
	t.Helper()
	set := turn{Kind: impl.TurnSet, Z: ph(55, 66)}
	if then, ok := impl.Turned(list, one); ok || !samePhasors(then, list) {
		t.Errorf("turned %v: %x %v", one, then, ok)
	}
	for _, turns := range [][]turn{{one}, {set, one}, {one, set}, {set, one, set}} {
		if then, ok := impl.TurnAll(list, turns); ok || !samePhasors(then, list) {
			t.Errorf("a transaction of %v: %x %v", turns, then, ok)
		}
	}
}

func TestTurnedOfEachKind(t *testing.T) {
	a, b, c := ph(1, 2), ph(3, -4), ph(0.5, 0)
	list := []phasor{a, b, c}
	for _, x := range []struct {
		turn turn
		want []phasor
	}{
		{turn{Kind: impl.TurnSet, At: 1, Z: ph(7, 8)}, []phasor{a, ph(7, 8), c}},
		{turn{Kind: impl.TurnSet, At: 0, Z: ph(negative0, notNumber)}, []phasor{ph(negative0, notNumber), b, c}},
		{turn{Kind: impl.TurnSet, At: 2, Z: ph(-infinity, 0)}, []phasor{a, b, ph(-infinity, 0)}},
		{turn{Kind: impl.TurnAdd, At: 0, Z: ph(10, -20)}, []phasor{ph(11, -18), b, c}},
		{turn{Kind: impl.TurnAdd, At: 2, Z: ph(infinity, notNumber)}, []phasor{a, b, ph(infinity, notNumber)}},
		{turn{Kind: impl.TurnTimes, At: 1, Z: ph(0, 1)}, []phasor{a, ph(4, 3), c}},
		{turn{Kind: impl.TurnOver, At: 1, Z: ph(0, 2)}, []phasor{a, ph(-2, -1.5), c}},
		{turn{Kind: impl.TurnBar, At: 0}, []phasor{ph(1, -2), b, c}},
		{turn{Kind: impl.TurnBar, At: 2}, []phasor{a, b, ph(0.5, negative0)}},
		{turn{Kind: impl.TurnFrom, At: 0, From: 1}, []phasor{ph(11, 2), b, c}},
		{turn{Kind: impl.TurnFrom, At: 2, From: 0}, []phasor{a, b, ph(0.5, 1)}},
		{turn{Kind: impl.TurnFrom, At: 0, From: 0}, []phasor{ph(-3, 4), b, c}}, // At and From as one place
		{turn{Kind: impl.TurnFrom, At: 1, From: 1}, []phasor{a, ph(-7, -24), c}},
	} {
		checkTurned(t, list, x.turn, x.want)
	}
}

// What a kind does not name is not looked at.
func TestTurnedLooksOnlyAtWhatIsNamed(t *testing.T) {
	list := []phasor{ph(3, 4), ph(1, 1)}
	odd := ph(notNumber, infinity)
	for _, from := range oddNumbers() {
		checkTurned(t, list, turn{Kind: impl.TurnSet, From: from, Z: ph(5, 6)}, []phasor{ph(5, 6), ph(1, 1)})
		checkTurned(t, list, turn{Kind: impl.TurnAdd, From: from, Z: ph(5, 6)}, []phasor{ph(8, 10), ph(1, 1)})
		checkTurned(t, list, turn{Kind: impl.TurnTimes, From: from, Z: ph(0, 1)}, []phasor{ph(-4, 3), ph(1, 1)})
		checkTurned(t, list, turn{Kind: impl.TurnOver, From: from, Z: ph(0, 1)}, []phasor{ph(4, -3), ph(1, 1)})
		checkTurned(t, list, turn{Kind: impl.TurnBar, From: from, Z: odd}, []phasor{ph(3, -4), ph(1, 1)})
	}
	checkTurned(t, list, turn{Kind: impl.TurnFrom, From: 1, Z: odd}, []phasor{ph(-1, 7), ph(1, 1)})
}

// Over all parts, both noughts and what is not finite among them: a turn does what its function does.
func TestTurnedOverOddParts(t *testing.T) {
	list := oddPhasors()
	for _, a := range list {
		for _, z := range list {
			objects := []phasor{z, a}
			checkTurned(t, objects, turn{Kind: impl.TurnSet, At: 1, Z: z}, []phasor{z, z})
			checkTurned(t, objects, turn{Kind: impl.TurnAdd, At: 1, Z: z}, []phasor{z, ph(floatSum(a.Re, z.Re), floatSum(a.Im, z.Im))})
			checkTurned(t, objects, turn{Kind: impl.TurnTimes, At: 1, Z: z}, []phasor{z, plainTimes(a, z)})
			checkTurned(t, objects, turn{Kind: impl.TurnFrom, At: 1}, []phasor{z, plainTimes(a, z)})
			if q, ok := plainOver(a, z); ok {
				checkTurned(t, objects, turn{Kind: impl.TurnOver, At: 1, Z: z}, []phasor{z, q})
			} else {
				checkRefusedTurn(t, objects, turn{Kind: impl.TurnOver, At: 1, Z: z})
			}
		}
		checkTurned(t, []phasor{a, a}, turn{Kind: impl.TurnFrom}, []phasor{plainTimes(a, a), a})
		if t.Failed() {
			t.FailNow()
		}
	}
}

func TestTurnedRefuses(t *testing.T) {
	list := []phasor{ph(1, 2), ph(negative0, notNumber), ph(infinity, 3)}
	kinds := []int{impl.TurnSet, impl.TurnAdd, impl.TurnTimes, impl.TurnOver, impl.TurnBar, impl.TurnFrom}
	for _, at := range []int{math.MinInt, -4, -3, -1, 3, 4, 12, 1 << 32, math.MaxInt} {
		for _, kind := range kinds {
			checkRefusedTurn(t, list, turn{Kind: kind, At: at, Z: ph(1, 1)})
		}
		for place := range list {
			checkRefusedTurn(t, list, turn{Kind: impl.TurnFrom, At: place, From: at})
		}
		checkRefusedTurn(t, list, turn{Kind: impl.TurnFrom, At: at, From: at})
	}
	for _, kind := range []int{math.MinInt, -6, -1, 0, 7, 8, 1<<32 + 1, math.MaxInt} {
		checkRefusedTurn(t, list, turn{Kind: kind, Z: ph(1, 1)})
		checkRefusedTurn(t, list, turn{Kind: kind, At: 3, From: 3})
	}
	for _, kind := range append(kinds, 0) {
		checkRefusedTurn(t, nil, turn{Kind: kind, Z: ph(1, 1)})
		checkRefusedTurn(t, []phasor{}, turn{Kind: kind, Z: ph(1, 1)})
	}
}

func TestTurnedOfTheMostObjects(t *testing.T) {
	kinds := []int{impl.TurnSet, impl.TurnAdd, impl.TurnTimes, impl.TurnOver, impl.TurnBar, impl.TurnFrom}
	for _, kind := range kinds {
		for _, many := range []int{1, 2, 11, 12} {
			list := alike(ph(3, 4), many)
			one := turn{Kind: kind, At: many - 1, From: many - 1, Z: ph(0, 1)}
			want := slices.Clone(list)
			switch kind {
			case impl.TurnSet:
				want[many-1] = ph(0, 1)
			case impl.TurnAdd:
				want[many-1] = ph(3, 5)
			case impl.TurnTimes:
				want[many-1] = ph(-4, 3)
			case impl.TurnOver:
				want[many-1] = ph(4, -3)
			case impl.TurnBar:
				want[many-1] = ph(3, -4)
			case impl.TurnFrom:
				want[many-1] = ph(-7, 24)
			}
			checkTurned(t, list, one, want)
			one.At, one.From = many, 0
			checkRefusedTurn(t, list, one)
		}
		for _, many := range []int{13, 14, 3000} {
			checkRefusedTurn(t, alike(ph(3, 4), many), turn{Kind: kind, Z: ph(0, 1)})
		}
	}
}

// Each turn stands on what the one ahead left.
func TestTurnAllInOrder(t *testing.T) {
	list := []phasor{ph(1, 2), ph(3, 4)}
	turns := []turn{
		{Kind: impl.TurnAdd, At: 0, Z: ph(0, 1)},   // (1, 3)
		{Kind: impl.TurnTimes, At: 0, Z: ph(0, 1)}, // (-3, 1)
		{Kind: impl.TurnFrom, At: 1, From: 0},      // (-13, -9)
		{Kind: impl.TurnBar, At: 1},                // (-13, 9)
		{Kind: impl.TurnSet, At: 0, Z: ph(2, 0)},
		{Kind: impl.TurnFrom, At: 0, From: 0},     // (4, 0)
		{Kind: impl.TurnFrom, At: 1, From: 0},     // (-52, 36)
		{Kind: impl.TurnOver, At: 1, Z: ph(0, 4)}, // (9, 13)
	}
	if then, ok := impl.TurnAll(list, turns); !ok || !samePhasors(then, []phasor{ph(4, 0), ph(9, 13)}) {
		t.Error(then, ok)
	}
	slices.Reverse(turns)
	// Over (0, 4): (1, -0.75); times (1, 2): (2.5, 1.25); At 0 by itself: (-3, 4), then (2, 0); barred: (2.5, -1.25), doubled; (2, 0) times (0, 1), and (0, 1).
	if then, ok := impl.TurnAll(list, turns); !ok || !samePhasors(then, []phasor{ph(0, 3), ph(5, -2.5)}) {
		t.Error("the other way about:", then, ok)
	}
}

// Promise 4: a transaction does all of its turns or none, whichever turn is refused and for whatever reason.
func TestTurnAllDoesAllOrNone(t *testing.T) {
	list := []phasor{ph(1, 2), ph(negative0, notNumber), ph(-infinity, 0)}
	good := []turn{
		{Kind: impl.TurnSet, At: 1, Z: ph(5, 5)},
		{Kind: impl.TurnAdd, At: 0, Z: ph(1, 1)},
		{Kind: impl.TurnFrom, At: 2, From: 0},
		{Kind: impl.TurnBar, At: 1},
		{Kind: impl.TurnOver, At: 1, Z: ph(5, 0)},
	}
	want := []phasor{ph(2, 3), ph(1, -1), ph(-infinity, -infinity)}
	if then, ok := impl.TurnAll(list, good); !ok || !samePhasors(then, want) {
		t.Error(then, ok)
	}
	for _, bad := range []turn{
		{}, {Kind: 7}, {Kind: -1}, {Kind: impl.TurnSet, At: 3}, {Kind: impl.TurnBar, At: -1}, {Kind: impl.TurnFrom, From: 3},
		{Kind: impl.TurnFrom, From: -1}, {Kind: impl.TurnOver}, {Kind: impl.TurnOver, At: 2, Z: ph(1, 0)}, {Kind: impl.TurnOver, Z: ph(1e200, 0)},
	} {
		for at := range len(good) + 1 {
			turns := slices.Insert(slices.Clone(good), at, bad)
			if then, ok := impl.TurnAll(list, turns); ok || !samePhasors(then, list) {
				t.Error(bad, at, then, ok)
			}
		}
	}
}

// A transaction is what its turns are one at a time.
func TestTurnAllIsTurnedOneByOne(t *testing.T) {
	zs := []phasor{ph(1, -2), ph(0, 0), ph(1e200, -1e200), ph(notNumber, 1), ph(0.1, negative0)}
	seed := uint32(7)
	next := func(many int) int {
		seed = seed*1664525 + 1013904223
		return int(seed>>8) % many
	}
	done, refused := 0, 0
	for range 4000 {
		list := []phasor{zs[next(5)], zs[next(5)], zs[next(5)]}[:1+next(3)]
		var turns []turn
		for range next(7) {
			turns = append(turns, turn{Kind: 1 + next(6), At: next(3 * len(list) / 2), From: next(len(list)), Z: zs[next(5)]})
		}
		want, all := list, true
		for _, one := range turns {
			var ok bool
			want, ok = impl.Turned(want, one)
			all = all && ok
		}
		if all {
			done++
		} else {
			refused++
			want = list
		}
		then, ok := impl.TurnAll(list, turns)
		if ok != all || !samePhasors(then, want) {
			t.Fatal(list, turns, then, ok)
		}
	}
	if done < 500 || refused < 500 {
		t.Error("done and refused:", done, refused)
	}
}

func TestTurnAllOfNoTurn(t *testing.T) {
	for _, list := range [][]phasor{nil, {}, {ph(1, 2)}, {ph(negative0, notNumber), ph(infinity, 0)}, alike(ph(1, 2), 12), alike(ph(1, 2), 13)} {
		for _, turns := range [][]turn{nil, {}} {
			// No turn asks how many objects there are.
			if then, ok := impl.TurnAll(list, turns); !ok || !samePhasors(then, list) {
				t.Error(list, then, ok)
			}
		}
	}
}

func TestTurnAllOfTheMostTurns(t *testing.T) {
	add := turn{Kind: impl.TurnAdd, At: 11, Z: ph(1, -1)}
	list := alike(ph(0.5, 0), 12)
	for _, many := range []int{1, 59, 60} {
		want := slices.Clone(list)
		want[11] = ph(0.5+float64(many), -float64(many))
		if then, ok := impl.TurnAll(list, alike(add, many)); !ok || !samePhasors(then, want) {
			t.Error(many, then, ok)
		}
	}
	for _, many := range []int{61, 62, 4000} {
		if then, ok := impl.TurnAll(list, alike(add, many)); ok || !samePhasors(then, list) {
			t.Error(many, then, ok)
		}
		if then, ok := impl.TurnAll(nil, alike(add, many)); ok || len(then) != 0 {
			t.Error(many, "of nothing:", then, ok)
		}
	}
	last := append(alike(add, 59), turn{Kind: impl.TurnOver, At: 11})
	if then, ok := impl.TurnAll(list, last); ok || !samePhasors(then, list) {
		t.Error("the last is refused:", then, ok)
	}
	if then, ok := impl.TurnAll(alike(ph(1, 1), 13), alike(add, 60)); ok || !samePhasors(then, alike(ph(1, 1), 13)) {
		t.Error("too many objects:", then, ok)
	}
}

func TestSumPh(t *testing.T) {
	for _, c := range []struct {
		list []phasor
		want phasor
	}{
		{nil, ph(0, 0)},
		{[]phasor{}, ph(0, 0)},
		{[]phasor{ph(3, -4)}, ph(3, -4)},
		{[]phasor{ph(3, 4), ph(-1, 2), ph(0.5, 0)}, ph(2.5, 6)},
		{[]phasor{ph(negative0, negative0)}, ph(0, 0)}, // it begins at +0
		{alike(ph(negative0, negative0), 3), ph(0, 0)},
		{[]phasor{ph(1, -1), ph(-1, 1)}, ph(0, 0)},
		{[]phasor{ph(1e16, 1), ph(1, 1), ph(-1e16, 1)}, ph(0, 3)}, // in order: the 1 is lost
		{[]phasor{ph(1e16, 1), ph(-1e16, 1), ph(1, 1)}, ph(1, 3)},
		{[]phasor{ph(1, 0x1p-53), ph(0x1p-53, 0x1p-53), ph(0x1p-53, 1)}, ph(1, 1+0x1p-52)},
		{[]phasor{ph(math.MaxFloat64, 0), ph(math.MaxFloat64, 1), ph(-math.MaxFloat64, 1)}, ph(infinity, 2)},
		{[]phasor{ph(infinity, 1), ph(-infinity, 2)}, ph(notNumber, 3)},
		{[]phasor{ph(1, notNumber), ph(2, -infinity)}, ph(3, notNumber)},
		{alike(ph(1, -2), 3000), ph(3000, -6000)}, // of any length
	} {
		if got := impl.SumPh(c.list); !samePhasor(got, c.want) {
			t.Error(c.list, got)
		}
	}
}

func TestAlikePh(t *testing.T) {
	for _, c := range []struct {
		a, b []phasor
		want bool
	}{
		{nil, nil, true},
		{nil, []phasor{}, true},
		{[]phasor{ph(1, 2)}, []phasor{ph(1, 2)}, true},
		{[]phasor{ph(0, negative0)}, []phasor{ph(negative0, 0)}, true},
		{[]phasor{ph(infinity, -infinity)}, []phasor{ph(infinity, -infinity)}, true},
		{[]phasor{ph(infinity, 1)}, []phasor{ph(-infinity, 1)}, false},
		{[]phasor{ph(notNumber, 1)}, []phasor{ph(notNumber, 1)}, false},
		{[]phasor{ph(1, notNumber)}, []phasor{ph(1, notNumber)}, false},
		{[]phasor{ph(1, 2)}, []phasor{ph(2, 1)}, false},
		{[]phasor{ph(1, 2)}, []phasor{ph(1, -2)}, false},
		{[]phasor{ph(1, 2)}, []phasor{ph(1, 2+0x1p-51)}, false},
		{[]phasor{ph(1, 2)}, nil, false},
		{nil, []phasor{ph(0, 0)}, false},
		{[]phasor{ph(1, 2), ph(3, 4)}, []phasor{ph(1, 2)}, false},
		{[]phasor{ph(1, 2)}, []phasor{ph(1, 2), ph(3, 4)}, false},
		{[]phasor{ph(1, 2), ph(3, 4)}, []phasor{ph(1, 2), ph(3, 5)}, false},
		{[]phasor{ph(1, 2), ph(3, 4)}, []phasor{ph(3, 4), ph(1, 2)}, false},
		{alike(ph(1, 2), 3000), alike(ph(1, 2), 3000), true},
		{alike(ph(1, 2), 3000), alike(ph(1, 2), 2999), false},
	} {
		if got := impl.AlikePh(c.a, c.b); got != c.want {
			t.Error(c.a, c.b, got)
		}
	}
	nan := []phasor{ph(notNumber, 0)}
	if impl.AlikePh(nan, nan) {
		t.Error("a NaN is nothing, not even itself")
	}
}

// Promise 19: nothing is written into an argument, nor behind it, and every answer is new memory, done or refused.
func TestPhasorsWriteNothingAndShareNothing(t *testing.T) {
	behind := ph(-7, 77)
	for _, plain := range [][]phasor{{}, {ph(1, 2), ph(3, 4)}, alike(ph(1, 2), 12), alike(ph(1, 2), 13)} {
		list := guard(plain, behind)
		for kind := 0; kind <= 7; kind++ {
			for _, at := range []int{-1, 0, 1, len(plain)} {
				one := turn{Kind: kind, At: at, From: 1, Z: ph(0, float64(at))}
				turns := guard([]turn{one, {Kind: impl.TurnBar}}, turn{Kind: impl.TurnSet})
				for _, answer := range phasorAnswers(list.list(), turns.list()) {
					for _, a := range answer[len(answer):cap(answer)] {
						if a != (phasor{}) {
							t.Error("behind the answer:", a)
						}
					}
					overwrite(answer, ph(5, 5))
					list.check(t, "objects")
				}
				turns.check(t, "turns")
			}
		}
	}
}

// phasorAnswers are the lists that all functions answer with; those that answer none are called, too.
func phasorAnswers(list []phasor, turns []turn) [][]phasor {
	impl.SumPh(list)
	impl.AlikePh(list, list)
	one, _ := impl.Turned(list, turns[0])
	all, _ := impl.TurnAll(list, turns)
	none, _ := impl.TurnAll(list, nil)
	many, _ := impl.TurnAll(list, alike(turns[1], 61))
	return [][]phasor{one, all, none, many}
}

// What lies behind a list's length is no object.
func TestPhasorsLieWithinTheLength(t *testing.T) {
	list := guard([]phasor{ph(1, 2)}, ph(3, 4)).list()
	checkRefusedTurn(t, list, turn{Kind: impl.TurnBar, At: 1})
	checkRefusedTurn(t, list, turn{Kind: impl.TurnFrom, From: 1})
	if got := impl.SumPh(list); got != ph(1, 2) {
		t.Error("sum", got)
	}
	if !impl.AlikePh(list, []phasor{ph(1, 2)}) {
		t.Error("alike")
	}
}
