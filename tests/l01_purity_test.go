package tests

import (
	"fmt"
	"math"
	"slices"
	"strings"
	"testing"

	"loop.example/g01357/impl"
)

// spare is how much unused capacity a list has that is passed in.
const spare = 5

// arguments are what the functions of chapter 1 take.
type arguments struct {
	x, y     complex64
	wide     complex128
	n        int64
	text     string
	list     []float32
	both     []complex64
	integers []int64
}

// copied returns equal arguments in memory of their own, with or without spare capacity.
func (a arguments) copied(extra int) arguments {
	a.text = strings.Clone(a.text)
	a.list = append(make([]float32, 0, len(a.list)+extra), a.list...)
	a.both = append(make([]complex64, 0, len(a.both)+extra), a.both...)
	a.integers = append(make([]int64, 0, len(a.integers)+extra), a.integers...)
	return a
}

// bits tells all memory of the arguments, with the unused capacity of the lists.
func (a arguments) bits() string {
	var b strings.Builder
	fmt.Fprintf(&b, "%q", a.text)
	for _, x := range a.list[:cap(a.list)] {
		fmt.Fprintf(&b, " %08x", math.Float32bits(x))
	}
	for _, x := range a.both[:cap(a.both)] {
		fmt.Fprintf(&b, " %08x %08x", math.Float32bits(real(x)), math.Float32bits(imag(x)))
	}
	fmt.Fprint(&b, a.integers[:cap(a.integers)])
	return b.String()
}

// collect returns all results of one call, told as a text.
func collect(results ...any) string { return fmt.Sprint(results...) }

// results tells the results of all functions of chapter 1.
func (a arguments) results() []string {
	x, y := real(a.x), imag(a.x)
	return []string{
		collect(impl.SameNumber(x, y), impl.IsFinite(x), impl.BitsOf(x), impl.NarrowNumber(real(a.wide)), impl.IsSubnormal(x), impl.FlushNumber(x)),
		collect(impl.FromBits(a.n)),
		collect(impl.SameComplex(a.x, a.y), impl.IsFiniteComplex(a.x), impl.NarrowComplex(a.wide), impl.MulComplex(a.x, a.y), impl.ScaleComplex(a.x, x)),
		collect(impl.ConjugateOf(a.x), impl.PowerOf(a.x), impl.LongOf(a.x), impl.QuotientOf(a.x, a.y), impl.PhasorOf(real(a.wide)), impl.AngleOf(a.x)),
		collect(impl.SineTurns(x), impl.AngleTurns(y, x), impl.RootNumber(x), impl.ExpNumber(x), impl.LogNumber(x)),
		collect(impl.TenthsOf(x)),
		collect(impl.SumNumbers(a.list)),
		collect(impl.DotNumbers(a.list, a.list)),
		collect(impl.DotNumbers(a.list, nil)),
		collect(impl.SumComplex(a.both)),
		collect(impl.DotComplex(a.both, a.both)),
		collect(impl.DotComplex(nil, a.both)),
		collect(impl.DotConjugate(a.both, a.both)),
		collect(impl.DotConjugate(a.both, nil)),
		collect(impl.PowersOf(a.both)),
		collect(impl.NumbersText(a.list)),
		collect(impl.ReadNumbers(a.text)),
		collect(impl.ComplexText(a.both)),
		collect(impl.ReadComplex(a.text)),
		collect(impl.IsName(a.text), impl.Decimal(a.n)),
		collect(impl.ReadDecimal(a.text)),
		collect(impl.ListText(a.integers)),
		collect(impl.ReadList(a.text)),
		collect(impl.CheckOf(a.n, a.text)),
	}
}

// manyArguments returns arguments of all kinds, valid and invalid ones.
func manyArguments() []arguments {
	texts := []string{"", "none", "3f800000,c0000000", "3f80000000000000", "ring", "-17,4", "1000000000000001", "\xff\x00,", strings.Repeat("3f800000,", 256) + "3f800000", strings.Repeat(",", 100000)}
	integers := []int64{0, 1, -1, impl.MaxValue, impl.MaxValue + 1, 65002, 65003, 4294967295, 4294967296, math.MinInt64, math.MaxInt64}
	wides := []float64{0, math.Copysign(0, -1), -0.3, 0.25, 1e17, -1e300, 0x1p-1074, math.NaN(), math.Inf(-1), math.MaxFloat64}
	lengths := []int{0, 1, 5, 64, 65, 256, 257, 5000}
	all := []arguments{}
	for i, one := range edges() {
		for k, two := range edges() {
			a := arguments{x: pair(one, two), y: pair(two, one)}
			a.wide = complex(wides[(i+k)%len(wides)], wides[k%len(wides)])
			a.n, a.text = integers[(i+k)%len(integers)], texts[(i+3*k)%len(texts)]
			for j := range lengths[(i+5*k)%len(lengths)] {
				a.list = append(a.list, number(edges()[(i+j)%20]))
				a.both = append(a.both, pair(edges()[(k+j)%20], one))
				a.integers = append(a.integers, integers[j*k%len(integers)])
			}
			all = append(all, a)
		}
	}
	return all
}

func TestFunctionsOfChapter1ArePure(t *testing.T) {
	for _, a := range manyArguments() {
		one, two := a.copied(0), a.copied(spare)
		before := two.bits()
		first, second := one.results(), two.results()
		if !slices.Equal(first, second) || !slices.Equal(first, two.results()) {
			t.Fatalf("equal arguments, other results: %v, %v", first, second)
		}
		if two.bits() != before {
			t.Fatalf("arguments were %s, became %s", before, two.bits())
		}
	}
}

// wantOwnMemory checks that writing to one result, up to its capacity, leaves another one as it is.
func wantOwnMemory[T comparable](t *testing.T, read func(string) ([]T, bool), text string, other T) {
	t.Helper()
	first, ok := read(text)
	second, _ := read(text)
	if !ok || len(first) == 0 {
		t.Fatalf("%q is not read", text)
	}
	expected := slices.Clone(second)
	for i := range first[:cap(first)] {
		first[:cap(first)][i] = other
	}
	third, _ := read(text)
	if !slices.Equal(second, expected) || !slices.Equal(third, expected) {
		t.Errorf("results for %q share memory", text)
	}
}

func TestResultsShareNoMemory(t *testing.T) {
	wantOwnMemory(t, impl.ReadNumbers, "3f800000,c0000000", 7)
	wantOwnMemory(t, impl.ReadComplex, "3f80000000000000,00000000c0000000", 7)
	wantOwnMemory(t, impl.ReadList, "1,-2,3", 7)
}

func TestTextsAreKeptWhenListsChange(t *testing.T) {
	list, both, integers := []float32{1, 2}, []complex64{1, 2}, []int64{1, 2}
	one, _ := impl.NumbersText(list)
	two, _ := impl.ComplexText(both)
	three, _ := impl.ListText(integers)
	list[0], both[0], integers[0] = 9, 9, 9
	want(t, "the texts", [3]string{one, two, three}, [3]string{"3f800000,40000000", "3f80000000000000,4000000000000000", "1,2"})
}
