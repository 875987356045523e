package tests

import (
	"fmt"
	"math"
	"slices"
	"testing"

	"loop.example/g01357/impl"
)

func TestExamplesOfTrees(t *testing.T) {
	leaves, ok := impl.LeavesOfTree([]int64{-1, 0, 1})
	wantList(t, "LeavesOfTree -1, 0, 1", leaves, ok, 0, 1)
	deep, ok := impl.DeepOfTree([]int64{-1, 0, 1})
	wantCount(t, "DeepOfTree -1, 0, 1", deep, ok, 1)
}

func TestTrees(t *testing.T) {
	for _, c := range []struct {
		tree, leaves string
		deep         int64
		mirror       string
	}{
		{"0", "0", 0, "0"}, {"3", "3", 0, "3"}, {"(01)", "01", 1, "(10)"}, {"(0(12))", "012", 2, "((21)0)"}, {"((01)2)", "012", 2, "(2(10))"}, {"((01)(23))", "0123", 2, "((32)(10))"},
		{"(0(1(2(3(01)))))", "012301", 5, "(((((10)3)2)1)0)"}, {"(((01)2)(3(0(1(23)))))", "01230123", 5, "(((((32)1)0)3)(2(10)))"}, {"((((01)2)3)(01))", "012301", 4, "((10)(3(2(10))))"},
	} {
		list := tree(c.tree)
		want(t, "IsTree "+c.tree, impl.IsTree(list, 4), true)
		leaves, ok := impl.LeavesOfTree(list)
		wantList(t, "LeavesOfTree "+c.tree, leaves, ok, spelled(c.leaves)...)
		deep, ok := impl.DeepOfTree(list)
		wantCount(t, "DeepOfTree "+c.tree, deep, ok, c.deep)
		mirror, ok := impl.MirrorTree(list)
		wantList(t, "MirrorTree "+c.tree, mirror, ok, tree(c.mirror)...)
		again, ok := impl.MirrorTree(mirror)
		wantList(t, "MirrorTree twice "+c.tree, again, ok, list...)
	}
}

// deepOf returns how many branches are on the longest way to a leaf.
func deepOf(list []int64) int64 {
	if len(list) == 1 {
		return 0
	}
	first, second := partsOfTree(list)
	return 1 + max(deepOf(first), deepOf(second))
}

// mirrorOf returns the tree whose branches have both trees exchanged.
func mirrorOf(list []int64) []int64 {
	if len(list) == 1 {
		return list
	}
	first, second := partsOfTree(list)
	return slices.Concat([]int64{-1}, mirrorOf(second), mirrorOf(first))
}

func TestAllSmallTrees(t *testing.T) {
	for _, list := range treesUpTo(2, 5) {
		what := fmt.Sprint(list)
		leaves, ok := impl.LeavesOfTree(list)
		wantList(t, "LeavesOfTree "+what, leaves, ok, slices.DeleteFunc(slices.Clone(list), func(n int64) bool { return n < 0 })...)
		deep, ok := impl.DeepOfTree(list)
		wantCount(t, "DeepOfTree "+what, deep, ok, deepOf(list))
		mirror, ok := impl.MirrorTree(list)
		wantList(t, "MirrorTree "+what, mirror, ok, mirrorOf(list)...)
	}
}

func TestIsTreeAmongAllShortLists(t *testing.T) {
	are := map[string]bool{}
	for _, list := range treesUpTo(2, 4) {
		are[fmt.Sprint(list)] = true
	}
	count := 0
	for _, word := range wordsUpTo(4, 7) {
		list := []int64{}
		for _, letter := range word {
			list = append(list, letter-1)
		}
		is := impl.IsTree(list, 2)
		want(t, fmt.Sprint("IsTree ", list), is, are[fmt.Sprint(list)])
		if is {
			count++
		}
	}
	want(t, "how many lists are trees", count, 2+4+2*8+5*16)
}

func TestTreesOfAllLengths(t *testing.T) {
	for leaves := 1; leaves <= 14; leaves++ {
		for _, first := range []bool{true, false} {
			list := comb(leaves, first)
			what := fmt.Sprint(list)
			want(t, "IsTree "+what, impl.IsTree(list, 1), leaves <= 12)
			found, one := impl.LeavesOfTree(list)
			deep, two := impl.DeepOfTree(list)
			mirror, three := impl.MirrorTree(list)
			if leaves > 12 {
				wantListFailure(t, "LeavesOfTree "+what, found, one)
				wantFailure(t, "DeepOfTree "+what, deep, two)
				wantListFailure(t, "MirrorTree "+what, mirror, three)
				continue
			}
			wantList(t, "LeavesOfTree "+what, found, one, make([]int64, leaves)...)
			wantCount(t, "DeepOfTree "+what, deep, two, int64(leaves-1))
			wantList(t, "MirrorTree "+what, mirror, three, comb(leaves, !first)...)
			want(t, "IsTree of a number less than "+what, impl.IsTree(list[1:], 1), false)
			want(t, "IsTree of a number more than "+what, impl.IsTree(append(list, 0), 1), false)
		}
	}
}

func TestListsThatAreNoTrees(t *testing.T) {
	for _, letters := range []int64{1, 2, 3, 4} {
		want(t, fmt.Sprint("IsTree of the last letter of ", letters), impl.IsTree([]int64{-1, letters - 1, 0}, letters), true)
		for what, list := range invalidLists(letters) {
			want(t, fmt.Sprint("IsTree of ", what, " for letters ", letters), impl.IsTree(list, letters), false)
		}
	}
	for _, letters := range []int64{0, 5, -1, math.MinInt64, math.MaxInt64} {
		for _, list := range [][]int64{nil, {0}, {-1, 0, 0}} {
			want(t, fmt.Sprint("IsTree ", list, " for letters ", letters), impl.IsTree(list, letters), false)
		}
	}
	for what, list := range invalidLists(4) {
		leaves, ok := impl.LeavesOfTree(list)
		wantListFailure(t, "LeavesOfTree of "+what, leaves, ok)
		deep, ok := impl.DeepOfTree(list)
		wantFailure(t, "DeepOfTree of "+what, deep, ok)
		mirror, ok := impl.MirrorTree(list)
		wantListFailure(t, "MirrorTree of "+what, mirror, ok)
	}
}
