package tests

import (
	"math/rand/v2"
	"slices"
	"testing"

	"loop.example/eventstreams/impl"
)

// ref returns a file with the number of snapshots that use it.
func ref(file int, count int) impl.FileRef {
	return impl.FileRef{File: file, Count: count}
}

// refs returns references as a list.
func refs(list ...impl.FileRef) []impl.FileRef {
	return list
}

// someFiles returns ascending numbers of files, in some calls of few files, in others of all.
func someFiles(r *rand.Rand) []int {
	var files []int
	last, many := oneOf(r, 2, 8, impl.MaxFile), oneOf(r, 0, 1, 5, 16)
	for file := range last + 1 {
		if r.IntN(16) < many {
			files = append(files, file)
		}
	}
	return files
}

// someRefs returns valid references, many of them with a count at a limit.
func someRefs(r *rand.Rand) []impl.FileRef {
	var list []impl.FileRef
	most := oneOf(r, 1, 2, impl.MaxCount-1, impl.MaxCount, impl.MaxCount, impl.MaxCount)
	for _, file := range someFiles(r) {
		list = append(list, ref(file, min(most, oneOf(r, 1, 1, 2, between(r, 1, impl.MaxCount), impl.MaxCount-1, impl.MaxCount))))
	}
	return list
}

// filesOf returns some files of references.
func filesOf(r *rand.Rand, list []impl.FileRef) []int {
	var files []int
	many := oneOf(r, 1, 2, 4)
	for _, x := range list {
		if r.IntN(many) == 0 {
			files = append(files, x.File)
		}
	}
	return files
}

// everyFile returns the numbers of all files.
func everyFile() []int {
	files := make([]int, impl.MaxFile+1)
	for file := range files {
		files[file] = file
	}
	return files
}

// everyRef returns references to all files with one count.
func everyRef(count int) []impl.FileRef {
	var list []impl.FileRef
	for _, file := range everyFile() {
		list = append(list, ref(file, count))
	}
	return list
}

// badFiles returns lists of files that are invalid: by their order or by one number.
func badFiles() [][]int {
	lists := [][]int{{1, 0}, {3, 3}, {1, 5, 9, 9}, {1, 5, 4, 9}, joined(everyFile(), []int{0}), joined(everyFile(), everyFile())}
	for _, x := range joined(extremes, []int{-1, impl.MaxFile + 1}) {
		lists = append(lists, []int{x}, []int{x, 5}, []int{0, x})
	}
	return lists
}

// badRefs returns lists of references that are invalid: by their order or by one reference.
func badRefs() [][]impl.FileRef {
	lists := [][]impl.FileRef{refs(ref(1, 1), ref(0, 1)), refs(ref(3, 1), ref(3, 1)), refs(ref(3, 1), ref(3, 2)), refs(ref(1, 1), ref(5, 1), ref(9, 2), ref(9, 1)), joined(everyRef(1), everyRef(1))}
	bad := refs(ref(-1, 1), ref(impl.MaxFile+1, 1), ref(5, 0), ref(5, -1), ref(5, impl.MaxCount+1))
	for _, x := range extremes {
		bad = append(bad, ref(x, 1), ref(5, x))
	}
	for _, x := range bad {
		lists = append(lists, refs(x), refs(ref(0, 1), x), refs(x, ref(impl.MaxFile, 1)))
	}
	return lists
}

// countSlowly returns the count of a file, 0 if it has none.
func countSlowly(list []impl.FileRef, file int) int {
	for _, x := range list {
		if x.File == file {
			return x.Count
		}
	}
	return 0
}

// countedSlowly returns references after the counts of files have grown by a number. The counts may be too great, or less than 0.
func countedSlowly(list []impl.FileRef, files []int, by int) []impl.FileRef {
	var out []impl.FileRef
	for file := range impl.MaxFile + 1 {
		count := countSlowly(list, file)
		if slices.Contains(files, file) {
			count += by
		}
		if count != 0 {
			out = append(out, ref(file, count))
		}
	}
	return out
}

// expectRefs fails the test if references do not result as expected.
func expectRefs(t *testing.T, what string, got []impl.FileRef, ok bool, want []impl.FileRef) {
	t.Helper()
	expectTrue(t, what+" succeeds", ok)
	expect(t, what, got, want)
}

// expectReleased fails the test if ReleaseFiles does not succeed as expected.
func expectReleased(t *testing.T, what string, list []impl.FileRef, files []int, want []impl.FileRef, deleted []int) {
	t.Helper()
	got, unused, ok := impl.ReleaseFiles(list, files)
	expectRefs(t, what, got, ok, want)
	expect(t, what+", the files that nobody uses", unused, deleted)
}

// expectUnreleased fails the test if ReleaseFiles does not fail.
func expectUnreleased(t *testing.T, what string, list []impl.FileRef, files []int) {
	t.Helper()
	got, unused, ok := impl.ReleaseFiles(list, files)
	expectTrue(t, what, got == nil && unused == nil && !ok)
}

// newSlowly returns the files that have no reference.
func newSlowly(list []impl.FileRef, files []int) []int {
	return slices.DeleteFunc(slices.Clone(files), func(file int) bool { return countSlowly(list, file) > 0 })
}

func TestP109RegisteredFilesCanBeReleased(t *testing.T) {
	r := source(174)
	var fresh, old, failed int
	for range rounds * 3 {
		list, files := someRefs(r), someFiles(r)
		more, ok := impl.RegisterFiles(list, files)
		if !ok {
			failed++
			expectTrue(t, "a count would be too great", slices.ContainsFunc(countedSlowly(list, files, 1), func(x impl.FileRef) bool { return x.Count > impl.MaxCount }))
			continue
		}
		created := newSlowly(list, files)
		expectReleased(t, "ReleaseFiles after RegisterFiles", more, files, list, created)
		fresh, old = fresh+len(created), old+len(files)-len(created)
	}
	expectTrue(t, "files are new, and have references, and counts become too great", fresh > rounds && old > rounds && failed > 30)
}

func TestP110SnapshotsAreCounted(t *testing.T) {
	r := source(175)
	var counted, failed int
	for range rounds * 3 {
		list := someRefs(r)
		files := someFiles(r)
		if r.IntN(3) == 0 {
			files = filesOf(r, list)
		}
		want := countedSlowly(list, files, 1)
		more, ok := impl.RegisterFiles(list, files)
		if slices.ContainsFunc(want, func(x impl.FileRef) bool { return x.Count > impl.MaxCount }) {
			failed++
			expectTrue(t, "a count does not exceed MaxCount", more == nil && !ok)
			continue
		}
		counted++
		expectRefs(t, "RegisterFiles", more, ok, want)
		for file := -1; file <= impl.MaxFile+1; file++ {
			grown := impl.FileCount(more, file) - impl.FileCount(list, file)
			expectIs(t, "the growth of a count", grown, amount(slices.Contains(files, file)))
		}
	}
	expectTrue(t, "snapshots are counted, and counts become too great", counted > rounds && failed > 100)
}

func TestRegisterFilesAtLimits(t *testing.T) {
	expectIs(t, "MaxFile", impl.MaxFile, 99)
	list, ok := impl.RegisterFiles(nil, everyFile())
	expectRefs(t, "RegisterFiles of all files", list, ok, everyRef(1))
	list, ok = impl.RegisterFiles(everyRef(impl.MaxCount-1), everyFile())
	expectRefs(t, "RegisterFiles up to MaxCount", list, ok, everyRef(impl.MaxCount))
	list, ok = impl.RegisterFiles(nil, nil)
	expectRefs(t, "RegisterFiles of nothing", list, ok, nil)
	list, ok = impl.RegisterFiles(everyRef(impl.MaxCount), nil)
	expectRefs(t, "a snapshot without files", list, ok, everyRef(impl.MaxCount))
	for _, file := range everyFile() {
		list, ok = impl.RegisterFiles(refs(ref(file, impl.MaxCount)), []int{file})
		expectTrue(t, "a count does not exceed MaxCount", list == nil && !ok)
		list, ok = impl.RegisterFiles(everyRef(impl.MaxCount), []int{file})
		expectTrue(t, "a count does not exceed MaxCount", list == nil && !ok)
		list, ok = impl.RegisterFiles(refs(ref(file, impl.MaxCount-1)), []int{file})
		expectRefs(t, "a count up to MaxCount", list, ok, refs(ref(file, impl.MaxCount)))
	}
	list, ok = impl.RegisterFiles(refs(ref(4, 1), ref(6, impl.MaxCount)), []int{3, 4, 5, 7})
	expectRefs(t, "the count of another file is MaxCount", list, ok, refs(ref(3, 1), ref(4, 2), ref(5, 1), ref(6, impl.MaxCount), ref(7, 1)))
	list, ok = impl.RegisterFiles(refs(ref(4, 1), ref(6, impl.MaxCount)), []int{3, 4, 5, 6})
	expectTrue(t, "one of the counts would exceed MaxCount", list == nil && !ok)
}

func TestP111FilesAreDeletedWhenNobodyUsesThem(t *testing.T) {
	r := source(176)
	var deleted, kept, failed int
	for range rounds * 3 {
		list := someRefs(r)
		files := filesOf(r, list)
		if r.IntN(4) == 0 {
			files = someFiles(r)
		}
		if len(newSlowly(list, files)) > 0 {
			failed++
			expectUnreleased(t, "a file has no reference", list, files)
			continue
		}
		var once []int
		for _, file := range files {
			if countSlowly(list, file) == 1 {
				once = append(once, file)
			}
		}
		expectReleased(t, "ReleaseFiles", list, files, countedSlowly(list, files, -1), once)
		left, unused, _ := impl.ReleaseFiles(list, files)
		expect(t, "the files that nobody uses are new again", impl.NewFiles(left, files), unused)
		for _, file := range unused {
			expectIs(t, "the count of a file that nobody uses", impl.FileCount(left, file), 0)
			expectIs(t, "the count that it had", impl.FileCount(list, file), 1)
		}
		deleted, kept = deleted+len(unused), kept+len(files)-len(unused)
	}
	expectTrue(t, "files are deleted and kept, and some have no reference", deleted > rounds && kept > rounds && failed > 30)
}

func TestReleaseFilesAtLimits(t *testing.T) {
	expectReleased(t, "ReleaseFiles of nothing", nil, nil, nil, nil)
	expectReleased(t, "a snapshot without files", everyRef(1), nil, everyRef(1), nil)
	expectReleased(t, "the last snapshot with all files", everyRef(1), everyFile(), nil, everyFile())
	expectReleased(t, "the last snapshot but one", everyRef(2), everyFile(), everyRef(1), nil)
	expectReleased(t, "one of MaxCount snapshots", everyRef(impl.MaxCount), everyFile(), everyRef(impl.MaxCount-1), nil)
	list := refs(ref(2, 1), ref(3, 2), ref(5, 1), ref(impl.MaxFile, impl.MaxCount))
	expectReleased(t, "a snapshot", list, []int{2, 3, impl.MaxFile}, refs(ref(3, 1), ref(5, 1), ref(impl.MaxFile, impl.MaxCount-1)), []int{2})
	expectReleased(t, "a snapshot", list, []int{2, 5}, refs(ref(3, 2), ref(impl.MaxFile, impl.MaxCount)), []int{2, 5})
	for _, file := range everyFile() {
		expectUnreleased(t, "no file has a reference", nil, []int{file})
		if countSlowly(list, file) > 0 {
			continue
		}
		expectUnreleased(t, "one file has no reference", list, []int{file})
		with := []int{2, 3, file}
		slices.Sort(with)
		expectUnreleased(t, "one of the files has no reference", list, with)
	}
}

func TestP112NewFilesHaveNoCount(t *testing.T) {
	r := source(177)
	var some, others int
	for range rounds * 3 {
		list, files := someRefs(r), someFiles(r)
		fresh := impl.NewFiles(list, files)
		expect(t, "NewFiles", fresh, newSlowly(list, files))
		for _, file := range files {
			expectIs(t, "a file is new exactly if its count is 0", slices.Contains(fresh, file), impl.FileCount(list, file) == 0)
		}
		some, others = some+len(fresh), others+len(files)-len(fresh)
		if more, ok := impl.RegisterFiles(list, files); ok {
			expectTrue(t, "no file is new after RegisterFiles", len(impl.NewFiles(more, files)) == 0)
		}
	}
	expectTrue(t, "some files are new, others are not", some > rounds && others > rounds)
}

func TestNewFilesAtLimits(t *testing.T) {
	expect(t, "NewFiles without references", impl.NewFiles(nil, everyFile()), everyFile())
	expectTrue(t, "no file is new", len(impl.NewFiles(everyRef(impl.MaxCount), everyFile())) == 0)
	expectTrue(t, "none of no files is new", len(impl.NewFiles(everyRef(1), nil)) == 0)
	expect(t, "NewFiles", impl.NewFiles(refs(ref(0, 1), ref(4, 2), ref(impl.MaxFile, 1)), []int{0, 3, 4, 5, impl.MaxFile}), []int{3, 5})
}

func TestFileCountAtLimits(t *testing.T) {
	list := refs(ref(0, 1), ref(7, impl.MaxCount), ref(impl.MaxFile, 3))
	for _, c := range [][2]int{{0, 1}, {7, impl.MaxCount}, {impl.MaxFile, 3}, {1, 0}, {6, 0}, {8, 0}, {-1, 0}, {impl.MaxFile + 1, 0}, {extremes[0], 0}, {extremes[3], 0}} {
		expectIs(t, "FileCount", impl.FileCount(list, c[0]), c[1])
		expectIs(t, "FileCount without references", impl.FileCount(nil, c[0]), 0)
	}
}

func TestFunctionsOfInvalidFiles(t *testing.T) {
	for _, bad := range badRefs() {
		for _, files := range [][]int{nil, {0}, {5}, {0, 5, impl.MaxFile}} {
			list, ok := impl.RegisterFiles(bad, files)
			expectTrue(t, "nothing is registered with invalid references", list == nil && !ok)
			expectUnreleased(t, "nothing is released from invalid references", bad, files)
			expectTrue(t, "NewFiles of invalid references is nil", impl.NewFiles(bad, files) == nil)
		}
		for _, file := range joined(extremes, []int{-1, 0, 3, 5, impl.MaxFile, impl.MaxFile + 1}) {
			expectIs(t, "FileCount of invalid references", impl.FileCount(bad, file), -1)
		}
	}
	for _, bad := range badFiles() {
		for _, list := range [][]impl.FileRef{nil, refs(ref(1, 1), ref(3, 2)), everyRef(2)} {
			more, ok := impl.RegisterFiles(list, bad)
			expectTrue(t, "invalid files are not registered", more == nil && !ok)
			expectUnreleased(t, "invalid files are not released", list, bad)
			expectTrue(t, "NewFiles of invalid files is nil", impl.NewFiles(list, bad) == nil)
		}
	}
}

func TestFilesKeepArguments(t *testing.T) {
	r := source(178)
	bad := ref(-5, -5)
	for range rounds * 2 {
		before := someRefs(r)
		list, files := guarded(before, ref(77, 7)), guarded(someFiles(r), 77)
		if r.IntN(2) == 0 {
			files = guarded(filesOf(r, before), 77)
		}
		more, _ := impl.RegisterFiles(list.list, files.list)
		spoil(more, bad)
		left, unused, _ := impl.ReleaseFiles(list.list, files.list)
		spoil(left, bad)
		spoil(unused, -5)
		spoil(impl.NewFiles(list.list, files.list), -5)
		impl.FileCount(list.list, 5)
		list.check(t, "a function of files")
		files.check(t, "a function of files")
	}
}
