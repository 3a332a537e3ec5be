package tests

import (
	"math"
	"slices"
	"testing"

	"loop.example/blockexecutor/impl"
)

func cert(sum int, view int, signers int) impl.Cert {
	return impl.Cert{Sum: sum, View: view, Signers: signers}
}

// certOf is the certificate for the block n.
func certOf(tree impl.BlockTree, n int, signers int) impl.Cert {
	return cert(plainBlockSum(tree.Blocks[n]), tree.Blocks[n].View, signers)
}

// certsOf are the certificates for those blocks, all with the same signers.
func certsOf(tree impl.BlockTree, signers int, numbers ...int) []impl.Cert {
	var certs []impl.Cert
	for _, n := range numbers {
		certs = append(certs, certOf(tree, n, signers))
	}
	return certs
}

// plainSigners are the members that have signed.
func plainSigners(signers int) []int {
	var members []int
	for m, power := range []int{1, 2, 4, 8} {
		if signers/power%2 == 1 {
			members = append(members, m)
		}
	}
	return members
}

// signersOf is what plainSigners was made of.
func signersOf(members []int) int {
	signers := 0
	for m, power := range []int{1, 2, 4, 8} {
		if slices.Contains(members, m) {
			signers += power
		}
	}
	return signers
}

func plainCertValid(c impl.Cert) bool {
	return c.Sum >= 0 && c.Sum <= 1000002 && c.View >= 0 && c.View <= 1000 && c.Signers >= 0 && c.Signers <= 15
}

func plainCertCounts(c impl.Cert) bool {
	return plainCertValid(c) && len(plainSigners(c.Signers)) >= 3
}

// plainCertBlock asks every block of a valid tree.
func plainCertBlock(tree impl.BlockTree, c impl.Cert) int {
	return slices.IndexFunc(tree.Blocks, func(b impl.Block) bool {
		return plainCertCounts(c) && plainBlockSum(b) == c.Sum && b.View == c.View
	})
}

// plainCertified asks all certificates for every block of a valid tree.
func plainCertified(tree impl.BlockTree, certs []impl.Cert) []bool {
	var marks []bool
	for n := range tree.Blocks {
		counts := func(c impl.Cert) bool { return plainCertBlock(tree, c) == n }
		marks = append(marks, n == 0 || slices.ContainsFunc(certs, counts))
	}
	return marks
}

// marksOf are those of so many blocks, of which the first one and some more are certified.
func marksOf(count int, numbers ...int) []bool {
	marks := make([]bool, count)
	for _, n := range append(numbers, 0) {
		marks[n] = true
	}
	return marks
}

func manySigners() []int { return []int{7, 11, 13, 14, 15} }

func fewSigners() []int { return []int{0, 1, 2, 3, 4, 5, 6, 8, 9, 10, 12} }

// invalidSigners are such that the last four digits or the number of ones in their binary numbers would do for some of them.
func invalidSigners() []int {
	return []int{-1, -2, -9, -16, 16, 17, 23, 31, 1 << 10, 1 << 32, 1<<32 + 7, math.MinInt, math.MinInt + 7, math.MaxInt - 1, math.MaxInt}
}

// invalidCerts are those with one, two or three things wrong in a valid one.
func invalidCerts(c impl.Cert) []impl.Cert {
	var certs []impl.Cert
	for _, signers := range invalidSigners() {
		certs = append(certs, cert(c.Sum, c.View, signers))
	}
	for _, view := range append(invalidViews(), c.View+1<<32, c.View-1001) {
		certs = append(certs, cert(c.Sum, view, c.Signers))
	}
	for _, sum := range append(invalidRoots(), c.Sum+impl.SumBase, c.Sum-impl.SumBase, c.Sum+1<<32) {
		certs = append(certs, cert(sum, c.View, c.Signers))
	}
	return append(certs, cert(-1, -1, c.Signers), cert(c.Sum, 1001, 16), cert(impl.SumBase, c.View, -1), cert(-1, 1001, 31))
}

// certLists are lists of at most MaxCerts certificates: for no block, for all, for some of them, with too few signers, for blocks that a tree does not have, and such that are not valid.
func certLists(tree impl.BlockTree) [][]impl.Cert {
	all := inOrder(len(tree.Blocks))
	last := len(all) - 1
	lists := [][]impl.Cert{
		nil, certsOf(tree, 7, all...), certsOf(tree, 12, all...), certsOf(tree, 15, last, 0), certsOf(tree, 14, last, last, last/2),
		append(certsOf(tree, 3, all...), certsOf(tree, 12, all...)...), append(certsOf(tree, 11, all...), certsOf(tree, 8, all...)...),
		invalidCerts(certOf(tree, last, 15))[:impl.MaxCerts], append(invalidCerts(certOf(tree, 0, 7))[10:39], certOf(tree, last, 13)),
	}
	for shift := range 6 {
		var mixed []impl.Cert
		for n, b := range tree.Blocks {
			c := certOf(tree, n, (5*n+7*shift)%16)
			other := cert(c.Sum, b.View+(n+shift)%3-1, 15-n%3)
			mixed = append(mixed, c, other)
		}
		lists = append(lists, mixed, append(certsOf(tree, manySigners()[shift%5], shift%len(all)), cert(shift, shift, 15)))
	}
	return lists
}

func checkCert(t *testing.T, c impl.Cert, valid bool, counts bool) {
	t.Helper()
	if got := impl.CertValid(c); got != valid {
		t.Errorf("CertValid(%+v) = %v", c, got)
	}
	if got := impl.CertCounts(c); got != counts {
		t.Errorf("CertCounts(%+v) = %v", c, got)
	}
}

func checkCertBlock(t *testing.T, tree impl.BlockTree, c impl.Cert, want int) {
	t.Helper()
	if got := impl.CertBlock(tree, c); got != want {
		t.Errorf("CertBlock(%+v, %+v) = %d, want %d", tree, c, got, want)
	}
}

func checkCertified(t *testing.T, tree impl.BlockTree, certs []impl.Cert, want []bool) {
	t.Helper()
	if got := impl.CertifiedBlocks(tree, certs); !slices.Equal(got, want) {
		t.Errorf("CertifiedBlocks(%+v, %+v) = %v, want %v", tree, certs, got, want)
	}
}

func checkJoin(t *testing.T, a impl.Cert, b impl.Cert, want impl.Cert, wantOK bool) {
	t.Helper()
	if got, ok := impl.JoinCerts(a, b); got != want || ok != wantOK {
		t.Errorf("JoinCerts(%+v, %+v) = %+v, %v, want %+v, %v", a, b, got, ok, want, wantOK)
	}
}

// checkNotJoined checks both orders.
func checkNotJoined(t *testing.T, a impl.Cert, b impl.Cert) {
	t.Helper()
	checkJoin(t, a, b, impl.Cert{}, false)
	checkJoin(t, b, a, impl.Cert{}, false)
}

// checkInvalidCert checks what all functions answer for a certificate that is not valid, also beside a valid one.
func checkInvalidCert(t *testing.T, tree impl.BlockTree, c impl.Cert, valid impl.Cert) {
	t.Helper()
	checkCert(t, c, false, false)
	checkCertBlock(t, tree, c, -1)
	checkNotJoined(t, c, c)
	checkNotJoined(t, c, valid)
	checkNotJoined(t, c, cert(valid.Sum, valid.View, 0))
	none := make([]bool, len(tree.Blocks))
	none[0] = true
	checkCertified(t, tree, []impl.Cert{c}, none)
	checkCertified(t, tree, []impl.Cert{c, c}, none)
	checkCertified(t, tree, []impl.Cert{c, valid}, plainCertified(tree, []impl.Cert{valid}))
	checkCertified(t, tree, []impl.Cert{valid, c}, plainCertified(tree, []impl.Cert{valid}))
}

// eachPlace visits sums and views of certificates, the edges included.
func eachPlace(visit func(sum int, view int)) {
	for _, sum := range []int{0, 1, 16, 910997, impl.SumBase - 2, impl.SumBase - 1} {
		for _, view := range []int{0, 1, 2, 500, impl.MaxView - 1, impl.MaxView} {
			visit(sum, view)
		}
	}
}

func TestCertificateConstants(t *testing.T) {
	if impl.Members != 4 || impl.Quorum != 3 || impl.MaxCerts != 30 {
		t.Errorf("Members %d, Quorum %d, MaxCerts %d", impl.Members, impl.Quorum, impl.MaxCerts)
	}
}

// P72: every number of signers is valid, whatever the sum and the view are; with the signers 16, or others that there are not, a certificate is invalid.
func TestCertificatesHaveSigners(t *testing.T) {
	eachPlace(func(sum int, view int) {
		for _, signers := range fewSigners() {
			checkCert(t, cert(sum, view, signers), true, false)
		}
		for _, signers := range manySigners() {
			checkCert(t, cert(sum, view, signers), true, true)
		}
		for _, signers := range invalidSigners() {
			checkCert(t, cert(sum, view, signers), false, false)
		}
	})
	for signers := -300; signers < 300; signers++ {
		c := cert(5, 5, signers)
		checkCert(t, c, plainCertValid(c), plainCertCounts(c))
	}
}

// All views, and sums around both ends, with every number of signers.
func TestPlacesOfCertificates(t *testing.T) {
	for view := -20; view <= 1020; view++ {
		c := cert(77, view, view&15)
		checkCert(t, c, plainCertValid(c), plainCertCounts(c))
	}
	for by := -20; by <= 20; by++ {
		for _, c := range []impl.Cert{cert(by, 3, by&15), cert(impl.SumBase+by, 3, by&15), cert(by, 3, 15), cert(impl.SumBase+by, 3, 15)} {
			checkCert(t, c, plainCertValid(c), plainCertCounts(c))
		}
	}
	for _, sum := range invalidRoots() {
		checkCert(t, cert(sum, 1, 7), false, false)
	}
	for _, view := range invalidViews() {
		checkCert(t, cert(1, view, 7), false, false)
	}
}

// Each member alone and each two are too few, also the last two; each three are enough, and so are all.
func TestNumbersOfSigners(t *testing.T) {
	for signers := range 16 {
		checkCert(t, cert(0, 0, signers), true, slices.Contains(manySigners(), signers))
	}
	for a := range 4 {
		for b := range 4 {
			checkCert(t, cert(7, 7, signersOf([]int{a, b})), true, false)
			for c := range 4 {
				checkCert(t, cert(7, 7, signersOf([]int{a, b, c})), true, a != b && b != c && a != c)
			}
		}
	}
	checkCert(t, impl.Cert{}, true, false)
}

// P73: two certificates that count, for the same block or for others, have at least two signers in common, and one at least that keeps to the rules; with all members a valid one counts.
func TestQuorumsMeet(t *testing.T) {
	pairs := 0
	for a := range 16 {
		for b := range 16 {
			if !impl.CertCounts(cert(910997, 1, a)) || !impl.CertCounts(cert(316974, 1, b)) {
				continue
			}
			pairs++
			common := plainSigners(a & b)
			if len(common) < 2 || common[0] == impl.Members-1 {
				t.Errorf("the signers %v and %v have only %v in common", plainSigners(a), plainSigners(b), common)
			}
		}
	}
	if pairs != 25 {
		t.Errorf("%d pairs count", pairs)
	}
	eachPlace(func(sum int, view int) { checkCert(t, cert(sum, view, 15), true, true) })
}

// Fixed values from a separate calculation: for the first block, for the last one, and for those of several branches.
func TestCertBlockValues(t *testing.T) {
	tree := eightBlocks()
	views := []int{0, 1, 7, 1000, 3, 8, 4, 6}
	for n, sum := range eightSums() {
		for _, signers := range manySigners() {
			checkCertBlock(t, tree, cert(sum, views[n], signers), n)
		}
		for _, signers := range append(invalidSigners(), fewSigners()...) {
			checkCertBlock(t, tree, cert(sum, views[n], signers), -1)
		}
		for view := -2; view <= 1002; view++ {
			want := -1
			if view == views[n] {
				want = n
			}
			checkCertBlock(t, tree, cert(sum, view, 7), want)
		}
		checkCertBlock(t, tree, cert(sum+1, views[n], 7), -1)
		checkCertBlock(t, tree, cert(sum-1, views[n], 7), -1)
	}
	mixed := mixedBlocks()
	for _, c := range [][]int{{631819, 0, 0}, {39808, 1, 1}, {196093, 2, 2}, {196033, 2, 4}, {196062, 2, 5}, {516791, 3, 6}, {413474, 3, 8}, {948983, 2, 10}} {
		checkCertBlock(t, mixed, cert(c[0], c[1], 14), c[2])
		checkCertBlock(t, mixed, cert(c[0], c[1], 12), -1)
		checkCertBlock(t, mixed, cert(c[0], c[1]+1, 14), -1)
	}
}

// P74: a certificate is for the block that has its sum and its view, right or not, with enough signers alone; without signers there is none.
func TestCertificatesAreForOneBlock(t *testing.T) {
	t.Parallel()
	eachTree(func(tree impl.BlockTree) {
		for n, b := range tree.Blocks {
			sum := impl.BlockSum(b)
			for _, signers := range fewSigners() {
				checkCertBlock(t, tree, cert(sum, b.View, signers), -1)
			}
			for i, signers := range manySigners() {
				checkCertBlock(t, tree, cert(sum, b.View, signers), n)
				checkCertBlock(t, tree, cert(sum, b.View+1+i, signers), -1)
				checkCertBlock(t, tree, cert(sum, b.View-1-i, signers), -1)
			}
			for _, other := range tree.Blocks {
				c := cert(sum, other.View, 11)
				checkCertBlock(t, tree, c, plainCertBlock(tree, c))
			}
		}
		for _, sum := range append(noSums(tree), 0, 5, impl.SumBase-1) {
			c := cert(sum, tree.Blocks[len(tree.Blocks)-1].View, 15)
			checkCertBlock(t, tree, c, plainCertBlock(tree, c))
		}
	})
}

// Every answer that is a number is that of a block with the sum and the view.
func TestBlocksOfCertificates(t *testing.T) {
	found := 0
	eachSmallTree(func(tree impl.BlockTree) {
		for _, certs := range certLists(tree) {
			for _, c := range certs {
				checkCertBlock(t, tree, c, plainCertBlock(tree, c))
				if n := impl.CertBlock(tree, c); n >= 0 {
					found++
					if impl.BlockSum(tree.Blocks[n]) != c.Sum || tree.Blocks[n].View != c.View || !impl.CertCounts(c) {
						t.Errorf("%+v is for block %d of %+v", c, n, tree)
					}
				}
			}
		}
	})
	if found < 500 {
		t.Errorf("%d certificates are for a block", found)
	}
}

// A certificate that is valid and counts, but for no block: of another tree, or of a block that is put later.
func TestCertificatesForNoBlock(t *testing.T) {
	tree, other := eightBlocks(), mixedBlocks()
	for n := range other.Blocks {
		c := certOf(other, n, 15)
		checkCert(t, c, true, true)
		checkCertBlock(t, tree, c, -1)
		checkCertified(t, tree, []impl.Cert{c}, marksOf(8))
	}
	for n := 1; n < 8; n++ {
		c := certOf(tree, n, 7)
		checkCertBlock(t, firstBlocks(tree, n), c, -1)
		checkCertBlock(t, firstBlocks(tree, n+1), c, n)
		checkCertified(t, firstBlocks(tree, n), []impl.Cert{c}, marksOf(n))
		checkCertified(t, firstBlocks(tree, n+1), []impl.Cert{c}, marksOf(n+1, n))
	}
	eachPlace(func(sum int, view int) {
		c := cert(sum, view, 7)
		checkCertBlock(t, tree, c, plainCertBlock(tree, c))
		checkCertified(t, tree, []impl.Cert{c}, plainCertified(tree, []impl.Cert{c}))
	})
}

// Blocks with the sums 0 and SumBase-1 have certificates like all others.
func TestCertificatesWithTheEdgesOfSums(t *testing.T) {
	tree := impl.TreeOf(storeOf(1, 9, 3, 5))
	checkCertBlock(t, tree, cert(0, 0, 15), -1)
	checkCertBlock(t, tree, cert(0, 2, 15), -1)
	tree = mustPutBlock(t, tree, block(910997, 1, 2, nil, 5, 480199))
	tree = mustPutBlock(t, tree, block(910997, 1, 2, nil, 5, 480198))
	checkCertBlock(t, tree, cert(0, 2, 7), 1)
	checkCertBlock(t, tree, cert(impl.SumBase-1, 2, 7), 2)
	checkCertBlock(t, tree, cert(0, 2, 6), -1)
	checkCertBlock(t, tree, cert(impl.SumBase-1, 2, 6), -1)
	for _, sum := range []int{-1, impl.SumBase} {
		checkCertBlock(t, tree, cert(sum, 2, 7), -1)
		checkCertified(t, tree, []impl.Cert{cert(sum, 2, 7)}, marksOf(3))
	}
	checkCertBlock(t, tree, impl.Cert{}, -1)
	checkCertified(t, tree, []impl.Cert{cert(0, 2, 11)}, marksOf(3, 1))
	checkCertified(t, tree, []impl.Cert{cert(impl.SumBase-1, 2, 13)}, marksOf(3, 2))
	checkCertified(t, tree, []impl.Cert{cert(0, 0, 15), cert(impl.SumBase-1, 0, 15), {}}, marksOf(3))
}

// The first block has the view 0, and the last one of a way with the greatest views MaxView.
func TestCertificatesWithTheEdgesOfViews(t *testing.T) {
	for _, s := range fewStores() {
		tree := topTree(s)
		first, last := certOf(tree, 0, 7), certOf(tree, 13, 7)
		checkCertBlock(t, tree, cert(first.Sum, 0, 7), 0)
		checkCertBlock(t, tree, cert(first.Sum, -1, 7), -1)
		checkCertBlock(t, tree, cert(first.Sum, 1, 7), -1)
		checkCertBlock(t, tree, cert(last.Sum, impl.MaxView, 7), 13)
		checkCertBlock(t, tree, cert(last.Sum, impl.MaxView+1, 7), -1)
		checkCertBlock(t, tree, cert(last.Sum, impl.MaxView-1, 7), -1)
		checkCertified(t, tree, []impl.Cert{first, last}, marksOf(14, 13))
		checkCertified(t, tree, certsOf(tree, 14, inOrder(14)...), marksOf(14, inOrder(14)...))
	}
}

func TestCertifiedBlocksValues(t *testing.T) {
	tree := eightBlocks()
	one, three, five := cert(316974, 1, 7), cert(573652, 1000, 14), cert(384484, 8, 15)
	for _, c := range []struct {
		certs   []impl.Cert
		numbers []int
	}{
		{nil, nil},
		{[]impl.Cert{cert(910997, 0, 15)}, nil},
		{[]impl.Cert{cert(910997, 0, 1)}, nil},
		{[]impl.Cert{one}, []int{1}},
		{[]impl.Cert{one, three, five}, []int{1, 3, 5}},
		{[]impl.Cert{five, one, three}, []int{1, 3, 5}},
		{[]impl.Cert{three}, []int{3}},
		{[]impl.Cert{three, three, three}, []int{3}},
		{[]impl.Cert{cert(316974, 1, 3), three}, []int{3}},
		{[]impl.Cert{cert(316974, 1, 3), three, one}, []int{1, 3}},
		{[]impl.Cert{one, cert(316974, 1, 0)}, []int{1}},
		{[]impl.Cert{cert(316974, 1000, 7), cert(573652, 1, 14)}, nil},
		{[]impl.Cert{cert(866981, 6, 13), cert(656764, 4, 11)}, []int{6, 7}},
		{[]impl.Cert{cert(866981, 6, 12), cert(866981, 6, 3)}, nil},
		{[]impl.Cert{cert(866981, 6, 12), cert(866981, 6, 3), cert(866981, 6, 14)}, []int{7}},
		{[]impl.Cert{cert(316974, 1, 16), cert(-1, 1, 7), one}, []int{1}},
	} {
		checkCertified(t, tree, c.certs, marksOf(8, c.numbers...))
	}
}

// Any set of blocks can be certified, also without those before them, and no other ones are; the first one always is.
func TestAnyBlocksAreCertified(t *testing.T) {
	tree := eightBlocks()
	for set := range 1 << 8 {
		var numbers []int
		for n := range 8 {
			if set>>n&1 == 1 {
				numbers = append(numbers, n)
			}
		}
		for _, signers := range manySigners() {
			certs := certsOf(tree, signers, numbers...)
			checkCertified(t, tree, certs, marksOf(8, numbers...))
			slices.Reverse(certs)
			checkCertified(t, tree, certs, marksOf(8, numbers...))
		}
		checkCertified(t, tree, certsOf(tree, fewSigners()[set%11], numbers...), marksOf(8))
	}
}

// isPart tells whether all blocks that are marked are among others.
func isPart(marks []bool, others []bool) bool {
	for n, mark := range marks {
		if mark && !others[n] {
			return false
		}
	}
	return len(marks) == len(others)
}

// P75: the first block needs no certificate, every other one one that counts for it; without one of them, and with the first ones alone, no more are certified.
func TestCertifiedBlocksHaveCertificates(t *testing.T) {
	t.Parallel()
	eachTree(func(tree impl.BlockTree) {
		checkCertified(t, tree, nil, marksOf(len(tree.Blocks)))
		for _, certs := range certLists(tree) {
			marks := impl.CertifiedBlocks(tree, certs)
			checkCertified(t, tree, certs, plainCertified(tree, certs))
			for n, mark := range marks {
				isFor := func(c impl.Cert) bool { return impl.CertBlock(tree, c) == n }
				if mark != (n == 0 || slices.ContainsFunc(certs, isFor)) {
					t.Errorf("with %+v the blocks %v of %+v are certified", certs, marks, tree)
				}
			}
			for i := 0; i < len(certs); i += 1 + len(tree.Blocks)/5 {
				fewer := slices.Delete(slices.Clone(certs), i, i+1)
				if less := impl.CertifiedBlocks(tree, fewer); !isPart(less, marks) {
					t.Errorf("with %+v the blocks %v of %+v are certified, with fewer of them %v", certs, marks, tree, less)
				}
				if less := impl.CertifiedBlocks(tree, certs[:i]); !isPart(less, marks) {
					t.Errorf("with %+v the blocks %v of %+v are certified, with the first %d of them %v", certs, marks, tree, i, less)
				}
			}
		}
	})
}

// Certificates in another order, and the same ones twice, certify the same blocks.
func TestOrdersOfCertificates(t *testing.T) {
	eachSmallTree(func(tree impl.BlockTree) {
		for _, certs := range certLists(tree) {
			want := plainCertified(tree, certs)
			turned := slices.Clone(certs)
			slices.Reverse(turned)
			checkCertified(t, tree, turned, want)
			if len(certs) > 0 {
				checkCertified(t, tree, append(slices.Clone(certs[1:]), certs[0]), want)
			}
			if twice := slices.Concat(certs, turned); len(twice) <= impl.MaxCerts {
				checkCertified(t, tree, twice, want)
			}
		}
	})
}

// None, MaxCerts of them and more, whatever they are.
func TestCertificatesMayBeMaxCerts(t *testing.T) {
	eachSmallTree(func(tree impl.BlockTree) {
		last := len(tree.Blocks) - 1
		good, poor, invalid := certOf(tree, last, 7), certOf(tree, last, 12), cert(-1, -1, -1)
		certified, none := marksOf(last+1, last), marksOf(last+1)
		for _, other := range []impl.Cert{good, poor, invalid} {
			for _, count := range []int{30, 31, 32, 60, 300} {
				want, wantNone := certified, none
				if count > 30 {
					want, wantNone = nil, nil
				}
				others := slices.Repeat([]impl.Cert{other}, count-1)
				checkCertified(t, tree, append(slices.Clone(others), good), want)
				checkCertified(t, tree, append([]impl.Cert{good}, others...), want)
				if other != good {
					checkCertified(t, tree, append(others, poor), wantNone)
				}
			}
		}
	})
}

// A way of MaxBlocks with two certificates for each of its blocks, of which the second ones count, and with two more.
func TestCertificatesForMaxBlocks(t *testing.T) {
	for _, tree := range greatTrees() {
		all := inOrder(len(tree.Blocks))
		certs := append(certsOf(tree, 9, all...), certsOf(tree, 13, all...)...)
		checkCertified(t, tree, certs, marksOf(len(all), all...))
		certs = append(certs, slices.Repeat([]impl.Cert{{}}, impl.MaxCerts-len(certs))...)
		checkCertified(t, tree, certs, marksOf(len(all), all...))
		checkCertified(t, tree, append(certs, impl.Cert{}), nil)
		for n := range all {
			checkCertified(t, tree, certsOf(tree, 7, n), marksOf(len(all), n))
		}
	}
}

func TestCertificatesForTheFirstBlockAlone(t *testing.T) {
	for _, s := range sampleStores() {
		tree := impl.TreeOf(s)
		for signers := range 16 {
			c := certOf(tree, 0, signers)
			checkCertBlock(t, tree, c, plainCertBlock(tree, c))
			checkCertified(t, tree, []impl.Cert{c}, []bool{true})
			checkCertBlock(t, tree, cert(c.Sum, 1, signers), -1)
		}
		checkCertified(t, tree, nil, []bool{true})
		checkCertified(t, tree, []impl.Cert{}, []bool{true})
		checkCertified(t, tree, []impl.Cert{cert(-1, 0, 15)}, []bool{true})
		checkCertified(t, tree, make([]impl.Cert, 30), []bool{true})
		checkCertified(t, tree, make([]impl.Cert, 31), nil)
	}
}

// With one thing wrong, or several, a certificate counts for no block and is not joined; it is no reason to refuse others beside it.
func TestInvalidCertificates(t *testing.T) {
	t.Parallel()
	for _, tree := range append(smallTrees(), topTree(fullStore(1, 1))) {
		for n := range tree.Blocks {
			valid := certOf(tree, n, manySigners()[n%5])
			for _, c := range invalidCerts(valid) {
				checkInvalidCert(t, tree, c, valid)
			}
		}
	}
}

// Also with too many certificates a tree that is not valid has no blocks.
func TestCertificatesForInvalidTrees(t *testing.T) {
	t.Parallel()
	checkNoTree(t, impl.BlockTree{})
	for _, tree := range wrongTrees(eightBlocks()) {
		checkNoTree(t, tree)
	}
	for _, sum := range append(eightSums(), 0) {
		checkCertBlock(t, impl.BlockTree{}, cert(sum, 0, 15), -1)
	}
	checkCertified(t, impl.BlockTree{}, nil, nil)
	checkCertified(t, impl.BlockTree{}, make([]impl.Cert, 31), nil)
}

func TestJoinCertsValues(t *testing.T) {
	for _, c := range [][]int{{1, 10, 11}, {3, 12, 15}, {5, 5, 5}, {0, 0, 0}, {0, 8, 8}, {7, 3, 7}, {6, 9, 15}, {13, 7, 15}, {15, 15, 15}, {1, 4, 5}} {
		eachPlace(func(sum int, view int) {
			checkJoin(t, cert(sum, view, c[0]), cert(sum, view, c[1]), cert(sum, view, c[2]), true)
		})
	}
}

// P76: the signers are those of one or the other, in both orders; what is joined counts if one of both does, and in other cases only with three signers.
func TestCertificatesAreJoined(t *testing.T) {
	onlyJoined := 0
	eachPlace(func(sum int, view int) {
		for x := range 16 {
			for y := range 16 {
				a, b := cert(sum, view, x), cert(sum, view, y)
				want := cert(sum, view, signersOf(append(plainSigners(x), plainSigners(y)...)))
				checkJoin(t, a, b, want, true)
				checkJoin(t, b, a, want, true)
				checkCert(t, want, true, plainCertCounts(want))
				if (impl.CertCounts(a) || impl.CertCounts(b)) && !impl.CertCounts(want) {
					t.Errorf("joined of %+v and %+v does not count", a, b)
				}
				if impl.CertCounts(want) && !impl.CertCounts(a) && !impl.CertCounts(b) {
					onlyJoined++
				}
			}
		}
	})
	if onlyJoined != 36*54 {
		t.Errorf("%d count only joined", onlyJoined)
	}
}

// Joined with itself, and with one without signers, a certificate is unchanged; of three the order does not matter.
func TestCertificatesAreJoinedAgain(t *testing.T) {
	for x := range 16 {
		a := cert(5, 6, x)
		checkJoin(t, a, a, a, true)
		checkJoin(t, a, cert(5, 6, 0), a, true)
		checkJoin(t, a, cert(5, 6, 15), cert(5, 6, 15), true)
		for y := range 16 {
			for z := range 16 {
				b, c := cert(5, 6, y), cert(5, 6, z)
				left, leftOK := impl.JoinCerts(a, b)
				right, rightOK := impl.JoinCerts(b, c)
				if !leftOK || !rightOK {
					t.Errorf("%+v, %+v and %+v are not joined", a, b, c)
				}
				want, _ := impl.JoinCerts(left, c)
				checkJoin(t, a, right, want, true)
			}
		}
	}
}

// Two that do not count for their block do so joined; in a list they are not joined.
func TestCertificatesThatCountOnlyJoined(t *testing.T) {
	tree := eightBlocks()
	for n := range tree.Blocks {
		for x := range 16 {
			for y := range 16 {
				a, b := certOf(tree, n, x), certOf(tree, n, y)
				joined, ok := impl.JoinCerts(a, b)
				if !ok {
					t.Fatalf("%+v and %+v are not joined", a, b)
				}
				checkCertBlock(t, tree, joined, plainCertBlock(tree, certOf(tree, n, x|y)))
				checkCertified(t, tree, []impl.Cert{joined}, plainCertified(tree, []impl.Cert{certOf(tree, n, x|y)}))
				if slices.Contains(fewSigners(), x) && slices.Contains(fewSigners(), y) {
					checkCertified(t, tree, []impl.Cert{a, b}, marksOf(8))
				}
			}
		}
	}
}

// For two sums, or two views, there is no joined one, whoever has signed.
func TestCertificatesForTwoBlocksAreNotJoined(t *testing.T) {
	tree := eightBlocks()
	for a := range tree.Blocks {
		for b := range tree.Blocks {
			if a != b {
				checkNotJoined(t, certOf(tree, a, 7), certOf(tree, b, 7))
				checkNotJoined(t, certOf(tree, a, 1), certOf(tree, b, 12))
			}
		}
	}
	eachPlace(func(sum int, view int) {
		for signers := range 16 {
			c := cert(sum, view, signers)
			for _, other := range []int{0, signers, 15 - signers, 15} {
				checkNotJoined(t, c, cert((sum+1)%impl.SumBase, view, other))
				checkNotJoined(t, c, cert(sum, (view+1)%1001, other))
				checkNotJoined(t, c, cert((sum+1)%impl.SumBase, (view+1)%1001, other))
			}
		}
	})
	checkNotJoined(t, cert(1, 2, 7), cert(2, 1, 7))
}

// With one of both invalid, the first or the second one, and with both, also if they have the same wrong sum, view or signers.
func TestInvalidCertificatesAreNotJoined(t *testing.T) {
	eachPlace(func(sum int, view int) {
		for _, signers := range []int{0, 7, 15} {
			valid := cert(sum, view, signers)
			for _, c := range invalidCerts(valid) {
				checkNotJoined(t, c, c)
				for other := range 16 {
					checkNotJoined(t, c, cert(sum, view, other))
					checkNotJoined(t, c, cert(c.Sum, c.View, other|16))
					checkNotJoined(t, c, cert(c.Sum, c.View, -1-other))
				}
			}
		}
	})
	checkNotJoined(t, cert(-1, 0, 7), cert(-1, 0, 8))
	checkNotJoined(t, cert(impl.SumBase, 0, 7), cert(impl.SumBase, 0, 8))
	checkNotJoined(t, cert(0, -1, 7), cert(0, -1, 8))
	checkNotJoined(t, cert(0, 1001, 7), cert(0, 1001, 8))
	checkNotJoined(t, cert(0, 0, -1), cert(0, 0, -1))
	checkNotJoined(t, cert(0, 0, 16), cert(0, 0, 15))
}

// P116: every certificate divided into two parts of its signers, with signers in common or with none, is joined again.
func TestHalvesMakeCertificates(t *testing.T) {
	tree := eightBlocks()
	divided := 0
	for n := range tree.Blocks {
		for signers := range 16 {
			whole := certOf(tree, n, signers)
			for part := range 16 {
				if part&^signers != 0 {
					continue
				}
				divided++
				checkJoin(t, certOf(tree, n, part), certOf(tree, n, signers-part), whole, true)
				checkJoin(t, certOf(tree, n, signers-part), certOf(tree, n, part), whole, true)
				checkJoin(t, whole, certOf(tree, n, part), whole, true)
				for _, m := range plainSigners(part) {
					checkJoin(t, certOf(tree, n, part), certOf(tree, n, signers-part+1<<m), whole, true)
				}
			}
		}
	}
	if divided != 8*81 {
		t.Errorf("%d divided certificates", divided)
	}
}

// P116: member by member, in any order, up to the certificate.
func TestCertificatesAreJoinedMemberByMember(t *testing.T) {
	eachOrder(4, func(order []int) {
		eachPlace(func(sum int, view int) {
			joined, signers := cert(sum, view, 0), 0
			for i, m := range order {
				signers += 1 << m
				next, ok := impl.JoinCerts(joined, cert(sum, view, 1<<m))
				if !ok || next != cert(sum, view, signers) || impl.CertCounts(next) != (i >= 2) {
					t.Errorf("%+v and member %d joined are %+v, %v", joined, m, next, ok)
				}
				joined = next
			}
		})
	})
}

// Looking at certificates leaves them and the tree as they are, also behind their ends; the answers share no memory with them nor with each other.
func TestCertifiedBlocksShareNoMemory(t *testing.T) {
	eachTree(func(tree impl.BlockTree) {
		for _, list := range certLists(tree)[:5] {
			given := roomyTree(tree)
			before := wholeTree(given)
			certs := append(slices.Clone(list), cert(40, 40, 40), cert(41, 41, 41))
			whole := slices.Clone(certs)
			first, second := impl.CertifiedBlocks(given, certs[:len(list)]), impl.CertifiedBlocks(given, certs[:len(list)])
			for _, c := range list {
				impl.CertBlock(given, c)
			}
			want := plainCertified(tree, list)
			for n := range second[:cap(second)] {
				second[:cap(second)][n] = !second[:cap(second)][n]
			}
			if wholeTree(given) != before || !slices.Equal(certs, whole) || !slices.Equal(first, want) {
				t.Errorf("%s has become %s, %+v has become %+v, and of the blocks %v are certified", before, wholeTree(given), whole, certs, first)
			}
			spoilTree(given)
			clear(certs)
			if !slices.Equal(first, want) {
				t.Errorf("with the arguments written over the blocks %v are certified, not %v", first, want)
			}
		}
	})
}
