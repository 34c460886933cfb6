package impl

import "strconv"

const MaxTerms = 400
const MaxText = 300

const TmNonce = 0
const TmKey = 1
const TmText = 2
const TmPair = 3
const TmHash = 4
const TmSeal = 5
const TmSign = 6

// maxAtom is the greatest A that tells one nonce, or one key, from another.
const maxAtom = 999

type Term struct {
	Kind int
	A    int
	B    int
	Text []byte
}

type Ledger struct {
	L []Term
}

// term is a Term that has been read. Each kind is a type of its own with only
// the fields that mean something for it, so that none is taken for another.
type term interface {
	// parts gives the numbers of the terms that it is made of.
	parts() []int
}

type nonceTerm struct{ atom int }

type keyTerm struct{ atom int }

type textTerm struct{ text string }

type pairTerm struct{ left, right int }

type hashTerm struct{ of int }

type sealTerm struct{ key, of int }

type signTerm struct{ key, of int }

func (x nonceTerm) parts() []int { return nil }

func (x keyTerm) parts() []int { return nil }

func (x textTerm) parts() []int { return nil }

func (x pairTerm) parts() []int { return []int{x.left, x.right} }

func (x hashTerm) parts() []int { return []int{x.of} }

func (x sealTerm) parts() []int { return []int{x.key, x.of} }

func (x signTerm) parts() []int { return []int{x.key, x.of} }

// termKey is a Term that can be a map's key: alike terms have equal keys.
type termKey struct {
	kind, a, b int
	text       string
}

// book is a ledger that has been read and found to be LedgerOk.
type book struct {
	terms   []term
	numbers map[termKey]int
}

// fieldsOk tells what can be told of a term without a ledger: that what its kind
// has no use for is zero, and that the rest keeps to its limits. It comes ahead
// of any copy of the text, which may be of any length.
func fieldsOk(t Term) bool {
	noText := len(t.Text) == 0
	switch t.Kind {
	case TmNonce, TmKey:
		return t.A >= 0 && t.A <= maxAtom && t.B == 0 && noText
	case TmText:
		return t.A == 0 && t.B == 0 && len(t.Text) <= MaxText
	case TmHash:
		return t.B == 0 && noText
	case TmPair, TmSeal, TmSign:
		return noText
	}
	return false
}

// readTerm reads a term of which fieldsOk is true.
func readTerm(t Term) term {
	switch t.Kind {
	case TmNonce:
		return nonceTerm{t.A}
	case TmKey:
		return keyTerm{t.A}
	case TmText:
		return textTerm{string(t.Text)}
	case TmPair:
		return pairTerm{t.A, t.B}
	case TmHash:
		return hashTerm{t.A}
	case TmSeal:
		return sealTerm{t.A, t.B}
	}
	return signTerm{t.A, t.B}
}

func termKeyOf(t Term) termKey {
	return termKey{t.Kind, t.A, t.B, string(t.Text)}
}

// readLedger reads l term by term, each against those ahead of it.
func readLedger(l Ledger) (book, bool) {
	if len(l.L) > MaxTerms {
		return book{}, false
	}
	b := book{numbers: make(map[termKey]int, len(l.L))}
	for n, t := range l.L {
		x, ok := b.read(t)
		if !ok {
			return book{}, false
		}
		k := termKeyOf(t)
		if _, there := b.numbers[k]; there {
			return book{}, false
		}
		b.numbers[k] = n
		b.terms = append(b.terms, x)
	}
	return b, true
}

// read reads a term that could stand behind those of the book.
func (b book) read(t Term) (term, bool) {
	if !fieldsOk(t) {
		return nil, false
	}
	x := readTerm(t)
	if !b.hasPartsOf(x) {
		return nil, false
	}
	return x, true
}

func (b book) hasPartsOf(x term) bool {
	switch x := x.(type) {
	case nonceTerm, keyTerm, textTerm:
		return true
	case pairTerm:
		return b.has(x.left) && b.has(x.right)
	case hashTerm:
		return b.has(x.of)
	case sealTerm:
		return b.hasKey(x.key) && b.has(x.of)
	case signTerm:
		return b.hasKey(x.key) && b.has(x.of)
	}
	return false
}

func (b book) has(id int) bool { return id >= 0 && id < len(b.terms) }

func (b book) hasKey(id int) bool {
	if !b.has(id) {
		return false
	}
	_, ok := b.terms[id].(keyTerm)
	return ok
}

// numberOf gives the number of a term that the book reads, or -1.
func (b book) numberOf(t Term) int {
	n, there := b.numbers[termKeyOf(t)]
	if !there {
		return -1
	}
	return n
}

func copyTerm(t Term) Term {
	t.Text = append([]byte(nil), t.Text...)
	return t
}

// copyLedger leaves room for one more term.
func copyLedger(l Ledger) Ledger {
	terms := make([]Term, 0, len(l.L)+1)
	for _, t := range l.L {
		terms = append(terms, copyTerm(t))
	}
	return Ledger{L: terms}
}

// readBoth reads l, and t as a term that could stand behind those of l.
func readBoth(l Ledger, t Term) (book, bool) {
	b, ok := readLedger(l)
	if !ok {
		return book{}, false
	}
	if _, ok := b.read(t); !ok {
		return book{}, false
	}
	return b, true
}

func TermOk(l Ledger, t Term) bool {
	_, ok := readBoth(l, t)
	return ok
}

func LedgerOk(l Ledger) bool {
	_, ok := readLedger(l)
	return ok
}

// Lookup refuses a t that is not TermOk: no such term is in l.
func Lookup(l Ledger, t Term) int {
	b, ok := readBoth(l, t)
	if !ok {
		return -1
	}
	return b.numberOf(t)
}

func Intern(l Ledger, t Term) (Ledger, int) {
	b, ok := readBoth(l, t)
	if !ok {
		return Ledger{}, -1
	}
	if n := b.numberOf(t); n >= 0 {
		return copyLedger(l), n
	}
	if len(l.L) == MaxTerms {
		return Ledger{}, -1
	}
	out := copyLedger(l)
	out.L = append(out.L, copyTerm(t))
	return out, len(l.L)
}

func At(l Ledger, id int) (Term, bool) {
	b, ok := readLedger(l)
	if !ok || !b.has(id) {
		return Term{}, false
	}
	return copyTerm(l.L[id]), true
}

func Open(l Ledger, key int, id int) (int, bool) {
	b, ok := readLedger(l)
	if !ok || !b.has(id) {
		return -1, false
	}
	seal, ok := b.terms[id].(sealTerm)
	if !ok || seal.key != key {
		return -1, false
	}
	return seal.of, true
}

func Verify(l Ledger, key int, sig int, msg int) bool {
	b, ok := readLedger(l)
	if !ok || !b.has(sig) {
		return false
	}
	sign, ok := b.terms[sig].(signTerm)
	return ok && sign.key == key && sign.of == msg
}

// Subterms goes down by number: what a term is made of is ahead of it, so each
// is marked before its turn comes, and no term is gone through twice.
func Subterms(l Ledger, id int) []int {
	b, ok := readLedger(l)
	if !ok || !b.has(id) {
		return nil
	}
	inside := make([]bool, id+1)
	inside[id] = true
	for n := id; n >= 0; n-- {
		if inside[n] {
			for _, p := range b.terms[n].parts() {
				inside[p] = true
			}
		}
	}
	return marked(inside)
}

// marked gives the places that are true, ascending.
func marked(at []bool) []int {
	var out []int
	for n, yes := range at {
		if yes {
			out = append(out, n)
		}
	}
	return out
}

// Depth goes up by number: what a term is made of is reckoned before it, once.
func Depth(l Ledger, id int) int {
	b, ok := readLedger(l)
	if !ok || !b.has(id) {
		return -1
	}
	depths := make([]int, id+1)
	for n := range depths {
		for _, p := range b.terms[n].parts() {
			depths[n] = max(depths[n], depths[p])
		}
		depths[n]++
	}
	return depths[id]
}

func TermText(l Ledger, id int) []byte {
	b, ok := readLedger(l)
	if !ok || !b.has(id) {
		return nil
	}
	switch x := b.terms[id].(type) {
	case nonceTerm:
		return wordAndNumbers("nonce", x.atom)
	case keyTerm:
		return wordAndNumbers("key", x.atom)
	case textTerm:
		return wordAndNumbers("text", len(x.text))
	case pairTerm:
		return wordAndNumbers("pair", x.left, x.right)
	case hashTerm:
		return wordAndNumbers("hash", x.of)
	case sealTerm:
		return wordAndNumbers("seal", x.key, x.of)
	case signTerm:
		return wordAndNumbers("sign", x.key, x.of)
	}
	return nil
}

func wordAndNumbers(word string, numbers ...int) []byte {
	out := []byte(word)
	for _, n := range numbers {
		out = append(out, ' ')
		out = strconv.AppendInt(out, int64(n), 10)
	}
	return out
}

func CountKind(l Ledger, kind int) int {
	if !LedgerOk(l) {
		return -1
	}
	count := 0
	for _, t := range l.L {
		if t.Kind == kind {
			count++
		}
	}
	return count
}

func KeysOf(l Ledger) []int {
	b, ok := readLedger(l)
	if !ok {
		return nil
	}
	keys := make([]bool, len(b.terms))
	for n := range keys {
		keys[n] = b.hasKey(n)
	}
	return marked(keys)
}

func UsesOf(l Ledger, id int) []int {
	b, ok := readLedger(l)
	if !ok {
		return nil
	}
	uses := make([]bool, len(b.terms))
	for n, x := range b.terms {
		for _, p := range x.parts() {
			uses[n] = uses[n] || p == id
		}
	}
	return marked(uses)
}
