package tests

import (
	"math/rand"
	"regexp"
	"slices"
	"strconv"
	"strings"

	"loop.example/sispass/impl"
)

// These say again, by the library's patterns and by lists of anything, what the document says of parts and programs.

func constant(text string) impl.ExpCore { return impl.ExpCore{Sort: impl.CoreConst, Text: text} }

func ref(name string) impl.ExpCore { return impl.ExpCore{Sort: impl.CoreRef, Text: name} }

func lambda(names []string, kids ...impl.ExpCore) impl.ExpCore {
	return impl.ExpCore{Sort: impl.CoreLambda, Names: names, Kids: kids}
}

func restLambda(names []string, kids ...impl.ExpCore) impl.ExpCore {
	return impl.ExpCore{Sort: impl.CoreLambda, Rest: true, Names: names, Kids: kids}
}

func call(kids ...impl.ExpCore) impl.ExpCore {
	return impl.ExpCore{Sort: impl.CoreCall, Kids: kids}
}

func choice(kids ...impl.ExpCore) impl.ExpCore {
	return impl.ExpCore{Sort: impl.CoreIf, Kids: kids}
}

func set(name string, kids ...impl.ExpCore) impl.ExpCore {
	return impl.ExpCore{Sort: impl.CoreSet, Text: name, Kids: kids}
}

func begin(kids ...impl.ExpCore) impl.ExpCore {
	return impl.ExpCore{Sort: impl.CoreBegin, Kids: kids}
}

func rec(names []string, kids ...impl.ExpCore) impl.ExpCore {
	return impl.ExpCore{Sort: impl.CoreRec, Names: names, Kids: kids}
}

func define(name string, kids ...impl.ExpCore) impl.ExpCore {
	return impl.ExpCore{Sort: impl.CoreDefine, Text: name, Kids: kids}
}

func parts(list ...impl.ExpCore) []impl.ExpCore { return list }

func names(list ...string) []string { return list }

// showAgain is what ExpCoreShow is to answer.
func showAgain(c impl.ExpCore) string {
	all := strings.Join(c.Names, " ")
	var kids []string
	for _, kid := range c.Kids {
		kids = append(kids, showAgain(kid))
	}
	var words []string
	switch c.Sort {
	case 1, 2:
		return c.Text
	case 3:
		if n := len(c.Names); n > 0 && c.Rest {
			all = strings.Join(append(slices.Clone(c.Names[:n-1]), ". "+c.Names[n-1]), " ")
		}
		words = []string{"lambda", "(" + all + ")"}
	case 4:
	case 5:
		words = []string{"if"}
	case 6:
		words = []string{"set!", c.Text}
	case 7:
		words = []string{"begin"}
	case 8:
		words = []string{"rec", "(" + all + ")"}
	case 9:
		words = []string{"define", c.Text}
	default:
		words = []string{""}
	}
	return "(" + strings.Join(append(words, kids...), " ") + ")"
}

// alphaAgain is what ExpAlpha is to answer within these pairs of names.
func alphaAgain(a []impl.ExpCore, b []impl.ExpCore, pairs [][2]string) bool {
	if len(a) != len(b) {
		return false
	}
	for i := range a {
		x, y := a[i], b[i]
		if x.Sort != y.Sort || x.Rest != y.Rest || len(x.Names) != len(y.Names) || !textAgain(x, y, pairs) {
			return false
		}
		inner := slices.Clone(pairs)
		for j := range x.Names {
			inner = append(inner, [2]string{x.Names[j], y.Names[j]})
		}
		if !alphaAgain(x.Kids, y.Kids, inner) {
			return false
		}
	}
	return true
}

func textAgain(x impl.ExpCore, y impl.ExpCore, pairs [][2]string) bool {
	if x.Sort == 2 || x.Sort == 6 || x.Sort == 9 {
		for _, pair := range slices.Backward(pairs) {
			if pair[0] == x.Text || pair[1] == y.Text {
				return pair[0] == x.Text && pair[1] == y.Text
			}
		}
	}
	return x.Text == y.Text
}

var (
	stringText = regexp.MustCompile(`\A"[ !#-~]{0,58}"\z`)
	nameText   = regexp.MustCompile(`\A[!$-&*-~][!#-&*-~]{0,59}\z`)
	numberText = regexp.MustCompile(`\A(0|-?[1-9][0-9]{0,59})(/[1-9][0-9]{0,59})?\z`)
	pieceText  = regexp.MustCompile(`\A(?:[ \n]+|[()']|"[^"]*"|[^ \n()"']+)`)
)

func literalAgain(text string) bool {
	if text == "#t" || text == "#f" || stringText.MatchString(text) {
		return true
	}
	if !numberText.MatchString(text) {
		return false
	}
	n, ok := parseAgain(text, 10)
	return ok && printAgain(n, 10) == text
}

func nameAgain(text string) bool {
	return nameText.MatchString(text) && text != "." && !literalAgain(text)
}

// A text is read as a word (a string of Go), or as what is in a list (a list of Go).
// The word of a string begins with `"`; the mark behind which a list ends in something is the word `.`.

// piecesOf cuts a text to its words, strings and signs; false if it can't be cut.
func piecesOf(text string) ([]string, bool) {
	var pieces []string
	for text != "" {
		piece := pieceText.FindString(text)
		if piece == "" {
			return nil, false
		}
		text = text[len(piece):]
		if strings.Trim(piece, " \n") != "" {
			pieces = append(pieces, piece)
		}
	}
	return pieces, true
}

// dataAgain is all data of a text; false if there is anything else. Points are left as they stand.
func dataAgain(text string) ([]any, bool) {
	pieces, ok := piecesOf(text)
	var all []any
	for ok && len(pieces) > 0 {
		var one any
		one, pieces, ok = datumAgain(pieces)
		all = append(all, one)
	}
	return all, ok
}

func datumAgain(pieces []string) (any, []string, bool) {
	if len(pieces) == 0 || pieces[0] == ")" {
		return nil, nil, false
	}
	first, left := pieces[0], pieces[1:]
	if first == "'" {
		one, left, ok := datumAgain(left)
		return []any{"quote", one}, left, ok
	}
	if first != "(" {
		return first, left, true
	}
	list := []any{}
	for len(left) > 0 && left[0] != ")" {
		var one any
		ok := false
		if one, left, ok = datumAgain(left); !ok {
			return nil, nil, false
		}
		list = append(list, one)
	}
	if len(left) == 0 {
		return nil, nil, false
	}
	return list, left[1:], true
}

// deepAgain is how many others the innermost of data is within; -1 if there are none. A point is none.
func deepAgain(data []any) int {
	deep := -1
	for _, one := range data {
		if list, ok := one.([]any); ok {
			deep = max(deep, 1+deepAgain(list))
		} else if one != "." {
			deep = max(deep, 0)
		}
	}
	return deep
}

// endAgain cuts what a list ends in off: its parts, that, whether there is any, and whether no other point stands in it.
func endAgain(list []any) ([]any, any, bool, bool) {
	at := slices.IndexFunc(list, func(one any) bool { return one == "." })
	if at < 0 {
		return list, nil, false, true
	}
	if at != len(list)-2 || list[at+1] == "." {
		return nil, nil, false, false
	}
	return list[:at], list[at+1], true, true
}

// shownAgain is a datum as it is shown; a point shows itself.
func shownAgain(one any) string {
	list, isList := one.([]any)
	if !isList {
		return one.(string)
	}
	var shown []string
	for _, part := range list {
		shown = append(shown, shownAgain(part))
	}
	return "(" + strings.Join(shown, " ") + ")"
}

// quotableAgain says whether a datum may stand in a constant's list, or is one.
func quotableAgain(one any) bool {
	list, isList := one.([]any)
	if !isList {
		return literalAgain(one.(string)) || nameAgain(one.(string))
	}
	kids, end, ends, ok := endAgain(list)
	if !ok {
		return false
	}
	if _, endsInList := end.([]any); ends && (endsInList || len(kids) == 0 || !quotableAgain(end)) {
		return false
	}
	return !slices.ContainsFunc(kids, func(kid any) bool { return !quotableAgain(kid) })
}

func constantAgain(text string) bool {
	if literalAgain(text) {
		return true
	}
	quoted, found := strings.CutPrefix(text, "'")
	if !found {
		return false
	}
	data, ok := dataAgain(quoted)
	if !ok || len(data) != 1 || shownAgain(data[0]) != quoted || deepAgain(data) > 100 {
		return false
	}
	if word, isWord := data[0].(string); isWord {
		return nameAgain(word)
	}
	return quotableAgain(data[0])
}

// readAgain is what CoreRead is to answer.
func readAgain(text string) ([]impl.ExpCore, bool) {
	if len(text) > 8000 {
		return nil, false
	}
	data, ok := dataAgain(text)
	if !ok || deepAgain(data) > 100 {
		return nil, false
	}
	list, ok := partsAgain(data)
	if !ok || !okAgain(list) {
		return nil, false
	}
	return list, true
}

func partsAgain(data []any) ([]impl.ExpCore, bool) {
	var list []impl.ExpCore
	for _, one := range data {
		c, ok := partAgain(one)
		if !ok {
			return nil, false
		}
		list = append(list, c)
	}
	return list, true
}

func partAgain(one any) (impl.ExpCore, bool) {
	list, isList := one.([]any)
	if !isList {
		if word := one.(string); literalAgain(word) {
			return constant(word), true
		}
		return ref(one.(string)), true
	}
	kids, _, ends, ok := endAgain(list)
	if !ok || ends || len(kids) == 0 {
		return impl.ExpCore{}, false
	}
	switch kids[0] {
	case "quote":
		if len(kids) == 2 {
			text := shownAgain(kids[1])
			if !literalAgain(text) {
				text = "'" + text
			}
			return constant(text), true
		}
	case "if":
		return formAgain(impl.ExpCore{Sort: 5}, kids[1:])
	case "begin":
		return formAgain(impl.ExpCore{Sort: 7}, kids[1:])
	case "set!", "define":
		c := impl.ExpCore{Sort: 6}
		if kids[0] == "define" {
			c.Sort = 9
		}
		if len(kids) < 2 {
			return impl.ExpCore{}, false
		}
		word, isWord := kids[1].(string)
		c.Text = word
		c, ok := formAgain(c, kids[2:])
		return c, ok && isWord
	case "lambda", "rec":
		c := impl.ExpCore{Sort: 3}
		if kids[0] == "rec" {
			c.Sort = 8
		}
		if len(kids) < 2 || !bindAgain(&c, kids[1]) {
			return impl.ExpCore{}, false
		}
		return formAgain(c, kids[2:])
	}
	return formAgain(impl.ExpCore{Sort: 4}, kids)
}

func formAgain(c impl.ExpCore, kids []any) (impl.ExpCore, bool) {
	list, ok := partsAgain(kids)
	c.Kids = list
	return c, ok
}

// bindAgain gives a part the names of a list of words.
func bindAgain(c *impl.ExpCore, one any) bool {
	list, isList := one.([]any)
	words, end, ends, ok := endAgain(list)
	if !isList || !ok {
		return false
	}
	if ends {
		words = append(slices.Clone(words), end)
		c.Rest = true
	}
	for _, word := range words {
		name, isWord := word.(string)
		if !isWord {
			return false
		}
		c.Names = append(c.Names, name)
	}
	return true
}

// okAgain is what CoreOk is to answer of a program that is not endless.
func okAgain(list []impl.ExpCore) bool {
	for _, c := range list {
		if !okPartAgain(c) || deepPartAgain(c) > 100 {
			return false
		}
	}
	return countAgain(list) <= 2000
}

func countAgain(list []impl.ExpCore) int {
	count := len(list)
	for _, c := range list {
		count += countAgain(c.Kids)
	}
	return count
}

func deepPartAgain(c impl.ExpCore) int {
	deep := 0
	for _, kid := range c.Kids {
		deep = max(deep, 1+deepPartAgain(kid))
	}
	return deep
}

func okPartAgain(c impl.ExpCore) bool {
	for _, kid := range c.Kids {
		if kid.Sort == 9 || !okPartAgain(kid) {
			return false
		}
	}
	seen := map[string]bool{}
	for _, name := range c.Names {
		if seen[name] || !nameAgain(name) {
			return false
		}
		seen[name] = true
	}
	names, kids := len(c.Names), len(c.Kids)
	switch c.Sort {
	case 1:
		return constantAgain(c.Text) && bare(c, true, false, false, false)
	case 2:
		return nameAgain(c.Text) && bare(c, true, false, false, false)
	case 3:
		return kids == 1 && (!c.Rest || names > 0) && bare(c, false, true, true, true)
	case 4, 7:
		return kids >= 1 && bare(c, false, false, false, true)
	case 5:
		return kids >= 2 && kids <= 3 && bare(c, false, false, false, true)
	case 6, 9:
		return nameAgain(c.Text) && kids == 1 && bare(c, true, false, false, true)
	case 8:
		return names >= 1 && kids == names+1 && bare(c, false, false, true, true)
	}
	return false
}

// bare says whether a part has nothing but what it may have.
func bare(c impl.ExpCore, text, rest, names, kids bool) bool {
	return (text || c.Text == "") && (rest || !c.Rest) && (names || len(c.Names) == 0) && (kids || len(c.Kids) == 0)
}

// flatAgain is what CoreFlat is to answer of a program that is ok.
func flatAgain(list []impl.ExpCore) impl.CoreCode {
	var code impl.CoreCode
	var place func(c impl.ExpCore) int
	place = func(c impl.ExpCore) int {
		node := impl.CoreNode{Sort: c.Sort, Text: c.Text, Rest: c.Rest, Names: c.Names}
		for _, kid := range c.Kids {
			node.Kids = append(node.Kids, place(kid))
		}
		code.Nodes = append(code.Nodes, node)
		return len(code.Nodes) - 1
	}
	for _, c := range list {
		code.Tops = append(code.Tops, place(c))
	}
	return code
}

// sameParts compares; a list of nothing and no list are the same.
func sameParts(a []impl.ExpCore, b []impl.ExpCore) bool {
	return slices.EqualFunc(a, b, func(x, y impl.ExpCore) bool {
		return x.Sort == y.Sort && x.Text == y.Text && x.Rest == y.Rest && slices.Equal(x.Names, y.Names) && sameParts(x.Kids, y.Kids)
	})
}

func sameCode(a impl.CoreCode, b impl.CoreCode) bool {
	return slices.Equal(a.Tops, b.Tops) && slices.EqualFunc(a.Nodes, b.Nodes, func(x, y impl.CoreNode) bool {
		return x.Sort == y.Sort && x.Text == y.Text && x.Rest == y.Rest && slices.Equal(x.Names, y.Names) && slices.Equal(x.Kids, y.Kids)
	})
}

// cloneParts shares nothing with what it is given.
func cloneParts(list []impl.ExpCore) []impl.ExpCore {
	clones := slices.Clone(list)
	for i := range clones {
		clones[i].Names = slices.Clone(clones[i].Names)
		clones[i].Kids = cloneParts(clones[i].Kids)
	}
	return clones
}

// eachPart calls with a pointer to each part, those within ahead of what they are in.
func eachPart(list []impl.ExpCore, with func(c *impl.ExpCore)) {
	for i := range list {
		eachPart(list[i].Kids, with)
		with(&list[i])
	}
}

// nest is one part within so many others.
func nest(inner impl.ExpCore, deep int) impl.ExpCore {
	for range deep {
		inner = begin(inner)
	}
	return inner
}

// maker makes programs that are ok, of a few names, so that they meet often.
type maker struct {
	random *rand.Rand
	names  []string
	texts  []string
}

func newMaker(seed int64) maker {
	return maker{
		random: rand.New(rand.NewSource(seed)),
		names:  []string{"a", "b", "c", "if", "x.1"},
		texts:  []string{"1", "-2/3", "#t", "#f", `"s ("`, "'a", "'()", "'(a (b 1) . c)", "'(quote a)", `'("a" #f . 7)`},
	}
}

func (m maker) pick(list []string) string {
	return list[m.random.Intn(len(list))]
}

func (m maker) someNames(least int) []string {
	all := slices.Clone(m.names)
	m.random.Shuffle(len(all), func(i, j int) { all[i], all[j] = all[j], all[i] })
	return all[:min(least+m.random.Intn(3), len(all))]
}

func (m maker) program() []impl.ExpCore {
	var list []impl.ExpCore
	for range m.random.Intn(4) {
		c := m.part(4)
		if m.random.Intn(3) == 0 {
			c = define(m.pick(m.names), c)
		}
		list = append(list, c)
	}
	return list
}

func (m maker) parts(count int, deep int) []impl.ExpCore {
	var list []impl.ExpCore
	for range count {
		list = append(list, m.part(deep))
	}
	return list
}

func (m maker) part(deep int) impl.ExpCore {
	way := m.random.Intn(10)
	if deep == 0 {
		way = m.random.Intn(2)
	}
	switch way {
	case 0:
		return constant(m.pick(m.texts))
	case 1, 2:
		return ref(m.pick(m.names))
	case 3, 4:
		c := lambda(m.someNames(0), m.part(deep-1))
		c.Rest = len(c.Names) > 0 && m.random.Intn(3) == 0
		return c
	case 5:
		return choice(m.parts(2+m.random.Intn(2), deep-1)...)
	case 6:
		return set(m.pick(m.names), m.part(deep-1))
	case 7:
		return begin(m.parts(1+m.random.Intn(3), deep-1)...)
	case 8:
		all := m.someNames(1)
		return rec(all, m.parts(len(all)+1, deep-1)...)
	}
	return m.call(deep)
}

// call begins with no word that makes another part of it when it is read.
func (m maker) call(deep int) impl.ExpCore {
	c := call(m.parts(1+m.random.Intn(3), deep-1)...)
	if c.Kids[0].Sort == impl.CoreRef {
		c.Kids[0].Text = "f" + strconv.Itoa(m.random.Intn(3))
	}
	return c
}

// spoil changes one thing of a program, so that it may be no longer ok. It changes what it is given.
func (m maker) spoil(list []impl.ExpCore) {
	count := countAgain(list)
	if count == 0 {
		return
	}
	at := m.random.Intn(count)
	eachPart(list, func(c *impl.ExpCore) {
		if at == 0 {
			m.spoilPart(c)
		}
		at--
	})
}

func (m maker) spoilPart(c *impl.ExpCore) {
	texts := []string{"", "a", "b", "1", "'a", "'1", "'(a  b)", "(", ".", "#", "'(. a)", "'(a . (b))", "if", "01", `"`}
	switch m.random.Intn(8) {
	case 0:
		c.Sort = m.random.Intn(12) - 1
	case 1, 2:
		c.Text = m.pick(texts)
	case 3:
		c.Rest = !c.Rest
	case 4:
		c.Names = append(slices.Clone(c.Names), m.pick(append(texts, m.names...)))
	case 5:
		if len(c.Names) > 0 {
			c.Names[m.random.Intn(len(c.Names))] = m.pick(append(texts, m.names...))
		}
	case 6:
		c.Kids = append(slices.Clone(c.Kids), m.part(1))
	case 7:
		if len(c.Kids) > 0 {
			c.Kids = c.Kids[1:]
		}
	}
}
