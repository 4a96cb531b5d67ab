package impl

import (
	"cmp"
	"errors"
	"slices"
	"strconv"
	"strings"
)

// Limits of values.
const (
	ValueMaxNum   = 999999
	ValueMaxText  = 16
	ValueMaxKids  = 5
	ValueMaxDepth = 3
	ValueMaxParts = 16
	NameMax       = 7
)

// Sorts of values.
const (
	ValNull    = 1
	ValBool    = 2
	ValInt     = 3
	ValText    = 4
	ValList    = 5
	ValObject  = 6
	ValUnknown = 7
)

// Value is a value: its sort, a number or a text, names, and what is in it.
type Value struct {
	Sort  int
	Num   int
	Text  string
	Names []string
	Kids  []Value
}

// valueParts is which parts of a Value a sort has.
type valueParts struct {
	num   bool
	text  bool
	names bool
	kids  bool
}

// valueHas is the parts of each sort; those that it does not name must be nothing.
var valueHas = [ValUnknown + 1]valueParts{
	ValBool:   {num: true},
	ValInt:    {num: true},
	ValText:   {text: true},
	ValList:   {kids: true},
	ValObject: {names: true, kids: true},
}

// valueNode is a value that is ok; each sort is a type of its own behind it.
type valueNode interface {
	sort() int
}

type valueNull struct{}

type valueBool bool

type valueInt int

type valueText string

// valueGroup is what lists and objects have in common.
type valueGroup struct {
	kids []valueNode
}

type valueList struct {
	valueGroup
}

type valueObject struct {
	valueGroup
	names []string
}

type valueUnknown struct{}

func (valueNull) sort() int    { return ValNull }
func (valueBool) sort() int    { return ValBool }
func (valueInt) sort() int     { return ValInt }
func (valueText) sort() int    { return ValText }
func (valueList) sort() int    { return ValList }
func (valueObject) sort() int  { return ValObject }
func (valueUnknown) sort() int { return ValUnknown }

// valueFault is why something is no value that is ok: the part, from 1 on, at which that was seen.
type valueFault struct {
	part int
}

func (f valueFault) Error() string {
	return "no value at part " + strconv.Itoa(f.part)
}

func valueFaulty(err error) bool {
	var fault valueFault
	return errors.As(err, &fault)
}

// valueBounds counts levels and parts on the way, so that even a value that holds itself comes to an end.
type valueBounds struct {
	level int
	parts int
}

func (b *valueBounds) enter() error {
	b.level++
	b.parts++
	return b.faultUnless(b.level <= ValueMaxDepth && b.parts <= ValueMaxParts)
}

func (b *valueBounds) leave() {
	b.level--
}

func (b *valueBounds) fault() error {
	return valueFault{part: b.parts}
}

func (b *valueBounds) faultUnless(ok bool) error {
	if ok {
		return nil
	}
	return b.fault()
}

// nameOk says whether a text is a name.
func nameOk(text string) bool {
	if len(text) < 1 || len(text) > NameMax {
		return false
	}
	for i := range len(text) {
		c := text[i]
		letter := c >= 'a' && c <= 'z'
		figure := c >= '0' && c <= '9'
		if !letter && (i == 0 || !figure) {
			return false
		}
	}
	return true
}

// ascending says whether all texts are such as are let in, and ascending.
func ascending(list []string, letIn func(string) bool) bool {
	for i, text := range list {
		if !letIn(text) || i > 0 && list[i-1] >= text {
			return false
		}
	}
	return true
}

// namesOk says whether all are names, and ascending.
func namesOk(list []string) bool {
	return ascending(list, nameOk)
}

// decimalsRead reads a number just as strconv writes it, which leaves out noughts ahead and a stroke ahead of 0.
func decimalsRead(text string) (int, bool) {
	n, err := strconv.Atoi(text)
	if err != nil || strconv.Itoa(n) != text {
		return 0, false
	}
	return n, true
}

func valueNumOk(n int) bool {
	return n >= -ValueMaxNum && n <= ValueMaxNum
}

// hidden says whether a rune is none of the bytes 32 to 126. Bytes that make no rune are told as one that is hidden, too.
func hidden(c rune) bool {
	return c < 32 || c > 126
}

func valueTextOk(text string) bool {
	return len(text) <= ValueMaxText && !strings.Contains(text, `"`) && !strings.ContainsFunc(text, hidden)
}

// valueNothing says whether there is nothing of a value.
func valueNothing(v Value) bool {
	return v.Sort == 0 && v.Num == 0 && v.Text == "" && len(v.Names) == 0 && len(v.Kids) == 0
}

func valueHasOnly(v Value) bool {
	if v.Sort < ValNull || v.Sort > ValUnknown {
		return false
	}
	has := valueHas[v.Sort]
	return (has.num || v.Num == 0) && (has.text || v.Text == "") &&
		(has.names || len(v.Names) == 0) && (has.kids || len(v.Kids) == 0)
}

// valueChecker makes nodes of values, if they are ok.
type valueChecker struct {
	valueBounds
}

func (c *valueChecker) node(v Value) (valueNode, error) {
	if err := c.enter(); err != nil {
		return nil, err
	}
	defer c.leave()
	if !valueHasOnly(v) {
		return nil, c.fault()
	}
	switch v.Sort {
	case ValNull:
		return valueNull{}, nil
	case ValBool:
		return valueBool(v.Num == 1), c.faultUnless(v.Num == 0 || v.Num == 1)
	case ValInt:
		return valueInt(v.Num), c.faultUnless(valueNumOk(v.Num))
	case ValText:
		return valueText(v.Text), c.faultUnless(valueTextOk(v.Text))
	case ValList:
		kids, err := c.nodes(v.Kids)
		return valueList{valueGroup: valueGroup{kids: kids}}, err
	case ValObject:
		return c.object(v)
	}
	return valueUnknown{}, nil
}

func (c *valueChecker) nodes(list []Value) ([]valueNode, error) {
	if len(list) > ValueMaxKids {
		return nil, c.fault()
	}
	kids := make([]valueNode, 0, len(list))
	for _, v := range list {
		kid, err := c.node(v)
		if err != nil {
			return nil, err
		}
		kids = append(kids, kid)
	}
	return kids, nil
}

func (c *valueChecker) object(v Value) (valueNode, error) {
	if len(v.Names) != len(v.Kids) || len(v.Names) > ValueMaxKids || !namesOk(v.Names) {
		return nil, c.fault()
	}
	kids, err := c.nodes(v.Kids)
	return valueObject{valueGroup: valueGroup{kids: kids}, names: v.Names}, err
}

func valueNodeOf(v Value) (valueNode, error) {
	var c valueChecker
	return c.node(v)
}

// valueOf is the value of a node, in new memory.
func valueOf(n valueNode) Value {
	v := Value{Sort: n.sort()}
	switch x := n.(type) {
	case valueBool:
		if x {
			v.Num = 1
		}
	case valueInt:
		v.Num = int(x)
	case valueText:
		v.Text = strings.Clone(string(x))
	case valueList:
		v.Kids = x.values()
	case valueObject:
		for _, name := range x.names {
			v.Names = append(v.Names, strings.Clone(name))
		}
		v.Kids = x.values()
	}
	return v
}

func (g valueGroup) values() []Value {
	var list []Value
	for _, kid := range g.kids {
		list = append(list, valueOf(kid))
	}
	return list
}

func valueShown(n valueNode) string {
	switch x := n.(type) {
	case valueNull:
		return "null"
	case valueBool:
		return strconv.FormatBool(bool(x))
	case valueInt:
		return strconv.Itoa(int(x))
	case valueText:
		return "\"" + string(x) + "\""
	case valueList:
		return "[" + strings.Join(x.shown(), ",") + "]"
	case valueObject:
		items := x.shown()
		for i, name := range x.names {
			items[i] = name + ":" + items[i]
		}
		return "{" + strings.Join(items, ",") + "}"
	}
	return "?"
}

func (g valueGroup) shown() []string {
	var list []string
	for _, kid := range g.kids {
		list = append(list, valueShown(kid))
	}
	return list
}

func valueHasUnknown(n valueNode) bool {
	switch x := n.(type) {
	case valueUnknown:
		return true
	case valueList:
		return x.hasUnknown()
	case valueObject:
		return x.hasUnknown()
	}
	return false
}

func (g valueGroup) hasUnknown() bool {
	return slices.ContainsFunc(g.kids, valueHasUnknown)
}

// valueMethod reads one value of those that begin with a certain byte.
type valueMethod func(*valueReader) (valueNode, error)

// valueReader reads a value from a text, of which it has come to a place.
type valueReader struct {
	valueBounds
	text string
	at   int
}

// valueMethods is a method for each first byte; none for those with which no value begins.
func valueMethods() [256]valueMethod {
	methods := [256]valueMethod{
		'n': (*valueReader).readNull,
		't': (*valueReader).readTrue,
		'f': (*valueReader).readFalse,
		'-': (*valueReader).readInt,
		'"': (*valueReader).readText,
		'[': (*valueReader).readList,
		'{': (*valueReader).readObject,
		'?': (*valueReader).readUnknown,
	}
	for figure := '0'; figure <= '9'; figure++ {
		methods[figure] = (*valueReader).readInt
	}
	return methods
}

func (r *valueReader) read() (valueNode, error) {
	if err := r.enter(); err != nil {
		return nil, err
	}
	defer r.leave()
	if r.at >= len(r.text) {
		return nil, r.fault()
	}
	method := valueMethods()[r.text[r.at]]
	if method == nil {
		return nil, r.fault()
	}
	return method(r)
}

// take goes on behind a word, if it stands here.
func (r *valueReader) take(word string) bool {
	if !strings.HasPrefix(r.text[r.at:], word) {
		return false
	}
	r.at += len(word)
	return true
}

func (r *valueReader) readNull() (valueNode, error) {
	return valueNull{}, r.faultUnless(r.take("null"))
}

func (r *valueReader) readTrue() (valueNode, error) {
	return valueBool(true), r.faultUnless(r.take("true"))
}

func (r *valueReader) readFalse() (valueNode, error) {
	return valueBool(false), r.faultUnless(r.take("false"))
}

func (r *valueReader) readUnknown() (valueNode, error) {
	return valueUnknown{}, r.faultUnless(r.take("?"))
}

func (r *valueReader) readInt() (valueNode, error) {
	rest := r.text[r.at:]
	size := len(rest) - len(strings.TrimLeft(rest, "-0123456789"))
	n, ok := decimalsRead(rest[:size])
	r.at += size
	return valueInt(n), r.faultUnless(ok && valueNumOk(n))
}

func (r *valueReader) readText() (valueNode, error) {
	text, more, ok := strings.Cut(r.text[r.at+1:], "\"")
	r.at = len(r.text) - len(more)
	return valueText(text), r.faultUnless(ok && valueTextOk(text))
}

func (r *valueReader) readList() (valueNode, error) {
	var list valueList
	err := r.readItems("]", func() error {
		kid, err := r.read()
		list.kids = append(list.kids, kid)
		return err
	})
	return list, err
}

func (r *valueReader) readObject() (valueNode, error) {
	var object valueObject
	err := r.readItems("}", func() error {
		name, more, ok := strings.Cut(r.text[r.at:], ":")
		r.at = len(r.text) - len(more)
		object.names = append(object.names, name)
		if !ok || !namesOk(object.names) {
			return r.fault()
		}
		kid, err := r.read()
		object.kids = append(object.kids, kid)
		return err
	})
	return object, err
}

// readItems reads what stands between brackets, item by item.
func (r *valueReader) readItems(end string, item func() error) error {
	r.at++
	if r.take(end) {
		return nil
	}
	for range ValueMaxKids {
		if err := item(); err != nil {
			return err
		}
		if r.take(end) {
			return nil
		}
		if !r.take(",") {
			return r.fault()
		}
	}
	return r.fault()
}

// copyRoom is how many values may be copied once more, of lists that were copied before. Lists of a copy share no memory; but one that has another twice, which has a third one twice, and so on, is soon more than any memory holds, and from there on it is shared in the copy as it was.
const copyRoom = 1 << 20

// listPlace is where a list begins, and how long it is, which tells it from others.
type listPlace struct {
	first *Value
	size  int
}

// valueCopy is the copy of a list, and how many of its values are copies, too; it is open as long as some list in it is not.
type valueCopy struct {
	list []Value
	done int
	open bool
}

// valueCopier copies values whether they are ok or not: such as hold themselves, and such as are too deep for calls within calls.
type valueCopier struct {
	copies map[listPlace]*valueCopy
	path   []*valueCopy
	room   int
}

func newValueCopier() *valueCopier {
	return &valueCopier{copies: map[listPlace]*valueCopy{}, room: copyRoom}
}

// copied is a value in new memory.
func (c *valueCopier) copied(v Value) Value {
	v = c.renewed(v)
	for len(c.path) > 0 {
		c.step()
	}
	return v
}

// renewed is a value of which only what is in its Kids is not copied yet.
func (c *valueCopier) renewed(v Value) Value {
	v.Text, v.Names, v.Kids = strings.Clone(v.Text), textsCopied(v.Names), c.begin(v.Kids)
	return v
}

// begin is the copy of a list, whose values are copied in the steps that follow.
func (c *valueCopier) begin(list []Value) []Value {
	if len(list) == 0 {
		return nil
	}
	which := listPlace{first: &list[0], size: len(list)}
	if old, again := c.copies[which]; again {
		// A list within itself can be told only by a copy within itself.
		if old.open || c.room < len(list) {
			return old.list
		}
		c.room -= len(list)
	}
	made := &valueCopy{list: slices.Clone(list), open: true}
	c.copies[which] = made
	c.path = append(c.path, made)
	return made.list
}

// step copies the next value of the innermost list that is open.
func (c *valueCopier) step() {
	last := c.path[len(c.path)-1]
	if last.done == len(last.list) {
		last.open = false
		c.path = c.path[:len(c.path)-1]
		return
	}
	last.list[last.done] = c.renewed(last.list[last.done])
	last.done++
}

// valueCopied is a value in new memory.
func valueCopied(v Value) Value {
	return newValueCopier().copied(v)
}

func textsCopied(list []string) []string {
	var copied []string
	for _, text := range list {
		copied = append(copied, strings.Clone(text))
	}
	return copied
}

// valueCompare is below 0, 0 or above 0, as a comes ahead of b, is the same, or comes behind it.
func valueCompare(a Value, b Value) int {
	first := cmp.Or(cmp.Compare(a.Sort, b.Sort), cmp.Compare(a.Num, b.Num), strings.Compare(a.Text, b.Text))
	if first != 0 {
		return first
	}
	for i := range min(len(a.Kids), len(b.Kids)) {
		if a.Sort == ValObject && a.Names[i] != b.Names[i] {
			return strings.Compare(a.Names[i], b.Names[i])
		}
		if kids := valueCompare(a.Kids[i], b.Kids[i]); kids != 0 {
			return kids
		}
	}
	return cmp.Compare(len(a.Kids), len(b.Kids))
}

func valueFits(v Value, like Value) bool {
	if like.Sort == ValUnknown {
		return true
	}
	if v.Sort != like.Sort || v.Num != like.Num || v.Text != like.Text {
		return false
	}
	return slices.Equal(v.Names, like.Names) && slices.EqualFunc(v.Kids, like.Kids, valueFits)
}

// ValueOk says whether a value is ok.
func ValueOk(v Value) bool {
	_, err := valueNodeOf(v)
	return !valueFaulty(err)
}

// ValueShow writes a value.
func ValueShow(v Value) string {
	n, err := valueNodeOf(v)
	if valueFaulty(err) {
		return ""
	}
	return valueShown(n)
}

// ValueParse reads a value.
func ValueParse(text string) (Value, bool) {
	r := valueReader{text: text}
	n, err := r.read()
	if valueFaulty(err) || r.at < len(text) {
		return Value{}, false
	}
	return valueOf(n), true
}

// ValueLess says whether a value comes ahead of another one.
func ValueLess(a Value, b Value) bool {
	return ValueOk(a) && ValueOk(b) && valueCompare(a, b) < 0
}

// ValueKnown says whether nothing in a value is unknown.
func ValueKnown(v Value) bool {
	n, err := valueNodeOf(v)
	return !valueFaulty(err) && !valueHasUnknown(n)
}

// ValueFits says whether a value is what another one says, where that is known.
func ValueFits(v Value, like Value) bool {
	return ValueOk(v) && ValueOk(like) && valueFits(v, like)
}
