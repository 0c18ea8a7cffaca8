package impl

const (
	MaxVars   = 32
	MaxCode   = 200
	MaxStms   = 50
	MaxObjs   = 64
	MaxSigs   = 64
	MaxTimers = 200
	MaxNumber = 999999999
)

const (
	KindI8 = iota + 1
	KindI16
	KindI32
	KindI64
	KindU8
	KindU16
	KindU32
)

const (
	OpNum = iota + 1
	OpVar
	OpArg
	OpAdd
	OpSub
	OpMul
	OpDiv
	OpMod
	OpEq
	OpLt
	OpAnd
	OpOr
	OpNot
	OpBitAnd
	OpBitOr
	OpBitXor
	OpShl
	OpShr
	OpConv
)

const (
	StmSet = iota + 1
	StmEmit
	StmPost
	StmFront
	StmPublish
	StmDefer
	StmRecall
	StmArm
	StmDisarm
)

type Item struct {
	Op  int
	Val int
}

type Stm struct {
	Kind int
	A, B int
	Code []Item
}

type Effect struct {
	Kind int
	A, B int
	Val  int
}

type Bank struct {
	Kinds []int
	Vals  []int
}

type Limits struct {
	Objs   int
	Sigs   int
	Timers int
	Vars   int
}

func CodeOK(code []Item, vars int) bool {
	return attempt(func() { liftCode(code, vars) }) == nil
}

func StmsOK(list []Stm, lim Limits) bool {
	return attempt(func() { liftStms(list, lim) }) == nil
}

func BankOK(b Bank) bool {
	if len(b.Kinds) != len(b.Vals) || len(b.Vals) > MaxVars {
		return false
	}
	for i, kind := range b.Kinds {
		if !kindOK(kind) || converterOf(kind)(b.Vals[i]) != b.Vals[i] {
			return false
		}
	}
	return true
}

func Eval(code []Item, b Bank, arg int) int {
	if !BankOK(b) {
		return 0
	}
	var tree exprNode
	if attempt(func() { tree = liftCode(code, len(b.Vals)) }) != nil {
		return 0
	}
	return tree.value(&moment{vals: b.Vals, arg: arg})
}

func Exec(list []Stm, b Bank, arg int) (Bank, []Effect) {
	if !BankOK(b) {
		return Bank{}, []Effect{}
	}
	greatest := Limits{Objs: MaxObjs, Sigs: MaxSigs, Timers: MaxTimers, Vars: len(b.Vals)}
	var nodes []stmNode
	if attempt(func() { nodes = liftStms(list, greatest) }) != nil {
		return Bank{}, []Effect{}
	}
	m := momentOf(b, arg)
	m.carryOutAll(nodes)
	return m.bank(), m.effects
}

func copyInts(list []int) []int {
	return append([]int{}, list...)
}

// wrongList is what a lift panics with: a flat list is given up from within the lifting of its parts, however deep.
type wrongList string

func (w wrongList) Error() string { return string(w) }

func demand(holds bool, fault wrongList) {
	if !holds {
		panic(fault)
	}
}

// attempt hands a panic on as an error: the functions of the document never panic.
func attempt(lift func()) (err error) {
	defer func() {
		switch fault := recover().(type) {
		case nil:
		case error:
			err = fault
		}
	}()
	lift()
	return nil
}

// within says whether n is one of the ids 0 to count-1.
func within(n, count int) bool {
	return 0 <= n && n < count
}

// A converter takes a number to its kind.
type converter func(n int) int

func toI8(n int) int  { return int(int8(n)) }
func toI16(n int) int { return int(int16(n)) }
func toI32(n int) int { return int(int32(n)) }
func toI64(n int) int { return n }
func toU8(n int) int  { return int(uint8(n)) }
func toU16(n int) int { return int(uint16(n)) }
func toU32(n int) int { return int(uint32(n)) }

func kindOK(kind int) bool {
	return KindI8 <= kind && kind <= KindU32
}

// converterOf asks for a kind that is one: place 0 of the table is empty.
func converterOf(kind int) converter {
	table := [...]converter{
		KindI8:  toI8,
		KindI16: toI16,
		KindI32: toI32,
		KindI64: toI64,
		KindU8:  toU8,
		KindU16: toU16,
		KindU32: toU32,
	}
	return table[kind]
}

// A moment is what nodes are walked with: the bank as it is by now, the argument, the effects so far.
type moment struct {
	kinds   []int
	vals    []int
	arg     int
	effects []Effect
}

// momentOf copies the bank: what statements set is set in the copy.
func momentOf(b Bank, arg int) *moment {
	return &moment{kinds: copyInts(b.Kinds), vals: copyInts(b.Vals), arg: arg, effects: []Effect{}}
}

func (m *moment) bank() Bank {
	return Bank{Kinds: m.kinds, Vals: m.vals}
}

func (m *moment) carryOutAll(list []stmNode) {
	for _, node := range list {
		node.carryOut(m)
	}
}

func (m *moment) set(variable, n int) {
	m.vals[variable] = converterOf(m.kinds[variable])(n)
}

func (m *moment) note(e Effect) {
	m.effects = append(m.effects, e)
}

// An exprNode is an expression lifted from its items. Each node has one parent, and there are at most MaxCode: a walk ends.
type exprNode interface {
	value(m *moment) int
}

// operands are the two below a node; both are evaluated whatever the node makes of them.
type operands struct {
	left, right exprNode
}

func (o operands) both(m *moment) (int, int) {
	return o.left.value(m), o.right.value(m)
}

type (
	numNode    struct{ number int }
	varNode    struct{ variable int }
	argNode    struct{}
	addNode    struct{ operands }
	subNode    struct{ operands }
	mulNode    struct{ operands }
	divNode    struct{ operands }
	modNode    struct{ operands }
	eqNode     struct{ operands }
	ltNode     struct{ operands }
	andNode    struct{ operands }
	orNode     struct{ operands }
	notNode    struct{ operand exprNode }
	bitAndNode struct{ operands }
	bitOrNode  struct{ operands }
	bitXorNode struct{ operands }
	shlNode    struct{ operands }
	shrNode    struct{ operands }
	convNode   struct {
		operand exprNode
		convert converter
	}
)

func (n numNode) value(m *moment) int { return n.number }

func (n varNode) value(m *moment) int { return m.vals[n.variable] }

func (n argNode) value(m *moment) int { return m.arg }

func (n addNode) value(m *moment) int {
	left, right := n.both(m)
	return left + right
}

func (n subNode) value(m *moment) int {
	left, right := n.both(m)
	return left - right
}

func (n mulNode) value(m *moment) int {
	left, right := n.both(m)
	return left * right
}

// The least int64 divided by -1 needs no case of its own: Go's quotient wraps round to it, and the remainder is 0.
func (n divNode) value(m *moment) int {
	left, right := n.both(m)
	if right == 0 {
		return 0
	}
	return left / right
}

func (n modNode) value(m *moment) int {
	left, right := n.both(m)
	if right == 0 {
		return 0
	}
	return left % right
}

func (n eqNode) value(m *moment) int {
	left, right := n.both(m)
	return truth(left == right)
}

func (n ltNode) value(m *moment) int {
	left, right := n.both(m)
	return truth(left < right)
}

func (n andNode) value(m *moment) int {
	left, right := n.both(m)
	return truth(left != 0 && right != 0)
}

func (n orNode) value(m *moment) int {
	left, right := n.both(m)
	return truth(left != 0 || right != 0)
}

func (n notNode) value(m *moment) int {
	return truth(n.operand.value(m) == 0)
}

func (n bitAndNode) value(m *moment) int {
	left, right := n.both(m)
	return left & right
}

func (n bitOrNode) value(m *moment) int {
	left, right := n.both(m)
	return left | right
}

func (n bitXorNode) value(m *moment) int {
	left, right := n.both(m)
	return left ^ right
}

func (n shlNode) value(m *moment) int {
	left, count := n.both(m)
	if !countOK(count) {
		return 0
	}
	return left << count
}

func (n shrNode) value(m *moment) int {
	left, count := n.both(m)
	if !countOK(count) {
		return left >> 63
	}
	return left >> count
}

func (n convNode) value(m *moment) int {
	return n.convert(n.operand.value(m))
}

func truth(holds bool) int {
	if holds {
		return 1
	}
	return 0
}

// countOK also keeps a count below 0 from Go's shifts, which panic at it.
func countOK(count int) bool {
	return 0 <= count && count <= 63
}

// liftCode gives the tree of an expression, or panics with a wrongList.
func liftCode(code []Item, vars int) exprNode {
	demand(0 <= vars && vars <= MaxVars, "a number of variables out of bounds")
	demand(1 <= len(code) && len(code) <= MaxCode, "a number of items out of bounds")
	var s exprStack
	for _, item := range code {
		s.push(s.lift(item, vars))
	}
	demand(len(s.nodes) == 1, "more than one result")
	return s.nodes[0]
}

// An exprStack holds the nodes that no item has taken as an operand yet.
type exprStack struct {
	nodes []exprNode
}

func (s *exprStack) push(node exprNode) {
	s.nodes = append(s.nodes, node)
}

func (s *exprStack) pop() exprNode {
	demand(len(s.nodes) > 0, "an operand that isn't there")
	last := len(s.nodes) - 1
	node := s.nodes[last]
	s.nodes = s.nodes[:last]
	return node
}

func (s *exprStack) popBoth() operands {
	right := s.pop()
	left := s.pop()
	return operands{left, right}
}

func (s *exprStack) lift(item Item, vars int) exprNode {
	switch item.Op {
	case OpNum:
		demand(-MaxNumber <= item.Val && item.Val <= MaxNumber, "a number out of bounds")
		return numNode{item.Val}
	case OpVar:
		demand(within(item.Val, vars), "a variable that isn't there")
		return varNode{item.Val}
	case OpConv:
		demand(kindOK(item.Val), "a kind that isn't one")
		return convNode{s.pop(), converterOf(item.Val)}
	}
	demand(item.Val == 0, "a Val that isn't named")
	switch item.Op {
	case OpArg:
		return argNode{}
	case OpNot:
		return notNode{s.pop()}
	}
	return liftBinary(item.Op, s.popBoth())
}

func liftBinary(op int, o operands) exprNode {
	switch op {
	case OpAdd:
		return addNode{o}
	case OpSub:
		return subNode{o}
	case OpMul:
		return mulNode{o}
	case OpDiv:
		return divNode{o}
	case OpMod:
		return modNode{o}
	case OpEq:
		return eqNode{o}
	case OpLt:
		return ltNode{o}
	case OpAnd:
		return andNode{o}
	case OpOr:
		return orNode{o}
	case OpBitAnd:
		return bitAndNode{o}
	case OpBitOr:
		return bitOrNode{o}
	case OpBitXor:
		return bitXorNode{o}
	case OpShl:
		return shlNode{o}
	case OpShr:
		return shrNode{o}
	}
	panic(wrongList("an Op that isn't one"))
}

// A stmNode is a statement lifted from its flat form.
type stmNode interface {
	carryOut(m *moment)
}

type (
	setNode struct {
		variable int
		code     exprNode
	}
	emitNode struct{ code exprNode }
	postNode struct {
		object, signal int
		code           exprNode
	}
	frontNode struct {
		object, signal int
		code           exprNode
	}
	publishNode struct {
		signal int
		code   exprNode
	}
	deferNode  struct{}
	recallNode struct{}
	armNode    struct {
		timer, interval int
		code            exprNode
	}
	disarmNode struct{ timer int }
)

func (n setNode) carryOut(m *moment) {
	m.set(n.variable, n.code.value(m))
}

func (n emitNode) carryOut(m *moment) {
	m.note(Effect{Kind: StmEmit, Val: n.code.value(m)})
}

func (n postNode) carryOut(m *moment) {
	m.note(Effect{Kind: StmPost, A: n.object, B: n.signal, Val: n.code.value(m)})
}

func (n frontNode) carryOut(m *moment) {
	m.note(Effect{Kind: StmFront, A: n.object, B: n.signal, Val: n.code.value(m)})
}

func (n publishNode) carryOut(m *moment) {
	m.note(Effect{Kind: StmPublish, B: n.signal, Val: n.code.value(m)})
}

func (n deferNode) carryOut(m *moment) {
	m.note(Effect{Kind: StmDefer})
}

func (n recallNode) carryOut(m *moment) {
	m.note(Effect{Kind: StmRecall})
}

func (n armNode) carryOut(m *moment) {
	m.note(Effect{Kind: StmArm, A: n.timer, B: n.interval, Val: n.code.value(m)})
}

func (n disarmNode) carryOut(m *moment) {
	m.note(Effect{Kind: StmDisarm, A: n.timer})
}

// liftStms gives the nodes of a statement list, or panics with a wrongList.
func liftStms(list []Stm, lim Limits) []stmNode {
	demand(limitsOK(lim), "limits out of bounds")
	demand(len(list) <= MaxStms, "too many statements")
	var nodes []stmNode
	for _, s := range list {
		nodes = append(nodes, liftStm(s, lim))
	}
	return nodes
}

func limitsOK(lim Limits) bool {
	return 0 <= lim.Objs && lim.Objs <= MaxObjs &&
		0 <= lim.Sigs && lim.Sigs <= MaxSigs &&
		0 <= lim.Timers && lim.Timers <= MaxTimers &&
		0 <= lim.Vars && lim.Vars <= MaxVars
}

func liftStm(s Stm, lim Limits) stmNode {
	demandFields(s, lim)
	switch s.Kind {
	case StmDefer:
		return deferNode{}
	case StmRecall:
		return recallNode{}
	case StmDisarm:
		return disarmNode{s.A}
	}
	code := liftCode(s.Code, lim.Vars)
	switch s.Kind {
	case StmSet:
		return setNode{s.A, code}
	case StmEmit:
		return emitNode{code}
	case StmPost:
		return postNode{s.A, s.B, code}
	case StmFront:
		return frontNode{s.A, s.B, code}
	case StmPublish:
		return publishNode{s.B, code}
	case StmArm:
		return armNode{s.A, s.B, code}
	}
	panic(wrongList("a Kind that isn't one"))
}

// demandFields looks at A and B of every kind, and at Code of the kinds that have none.
func demandFields(s Stm, lim Limits) {
	// A field that isn't named has the one value 0, which is to say that it is below 1.
	a, b := 1, 1
	switch s.Kind {
	case StmSet:
		a = lim.Vars
	case StmPost, StmFront:
		a, b = lim.Objs, lim.Sigs
	case StmPublish:
		b = lim.Sigs
	case StmArm:
		a, b = lim.Timers, MaxNumber+1
	case StmDisarm:
		a = lim.Timers
	}
	demand(within(s.A, a), "an A out of bounds")
	demand(within(s.B, b), "a B out of bounds")
	switch s.Kind {
	case StmDefer, StmRecall, StmDisarm:
		demand(len(s.Code) == 0, "a Code that isn't named")
	}
}
