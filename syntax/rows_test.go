package syntax

import (
	"slices"
	"strings"
	"testing"

	"retroact/api"
	"retroact/lex"
)

// row is a source and what show makes of its tree.
type row struct{ s, tree string }

// programRows are programs, and the kids of their trees.
func programRows() []row {
	return []row{
		{``, ``},
		{" \t\r\n // c\n//", ``},
		{`// c`, ``},
		{`record P { }`, `Record:P@0`},
		{`record P { x: int }`, `Record:P@0(Field:x@11(TypeName:int@14))`},
		{`record P { x: int, y: fun(int, text): bool }`, `Record:P@0(Field:x@11(TypeName:int@14) Field:y@19(TypeFun@22(TypeName:int@26 TypeName:text@31 TypeName:bool@38)))`},
		{`variant V { A }`, `Variant:V@0(Ctor:A@12)`},
		{`variant V { A(int) }`, `Variant:V@0(Ctor:A@12(TypeName:int@14))`},
		{`variant V { A(int, V), B, C([text]) }`, `Variant:V@0(Ctor:A@12(TypeName:int@14 TypeName:V@19) Ctor:B@23 Ctor:C@26(TypeList@28(TypeName:text@29)))`},
		{`effect pay(): unit`, `Effect:pay@0(TypeName:unit@14)`},
		{`effect pay(a: text): unit`, `Effect:pay@0(Field:a@11(TypeName:text@14) TypeName:unit@21)`},
		{`effect pay(a: text, b: int): [bool]`, `Effect:pay@0(Field:a@11(TypeName:text@14) Field:b@20(TypeName:int@23) TypeList@29(TypeName:bool@30))`},
		{`fun f(): int = 1`, `Fun:f@0(TypeName:int@9 Int#1@15)`},
		{`fun f(x: int): int = x`, `Fun:f@0(Field:x@6(TypeName:int@9) TypeName:int@15 Name:x@21)`},
		{`fun f(x: int, y: P): ref A = g(x, y)`, `Fun:f@0(Field:x@6(TypeName:int@9) Field:y@14(TypeName:P@17) TypeRef:A@21 Call@29(Name:g@29 Name:x@31 Name:y@34))`},
		{`actor A() { }`, `Actor:A@0`},
		{`actor A(n: int) escalate { }`, `Actor:A#-1@0(Field:n@8(TypeName:int@11))`},
		{`actor A(n: int, m: text) restart 2 { }`, `Actor:A#3@0(Field:n@8(TypeName:int@11) Field:m@16(TypeName:text@19))`},
		{`actor A() restart 0 { }`, `Actor:A#1@0`},
		{`actor A() restart 9007199254740992 { }`, `Actor:A#9007199254740993@0`},
		{`actor A() { state s: int = 1 on M() { } state t: text = "a" on N(k: int, l: bool) { stop } }`, `Actor:A@0(State:s@12(TypeName:int@21 Int#1@27) On:M@29(Block@36) State:t@40(TypeName:text@49 Text:a@56) On:N@60(Field:k@65(TypeName:int@68) Field:l@73(TypeName:bool@76) Block@82(SStop@84)))`},
		{`record P { } record P { } fun f(): P = P { } actor Main() { }`, `Record:P@0 Record:P@13 Fun:f@26(TypeName:P@35 New:P@39) Actor:Main@45`},
		{`fun type(message: int): int = move + to * drop(init, convert)`, `Fun:type@0(Field:message@9(TypeName:int@18) TypeName:int@24 Bin:+@30(Name:move@30 Bin:*@37(Name:to@37 Call@42(Name:drop@42 Name:init@47 Name:convert@53))))`},
	}
}

// changeRows are patch files that are no programs, and the kids of their trees.
func changeRows() []row {
	return []row{
		{`convert type P() = 1`, `ConvType:P@0(Int#1@19)`},
		{`convert type P(x: int) = x`, `ConvType:P@0(Field:x@15(TypeName:int@18) Name:x@25)`},
		{`convert type V.A(y: int, z: text) = B(y)`, `ConvType:V#1@0(Name:A@15 Field:y@17(TypeName:int@20) Field:z@25(TypeName:text@28) Cons:B@36(Name:y@38))`},
		{`convert type V.A() = P { x = 1 }`, `ConvType:V#1@0(Name:A@15 New:P@21(Set:x@25(Int#1@29)))`},
		{`convert actor A() { }`, `ConvActor:A@0`},
		{`convert actor A(n: int) { n = n, m = 0 }`, `ConvActor:A@0(Field:n@16(TypeName:int@19) Set:n@26(Name:n@30) Set:m@33(Int@37))`},
		{`convert message A.M() = N()`, `ConvMsg:A@0(Name:M@18 Msg:N@24)`},
		{`convert message A.init(s: int) = init(s, 0)`, `ConvMsg:A@0(Name:init@18 Field:s@23(TypeName:int@26) Msg:init@33(Name:s@38 Int@41))`},
		{`convert message A.M(s: int, t: P) = init(P { x = s })`, `ConvMsg:A@0(Name:M@18 Field:s@20(TypeName:int@23) Field:t@28(TypeName:P@31) Msg:init@36(New:P@41(Set:x@45(Name:s@49))))`},
		{`convert message A.init() = M(1)`, `ConvMsg:A@0(Name:init@18 Msg:M@27(Int#1@29))`},
		{`move A to 0`, `Move:A@0`},
		{`move A to 9007199254740992`, `Move:A#9007199254740992@0`},
		{`drop A`, `Drop:A@0`},
		{`convert type P(x: int) = x move A to 3 record P { x: int } drop B fun f(): int = 1 convert actor C() { }`, `ConvType:P@0(Field:x@15(TypeName:int@18) Name:x@25) Move:A#3@27 Record:P@39(Field:x@50(TypeName:int@53)) Drop:B@59 Fun:f@66(TypeName:int@75 Int#1@81) ConvActor:C@83`},
		{`fun f(): int = convert move A to 1 fun g(): int = drop drop B`, `Fun:f@0(TypeName:int@9 Name:convert@15) Move:A#1@23 Fun:g@35(TypeName:int@44 Name:drop@50) Drop:B@55`},
	}
}

// typeRows are types, with offsets from their beginnings.
func typeRows() []row {
	return []row{
		{`int`, `TypeName:int@0`},
		{`bool`, `TypeName:bool@0`},
		{`text`, `TypeName:text@0`},
		{`unit`, `TypeName:unit@0`},
		{`P`, `TypeName:P@0`},
		{`[int]`, `TypeList@0(TypeName:int@1)`},
		{`[[P]]`, `TypeList@0(TypeList@1(TypeName:P@2))`},
		{`ref A`, `TypeRef:A@0`},
		{`fun(): int`, `TypeFun@0(TypeName:int@7)`},
		{`fun(int): int`, `TypeFun@0(TypeName:int@4 TypeName:int@10)`},
		{`fun(int, [ref A], fun(P): unit): fun(): bool`, `TypeFun@0(TypeName:int@4 TypeList@9(TypeRef:A@10) TypeFun@18(TypeName:P@22 TypeName:unit@26) TypeFun@33(TypeName:bool@40))`},
	}
}

// statementRows are statements, with offsets from the beginning of the first one.
func statementRows() []row {
	return []row{
		{``, ``},
		{`let x = 1`, `SLet:x@0(Int#1@8)`},
		{`let x = spawn B()`, `SSpawn:B@0(Bind:x@4)`},
		{`let x = spawn B(1, y) on n + 1`, `SSpawn:B#1@0(Bind:x@4 Int#1@16 Name:y@19 Bin:+@25(Name:n@25 Int#1@29))`},
		{`spawn B()`, `SSpawn:B@0(Bind:_@0)`},
		{`spawn B(1)`, `SSpawn:B@0(Bind:_@0 Int#1@8)`},
		{`spawn B(1, C) on 3`, `SSpawn:B#1@0(Bind:_@0 Int#1@8 Cons:C@11 Int#3@17)`},
		{`x = 1`, `SSet:x@0(Int#1@4)`},
		{`to = move`, `SSet:to@0(Name:move@5)`},
		{`if a { }`, `SIf@0(Name:a@3 Block@5)`},
		{`if a { stop } else { stop stop }`, `SIf@0(Name:a@3 Block@5(SStop@7) Block@19(SStop@21 SStop@26))`},
		{`if a { } else { if b { } else { } }`, `SIf@0(Name:a@3 Block@5 Block@14(SIf@16(Name:b@19 Block@21 Block@30)))`},
		{`match s { _ { } }`, `SMatch@0(Name:s@6 SArm:_@10(Block@12))`},
		{`match s { C { } D(x) { stop } E(_, y, _) { } }`, `SMatch@0(Name:s@6 SArm:C@10(Block@12) SArm:D@16(Bind:x@18 Block@21(SStop@23)) SArm:E@30(Bind:_@32 Bind:y@35 Bind:_@38 Block@41))`},
		{`for x in l { }`, `SFor:x@0(Name:l@9 Block@11)`},
		{`for x in [1, 2] { stop x = 1 }`, `SFor:x@0(List@9(Int#1@10 Int#2@13) Block@16(SStop@18 SSet:x@23(Int#1@27)))`},
		{`send x M()`, `SSend:M@0(Name:x@5)`},
		{`send x M(1)`, `SSend:M@0(Name:x@5 Int#1@9)`},
		{`send f(x) M(1, C)`, `SSend:M@0(Call@5(Name:f@5 Name:x@7) Int#1@12 Cons:C@15)`},
		{`send C M(D)`, `SSend:M@0(Cons:C@5 Cons:D@9)`},
		{`after 5 send self Go()`, `SAfter@0(Int#5@6 SSend:Go@8(Self@13))`},
		{`after n * 2 send x.y Go(1, 2)`, `SAfter@0(Bin:*@6(Name:n@6 Int#2@10) SSend:Go@12(Get:y@17(Name:x@17) Int#1@24 Int#2@27))`},
		{`do pay() then Paid`, `SDo:pay@0(Msg:Paid@14)`},
		{`do pay(a, 1) then Paid`, `SDo:pay@0(Name:a@7 Int#1@10 Msg:Paid@18)`},
		{`stop`, `SStop@0`},
		{`fail "x"`, `SFail@0(Text:x@5)`},
		{`fail f(x) ++ "y"`, `SFail@0(Bin:++@5(Call@5(Name:f@5 Name:x@7) Text:y@13))`},
		{`let let1 = let a = 1 in a let b = 2`, `SLet:let1@0(Let:a@11(Int#1@19 Name:a@24)) SLet:b@26(Int#2@34)`},
		{`send C(1) M() x = C y = D`, `SSend:M@0(Cons:C@5(Int#1@7)) SSet:x@14(Cons:C@18) SSet:y@20(Cons:D@24)`},
		{`spawn A() on C x = 1`, `SSpawn:A#1@0(Bind:_@0 Cons:C@13) SSet:x@15(Int#1@19)`},
		{`fail C spawn D() stop`, `SFail@0(Cons:C@5) SSpawn:D@7(Bind:_@7) SStop@17`},
	}
}

// expressionRows are expressions, with offsets from their beginnings.
func expressionRows() []row {
	return []row{
		{`0`, `Int@0`},
		{`9007199254740992`, `Int#9007199254740992@0`},
		{`""`, `Text@0`},
		{`"a\n\"b\\"`, "Text:a\n\"b\\@0"},
		{`true`, `Bool#1@0`},
		{`false`, `Bool@0`},
		{`()`, `Unit@0`},
		{`x`, `Name:x@0`},
		{`self`, `Self@0`},
		{`[]`, `List@0`},
		{`[1]`, `List@0(Int#1@1)`},
		{`[1, [], "s"]`, `List@0(Int#1@1 List@4 Text:s@8)`},
		{`P { }`, `New:P@0`},
		{`P { x = 1 }`, `New:P@0(Set:x@4(Int#1@8))`},
		{`P { x = 1, y = Q { } }`, `New:P@0(Set:x@4(Int#1@8) Set:y@11(New:Q@15))`},
		{`C`, `Cons:C@0`},
		{`C(1)`, `Cons:C@0(Int#1@2)`},
		{`C(1, D, E(x))`, `Cons:C@0(Int#1@2 Cons:D@5 Cons:E@8(Name:x@10))`},
		{`(1)`, `Int#1@1`},
		{`((x))`, `Name:x@2`},
		{`(())`, `Unit@1`},
		{`f()`, `Call@0(Name:f@0)`},
		{`f(1)`, `Call@0(Name:f@0 Int#1@2)`},
		{`f(1, x)(y)()`, `Call@0(Call@0(Call@0(Name:f@0 Int#1@2 Name:x@5) Name:y@8))`},
		{`x.y`, `Get:y@0(Name:x@0)`},
		{`x.y.z`, `Get:z@0(Get:y@0(Name:x@0))`},
		{`x with { a = 1 }`, `With@0(Name:x@0 Set:a@9(Int#1@13))`},
		{`x with { a = 1, b = 2 } with { c = y with { d = 3 } }`, `With@0(With@0(Name:x@0 Set:a@9(Int#1@13) Set:b@16(Int#2@20)) Set:c@31(With@35(Name:y@35 Set:d@44(Int#3@48))))`},
		{`f(1).y(2) with { q = 1 }.z`, `Get:z@0(With@0(Call@0(Get:y@0(Call@0(Name:f@0 Int#1@2)) Int#2@7) Set:q@17(Int#1@21)))`},
		{`1(2)`, `Call@0(Int#1@0 Int#2@2)`},
		{`"s".x`, `Get:x@0(Text:s@0)`},
		{`[1](0)`, `Call@0(List@0(Int#1@1) Int@4)`},
		{`C(1)(2)`, `Call@0(Cons:C@0(Int#1@2) Int#2@5)`},
		{`(C)(1)`, `Call@0(Cons:C@1 Int#1@4)`},
		{`(C)()`, `Call@0(Cons:C@1)`},
		{`C.x`, `Get:x@0(Cons:C@0)`},
		{`C with { a = 1 }`, `With@0(Cons:C@0 Set:a@9(Int#1@13))`},
		{`P { x = 1 }.x`, `Get:x@0(New:P@0(Set:x@4(Int#1@8)))`},
		{`P { }(1)`, `Call@0(New:P@0 Int#1@6)`},
		{`(x)(1)`, `Call@0(Name:x@1 Int#1@4)`},
		{`(x).y`, `Get:y@0(Name:x@1)`},
		{`(x) with { a = 1 }`, `With@0(Name:x@1 Set:a@11(Int#1@15))`},
		{`(f)(1).y`, `Get:y@0(Call@0(Name:f@1 Int#1@4))`},
		{`-x`, `Neg@0(Name:x@1)`},
		{`- - x`, `Neg@0(Neg@2(Name:x@4))`},
		{`-x.y`, `Neg@0(Get:y@1(Name:x@1))`},
		{`-(x).y`, `Neg@0(Get:y@1(Name:x@2))`},
		{`-1 * -2`, `Bin:*@0(Neg@0(Int#1@1) Neg@5(Int#2@6))`},
		{`not x`, `Not@0(Name:x@4)`},
		{`not not x`, `Not@0(Not@4(Name:x@8))`},
		{`not -x`, `Not@0(Neg@4(Name:x@5))`},
		{`not x == y`, `Not@0(Bin:==@4(Name:x@4 Name:y@9))`},
		{`not (x == y)`, `Not@0(Bin:==@5(Name:x@5 Name:y@10))`},
		{`(not x) == y`, `Bin:==@0(Not@1(Name:x@5) Name:y@11)`},
		{`a or b`, `Bin:or@0(Name:a@0 Name:b@5)`},
		{`a or b or c`, `Bin:or@0(Bin:or@0(Name:a@0 Name:b@5) Name:c@10)`},
		{`a or (b or c)`, `Bin:or@0(Name:a@0 Bin:or@6(Name:b@6 Name:c@11))`},
		{`(a or b) or c`, `Bin:or@0(Bin:or@1(Name:a@1 Name:b@6) Name:c@12)`},
		{`a and b and c`, `Bin:and@0(Bin:and@0(Name:a@0 Name:b@6) Name:c@12)`},
		{`a or b and c or d`, `Bin:or@0(Bin:or@0(Name:a@0 Bin:and@5(Name:b@5 Name:c@11)) Name:d@16)`},
		{`not a and not b or not c`, `Bin:or@0(Bin:and@0(Not@0(Name:a@4) Not@10(Name:b@14)) Not@19(Name:c@23))`},
		{`a == b`, `Bin:==@0(Name:a@0 Name:b@5)`},
		{`a != b and c < d or e <= f`, `Bin:or@0(Bin:and@0(Bin:!=@0(Name:a@0 Name:b@5) Bin:<@11(Name:c@11 Name:d@15)) Bin:<=@20(Name:e@20 Name:f@25))`},
		{`a > b + 1`, `Bin:>@0(Name:a@0 Bin:+@4(Name:b@4 Int#1@8))`},
		{`a >= b ++ c`, `Bin:>=@0(Name:a@0 Bin:++@5(Name:b@5 Name:c@10))`},
		{`(a < b) == c`, `Bin:==@0(Bin:<@1(Name:a@1 Name:b@5) Name:c@11)`},
		{`a < (b == c)`, `Bin:<@0(Name:a@0 Bin:==@5(Name:b@5 Name:c@10))`},
		{`a ++ b`, `Bin:++@0(Name:a@0 Name:b@5)`},
		{`a ++ b ++ c`, `Bin:++@0(Bin:++@0(Name:a@0 Name:b@5) Name:c@10)`},
		{`a + b`, `Bin:+@0(Name:a@0 Name:b@4)`},
		{`a - b - c`, `Bin:-@0(Bin:-@0(Name:a@0 Name:b@4) Name:c@8)`},
		{`a - (b - c)`, `Bin:-@0(Name:a@0 Bin:-@5(Name:b@5 Name:c@9))`},
		{`a + b * c - d`, `Bin:-@0(Bin:+@0(Name:a@0 Bin:*@4(Name:b@4 Name:c@8)) Name:d@12)`},
		{`a * b / c % d`, `Bin:%@0(Bin:/@0(Bin:*@0(Name:a@0 Name:b@4) Name:c@8) Name:d@12)`},
		{`a * (b / c)`, `Bin:*@0(Name:a@0 Bin:/@5(Name:b@5 Name:c@9))`},
		{`(a + b) * c`, `Bin:*@0(Bin:+@1(Name:a@1 Name:b@5) Name:c@10)`},
		{`((a) + b) * (c)`, `Bin:*@0(Bin:+@1(Name:a@2 Name:b@7) Name:c@13)`},
		{`a - -b`, `Bin:-@0(Name:a@0 Neg@4(Name:b@5))`},
		{`a ++ b + c * -d`, `Bin:++@0(Name:a@0 Bin:+@5(Name:b@5 Bin:*@9(Name:c@9 Neg@13(Name:d@14))))`},
		{`a + b ++ c`, `Bin:++@0(Bin:+@0(Name:a@0 Name:b@4) Name:c@9)`},
		{`if a then b else c`, `If@0(Name:a@3 Name:b@10 Name:c@17)`},
		{`if if a then b else c then d else if e then f else g`, `If@0(If@3(Name:a@6 Name:b@13 Name:c@20) Name:d@27 If@34(Name:e@37 Name:f@44 Name:g@51))`},
		{`let x = 1 in x`, `Let:x@0(Int#1@8 Name:x@13)`},
		{`let x = let y = 1 in y in let z = 2 in z`, `Let:x@0(Let:y@8(Int#1@16 Name:y@21) Let:z@26(Int#2@34 Name:z@39))`},
		{`(let x = 1 in x) + 2`, `Bin:+@0(Let:x@1(Int#1@9 Name:x@14) Int#2@19)`},
		{`match s { _ => 0 }`, `Match@0(Name:s@6 Arm:_@10(Int@15))`},
		{`match s { C => 1, D(x) => x, E(_, y, _) => y, _ => 0 }`, `Match@0(Name:s@6 Arm:C@10(Int#1@15) Arm:D@18(Bind:x@20 Name:x@26) Arm:E@29(Bind:_@31 Bind:y@34 Bind:_@37 Name:y@43) Arm:_@46(Int@51))`},
		{`match match s { A => B } { C => match t { D => E } }`, `Match@0(Match@6(Name:s@12 Arm:A@16(Cons:B@21)) Arm:C@27(Match@32(Name:t@38 Arm:D@42(Cons:E@47))))`},
		{`fun(): int = 1`, `Lambda@0(TypeName:int@7 Int#1@13)`},
		{`fun(x: int): int = x`, `Lambda@0(Field:x@4(TypeName:int@7) TypeName:int@13 Name:x@19)`},
		{`fun(x: int, y: [text]): ref A = fun(): P = P { }`, `Lambda@0(Field:x@4(TypeName:int@7) Field:y@12(TypeList@15(TypeName:text@16)) TypeRef:A@24 Lambda@32(TypeName:P@39 New:P@43))`},
		{`(fun(): int = 1)()`, `Call@0(Lambda@1(TypeName:int@8 Int#1@14))`},
		{`[if a then b else c, let x = 1 in x, fun(): int = 1]`, `List@0(If@1(Name:a@4 Name:b@11 Name:c@18) Let:x@21(Int#1@29 Name:x@34) Lambda@37(TypeName:int@44 Int#1@50))`},
		{`f(a or b, not c)`, `Call@0(Name:f@0 Bin:or@2(Name:a@2 Name:b@7) Not@10(Name:c@14))`},
		{`C(if a then b else c)`, `Cons:C@0(If@2(Name:a@5 Name:b@12 Name:c@19))`},
		{`P { x = a or b, y = let z = 1 in z }`, `New:P@0(Set:x@4(Bin:or@8(Name:a@8 Name:b@13)) Set:y@16(Let:z@20(Int#1@28 Name:z@33)))`},
		{`type.message(move, to) with { drop = init }`, `With@0(Call@0(Get:message@0(Name:type@0) Name:move@13 Name:to@19) Set:drop@30(Name:init@37))`},
	}
}

// headRows are expressions as heads, with offsets from their beginnings.
func headRows() []row {
	return []row{
		{`a`, `Name:a@0`},
		{`a or b`, `Bin:or@0(Name:a@0 Name:b@5)`},
		{`P`, `Cons:P@0`},
		{`a == P`, `Bin:==@0(Name:a@0 Cons:P@5)`},
		{`C(1)`, `Cons:C@0(Int#1@2)`},
		{`C(P { x = 1 })`, `Cons:C@0(New:P@2(Set:x@6(Int#1@10)))`},
		{`f(P { x = 1 })`, `Call@0(Name:f@0 New:P@2(Set:x@6(Int#1@10)))`},
		{`[P { x = 1 }, P { }]`, `List@0(New:P@1(Set:x@5(Int#1@9)) New:P@14)`},
		{`(P { x = 1 })`, `New:P@1(Set:x@5(Int#1@9))`},
		{`((P { }).x)`, `Get:x@1(New:P@2)`},
		{`(P { }).x`, `Get:x@0(New:P@1)`},
		{`a with { x = 1 }`, `With@0(Name:a@0 Set:x@9(Int#1@13))`},
		{`a with { x = P { y = 1 } }`, `With@0(Name:a@0 Set:x@9(New:P@13(Set:y@17(Int#1@21))))`},
		{`P with { x = 1 } with { y = 2 }`, `With@0(With@0(Cons:P@0 Set:x@9(Int#1@13)) Set:y@24(Int#2@28))`},
		{`-P.x`, `Neg@0(Get:x@1(Cons:P@1))`},
		{`not P`, `Not@0(Cons:P@4)`},
		{`let x = P in Q`, `Let:x@0(Cons:P@8 Cons:Q@13)`},
		{`if P then Q else R`, `If@0(Cons:P@3 Cons:Q@10 Cons:R@17)`},
		{`match P { A => P { } }`, `Match@0(Cons:P@6 Arm:A@10(New:P@15))`},
		{`match match P { A => Q { } } { B => R { } }`, `Match@0(Match@6(Cons:P@12 Arm:A@16(New:Q@21)) Arm:B@31(New:R@36))`},
		{`fun(): P = P`, `Lambda@0(TypeName:P@7 Cons:P@11)`},
		{`fun(x: P): fun(): Q = Q`, `Lambda@0(Field:x@4(TypeName:P@7) TypeFun@11(TypeName:Q@18) Cons:Q@22)`},
		{`(match P { A => P { } }).x`, `Get:x@0(Match@1(Cons:P@7 Arm:A@11(New:P@16)))`},
		{`(let x = P { } in x)`, `Let:x@1(New:P@9 Name:x@18)`},
	}
}

// samples are sources with every form of the grammar: patch files, most of which are programs.
func samples() []string {
	var l []string
	add := func(rows []row, before, after string) {
		for _, r := range rows {
			l = append(l, before+r.s+after)
		}
	}
	add(programRows(), "", "")
	add(changeRows(), "", "")
	add(typeRows(), "fun f(): ", " = 1")
	add(statementRows(), "actor A() { on M() { ", " } }")
	add(expressionRows(), "fun f(): int = ", "")
	add(headRows(), "fun f(): int = match ", " { _ => 1 }")
	return l
}

// expressionForms are expressions of every form.
func expressionForms() []string {
	return []string{
		"1", `"s"`, "true", "false", "()", "x", "self", "[]", "[1, x]", "P { }", "P { x = 1, y = z }", "C", "C(1)", "C(1, x)",
		"f(1)", "f()", "x.y", "x with { a = 1 }", "x with { a = 1, b = 2 }", "-x", "not x",
		"a or b", "a and b", "a == b", "a != b", "a < b", "a <= b", "a > b", "a >= b", "a ++ b", "a + b", "a - b", "a * b", "a / b", "a % b",
		"let x = 1 in y", "if a then b else c", "match s { _ => 1 }", "match s { C => 1, D(x, _) => 2 }", "fun(): int = 1", "fun(x: int): int = y",
	}
}

// moved returns the tree with offsets from a place on.
func moved(n api.Node, from int) api.Node {
	n = deepCopy(n)
	eachNode(&n, func(x *api.Node) { x.At -= from })
	return n
}

// shown writes trees one behind the other.
func shown(l []api.Node) string {
	var trees []string
	for _, n := range l {
		trees = append(trees, show(n))
	}
	return strings.Join(trees, " ")
}

// parsed parses a source that must be right in both ways, or in one of them.
func parsed(t *testing.T, s string, isProgram bool) api.Node {
	t.Helper()
	n, e, at := Patch(s)
	if e != api.OK || at != 0 || n.Kind != KProgram || n.Text != "" || n.N != 0 || n.At != 0 {
		t.Errorf("Patch(%s): error %d at %d, %s", brief(s), e, at, show(n))
	}
	m, e, at := Parse(s)
	if isProgram && (e != api.OK || at != 0 || !equal(n, m)) {
		t.Errorf("Parse(%s): error %d at %d, %s", brief(s), e, at, show(m))
	}
	if !isProgram && (e != api.ErrForm || !equal(m, api.Node{})) {
		t.Errorf("Parse(%s): error %d at %d, %s", brief(s), e, at, show(m))
	}
	return n
}

// P8.1: declarations, and an empty source.
func TestDeclarations(t *testing.T) {
	for _, r := range programRows() {
		if got := shown(parsed(t, r.s, true).Kids); got != r.tree {
			t.Errorf("%s: %s; want %s", brief(r.s), got, r.tree)
		}
	}
}

// P8.1: changes, alone and beside declarations.
func TestChanges(t *testing.T) {
	for _, r := range changeRows() {
		if got := shown(parsed(t, r.s, false).Kids); got != r.tree {
			t.Errorf("%s: %s; want %s", brief(r.s), got, r.tree)
		}
	}
}

// P8.1: types, in each place where one stands.
func TestTypes(t *testing.T) {
	for _, r := range typeRows() {
		for _, c := range []struct {
			before, after string
			place         []int
		}{
			{"fun f(): ", " = 1", []int{0, 0}},
			{"fun f(a: ", "): int = 1", []int{0, 0, 0}},
			{"fun f(a: int, b: ", "): int = 1", []int{0, 1, 0}},
			{"effect e(): ", "", []int{0, 0}},
			{"effect e(a: ", "): int", []int{0, 0, 0}},
			{"record P { a: ", " }", []int{0, 0, 0}},
			{"variant V { A(", ") }", []int{0, 0, 0}},
			{"variant V { A(int, ", ", bool) }", []int{0, 0, 1}},
			{"actor A() { state a: ", " = 1 }", []int{0, 0, 0}},
			{"actor A(a: ", ") { }", []int{0, 0, 0}},
			{"actor A() { on M(a: ", ") { } }", []int{0, 0, 0, 0}},
			{"fun f(): int = fun(a: ", "): int = 1", []int{0, 1, 0, 0}},
			{"fun f(): int = fun(): ", " = 1", []int{0, 1, 0}},
			{"fun f(): [", "] = 1", []int{0, 0, 0}},
			{"fun f(): fun(", "): int = 1", []int{0, 0, 0}},
			{"fun f(): fun(int): ", " = 1", []int{0, 0, 1}},
		} {
			n := parsed(t, c.before+r.s+c.after, true)
			if got := show(moved(at(n, c.place), len(c.before))); got != r.tree {
				t.Errorf("%s: %s; want %s", brief(c.before+r.s+c.after), got, r.tree)
			}
		}
	}
}

// at returns the node to which indices of kids lead, or the zero node.
func at(n api.Node, place []int) api.Node {
	for _, k := range place {
		if k >= len(n.Kids) {
			return api.Node{}
		}
		n = n.Kids[k]
	}
	return n
}

// P8.1: statements, in each place where they stand.
func TestStatements(t *testing.T) {
	for _, r := range statementRows() {
		for _, c := range []struct {
			before, after string
			place         []int
		}{
			{"actor A() { on M() { ", " } }", []int{0, 0, 0}},
			{"actor A() { on M() { if a { ", " } } }", []int{0, 0, 0, 0, 1}},
			{"actor A() { on M() { if a { } else { ", " } } }", []int{0, 0, 0, 0, 2}},
			{"actor A() { on M() { for a in b { ", " } } }", []int{0, 0, 0, 0, 1}},
			{"actor A() { on M() { match a { B(c) { ", " } } } }", []int{0, 0, 0, 0, 1, 1}},
		} {
			n := parsed(t, c.before+r.s+c.after, true)
			if got := shown(moved(at(n, c.place), len(c.before)).Kids); got != r.tree {
				t.Errorf("%s: %s; want %s", brief(c.before+r.s+c.after), got, r.tree)
			}
		}
	}
}

// expressionPlaces are the places where an expression may stand that is not in a head.
func expressionPlaces() []struct {
	before, after string
	place         []int
} {
	return []struct {
		before, after string
		place         []int
	}{
		{"fun f(): int = ", "", []int{0, 1}},
		{"actor A() { state a: int = ", " }", []int{0, 0, 1}},
		{"actor A() { on M() { let a = ", " } }", []int{0, 0, 0, 0, 0}},
		{"actor A() { on M() { a = ", " stop } }", []int{0, 0, 0, 0, 0}},
		{"actor A() { on M() { send ", " M() } }", []int{0, 0, 0, 0, 0}},
		{"actor A() { on M() { send a M(1, ", ", 2) } }", []int{0, 0, 0, 0, 2}},
		{"actor A() { on M() { after ", " send a M() } }", []int{0, 0, 0, 0, 0}},
		{"actor A() { on M() { spawn B(", ") } }", []int{0, 0, 0, 0, 1}},
		{"actor A() { on M() { spawn B(1) on ", " } }", []int{0, 0, 0, 0, 2}},
		{"actor A() { on M() { do e(", ") then M } }", []int{0, 0, 0, 0, 0}},
		{"actor A() { on M() { fail ", " x = 1 } }", []int{0, 0, 0, 0, 0}},
		{"fun f(): int = let a = ", " in b", []int{0, 1, 0}},
		{"fun f(): int = let a = b in ", "", []int{0, 1, 1}},
		{"fun f(): int = if ", " then a else b", []int{0, 1, 0}},
		{"fun f(): int = if a then ", " else b", []int{0, 1, 1}},
		{"fun f(): int = if a then b else ", "", []int{0, 1, 2}},
		{"fun f(): int = match a { B => ", ", C => 1 }", []int{0, 1, 1, 0}},
		{"fun f(): int = fun(): int = ", "", []int{0, 1, 1}},
		{"fun f(): int = f(", ")", []int{0, 1, 1}},
		{"fun f(): int = C(", ", 1)", []int{0, 1, 0}},
		{"fun f(): int = [1, ", "]", []int{0, 1, 1}},
		{"fun f(): int = P { a = ", ", b = 1 }", []int{0, 1, 0, 0}},
		{"fun f(): int = a with { a = ", " }", []int{0, 1, 1, 0}},
		{"fun f(): int = (", ")", []int{0, 1}},
		{"fun f(): int = -((", "))", []int{0, 1, 0}},
		{"fun f(): int = match (", ") { _ => 1 }", []int{0, 1, 0}},
	}
}

// P8.1: expressions, in each place where one stands that is not in a head.
func TestExpressions(t *testing.T) {
	for _, r := range append(expressionRows(), headRows()...) {
		for _, c := range expressionPlaces() {
			n := parsed(t, c.before+r.s+c.after, true)
			if got := show(moved(at(n, c.place), len(c.before))); got != r.tree {
				t.Errorf("%s: %s; want %s", brief(c.before+r.s+c.after), got, r.tree)
			}
		}
	}
	for _, r := range append(expressionRows(), headRows()...) {
		for _, c := range []string{"convert type P() = ", "convert type V.A(a: int) = "} {
			n := parsed(t, c+r.s, false)
			if l := at(n, []int{0}).Kids; len(l) == 0 || show(moved(l[len(l)-1], len(c))) != r.tree {
				t.Errorf("%s: %s; want %s", brief(c+r.s), show(n), r.tree)
			}
		}
		for _, c := range []string{"convert actor A() { a = ", "convert message A.M() = N("} {
			n := parsed(t, c+r.s+map[bool]string{true: " }", false: ")"}[strings.HasSuffix(c, "a = ")], false)
			l := at(n, []int{0}).Kids
			if len(l) == 0 || len(l[len(l)-1].Kids) != 1 || show(moved(l[len(l)-1].Kids[0], len(c))) != r.tree {
				t.Errorf("%s: %s; want %s", brief(c+r.s), show(n), r.tree)
			}
		}
	}
}

// P8.1: heads, in each form that has one; within parentheses, brackets and braces that are opened in the head, records are written as elsewhere.
func TestHeads(t *testing.T) {
	for _, r := range headRows() {
		for _, c := range []struct {
			before, after string
			place         []int
		}{
			{"actor A() { on M() { if ", " { } } }", []int{0, 0, 0, 0, 0}},
			{"actor A() { on M() { if ", " { x = 1 } else { } } }", []int{0, 0, 0, 0, 0}},
			{"actor A() { on M() { match ", " { _ { } } } }", []int{0, 0, 0, 0, 0}},
			{"actor A() { on M() { for x in ", " { x = 1 } } }", []int{0, 0, 0, 0, 0}},
			{"fun f(): int = match ", " { _ => 1 }", []int{0, 1, 0}},
			{"fun f(): int = match match ", " { _ => 1 } { _ => 2 }", []int{0, 1, 0, 0}},
			{"actor A() { on M() { if match ", " { _ => 1 } { x = 1 } } }", []int{0, 0, 0, 0, 0, 0}},
			{"actor A() { on M() { if let x = 1 in ", " { x = 1 } } }", []int{0, 0, 0, 0, 0, 1}},
			{"actor A() { on M() { if if a then b else ", " { x = 1 } } }", []int{0, 0, 0, 0, 0, 2}},
			{"actor A() { on M() { if fun(): P = ", " { x = 1 } } }", []int{0, 0, 0, 0, 0, 1}},
		} {
			n := parsed(t, c.before+r.s+c.after, true)
			if got := show(moved(at(n, c.place), len(c.before))); got != r.tree {
				t.Errorf("%s: %s; want %s", brief(c.before+r.s+c.after), got, r.tree)
			}
		}
	}
}

// P8.1: what follows a head is no part of it, and the restriction ends with the head.
func TestBehindHeads(t *testing.T) {
	for _, r := range []row{
		{"if P { x = 1 }", "SIf@0(Cons:P@3 Block@5(SSet:x@7(Int#1@11)))"},
		{"if P { } x = P { x = 1 }", "SIf@0(Cons:P@3 Block@5) SSet:x@9(New:P@13(Set:x@17(Int#1@21)))"},
		{"if a { x = P { } } else { x = Q { } }", "SIf@0(Name:a@3 Block@5(SSet:x@7(New:P@11)) Block@24(SSet:x@26(New:Q@30)))"},
		{"for x in P { x = P { } }", "SFor:x@0(Cons:P@9 Block@11(SSet:x@13(New:P@17)))"},
		{"match P { Q { x = P { } } R { } }", "SMatch@0(Cons:P@6 SArm:Q@10(Block@12(SSet:x@14(New:P@18))) SArm:R@26(Block@28))"},
		{"x = match P { Q => P { } } y = P { }", "SSet:x@0(Match@4(Cons:P@10 Arm:Q@14(New:P@19))) SSet:y@27(New:P@31)"},
		{"if match P { Q => R { } } { }", "SIf@0(Match@3(Cons:P@9 Arm:Q@13(New:R@18)) Block@26)"},
		{"if (match P { Q => 1 }) == R { }", "SIf@0(Bin:==@3(Match@4(Cons:P@10 Arm:Q@14(Int#1@19)) Cons:R@27) Block@29)"},
		{"if f(P { }) == P { }", "SIf@0(Bin:==@3(Call@3(Name:f@3 New:P@5) Cons:P@15) Block@17)"},
		{"if [P { }] ++ P { }", "SIf@0(Bin:++@3(List@3(New:P@4) Cons:P@14) Block@16)"},
		{"if a with { b = P { } } == P { }", "SIf@0(Bin:==@3(With@3(Name:a@3 Set:b@12(New:P@16)) Cons:P@27) Block@29)"},
		{"if (P { }).x == P { }", "SIf@0(Bin:==@3(Get:x@3(New:P@4) Cons:P@16) Block@18)"},
		{"if () == P { }", "SIf@0(Bin:==@3(Unit@3 Cons:P@9) Block@11)"},
		{"if C(1) == P { }", "SIf@0(Bin:==@3(Cons:C@3(Int#1@5) Cons:P@11) Block@13)"},
		{"match match P { } { }", ""},
	} {
		s := "actor A() { on M() { " + r.s + " } }"
		if r.tree == "" {
			misfits(t, "program", s, strings.Index(s, "} {"))
		} else if got := shown(moved(at(parsed(t, s, true), []int{0, 0, 0}), 21).Kids); got != r.tree {
			t.Errorf("%s: %s; want %s", r.s, got, r.tree)
		}
	}
}

// P8.1, P8.5: white space and comments behind it, between the tokens of every sample, change nothing but offsets.
func TestSpaceBetweenTokens(t *testing.T) {
	for _, s := range samples() {
		n, e, _ := Patch(s)
		if e != api.OK {
			t.Fatal(s, e)
		}
		tokens, _, _ := lex.Scan(s)
		for _, space := range []string{" ", "\t", "\r", "\n", " \r\n", " //\n", "\n// record P { \n", "\t// \"\n\n// )\n"} {
			wide, offsets := laid(tokens, func(int) string { return space })
			m, e, at := Patch(wide)
			if e != api.OK || at != 0 || !Same(n, m) || !Same(m, n) {
				t.Errorf("%s: error %d at %d, %s", brief(wide), e, at, show(m))
			}
			var old []int
			for _, x := range tokens {
				old = append(old, x.At)
			}
			eachNode(&m, func(x *api.Node) {
				if k := slices.Index(offsets, x.At); x.Kind != KProgram && k >= 0 {
					x.At = old[k]
				}
			})
			if !equal(m, n) {
				t.Errorf("%s: %s; want %s", brief(wide), show(m), show(n))
			}
		}
	}
}

// P8.1, P8.5: parentheses around an expression change nothing but offsets, of which its own is that behind them.
func TestParentheses(t *testing.T) {
	for _, r := range expressionRows() {
		plain := parsed(t, "fun f(): int = "+r.s, true)
		for k := 1; k <= 3; k++ {
			n := parsed(t, "fun f(): int = "+strings.Repeat("(", k)+r.s+strings.Repeat(")", k), true)
			if !Same(n, plain) || show(moved(n.Kids[0].Kids[1], 15+k)) != r.tree {
				t.Errorf("%s: %s", r.s, show(n))
			}
		}
	}
}
