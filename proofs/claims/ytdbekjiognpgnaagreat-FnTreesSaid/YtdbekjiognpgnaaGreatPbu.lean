/- Part 47. -/
import Derived.Test.YtdbekjiognpgnaaGreatPbt
import Derived.Test.YtdbekjiognpgnaaGreatPbs
set_option maxHeartbeats 16000000
set_option maxRecDepth 100000
set_option linter.unusedVariables false
namespace Go.Proofs.YtdbekjiognpgnaaGreat
open Go.RowKit Go.Sort
theorem zen{w:World}(K a b c z:Int){la na:Option Addr}{m lc q nc:Nat}(t:ByteArray)(hz:z<9218868437227405312):
  Calls Tryz.prog 34 #[.iface 89 (.agg #[.int .u64 z])] w fun e w'=>e=.returned (.bool true)/\Below w.heap.size w w':=by
 have hd:decide (z<9218868437227405312)=true:=yb9 hz;have qnumberForm:∀(v:Value) (W:World),(Instr.typeAssert (.iface 89 v) 48 89 true).run Tryz.prog W=.ok (.tuple #[v,.bool true]) W:=fun v W=>by kernel_rfl
 go_enter Tryz.func34,Tryz.ntmps34;go_wp2;go_returns;exact⟨by first|rfl|(rw[hd];rfl)|(simp only[hd];rfl)|(simp only[hd1,hd2];rfl),by go_grown⟩
theorem zeo{w:World}(K a b c z:Int){la na:Option Addr}{m lc q nc:Nat}(t:ByteArray)(ht:z5T t.data.toList)(h40:t.size<=40):
  Calls Tryz.prog 34 #[.iface 92 (.agg #[.string t])] w fun e w'=>e=.returned (.bool true)/\Below w.heap.size w w':=by
 have cN:=fun W=>zel t W ht h40;clear ht h40;have qnumberForm:∀(v:Value) (W:World),(Instr.typeAssert (.iface 92 v) 48 89 true).run Tryz.prog W=.ok (.tuple #[.agg #[.int .u64 0],.bool false]) W:=fun v W=>by kernel_rfl
 have qtextForm:∀(v:Value) (W:World),(Instr.typeAssert (.iface 92 v) 48 92 true).run Tryz.prog W=.ok (.tuple #[v,.bool true]) W:=fun v W=>by kernel_rfl
 go_enter Tryz.func34,Tryz.ntmps34;go_wp2_with fail;refine(cN _).mono ?_;rintro e w5 ⟨rfl,b5⟩;have HB:Hid (Below w.heap.size w w5):=by
  have b0:Below w.heap.size w (w.alloc (.cells #[.string t] 92)):=(yg9 _ _).alloc (yf9 _) _;exact b0.trans (b5.mono b0.size)
 clear b5;go_wp2;go_returns;exact⟨rfl,HB.out⟩
theorem zep{w:World}(K a b c z:Int){la na:Option Addr}{m lc q nc:Nat}(t:ByteArray) :
  Calls Tryz.prog 34 #[.iface 94 (.agg #[.int .i64 K])] w fun e w'=>e=.returned (.bool true)/\Below w.heap.size w w':=by
 have qnumberForm:∀(v:Value) (W:World),(Instr.typeAssert (.iface 94 v) 48 89 true).run Tryz.prog W=.ok (.tuple #[.agg #[.int .u64 0],.bool false]) W:=fun v W=>by kernel_rfl
 have qtextForm:∀(v:Value) (W:World),(Instr.typeAssert (.iface 94 v) 48 92 true).run Tryz.prog W=.ok (.tuple #[.agg #[.string ⟨#[]⟩],.bool false]) W:=fun v W=>by kernel_rfl
 have qnameForm:∀(v:Value) (W:World),(Instr.typeAssert (.iface 94 v) 48 96 true).run Tryz.prog W=.ok (.tuple #[.agg #[.string ⟨#[]⟩],.bool false]) W:=fun v W=>by kernel_rfl
 have qbinaryForm:∀(v:Value) (W:World),(Instr.typeAssert (.iface 94 v) 48 100 true).run Tryz.prog W=.ok (.tuple #[.agg #[.int .i64 0,.int .i64 0,.int .i64 0],.bool false]) W:=fun v W=>by kernel_rfl
 have qfunForm:∀(v:Value) (W:World),(Instr.typeAssert (.iface 94 v) 48 106 true).run Tryz.prog W=.ok (.tuple #[.agg #[.slice none 0 0,.int .i64 0],.bool false]) W:=fun v W=>by kernel_rfl
 have qletForm:∀(v:Value) (W:World),(Instr.typeAssert (.iface 94 v) 48 130 true).run Tryz.prog W=.ok (.tuple #[.agg #[.string ⟨#[]⟩,.int .i64 0,.int .i64 0],.bool false]) W:=fun v W=>by kernel_rfl
 have qsetForm:∀(v:Value) (W:World),(Instr.typeAssert (.iface 94 v) 48 132 true).run Tryz.prog W=.ok (.tuple #[.agg #[.string ⟨#[]⟩,.int .i64 0],.bool false]) W:=fun v W=>by kernel_rfl
 have qtryForm:∀(v:Value) (W:World),(Instr.typeAssert (.iface 94 v) 48 134 true).run Tryz.prog W=.ok (.tuple #[.agg #[.string ⟨#[]⟩,.int .i64 0,.int .i64 0],.bool false]) W:=fun v W=>by kernel_rfl
 go_enter Tryz.func34,Tryz.ntmps34;go_wp2;go_returns;exact⟨by first|rfl|(rw[hd];rfl)|(simp only[hd];rfl)|(simp only[hd1,hd2];rfl),by go_grown⟩
theorem zeq{w:World}(K a b c z:Int){la na:Option Addr}{m lc q nc:Nat}(t:ByteArray)(ht:z5S t):
  Calls Tryz.prog 34 #[.iface 96 (.agg #[.string t])] w fun e w'=>e=.returned (.bool true)/\Below w.heap.size w w':=by
 have cN:=fun W=>zek t W ht;clear ht;have qnumberForm:∀(v:Value) (W:World),(Instr.typeAssert (.iface 96 v) 48 89 true).run Tryz.prog W=.ok (.tuple #[.agg #[.int .u64 0],.bool false]) W:=fun v W=>by kernel_rfl
 have qtextForm:∀(v:Value) (W:World),(Instr.typeAssert (.iface 96 v) 48 92 true).run Tryz.prog W=.ok (.tuple #[.agg #[.string ⟨#[]⟩],.bool false]) W:=fun v W=>by kernel_rfl
 have qnameForm:∀(v:Value) (W:World),(Instr.typeAssert (.iface 96 v) 48 96 true).run Tryz.prog W=.ok (.tuple #[v,.bool true]) W:=fun v W=>by kernel_rfl
 go_enter Tryz.func34,Tryz.ntmps34;go_wp2_with fail;refine(cN _).mono ?_;rintro e w5 ⟨rfl,b5⟩;have HB:Hid (Below w.heap.size w w5):=by
  have b0:Below w.heap.size w (w.alloc (.cells #[.string t] 96)):=(yg9 _ _).alloc (yf9 _) _;exact b0.trans (b5.mono b0.size)
 clear b5;go_wp2;go_returns;exact⟨rfl,HB.out⟩
theorem zer{w:World}(K a b c z:Int){la na:Option Addr}{m lc q nc:Nat}(t:ByteArray) :
  Calls Tryz.prog 34 #[.iface 98 (.agg #[.int .i64 K,.int .i64 a])] w fun e w'=>e=.returned (.bool true)/\Below w.heap.size w w':=by
 have qnumberForm:∀(v:Value) (W:World),(Instr.typeAssert (.iface 98 v) 48 89 true).run Tryz.prog W=.ok (.tuple #[.agg #[.int .u64 0],.bool false]) W:=fun v W=>by kernel_rfl
 have qtextForm:∀(v:Value) (W:World),(Instr.typeAssert (.iface 98 v) 48 92 true).run Tryz.prog W=.ok (.tuple #[.agg #[.string ⟨#[]⟩],.bool false]) W:=fun v W=>by kernel_rfl
 have qnameForm:∀(v:Value) (W:World),(Instr.typeAssert (.iface 98 v) 48 96 true).run Tryz.prog W=.ok (.tuple #[.agg #[.string ⟨#[]⟩],.bool false]) W:=fun v W=>by kernel_rfl
 have qbinaryForm:∀(v:Value) (W:World),(Instr.typeAssert (.iface 98 v) 48 100 true).run Tryz.prog W=.ok (.tuple #[.agg #[.int .i64 0,.int .i64 0,.int .i64 0],.bool false]) W:=fun v W=>by kernel_rfl
 have qfunForm:∀(v:Value) (W:World),(Instr.typeAssert (.iface 98 v) 48 106 true).run Tryz.prog W=.ok (.tuple #[.agg #[.slice none 0 0,.int .i64 0],.bool false]) W:=fun v W=>by kernel_rfl
 have qletForm:∀(v:Value) (W:World),(Instr.typeAssert (.iface 98 v) 48 130 true).run Tryz.prog W=.ok (.tuple #[.agg #[.string ⟨#[]⟩,.int .i64 0,.int .i64 0],.bool false]) W:=fun v W=>by kernel_rfl
 have qsetForm:∀(v:Value) (W:World),(Instr.typeAssert (.iface 98 v) 48 132 true).run Tryz.prog W=.ok (.tuple #[.agg #[.string ⟨#[]⟩,.int .i64 0],.bool false]) W:=fun v W=>by kernel_rfl
 have qtryForm:∀(v:Value) (W:World),(Instr.typeAssert (.iface 98 v) 48 134 true).run Tryz.prog W=.ok (.tuple #[.agg #[.string ⟨#[]⟩,.int .i64 0,.int .i64 0],.bool false]) W:=fun v W=>by kernel_rfl
 go_enter Tryz.func34,Tryz.ntmps34;go_wp2;go_returns;exact⟨by first|rfl|(rw[hd];rfl)|(simp only[hd];rfl)|(simp only[hd1,hd2];rfl),by go_grown⟩
theorem zes{w:World}(K a b c z:Int){la na:Option Addr}{m lc q nc:Nat}(t:ByteArray)(hc1:1<=c)(hc2:c<=11):
  Calls Tryz.prog 34 #[.iface 100 (.agg #[.int .i64 c,.int .i64 a,.int .i64 b])] w fun e w'=>e=.returned (.bool true)/\Below w.heap.size w w':=by
 have hd1:decide (1<=c)=true:=yb9 hc1;have hd2:decide (c<=11)=true:=yb9 hc2;have qnumberForm:∀(v:Value) (W:World),(Instr.typeAssert (.iface 100 v) 48 89 true).run Tryz.prog W=.ok (.tuple #[.agg #[.int .u64 0],.bool false]) W:=fun v W=>by kernel_rfl
 have qtextForm:∀(v:Value) (W:World),(Instr.typeAssert (.iface 100 v) 48 92 true).run Tryz.prog W=.ok (.tuple #[.agg #[.string ⟨#[]⟩],.bool false]) W:=fun v W=>by kernel_rfl
 have qnameForm:∀(v:Value) (W:World),(Instr.typeAssert (.iface 100 v) 48 96 true).run Tryz.prog W=.ok (.tuple #[.agg #[.string ⟨#[]⟩],.bool false]) W:=fun v W=>by kernel_rfl
 have qbinaryForm:∀(v:Value) (W:World),(Instr.typeAssert (.iface 100 v) 48 100 true).run Tryz.prog W=.ok (.tuple #[v,.bool true]) W:=fun v W=>by kernel_rfl
 go_enter Tryz.func34,Tryz.ntmps34;go_wp2;go_returns;exact⟨by first|rfl|(rw[hd];rfl)|(simp only[hd];rfl)|(simp only[hd1,hd2];rfl),by go_grown⟩
theorem zet{w:World}(K a b c z:Int){la na:Option Addr}{m lc q nc:Nat}(t:ByteArray) :
  Calls Tryz.prog 34 #[.iface 102 (.agg #[.int .i64 K,.int .i64 a,.int .i64 b])] w fun e w'=>e=.returned (.bool true)/\Below w.heap.size w w':=by
 have qnumberForm:∀(v:Value) (W:World),(Instr.typeAssert (.iface 102 v) 48 89 true).run Tryz.prog W=.ok (.tuple #[.agg #[.int .u64 0],.bool false]) W:=fun v W=>by kernel_rfl
 have qtextForm:∀(v:Value) (W:World),(Instr.typeAssert (.iface 102 v) 48 92 true).run Tryz.prog W=.ok (.tuple #[.agg #[.string ⟨#[]⟩],.bool false]) W:=fun v W=>by kernel_rfl
 have qnameForm:∀(v:Value) (W:World),(Instr.typeAssert (.iface 102 v) 48 96 true).run Tryz.prog W=.ok (.tuple #[.agg #[.string ⟨#[]⟩],.bool false]) W:=fun v W=>by kernel_rfl
 have qbinaryForm:∀(v:Value) (W:World),(Instr.typeAssert (.iface 102 v) 48 100 true).run Tryz.prog W=.ok (.tuple #[.agg #[.int .i64 0,.int .i64 0,.int .i64 0],.bool false]) W:=fun v W=>by kernel_rfl
 have qfunForm:∀(v:Value) (W:World),(Instr.typeAssert (.iface 102 v) 48 106 true).run Tryz.prog W=.ok (.tuple #[.agg #[.slice none 0 0,.int .i64 0],.bool false]) W:=fun v W=>by kernel_rfl
 have qletForm:∀(v:Value) (W:World),(Instr.typeAssert (.iface 102 v) 48 130 true).run Tryz.prog W=.ok (.tuple #[.agg #[.string ⟨#[]⟩,.int .i64 0,.int .i64 0],.bool false]) W:=fun v W=>by kernel_rfl
 have qsetForm:∀(v:Value) (W:World),(Instr.typeAssert (.iface 102 v) 48 132 true).run Tryz.prog W=.ok (.tuple #[.agg #[.string ⟨#[]⟩,.int .i64 0],.bool false]) W:=fun v W=>by kernel_rfl
 have qtryForm:∀(v:Value) (W:World),(Instr.typeAssert (.iface 102 v) 48 134 true).run Tryz.prog W=.ok (.tuple #[.agg #[.string ⟨#[]⟩,.int .i64 0,.int .i64 0],.bool false]) W:=fun v W=>by kernel_rfl
 go_enter Tryz.func34,Tryz.ntmps34;go_wp2;go_returns;exact⟨by first|rfl|(rw[hd];rfl)|(simp only[hd];rfl)|(simp only[hd1,hd2];rfl),by go_grown⟩
theorem zeu{w:World}(K a b c z:Int){la na:Option Addr}{m lc q nc:Nat}(t:ByteArray) :
  Calls Tryz.prog 34 #[.iface 104 (.agg #[.int .i64 a,.slice la m lc])] w fun e w'=>e=.returned (.bool true)/\Below w.heap.size w w':=by
 have qnumberForm:∀(v:Value) (W:World),(Instr.typeAssert (.iface 104 v) 48 89 true).run Tryz.prog W=.ok (.tuple #[.agg #[.int .u64 0],.bool false]) W:=fun v W=>by kernel_rfl
 have qtextForm:∀(v:Value) (W:World),(Instr.typeAssert (.iface 104 v) 48 92 true).run Tryz.prog W=.ok (.tuple #[.agg #[.string ⟨#[]⟩],.bool false]) W:=fun v W=>by kernel_rfl
 have qnameForm:∀(v:Value) (W:World),(Instr.typeAssert (.iface 104 v) 48 96 true).run Tryz.prog W=.ok (.tuple #[.agg #[.string ⟨#[]⟩],.bool false]) W:=fun v W=>by kernel_rfl
 have qbinaryForm:∀(v:Value) (W:World),(Instr.typeAssert (.iface 104 v) 48 100 true).run Tryz.prog W=.ok (.tuple #[.agg #[.int .i64 0,.int .i64 0,.int .i64 0],.bool false]) W:=fun v W=>by kernel_rfl
 have qfunForm:∀(v:Value) (W:World),(Instr.typeAssert (.iface 104 v) 48 106 true).run Tryz.prog W=.ok (.tuple #[.agg #[.slice none 0 0,.int .i64 0],.bool false]) W:=fun v W=>by kernel_rfl
 have qletForm:∀(v:Value) (W:World),(Instr.typeAssert (.iface 104 v) 48 130 true).run Tryz.prog W=.ok (.tuple #[.agg #[.string ⟨#[]⟩,.int .i64 0,.int .i64 0],.bool false]) W:=fun v W=>by kernel_rfl
 have qsetForm:∀(v:Value) (W:World),(Instr.typeAssert (.iface 104 v) 48 132 true).run Tryz.prog W=.ok (.tuple #[.agg #[.string ⟨#[]⟩,.int .i64 0],.bool false]) W:=fun v W=>by kernel_rfl
 have qtryForm:∀(v:Value) (W:World),(Instr.typeAssert (.iface 104 v) 48 134 true).run Tryz.prog W=.ok (.tuple #[.agg #[.string ⟨#[]⟩,.int .i64 0,.int .i64 0],.bool false]) W:=fun v W=>by kernel_rfl
 go_enter Tryz.func34,Tryz.ntmps34;go_wp2;go_returns;exact⟨by first|rfl|(rw[hd];rfl)|(simp only[hd];rfl)|(simp only[hd1,hd2];rfl),by go_grown⟩
theorem zev{w:World}(K a b c z:Int){la na:Option Addr}{m lc q nc:Nat}(t:ByteArray){B:Nat}{l:List ByteArray}(ho:w.ownsRow B 9 1 (.slice na l.length nc) l.length (l.map Value.string))(h4:l.length<=4)(hl:∀ x∈l,z5S x):
  Calls Tryz.prog 34 #[.iface 106 (.agg #[.slice na l.length nc,.int .i64 a])] w fun e w'=>e=.returned (.bool true)/\Below w.heap.size w w':=by
 have cN:=fun W (hW:Below w.heap.size w W)=>zem l (z8B ho hW) h4 hl;clear ho h4 hl;obtain⟨L,hL⟩:∃ L,l.length=L:=⟨_,rfl⟩;rw[hL]at cN ⊢;have qnumberForm:∀(v:Value) (W:World),(Instr.typeAssert (.iface 106 v) 48 89 true).run Tryz.prog W=.ok (.tuple #[.agg #[.int .u64 0],.bool false]) W:=fun v W=>by kernel_rfl
 have qtextForm:∀(v:Value) (W:World),(Instr.typeAssert (.iface 106 v) 48 92 true).run Tryz.prog W=.ok (.tuple #[.agg #[.string ⟨#[]⟩],.bool false]) W:=fun v W=>by kernel_rfl
 have qnameForm:∀(v:Value) (W:World),(Instr.typeAssert (.iface 106 v) 48 96 true).run Tryz.prog W=.ok (.tuple #[.agg #[.string ⟨#[]⟩],.bool false]) W:=fun v W=>by kernel_rfl
 have qbinaryForm:∀(v:Value) (W:World),(Instr.typeAssert (.iface 106 v) 48 100 true).run Tryz.prog W=.ok (.tuple #[.agg #[.int .i64 0,.int .i64 0,.int .i64 0],.bool false]) W:=fun v W=>by kernel_rfl
 have qfunForm:∀(v:Value) (W:World),(Instr.typeAssert (.iface 106 v) 48 106 true).run Tryz.prog W=.ok (.tuple #[v,.bool true]) W:=fun v W=>by kernel_rfl
 go_enter Tryz.func34,Tryz.ntmps34;go_wp2_with fail;refine(cN _ ((yg9 _ _).alloc (yf9 _) _)).mono ?_;rintro e w5 ⟨rfl,b5⟩;have HB:Hid (Below w.heap.size w w5):=by
  have b0:Below w.heap.size w (w.alloc (.cells #[.slice na L nc,.int .i64 a] 106)):=(yg9 _ _).alloc (yf9 _) _;exact b0.trans (b5.mono b0.size)
 clear b5;go_wp2;go_returns;exact⟨rfl,HB.out⟩
theorem zew{w:World}(K a b c z:Int){la na:Option Addr}{m lc q nc:Nat}(t:ByteArray)(ht:z5S t)(hb:b=0\/b=1):
  Calls Tryz.prog 34 #[.iface 130 (.agg #[.string t,.int .i64 a,.int .i64 b])] w fun e w'=>e=.returned (.bool true)/\Below w.heap.size w w':=by
 have cN:=fun W=>zek t W ht;clear ht;have qnumberForm:∀(v:Value) (W:World),(Instr.typeAssert (.iface 130 v) 48 89 true).run Tryz.prog W=.ok (.tuple #[.agg #[.int .u64 0],.bool false]) W:=fun v W=>by kernel_rfl
 have qtextForm:∀(v:Value) (W:World),(Instr.typeAssert (.iface 130 v) 48 92 true).run Tryz.prog W=.ok (.tuple #[.agg #[.string ⟨#[]⟩],.bool false]) W:=fun v W=>by kernel_rfl
 have qnameForm:∀(v:Value) (W:World),(Instr.typeAssert (.iface 130 v) 48 96 true).run Tryz.prog W=.ok (.tuple #[.agg #[.string ⟨#[]⟩],.bool false]) W:=fun v W=>by kernel_rfl
 have qbinaryForm:∀(v:Value) (W:World),(Instr.typeAssert (.iface 130 v) 48 100 true).run Tryz.prog W=.ok (.tuple #[.agg #[.int .i64 0,.int .i64 0,.int .i64 0],.bool false]) W:=fun v W=>by kernel_rfl
 have qfunForm:∀(v:Value) (W:World),(Instr.typeAssert (.iface 130 v) 48 106 true).run Tryz.prog W=.ok (.tuple #[.agg #[.slice none 0 0,.int .i64 0],.bool false]) W:=fun v W=>by kernel_rfl
 have qletForm:∀(v:Value) (W:World),(Instr.typeAssert (.iface 130 v) 48 130 true).run Tryz.prog W=.ok (.tuple #[v,.bool true]) W:=fun v W=>by kernel_rfl
 rcases hb with rfl|rfl
 ·go_enter Tryz.func34,Tryz.ntmps34;go_wp2_with fail;refine(cN _).mono ?_;rintro e w5 ⟨rfl,b5⟩;have b0:Below w.heap.size w (w.alloc (.cells #[.string t,.int .i64 a,.int .i64 0] 130)):=(yg9 _ _).alloc (yf9 _) _;have HB:Hid (Below w.heap.size w w5):=b0.trans (b5.mono b0.size);have hB5:=(b5.block w.heap.size (by simp)).trans (heap_alloc_new w (.cells #[.string t,.int .i64 a,.int .i64 0] 130))
  have x2:=cell_of_row _ _ 2 _ _ _ hB5;clear b5 b0 hB5;go_wp2;go_returns;exact⟨rfl,HB.out⟩
 ·go_enter Tryz.func34,Tryz.ntmps34;go_wp2_with fail;refine(cN _).mono ?_;rintro e w5 ⟨rfl,b5⟩;have b0:Below w.heap.size w (w.alloc (.cells #[.string t,.int .i64 a,.int .i64 1] 130)):=(yg9 _ _).alloc (yf9 _) _;have HB:Hid (Below w.heap.size w w5):=b0.trans (b5.mono b0.size);have hB5:=(b5.block w.heap.size (by simp)).trans (heap_alloc_new w (.cells #[.string t,.int .i64 a,.int .i64 1] 130))
  have x2:=cell_of_row _ _ 2 _ _ _ hB5;clear b5 b0 hB5;go_wp2;go_returns;exact⟨rfl,HB.out⟩
theorem zex{w:World}(K a b c z:Int){la na:Option Addr}{m lc q nc:Nat}(t:ByteArray)(ht:z5S t):
  Calls Tryz.prog 34 #[.iface 132 (.agg #[.string t,.int .i64 a])] w fun e w'=>e=.returned (.bool true)/\Below w.heap.size w w':=by
 have cN:=fun W=>zek t W ht;clear ht;have qnumberForm:∀(v:Value) (W:World),(Instr.typeAssert (.iface 132 v) 48 89 true).run Tryz.prog W=.ok (.tuple #[.agg #[.int .u64 0],.bool false]) W:=fun v W=>by kernel_rfl
 have qtextForm:∀(v:Value) (W:World),(Instr.typeAssert (.iface 132 v) 48 92 true).run Tryz.prog W=.ok (.tuple #[.agg #[.string ⟨#[]⟩],.bool false]) W:=fun v W=>by kernel_rfl
 have qnameForm:∀(v:Value) (W:World),(Instr.typeAssert (.iface 132 v) 48 96 true).run Tryz.prog W=.ok (.tuple #[.agg #[.string ⟨#[]⟩],.bool false]) W:=fun v W=>by kernel_rfl
 have qbinaryForm:∀(v:Value) (W:World),(Instr.typeAssert (.iface 132 v) 48 100 true).run Tryz.prog W=.ok (.tuple #[.agg #[.int .i64 0,.int .i64 0,.int .i64 0],.bool false]) W:=fun v W=>by kernel_rfl
 have qfunForm:∀(v:Value) (W:World),(Instr.typeAssert (.iface 132 v) 48 106 true).run Tryz.prog W=.ok (.tuple #[.agg #[.slice none 0 0,.int .i64 0],.bool false]) W:=fun v W=>by kernel_rfl
 have qletForm:∀(v:Value) (W:World),(Instr.typeAssert (.iface 132 v) 48 130 true).run Tryz.prog W=.ok (.tuple #[.agg #[.string ⟨#[]⟩,.int .i64 0,.int .i64 0],.bool false]) W:=fun v W=>by kernel_rfl
 have qsetForm:∀(v:Value) (W:World),(Instr.typeAssert (.iface 132 v) 48 132 true).run Tryz.prog W=.ok (.tuple #[v,.bool true]) W:=fun v W=>by kernel_rfl
 go_enter Tryz.func34,Tryz.ntmps34;go_wp2_with fail;refine(cN _).mono ?_;rintro e w5 ⟨rfl,b5⟩;have HB:Hid (Below w.heap.size w w5):=by
  have b0:Below w.heap.size w (w.alloc (.cells #[.string t,.int .i64 a] 132)):=(yg9 _ _).alloc (yf9 _) _;exact b0.trans (b5.mono b0.size)
 clear b5;go_wp2;go_returns;exact⟨rfl,HB.out⟩
theorem zey{w:World}(K a b c z:Int){la na:Option Addr}{m lc q nc:Nat}(t:ByteArray) :
  Calls Tryz.prog 34 #[.iface 135 (.agg #[.int .i64 K,.int .i64 a])] w fun e w'=>e=.returned (.bool true)/\Below w.heap.size w w':=by
 have qnumberForm:∀(v:Value) (W:World),(Instr.typeAssert (.iface 135 v) 48 89 true).run Tryz.prog W=.ok (.tuple #[.agg #[.int .u64 0],.bool false]) W:=fun v W=>by kernel_rfl
 have qtextForm:∀(v:Value) (W:World),(Instr.typeAssert (.iface 135 v) 48 92 true).run Tryz.prog W=.ok (.tuple #[.agg #[.string ⟨#[]⟩],.bool false]) W:=fun v W=>by kernel_rfl
 have qnameForm:∀(v:Value) (W:World),(Instr.typeAssert (.iface 135 v) 48 96 true).run Tryz.prog W=.ok (.tuple #[.agg #[.string ⟨#[]⟩],.bool false]) W:=fun v W=>by kernel_rfl
 have qbinaryForm:∀(v:Value) (W:World),(Instr.typeAssert (.iface 135 v) 48 100 true).run Tryz.prog W=.ok (.tuple #[.agg #[.int .i64 0,.int .i64 0,.int .i64 0],.bool false]) W:=fun v W=>by kernel_rfl
 have qfunForm:∀(v:Value) (W:World),(Instr.typeAssert (.iface 135 v) 48 106 true).run Tryz.prog W=.ok (.tuple #[.agg #[.slice none 0 0,.int .i64 0],.bool false]) W:=fun v W=>by kernel_rfl
 have qletForm:∀(v:Value) (W:World),(Instr.typeAssert (.iface 135 v) 48 130 true).run Tryz.prog W=.ok (.tuple #[.agg #[.string ⟨#[]⟩,.int .i64 0,.int .i64 0],.bool false]) W:=fun v W=>by kernel_rfl
 have qsetForm:∀(v:Value) (W:World),(Instr.typeAssert (.iface 135 v) 48 132 true).run Tryz.prog W=.ok (.tuple #[.agg #[.string ⟨#[]⟩,.int .i64 0],.bool false]) W:=fun v W=>by kernel_rfl
 have qtryForm:∀(v:Value) (W:World),(Instr.typeAssert (.iface 135 v) 48 134 true).run Tryz.prog W=.ok (.tuple #[.agg #[.string ⟨#[]⟩,.int .i64 0,.int .i64 0],.bool false]) W:=fun v W=>by kernel_rfl
 go_enter Tryz.func34,Tryz.ntmps34;go_wp2;go_returns;exact⟨by first|rfl|(rw[hd];rfl)|(simp only[hd];rfl)|(simp only[hd1,hd2];rfl),by go_grown⟩
theorem zez{w:World}(K a b c z:Int){la na:Option Addr}{m lc q nc:Nat}(t:ByteArray) :
  Calls Tryz.prog 34 #[.iface 137 (.agg #[.int .i64 a,.int .i64 b,.int .i64 c])] w fun e w'=>e=.returned (.bool true)/\Below w.heap.size w w':=by
 have qnumberForm:∀(v:Value) (W:World),(Instr.typeAssert (.iface 137 v) 48 89 true).run Tryz.prog W=.ok (.tuple #[.agg #[.int .u64 0],.bool false]) W:=fun v W=>by kernel_rfl
 have qtextForm:∀(v:Value) (W:World),(Instr.typeAssert (.iface 137 v) 48 92 true).run Tryz.prog W=.ok (.tuple #[.agg #[.string ⟨#[]⟩],.bool false]) W:=fun v W=>by kernel_rfl
 have qnameForm:∀(v:Value) (W:World),(Instr.typeAssert (.iface 137 v) 48 96 true).run Tryz.prog W=.ok (.tuple #[.agg #[.string ⟨#[]⟩],.bool false]) W:=fun v W=>by kernel_rfl
 have qbinaryForm:∀(v:Value) (W:World),(Instr.typeAssert (.iface 137 v) 48 100 true).run Tryz.prog W=.ok (.tuple #[.agg #[.int .i64 0,.int .i64 0,.int .i64 0],.bool false]) W:=fun v W=>by kernel_rfl
 have qfunForm:∀(v:Value) (W:World),(Instr.typeAssert (.iface 137 v) 48 106 true).run Tryz.prog W=.ok (.tuple #[.agg #[.slice none 0 0,.int .i64 0],.bool false]) W:=fun v W=>by kernel_rfl
 have qletForm:∀(v:Value) (W:World),(Instr.typeAssert (.iface 137 v) 48 130 true).run Tryz.prog W=.ok (.tuple #[.agg #[.string ⟨#[]⟩,.int .i64 0,.int .i64 0],.bool false]) W:=fun v W=>by kernel_rfl
 have qsetForm:∀(v:Value) (W:World),(Instr.typeAssert (.iface 137 v) 48 132 true).run Tryz.prog W=.ok (.tuple #[.agg #[.string ⟨#[]⟩,.int .i64 0],.bool false]) W:=fun v W=>by kernel_rfl
 have qtryForm:∀(v:Value) (W:World),(Instr.typeAssert (.iface 137 v) 48 134 true).run Tryz.prog W=.ok (.tuple #[.agg #[.string ⟨#[]⟩,.int .i64 0,.int .i64 0],.bool false]) W:=fun v W=>by kernel_rfl
 go_enter Tryz.func34,Tryz.ntmps34;go_wp2;go_returns;exact⟨by first|rfl|(rw[hd];rfl)|(simp only[hd];rfl)|(simp only[hd1,hd2];rfl),by go_grown⟩
theorem zeA{w:World}(K a b c z:Int){la na:Option Addr}{m lc q nc:Nat}(t:ByteArray) :
  Calls Tryz.prog 34 #[.iface 139 (.agg #[.int .i64 a,.int .i64 b])] w fun e w'=>e=.returned (.bool true)/\Below w.heap.size w w':=by
 have qnumberForm:∀(v:Value) (W:World),(Instr.typeAssert (.iface 139 v) 48 89 true).run Tryz.prog W=.ok (.tuple #[.agg #[.int .u64 0],.bool false]) W:=fun v W=>by kernel_rfl
 have qtextForm:∀(v:Value) (W:World),(Instr.typeAssert (.iface 139 v) 48 92 true).run Tryz.prog W=.ok (.tuple #[.agg #[.string ⟨#[]⟩],.bool false]) W:=fun v W=>by kernel_rfl
 have qnameForm:∀(v:Value) (W:World),(Instr.typeAssert (.iface 139 v) 48 96 true).run Tryz.prog W=.ok (.tuple #[.agg #[.string ⟨#[]⟩],.bool false]) W:=fun v W=>by kernel_rfl
 have qbinaryForm:∀(v:Value) (W:World),(Instr.typeAssert (.iface 139 v) 48 100 true).run Tryz.prog W=.ok (.tuple #[.agg #[.int .i64 0,.int .i64 0,.int .i64 0],.bool false]) W:=fun v W=>by kernel_rfl
 have qfunForm:∀(v:Value) (W:World),(Instr.typeAssert (.iface 139 v) 48 106 true).run Tryz.prog W=.ok (.tuple #[.agg #[.slice none 0 0,.int .i64 0],.bool false]) W:=fun v W=>by kernel_rfl
 have qletForm:∀(v:Value) (W:World),(Instr.typeAssert (.iface 139 v) 48 130 true).run Tryz.prog W=.ok (.tuple #[.agg #[.string ⟨#[]⟩,.int .i64 0,.int .i64 0],.bool false]) W:=fun v W=>by kernel_rfl
 have qsetForm:∀(v:Value) (W:World),(Instr.typeAssert (.iface 139 v) 48 132 true).run Tryz.prog W=.ok (.tuple #[.agg #[.string ⟨#[]⟩,.int .i64 0],.bool false]) W:=fun v W=>by kernel_rfl
 have qtryForm:∀(v:Value) (W:World),(Instr.typeAssert (.iface 139 v) 48 134 true).run Tryz.prog W=.ok (.tuple #[.agg #[.string ⟨#[]⟩,.int .i64 0,.int .i64 0],.bool false]) W:=fun v W=>by kernel_rfl
 go_enter Tryz.func34,Tryz.ntmps34;go_wp2;go_returns;exact⟨by first|rfl|(rw[hd];rfl)|(simp only[hd];rfl)|(simp only[hd1,hd2];rfl),by go_grown⟩
theorem zeB{w:World}(K a b c z:Int){la na:Option Addr}{m lc q nc:Nat}(t:ByteArray)(ht:z5S t):
  Calls Tryz.prog 34 #[.iface 134 (.agg #[.string t,.int .i64 a,.int .i64 b])] w fun e w'=>e=.returned (.bool true)/\Below w.heap.size w w':=by
 have cN:=fun W=>zek t W ht;clear ht;have qnumberForm:∀(v:Value) (W:World),(Instr.typeAssert (.iface 134 v) 48 89 true).run Tryz.prog W=.ok (.tuple #[.agg #[.int .u64 0],.bool false]) W:=fun v W=>by kernel_rfl
 have qtextForm:∀(v:Value) (W:World),(Instr.typeAssert (.iface 134 v) 48 92 true).run Tryz.prog W=.ok (.tuple #[.agg #[.string ⟨#[]⟩],.bool false]) W:=fun v W=>by kernel_rfl
 have qnameForm:∀(v:Value) (W:World),(Instr.typeAssert (.iface 134 v) 48 96 true).run Tryz.prog W=.ok (.tuple #[.agg #[.string ⟨#[]⟩],.bool false]) W:=fun v W=>by kernel_rfl
 have qbinaryForm:∀(v:Value) (W:World),(Instr.typeAssert (.iface 134 v) 48 100 true).run Tryz.prog W=.ok (.tuple #[.agg #[.int .i64 0,.int .i64 0,.int .i64 0],.bool false]) W:=fun v W=>by kernel_rfl
 have qfunForm:∀(v:Value) (W:World),(Instr.typeAssert (.iface 134 v) 48 106 true).run Tryz.prog W=.ok (.tuple #[.agg #[.slice none 0 0,.int .i64 0],.bool false]) W:=fun v W=>by kernel_rfl
 have qletForm:∀(v:Value) (W:World),(Instr.typeAssert (.iface 134 v) 48 130 true).run Tryz.prog W=.ok (.tuple #[.agg #[.string ⟨#[]⟩,.int .i64 0,.int .i64 0],.bool false]) W:=fun v W=>by kernel_rfl
 have qsetForm:∀(v:Value) (W:World),(Instr.typeAssert (.iface 134 v) 48 132 true).run Tryz.prog W=.ok (.tuple #[.agg #[.string ⟨#[]⟩,.int .i64 0],.bool false]) W:=fun v W=>by kernel_rfl
 have qtryForm:∀(v:Value) (W:World),(Instr.typeAssert (.iface 134 v) 48 134 true).run Tryz.prog W=.ok (.tuple #[v,.bool true]) W:=fun v W=>by kernel_rfl
 go_enter Tryz.func34,Tryz.ntmps34;go_wp2_with fail;refine(cN _).mono ?_;rintro e w5 ⟨rfl,b5⟩;have HB:Hid (Below w.heap.size w w5):=by
  have b0:Below w.heap.size w (w.alloc (.cells #[.string t,.int .i64 a,.int .i64 b] 134)):=(yg9 _ _).alloc (yf9 _) _;exact b0.trans (b5.mono b0.size)
 clear b5;go_wp2;go_returns;exact⟨rfl,HB.out⟩
theorem zeC{w:World}(K a b c z:Int){la na:Option Addr}{m lc q nc:Nat}(t:ByteArray) :
  Calls Tryz.prog 34 #[.iface 141 (.agg #[.slice la m lc])] w fun e w'=>e=.returned (.bool true)/\Below w.heap.size w w':=by
 have qnumberForm:∀(v:Value) (W:World),(Instr.typeAssert (.iface 141 v) 48 89 true).run Tryz.prog W=.ok (.tuple #[.agg #[.int .u64 0],.bool false]) W:=fun v W=>by kernel_rfl
 have qtextForm:∀(v:Value) (W:World),(Instr.typeAssert (.iface 141 v) 48 92 true).run Tryz.prog W=.ok (.tuple #[.agg #[.string ⟨#[]⟩],.bool false]) W:=fun v W=>by kernel_rfl
 have qnameForm:∀(v:Value) (W:World),(Instr.typeAssert (.iface 141 v) 48 96 true).run Tryz.prog W=.ok (.tuple #[.agg #[.string ⟨#[]⟩],.bool false]) W:=fun v W=>by kernel_rfl
 have qbinaryForm:∀(v:Value) (W:World),(Instr.typeAssert (.iface 141 v) 48 100 true).run Tryz.prog W=.ok (.tuple #[.agg #[.int .i64 0,.int .i64 0,.int .i64 0],.bool false]) W:=fun v W=>by kernel_rfl
 have qfunForm:∀(v:Value) (W:World),(Instr.typeAssert (.iface 141 v) 48 106 true).run Tryz.prog W=.ok (.tuple #[.agg #[.slice none 0 0,.int .i64 0],.bool false]) W:=fun v W=>by kernel_rfl
 have qletForm:∀(v:Value) (W:World),(Instr.typeAssert (.iface 141 v) 48 130 true).run Tryz.prog W=.ok (.tuple #[.agg #[.string ⟨#[]⟩,.int .i64 0,.int .i64 0],.bool false]) W:=fun v W=>by kernel_rfl
 have qsetForm:∀(v:Value) (W:World),(Instr.typeAssert (.iface 141 v) 48 132 true).run Tryz.prog W=.ok (.tuple #[.agg #[.string ⟨#[]⟩,.int .i64 0],.bool false]) W:=fun v W=>by kernel_rfl
 have qtryForm:∀(v:Value) (W:World),(Instr.typeAssert (.iface 141 v) 48 134 true).run Tryz.prog W=.ok (.tuple #[.agg #[.string ⟨#[]⟩,.int .i64 0,.int .i64 0],.bool false]) W:=fun v W=>by kernel_rfl
 go_enter Tryz.func34,Tryz.ntmps34;go_wp2;go_returns;exact⟨by first|rfl|(rw[hd];rfl)|(simp only[hd];rfl)|(simp only[hd1,hd2];rfl),by go_grown⟩
def zeD(T:TypeId)(v:Value)(fw fp:FuncId):Prop:=
 (∃(z:Int),T=89/\v=.agg #[.int .u64 z]/\fw=138/\fp=137)
 \/ (∃(t:ByteArray),T=92/\v=.agg #[.string t]/\fw=140/\fp=139)
 \/ (∃(K:Int),T=94/\v=.agg #[.int .i64 K]/\fw=142/\fp=141)
 \/ (∃(t:ByteArray),T=96/\v=.agg #[.string t]/\fw=144/\fp=143)
 \/ (∃(K a:Int),T=98/\v=.agg #[.int .i64 K,.int .i64 a]/\fw=146/\fp=145)
 \/ (∃(c a b:Int),T=100/\v=.agg #[.int .i64 c,.int .i64 a,.int .i64 b]/\fw=148/\fp=147)
 \/ (∃(K a b:Int),T=102/\v=.agg #[.int .i64 K,.int .i64 a,.int .i64 b]/\fw=150/\fp=149)
 \/ (∃(a:Int) (la:Option Addr) (m lc:Nat),T=104/\v=.agg #[.int .i64 a,.slice la m lc]/\fw=152/\fp=151)
 \/ (∃(a:Int) (la:Option Addr) (m lc:Nat),T=106/\v=.agg #[.slice la m lc,.int .i64 a]/\fw=155/\fp=154)
 \/ (∃(t:ByteArray) (a b:Int),T=130/\v=.agg #[.string t,.int .i64 a,.int .i64 b]/\fw=158/\fp=157)
 \/ (∃(t:ByteArray) (a:Int),T=132/\v=.agg #[.string t,.int .i64 a]/\fw=160/\fp=159)
 \/ (∃(K a:Int),T=135/\v=.agg #[.int .i64 K,.int .i64 a]/\fw=164/\fp=163)
 \/ (∃(a b c:Int),T=137/\v=.agg #[.int .i64 a,.int .i64 b,.int .i64 c]/\fw=166/\fp=165)
 \/ (∃(a b:Int),T=139/\v=.agg #[.int .i64 a,.int .i64 b]/\fw=168/\fp=167)
 \/ (∃(t:ByteArray) (a b:Int),T=134/\v=.agg #[.string t,.int .i64 a,.int .i64 b]/\fw=162/\fp=161)
 \/ (∃(la:Option Addr) (m lc:Nat),T=141/\v=.agg #[.slice la m lc]/\fw=170/\fp=169)
theorem zeE(z:Int):zeD 89 (.agg #[.int .u64 z]) 138 137:=.inl ⟨z,rfl,rfl,rfl,rfl⟩
theorem zeF(t:ByteArray):zeD 92 (.agg #[.string t]) 140 139:=.inr (.inl ⟨t,rfl,rfl,rfl,rfl⟩)
theorem zeG(K:Int):zeD 94 (.agg #[.int .i64 K]) 142 141:=.inr (.inr (.inl ⟨K,rfl,rfl,rfl,rfl⟩))
theorem zeH(t:ByteArray):zeD 96 (.agg #[.string t]) 144 143:=.inr (.inr (.inr (.inl ⟨t,rfl,rfl,rfl,rfl⟩)))
theorem zeI(K a:Int):zeD 98 (.agg #[.int .i64 K,.int .i64 a]) 146 145:=.inr (.inr (.inr (.inr (.inl ⟨K,a,rfl,rfl,rfl,rfl⟩))))
theorem zeJ(c a b:Int):zeD 100 (.agg #[.int .i64 c,.int .i64 a,.int .i64 b]) 148 147:=.inr (.inr (.inr (.inr (.inr (.inl ⟨c,a,b,rfl,rfl,rfl,rfl⟩)))))
theorem zeK(K a b:Int):zeD 102 (.agg #[.int .i64 K,.int .i64 a,.int .i64 b]) 150 149:=.inr (.inr (.inr (.inr (.inr (.inr (.inl ⟨K,a,b,rfl,rfl,rfl,rfl⟩))))))
theorem zeL(a:Int)(la:Option Addr)(m lc:Nat):zeD 104 (.agg #[.int .i64 a,.slice la m lc]) 152 151:=.inr (.inr (.inr (.inr (.inr (.inr (.inr (.inl ⟨a,la,m,lc,rfl,rfl,rfl,rfl⟩)))))))
theorem zeM(a:Int)(la:Option Addr)(m lc:Nat):zeD 106 (.agg #[.slice la m lc,.int .i64 a]) 155 154:=.inr (.inr (.inr (.inr (.inr (.inr (.inr (.inr (.inl ⟨a,la,m,lc,rfl,rfl,rfl,rfl⟩))))))))
theorem zeN(t:ByteArray)(a b:Int):zeD 130 (.agg #[.string t,.int .i64 a,.int .i64 b]) 158 157:=.inr (.inr (.inr (.inr (.inr (.inr (.inr (.inr (.inr (.inl ⟨t,a,b,rfl,rfl,rfl,rfl⟩)))))))))
theorem zeO(t:ByteArray)(a:Int):zeD 132 (.agg #[.string t,.int .i64 a]) 160 159:=.inr (.inr (.inr (.inr (.inr (.inr (.inr (.inr (.inr (.inr (.inl ⟨t,a,rfl,rfl,rfl,rfl⟩))))))))))
theorem zeP(K a:Int):zeD 135 (.agg #[.int .i64 K,.int .i64 a]) 164 163:=.inr (.inr (.inr (.inr (.inr (.inr (.inr (.inr (.inr (.inr (.inr (.inl ⟨K,a,rfl,rfl,rfl,rfl⟩)))))))))))
theorem zeQ(a b c:Int):zeD 137 (.agg #[.int .i64 a,.int .i64 b,.int .i64 c]) 166 165:=.inr (.inr (.inr (.inr (.inr (.inr (.inr (.inr (.inr (.inr (.inr (.inr (.inl ⟨a,b,c,rfl,rfl,rfl,rfl⟩))))))))))))
theorem zeR(a b:Int):zeD 139 (.agg #[.int .i64 a,.int .i64 b]) 168 167:=.inr (.inr (.inr (.inr (.inr (.inr (.inr (.inr (.inr (.inr (.inr (.inr (.inr (.inl ⟨a,b,rfl,rfl,rfl,rfl⟩)))))))))))))
theorem zeS(t:ByteArray)(a b:Int):zeD 134 (.agg #[.string t,.int .i64 a,.int .i64 b]) 162 161:=.inr (.inr (.inr (.inr (.inr (.inr (.inr (.inr (.inr (.inr (.inr (.inr (.inr (.inr (.inl ⟨t,a,b,rfl,rfl,rfl,rfl⟩))))))))))))))
theorem zeT(la:Option Addr)(m lc:Nat):zeD 141 (.agg #[.slice la m lc]) 170 169:=.inr (.inr (.inr (.inr (.inr (.inr (.inr (.inr (.inr (.inr (.inr (.inr (.inr (.inr (.inr (⟨la,m,lc,rfl,rfl,rfl,rfl⟩)))))))))))))))
theorem zeU{w:World}(k a b c z pos:Int){la na:Option Addr}{m lc q nc:Nat}{T:TypeId}{v:Value}{fw fp:FuncId}(hform:zeD T v fw fp)
  (cF:∀ W,Below w.heap.size w W->Calls Tryz.prog 19 #[.agg #[.int .i64 k,.int .i64 a,.int .i64 b,.int .i64 c,.slice la m lc,.slice na q nc,.int .u64 z,.int .i64 pos]] W fun e w'=>e=.returned (.iface T v)/\Below W.heap.size W w')
  (cW:∀ W,Below w.heap.size w W->Calls Tryz.prog fw #[v] W fun e w'=>∃ wv,e=.returned wv/\(∀ W2,Below w'.heap.size w' W2->Calls Tryz.prog 18 #[wv,.agg #[.int .i64 k,.int .i64 a,.int .i64 b,.int .i64 c,.slice la m lc,.slice na q nc,.int .u64 z,.int .i64 pos]] W2 fun e w3=>e=.returned (.bool true)/\Below W2.heap.size W2 w3)/\Below W.heap.size W w')
  (cH:∀ W,Below w.heap.size w W->Calls Tryz.prog 34 #[.iface T v] W fun e w'=>e=.returned (.bool true)/\Below W.heap.size W w')
  (hp0:0<=pos) (hp1:pos<=600):
  Calls Tryz.prog 15 #[.agg #[.int .i64 k,.int .i64 a,.int .i64 b,.int .i64 c,.slice la m lc,.slice na q nc,.int .u64 z,.int .i64 pos]] w fun e w'=>e=.returned (.bool true)/\Below w.heap.size w w':=by
 have b0:Below w.heap.size w (w.alloc (.cells #[.int .i64 k,.int .i64 a,.int .i64 b,.int .i64 c,.slice la m lc,.slice na q nc,.int .u64 z,.int .i64 pos] 34)):=(yg9 _ _).alloc (yf9 _) _;have hB:=heap_alloc_new w (.cells #[.int .i64 k,.int .i64 a,.int .i64 b,.int .i64 c,.slice la m lc,.slice na q nc,.int .u64 z,.int .i64 pos] 34);have hd0:decide (0<=pos)=true:=yb9 hp0;have hd1:decide (pos<=600)=true:=yb9 hp1;obtain⟨X,hX⟩:∃ X,w.heap.size=X:=⟨_,rfl⟩;obtain⟨W0,hW0⟩:∃ W,w.alloc (.cells #[.int .i64 k,.int .i64 a,.int .i64 b,.int .i64 c,.slice la m lc,.slice na q nc,.int .u64 z,.int .i64 pos] 34)=W:=⟨_,rfl⟩;rw[hW0]at b0 hB;rw[hX]at hB;obtain⟨x0,x1,x2,x3,x4,x5,x6,x7⟩:=z8C hB;have HB0:Hid (Below w.heap.size w W0/\W0.heap[X]?=some (.cells #[.int .i64 k,.int .i64 a,.int .i64 b,.int .i64 c,.slice la m lc,.slice na q nc,.int .u64 z,.int .i64 pos] 34)):=⟨b0,hB⟩;go_enter Tryz.func15,Tryz.ntmps15;go_upto_region 1 with fail;try simp only[hW0,hX]
 clear hW0;go_wp2_with fail;refine(cF _ HB0.out.1).mono ?_;rintro e w1 ⟨rfl,b1⟩;have hB1:=(b1.block X (lt_of_block hB)).trans hB;clear x0 x1 x2 x3 x4 x5 x6 x7 hB b0;obtain⟨x0,x1,x2,x3,x4,x5,x6,x7⟩:=z8C hB1;have HB1:Hid (Below w.heap.size w w1):=HB0.out.1.trans (b1.mono HB0.out.1.size);have HK:Hid (∀ W,Below w1.heap.size w1 W->W.cell? ⟨X,0,none⟩=some (.int .i64 k)/\W.cell? ⟨X,1,none⟩=some (.int .i64 a)/\W.cell? ⟨X,2,none⟩=some (.int .i64 b)/\W.cell? ⟨X,3,none⟩=some (.int .i64 c)/\W.cell? ⟨X,4,none⟩=some (.slice la m lc)/\W.cell? ⟨X,5,none⟩=some (.slice na q nc)/\W.cell? ⟨X,6,none⟩=some (.int .u64 z)/\W.cell? ⟨X,7,none⟩=some (.int .i64 pos)):=fun W hW=>by
  have:=(hW.block X (lt_of_block hB1)).trans hB1;exact z8C this
 have HD:Hid (∀ W,Below w1.heap.size w1 W->Below w.heap.size w W):=fun W h=>HB1.out.trans (h.mono HB1.out.size);have cW1:∀ W,Below w1.heap.size w1 W->Calls Tryz.prog fw #[v] W fun e w'=>∃ wv,e=.returned wv/\(∀ W2,Below w'.heap.size w' W2->Calls Tryz.prog 18 #[wv,.agg #[.int .i64 k,.int .i64 a,.int .i64 b,.int .i64 c,.slice la m lc,.slice na q nc,.int .u64 z,.int .i64 pos]] W2 fun e w3=>e=.returned (.bool true)/\Below w1.heap.size w1 w3)/\Below w1.heap.size w1 w':=fun W hW=>(cW W (HD.out W hW)).mono (fun e w' h=>by
  obtain⟨wv,e1,hS,hb⟩:=h;have hb':=hW.trans (hb.mono hW.size);exact⟨wv,e1,fun W2 h2=>(hS W2 h2).mono (fun e w3 h3=>⟨h3.1,(hb'.trans (h2.mono hb'.size)).trans (h3.2.mono (yi9 hb'.size h2.size))⟩),hb'⟩)
 have cH1:∀ W,Below w1.heap.size w1 W->Calls Tryz.prog 34 #[.iface T v] W fun e w'=>e=.returned (.bool true)/\Below w1.heap.size w1 w':=fun W hW=>(cH W (HD.out W hW)).mono (fun e w' h=>⟨h.1,hW.trans (h.2.mono hW.size)⟩);clear b1 hB1 cW cH cF;go_upto_region 2 with fail;rcases hform with ⟨_,rfl,rfl,rfl,rfl⟩|⟨_,rfl,rfl,rfl,rfl⟩|⟨_,rfl,rfl,rfl,rfl⟩|⟨_,rfl,rfl,rfl,rfl⟩|⟨_,_,rfl,rfl,rfl,rfl⟩|⟨_,_,_,rfl,rfl,rfl,rfl⟩|⟨_,_,_,rfl,rfl,rfl,rfl⟩|⟨_,_,_,_,rfl,rfl,rfl,rfl⟩|⟨_,_,_,_,rfl,rfl,rfl,rfl⟩|⟨_,_,_,rfl,rfl,rfl,rfl⟩|⟨_,_,rfl,rfl,rfl,rfl⟩|⟨_,_,rfl,rfl,rfl,rfl⟩|⟨_,_,_,rfl,rfl,rfl,rfl⟩|⟨_,_,rfl,rfl,rfl,rfl⟩|⟨_,_,_,rfl,rfl,rfl,rfl⟩|⟨_,_,_,rfl,rfl,rfl,rfl⟩;all_goals
  go_region_held3 (fun W=>W.cell? ⟨X,0,none⟩=some (.int .i64 k)/\W.cell? ⟨X,1,none⟩=some (.int .i64 a)/\W.cell? ⟨X,2,none⟩=some (.int .i64 b)/\W.cell? ⟨X,3,none⟩=some (.int .i64 c)/\W.cell? ⟨X,4,none⟩=some (.slice la m lc)/\W.cell? ⟨X,5,none⟩=some (.slice na q nc)/\W.cell? ⟨X,6,none⟩=some (.int .u64 z)/\W.cell? ⟨X,7,none⟩=some (.int .i64 pos)) (first|exact HK.out _ (by first|with_reducible exact(yg9 _ _).drew|with_reducible exact HB4.out|with_reducible exact HB3.out|with_reducible exact HB2.out)|go_keep) (first
  | (go_at_call 18;refine(cS _ (by first|with_reducible exact(yg9 _ _).drew|with_reducible exact(yg9 _ _))).mono ?_;rintro e w3 ⟨rfl,b3⟩;have HB3:Hid (Below w1.heap.size w1 w3):=b3;clear b3)
  | (go_at_call 34;refine(cH1 _ (by first|with_reducible exact HB3.out.drew|with_reducible exact HB3.out)).mono ?_;rintro e w4 ⟨rfl,b4⟩;have HB4:Hid (Below w1.heap.size w1 w4):=b4;clear b4)
  | (refine(cW1 _ (by first|with_reducible exact(yg9 _ _).drew|with_reducible exact(yg9 _ _))).mono ?_;rintro e w2 ⟨wv,rfl,cS,b2⟩;have HB2:Hid (Below w1.heap.size w1 w2):=b2;clear b2))
  all_goals
   go_wp2;go_returns;exact⟨rfl,HD.out _ HB4.out⟩
