/- Part 50. -/
import Derived.Test.YtdbekjiognpgnaaGreatPbw
import Derived.Deep.OwnRows
set_option maxHeartbeats 16000000
set_option maxRecDepth 100000
set_option linter.unusedVariables false
namespace Go.Proofs.YtdbekjiognpgnaaGreat
open Go.RowKit Go.Sort
theorem zg9{w:World}(K a b c z:Int){la na:Option Addr}{m lc q nc:Nat}(t:ByteArray):
  Calls Tryz.prog 137 #[.agg #[.int .u64 z]] w fun e w'=>∃ v,e=.returned v/\zg6 w.heap.size v [] w'/\Below w.heap.size w w':=by
 go_enter Tryz.func137,Tryz.ntmps137;go_wp2;go_returns;exact⟨_,rfl,⟨[],zfz _ _ _,zg3⟩,by go_grown⟩
theorem zga{w:World}(K a b c z:Int){la na:Option Addr}{m lc q nc:Nat}(t:ByteArray):
  Calls Tryz.prog 139 #[.agg #[.string t]] w fun e w'=>∃ v,e=.returned v/\zg6 w.heap.size v [] w'/\Below w.heap.size w w':=by
 go_enter Tryz.func139,Tryz.ntmps139;go_wp2;go_returns;exact⟨_,rfl,⟨[],zfz _ _ _,zg3⟩,by go_grown⟩
theorem zgb{w:World}(K a b c z:Int){la na:Option Addr}{m lc q nc:Nat}(t:ByteArray):
  Calls Tryz.prog 141 #[.agg #[.int .i64 K]] w fun e w'=>∃ v,e=.returned v/\zg6 w.heap.size v [] w'/\Below w.heap.size w w':=by
 go_enter Tryz.func141,Tryz.ntmps141;go_wp2;go_returns;exact⟨_,rfl,⟨[],zfz _ _ _,zg3⟩,by go_grown⟩
theorem zgc{w:World}(K a b c z:Int){la na:Option Addr}{m lc q nc:Nat}(t:ByteArray):
  Calls Tryz.prog 143 #[.agg #[.string t]] w fun e w'=>∃ v,e=.returned v/\zg6 w.heap.size v [] w'/\Below w.heap.size w w':=by
 go_enter Tryz.func143,Tryz.ntmps143;go_wp2;go_returns;exact⟨_,rfl,⟨[],zfz _ _ _,zg3⟩,by go_grown⟩
theorem zgd{w:World}(K a b c z:Int){la na:Option Addr}{m lc q nc:Nat}(t:ByteArray):
  Calls Tryz.prog 145 #[.agg #[.int .i64 K,.int .i64 a]] w fun e w'=>∃ v,e=.returned v/\zg6 w.heap.size v [(a,0)] w'/\Below w.heap.size w w':=by
 go_enter Tryz.func145,Tryz.ntmps145;go_wp2;go_returns;exact⟨_,rfl,zg7 (cs:=[.int .i64 a,.int .i64 0]) (ps:=[(a,0)]) (z8I w _ _).2.1 (by omega) rfl (by unfold maxLen;simp) (zg4 a 0),by go_grown⟩
theorem zge{w:World}(K a b c z:Int){la na:Option Addr}{m lc q nc:Nat}(t:ByteArray):
  Calls Tryz.prog 147 #[.agg #[.int .i64 c,.int .i64 a,.int .i64 b]] w fun e w'=>∃ v,e=.returned v/\zg6 w.heap.size v [(a,0),(b,0)] w'/\Below w.heap.size w w':=by
 go_enter Tryz.func147,Tryz.ntmps147;go_wp2;go_returns;exact⟨_,rfl,zg7 (cs:=[.int .i64 a,.int .i64 0,.int .i64 b,.int .i64 0]) (ps:=[(a,0),(b,0)]) (z8I w _ _).2.1 (by omega) rfl (by unfold maxLen;simp) (zg5 a 0 b 0),by go_grown⟩
theorem zgf{w:World}(K a b c z:Int){la na:Option Addr}{m lc q nc:Nat}(t:ByteArray):
  Calls Tryz.prog 149 #[.agg #[.int .i64 K,.int .i64 a,.int .i64 b]] w fun e w'=>∃ v,e=.returned v/\zg6 w.heap.size v [(a,0),(b,0)] w'/\Below w.heap.size w w':=by
 go_enter Tryz.func149,Tryz.ntmps149;go_wp2;go_returns;exact⟨_,rfl,zg7 (cs:=[.int .i64 a,.int .i64 0,.int .i64 b,.int .i64 0]) (ps:=[(a,0),(b,0)]) (z8I w _ _).2.1 (by omega) rfl (by unfold maxLen;simp) (zg5 a 0 b 0),by go_grown⟩
theorem zgg{w:World}(K a b c z:Int){la na:Option Addr}{m lc q nc:Nat}(t:ByteArray):
  Calls Tryz.prog 154 #[.agg #[.slice na q nc,.int .i64 a]] w fun e w'=>∃ v,e=.returned v/\zg6 w.heap.size v [(a,1)] w'/\Below w.heap.size w w':=by
 go_enter Tryz.func154,Tryz.ntmps154;go_wp2;go_returns;exact⟨_,rfl,zg7 (cs:=[.int .i64 a,.int .i64 1]) (ps:=[(a,1)]) (z8I w _ _).2.1 (by omega) rfl (by unfold maxLen;simp) (zg4 a 1),by go_grown⟩
theorem zgh{w:World}(K a b c z:Int){la na:Option Addr}{m lc q nc:Nat}(t:ByteArray):
  Calls Tryz.prog 159 #[.agg #[.string t,.int .i64 a]] w fun e w'=>∃ v,e=.returned v/\zg6 w.heap.size v [(a,0)] w'/\Below w.heap.size w w':=by
 go_enter Tryz.func159,Tryz.ntmps159;go_wp2;go_returns;exact⟨_,rfl,zg7 (cs:=[.int .i64 a,.int .i64 0]) (ps:=[(a,0)]) (z8I w _ _).2.1 (by omega) rfl (by unfold maxLen;simp) (zg4 a 0),by go_grown⟩
theorem zgi{w:World}(K a b c z:Int){la na:Option Addr}{m lc q nc:Nat}(t:ByteArray):
  Calls Tryz.prog 163 #[.agg #[.int .i64 K,.int .i64 a]] w fun e w'=>∃ v,e=.returned v/\zg6 w.heap.size v [(a,0)] w'/\Below w.heap.size w w':=by
 go_enter Tryz.func163,Tryz.ntmps163;go_wp2;go_returns;exact⟨_,rfl,zg7 (cs:=[.int .i64 a,.int .i64 0]) (ps:=[(a,0)]) (z8I w _ _).2.1 (by omega) rfl (by unfold maxLen;simp) (zg4 a 0),by go_grown⟩
theorem zgj{w:World}(K a b c z:Int){la na:Option Addr}{m lc q nc:Nat}(t:ByteArray):
  Calls Tryz.prog 167 #[.agg #[.int .i64 a,.int .i64 b]] w fun e w'=>∃ v,e=.returned v/\zg6 w.heap.size v [(a,0),(b,1)] w'/\Below w.heap.size w w':=by
 go_enter Tryz.func167,Tryz.ntmps167;go_wp2;go_returns;exact⟨_,rfl,zg7 (cs:=[.int .i64 a,.int .i64 0,.int .i64 b,.int .i64 1]) (ps:=[(a,0),(b,1)]) (z8I w _ _).2.1 (by omega) rfl (by unfold maxLen;simp) (zg5 a 0 b 1),by go_grown⟩
theorem zgk{w:World}(K a b c z:Int){la na:Option Addr}{m lc q nc:Nat}(t:ByteArray):
  Calls Tryz.prog 161 #[.agg #[.string t,.int .i64 a,.int .i64 b]] w fun e w'=>∃ v,e=.returned v/\zg6 w.heap.size v [(a,1),(b,1)] w'/\Below w.heap.size w w':=by
 go_enter Tryz.func161,Tryz.ntmps161;go_wp2;go_returns;exact⟨_,rfl,zg7 (cs:=[.int .i64 a,.int .i64 1,.int .i64 b,.int .i64 1]) (ps:=[(a,1),(b,1)]) (z8I w _ _).2.1 (by omega) rfl (by unfold maxLen;simp) (zg5 a 1 b 1),by go_grown⟩
theorem zgl{w:World}(a:Int)(t:ByteArray):
  Calls Tryz.prog 157 #[.agg #[.string t,.int .i64 a,.int .i64 0]] w fun e w'=>∃ v,e=.returned v/\zg6 w.heap.size v [(a,0)] w'/\Below w.heap.size w w':=by
 go_enter Tryz.func157,Tryz.ntmps157;go_wp2;go_returns;exact⟨_,rfl,zg7 (cs:=[.int .i64 a,.int .i64 0]) (ps:=[(a,0)]) (z8I w _ _).2.1 (by omega) rfl (by unfold maxLen;simp) (zg4 a 0),by go_grown⟩
theorem zgm{w:World}(a:Int)(t:ByteArray):
  Calls Tryz.prog 157 #[.agg #[.string t,.int .i64 a,.int .i64 1]] w fun e w'=>∃ v,e=.returned v/\zg6 w.heap.size v [(a,4)] w'/\Below w.heap.size w w':=by
 go_enter Tryz.func157,Tryz.ntmps157;go_wp2;go_returns;exact⟨_,rfl,zg7 (cs:=[.int .i64 a,.int .i64 4]) (ps:=[(a,4)]) (z8I w _ _).2.1 (by omega) rfl (by unfold maxLen;simp) (zg4 a 4),by go_grown⟩
theorem zgn{w:World}{B:Nat}(l:List Int){la:Option Addr}{lc:Nat}(ho:w.ownsRow B 3 1 (.slice la l.length lc) l.length (l.map (Value.int .i64)))(hl:l.length<=10000):
  Calls Tryz.prog 169 #[.agg #[.slice la l.length lc]] w fun e w'=>∃ v,e=.returned v/\zg6 w.heap.size v (l.map fun x=>(x,2)) w'/\Below w.heap.size w w':=by
 have b0:Below w.heap.size w (w.alloc (.cells #[.slice la l.length lc] 141)):=(yg9 _ _).alloc (yf9 _) _;have cP:=zg8 l 2 (z8B ho b0) hl;obtain⟨n,hn⟩:∃ n,l.length=n:=⟨_,rfl⟩;rw[hn]at cP b0 ⊢;clear ho hl hn;go_enter Tryz.func169,Tryz.ntmps169;go_wp2_with fail;refine cP.mono ?_;rintro e w3 ⟨g3,rfl,⟨xs,hxs,hpr⟩,b3⟩;have HE:Hid (zg6 w.heap.size (.slice (some ⟨g3,0,none⟩) n n) (l.map fun x=>(x,2)) w3/\Below w.heap.size w w3):=⟨⟨xs,z8E hxs b0.size,hpr⟩,b0.trans (b3.mono b0.size)⟩;clear hxs hpr b3 cP b0;go_wp2;go_returns;exact⟨_,rfl,HE.out.1,HE.out.2⟩
theorem zgo(w:World)(x y:Value)(t:TypeId):∀ j u,[x,y][j]?=some u->(w.alloc (.cells #[x,y] t)).cell? ((⟨w.heap.size,0,none⟩:Addr).add j)=some u:=by
 intro j u hj;have hp:(⟨w.heap.size,0,none⟩:Addr).add j=⟨w.heap.size,j,none⟩:=by unfold Addr.add;split<;>simp_all
 rw[hp,cell_of_row _ _ j _ _ _ (heap_alloc_new w (.cells #[x,y] t))];simpa using hj
theorem zgp{w:World}{B:Nat}(a:Int)(l:List Int){la:Option Addr}{lc:Nat}(ho:w.ownsRow B 3 1 (.slice la l.length lc) l.length (l.map (Value.int .i64)))(hl:l.length<=10000):
  Calls Tryz.prog 151 #[.agg #[.int .i64 a,.slice la l.length lc]] w fun e w'=>∃ v,e=.returned v/\zg6 w.heap.size v ((a,0)::l.map fun x=>(x,0)) w'/\Below w.heap.size w w':=by
 obtain⟨q0,q1,tz,tb⟩:=z8I w (.cells #[.int .i64 a,.slice la l.length lc] 104) (.cells #[.int .i64 a,.int .i64 0] 52);have o2:((w.alloc (.cells #[.int .i64 a,.slice la l.length lc] 104)).alloc (.cells #[.int .i64 a,.int .i64 0] 52)).ownsRow w.heap.size 52 2 (.slice (some ⟨w.heap.size+1,0,none⟩) 1 1) 1 [.int .i64 a,.int .i64 0]:=⟨rfl,.inr ⟨w.heap.size+1,1,_,rfl,by omega,q1,yf9 _,by unfold maxLen;simp,rfl,rfl⟩⟩
 have cP:=zg8 l 0 (z8B ho tb) hl;obtain⟨n,hn⟩:∃ n,l.length=n:=⟨_,rfl⟩;have HN:Hid (l.length=n):=hn;rw[hn]at cP q0 q1 tb o2 hl ⊢;obtain⟨X,hX⟩:∃ X,w.heap.size=X:=⟨_,rfl⟩;obtain⟨W2,hW2⟩:∃ W,(w.alloc (.cells #[.int .i64 a,.slice la n lc] 104)).alloc (.cells #[.int .i64 a,.int .i64 0] 52)=W:=⟨_,rfl⟩;rw[hW2]at cP q0 tb o2;rw[hX]at q0 o2;have x1:=cell_of_row _ _ 1 _ _ _ q0;have H2:Hid (W2.ownsRow X 52 2 (.slice (some ⟨X+1,0,none⟩) 1 1) 1 [.int .i64 a,.int .i64 0]/\Below w.heap.size w W2/\w.heap.size=X):=⟨o2,tb,hX⟩;obtain⟨i0,hi,hz0,hz1,hz2⟩:=z8y Tryz.infoPart;clear ho hn q0 q1 tz tb o2;go_enter Tryz.func151,Tryz.ntmps151;go_upto_region 2 with fail;try simp only[hX]
 try simp only[hW2]
 clear hW2 hX;go_wp2_with fail;refine cP.mono ?_;rintro e w3 ⟨g3,rfl,⟨xs,hxs,hpr⟩,b3⟩;have o3:=z8B H2.out.1 b3;have hs3:X<=w3.heap.size:=by have:=H2.out.2.1.size;have:=b3.size;have:=H2.out.2.2;omega
 have hxl:=hxs.1;rw[List.length_map,HN.out]at hxl;have HX:Hid (zg0 xs (l.map fun x=>(x,0))/\Below w.heap.size w w3):=⟨hpr,H2.out.2.1.trans (b3.mono H2.out.2.1.size)⟩;have hone:=zg1 hpr (by rw[hxl,List.length_map,HN.out])
 have hcell:=hxs.cells (g:=g3) rfl;clear hpr b3 cP hxs x1;go_wp2_with (first|(at_builtin;refine wpList_append_own_at _ rfl _ _ 46 rfl X 52 i0 (.agg #[.int .i64 0,.int .i64 0]) 2 16 Tryz.underlying46 hi hz0 hz1 hz2 rfl (by decide) (.slice (some ⟨X+1,0,none⟩) 1 1) 1 [.int .i64 a,.int .i64 0] rfl o3 ⟨g3,0,none⟩ n n xs rfl hxl hcell hone (by unfold maxLen;omega) (by omega) hs3 ?_;intro v4 w4 ho4 hg4 _ _;have HE:Hid (zg6 w.heap.size v4 ((a,0)::l.map fun x=>(x,0)) w4/\Below w.heap.size w w4):=And.intro ⟨_,(by rw[List.length_cons,List.length_map,HN.out,H2.out.2.2,Nat.add_comm];exact ho4),zg2 (zg4 a 0) rfl HX.out.1⟩ (HX.out.2.grown hg4 HX.out.2.size (fun k e=>by have e':X+1=k:=Option.some.inj e;have:=H2.out.2.2;omega));clear ho4 hg4))
 go_returns;exact⟨_,rfl,HE.out.1,HE.out.2⟩
theorem zgq{w:World}(a b:Int):
  Calls Tryz.prog 165 #[.agg #[.int .i64 a,.int .i64 b,.int .i64 (-1)]] w fun e w'=>∃ v,e=.returned v/\zg6 w.heap.size v [(a,0),(b,1)] w'/\Below w.heap.size w w':=by
 go_enter Tryz.func165,Tryz.ntmps165;go_wp2;go_returns;exact⟨_,rfl,zg7 (cs:=[.int .i64 a,.int .i64 0,.int .i64 b,.int .i64 1]) (ps:=[(a,0),(b,1)]) (z8I w _ _).2.1 (by omega) rfl (by unfold maxLen;simp) (zg5 a 0 b 1),by go_grown⟩
theorem zgr{w:World}(a b c:Int)(hc:c≠-1):
  Calls Tryz.prog 165 #[.agg #[.int .i64 a,.int .i64 b,.int .i64 c]] w fun e w'=>∃ v,e=.returned v/\zg6 w.heap.size v [(a,0),(b,1),(c,3)] w'/\Below w.heap.size w w':=by
 obtain⟨q0,q1,tz,tb⟩:=z8I w (.cells #[.int .i64 a,.int .i64 b,.int .i64 c] 137) (.cells #[.int .i64 a,.int .i64 0,.int .i64 b,.int .i64 1] 52);have o2:((w.alloc (.cells #[.int .i64 a,.int .i64 b,.int .i64 c] 137)).alloc (.cells #[.int .i64 a,.int .i64 0,.int .i64 b,.int .i64 1] 52)).ownsRow w.heap.size 52 2 (.slice (some ⟨w.heap.size+1,0,none⟩) 2 2) 2 [.int .i64 a,.int .i64 0,.int .i64 b,.int .i64 1]:=⟨rfl,.inr ⟨w.heap.size+1,2,_,rfl,by omega,q1,yf9 _,by unfold maxLen;simp,rfl,rfl⟩⟩
 have hcb:(c==(-1:Int))=false:=by rw[yc9];exact hc
 obtain⟨X,hX⟩:∃ X,w.heap.size=X:=⟨_,rfl⟩;obtain⟨W2,hW2⟩:∃ W,(w.alloc (.cells #[.int .i64 a,.int .i64 b,.int .i64 c] 137)).alloc (.cells #[.int .i64 a,.int .i64 0,.int .i64 b,.int .i64 1] 52)=W:=⟨_,rfl⟩;rw[hW2]at q0 tb o2 tz;rw[hX]at q0 o2;have x2:=cell_of_row _ _ 2 _ _ _ q0;have H2:Hid (W2.ownsRow X 52 2 (.slice (some ⟨X+1,0,none⟩) 2 2) 2 [.int .i64 a,.int .i64 0,.int .i64 b,.int .i64 1]/\Below w.heap.size w W2/\w.heap.size=X):=⟨o2,tb,hX⟩;have hs3:X<=W2.heap.size:=by omega
 have o3:=fun o=>o2.alloc o;have hnew:=zgo W2 (.int .i64 c) (.int .i64 3) 52;obtain⟨i0,hi,hz0,hz1,hz2⟩:=z8y Tryz.infoPart;have hone:∀ u∈[Value.int .i64 c,Value.int .i64 3],u.oneCell'=true:=fun u hu=>by
  simp only[List.mem_cons,List.not_mem_nil,or_false]at hu;rcases hu with rfl|rfl<;>rfl
 clear q0 q1 tz tb o2 hc;go_enter Tryz.func165,Tryz.ntmps165;go_upto_region 2 with fail;try simp only[hX]
 try simp only[hW2]
 clear hW2 hX;go_wp2_with (first|(at_builtin;refine wpList_append_own_at _ rfl _ _ 46 rfl X 52 i0 (.agg #[.int .i64 0,.int .i64 0]) 2 16 Tryz.underlying46 hi hz0 hz1 hz2 rfl (by decide) (.slice (some ⟨X+1,0,none⟩) 2 2) 2 [.int .i64 a,.int .i64 0,.int .i64 b,.int .i64 1] rfl (o3 _) ⟨W2.heap.size,0,none⟩ 1 1 [.int .i64 c,.int .i64 3] rfl rfl hnew hone (by unfold maxLen;omega) (by omega) (by simp;omega) ?_;intro v4 w4 ho4 hg4 _ _;have HE:Hid (zg6 w.heap.size v4 [(a,0),(b,1),(c,3)] w4/\Below w.heap.size w w4):=And.intro ⟨_,(by rw[H2.out.2.2];exact ho4),zg2 (zg5 a 0 b 1) rfl (zg4 c 3)⟩ (Below.grown (H2.out.2.1.alloc H2.out.2.1.size _) hg4 (by have:=H2.out.2.1.size;simp;omega) (fun k e=>by have e':X+1=k:=Option.some.inj e;have:=H2.out.2.2;omega));clear ho4 hg4))
 go_returns;exact⟨_,rfl,HE.out.1,HE.out.2⟩
theorem zgs{w:World}(x r k:Int)(h:fitI r k):
  Calls Tryz.prog 35 #[.agg #[.int .i64 x,.int .i64 r],.int .i64 k] w fun e w'=>e=.returned (.bool true)/\Below w.heap.size w w':=by
 rcases h with ⟨rfl,h⟩|⟨rfl,rfl⟩|⟨rfl,rfl|rfl⟩|⟨rfl,rfl⟩|⟨rfl,h1,h2⟩
 ·have hd:decide (k<20)=true:=yb9 h;go_enter Tryz.func35,Tryz.ntmps35;go_wp2;go_returns;exact⟨by first|rfl|(rw[hd];rfl)|(simp only[hd];rfl),by go_grown⟩
 ·go_enter Tryz.func35,Tryz.ntmps35;go_wp2;go_returns;exact⟨rfl,by go_grown⟩
 ·go_enter Tryz.func35,Tryz.ntmps35;go_wp2;go_returns;exact⟨rfl,by go_grown⟩
 ·go_enter Tryz.func35,Tryz.ntmps35;go_wp2;go_returns;exact⟨rfl,by go_grown⟩
 ·go_enter Tryz.func35,Tryz.ntmps35;go_wp2;go_returns;exact⟨rfl,by go_grown⟩
 ·have hd:decide (20<=k)=true:=yb9 h1;have hb:(k==(29:Int))=false:=by rw[yc9];exact h2
  have hb':(k != (29:Int))=true:=by rw[bne_iff_ne];exact h2
  go_enter Tryz.func35,Tryz.ntmps35;go_wp2;go_returns;exact⟨by first|rfl|(rw[hb'])|(rw[hb];rfl)|(simp only[hb,hb',hd];rfl)|(simp only[hb,hb',hd])|simp[hb,hb',hd],by go_grown⟩
theorem zgt{W1 W:World}{f:FuncId}{args:Array Value}{ps PS:List (Int × Int)}{m:Nat}(h:Calls Tryz.prog f args W fun e w'=>∃ v,e=.returned v/\zg6 W.heap.size v ps w'/\Below W.heap.size W w')(e1:ps=PS)(e2:PS.length=m)(hW:Below W1.heap.size W1 W):Calls Tryz.prog f args W fun e w'=>∃ va vc,e=.returned (.slice va m vc)/\zg6 W1.heap.size (.slice va m vc) PS w'/\Below W1.heap.size W1 w':=by
 subst e1;subst e2;refine h.mono ?_;rintro e w' ⟨v,rfl,⟨xs,ho,hp⟩,hb⟩;obtain⟨va,vc,rfl⟩:=z8A ho;exact⟨va,vc,rfl,⟨xs,z8E ho hW.size,hp⟩,hW.trans (hb.mono hW.size)⟩
theorem zgu(a pos:Int)(l:List Int):zdj ⟨12,a,0,0,l,[],0,pos⟩=(a,0)::l.map fun x=>(x,0):=by
 show(_,_)::(l.map fun x=>(x,1)).map _=_;rw[List.map_map];rfl
theorem zgv(pos:Int)(l:List Int):zdj ⟨29,0,0,0,l,[],0,pos⟩=l.map fun x=>(x,2):=by
 show(l.map fun x=>(x,4)).map _=_;rw[List.map_map];rfl
theorem zgw{a b c pos:Int}(h:c≠-1):zdj ⟨23,a,b,c,[],[],0,pos⟩=[(a,0),(b,1),(c,3)]:=by
 show(((a,1)::(b,2)::(if c=-1 then []else [(c,3)])).map _)=_
 rw[if_neg h];rfl
theorem zgx{p:z4Q}(h:p.list.length<=9000):(zdj p).length<=10000:=by
 unfold zdj z5V;rw[List.length_map];repeat' split
 all_goals simp
 all_goals omega
theorem zgy{W1:World}{B:Nat}{pk pa pb pc:Int}{pl:List Int}{pn:List ByteArray}{pu:Nat}{pp:Int}{la na:Option Addr}{lc nc m:Nat}(hh:z5Y ⟨pk,pa,pb,pc,pl,pn,pu,pp⟩)(hLS:W1.ownsRow B 3 1 (.slice la pl.length lc) pl.length (pl.map (Value.int .i64)))(hNM:W1.ownsRow B 9 1 (.slice na pn.length nc) pn.length (pn.map Value.string))(hLN:pl.length<=10000)(hm:(zdj ⟨pk,pa,pb,pc,pl,pn,pu,pp⟩).length=m):
  ∃ T v fw fp,zeD T v fw fp/\(Calls Tryz.prog 19 #[.agg #[.int .i64 pk,.int .i64 pa,.int .i64 pb,.int .i64 pc,.slice la pl.length lc,.slice na pn.length nc,.int .u64 (pu:Int),.int .i64 pp]] W1 fun e w'=>e=.returned (.iface T v)/\Below W1.heap.size W1 w')/\∀ W,Below W1.heap.size W1 W->Calls Tryz.prog fp #[v] W fun e w'=>∃ va vc,e=.returned (.slice va m vc)/\zg6 W1.heap.size (.slice va m vc) (zdj ⟨pk,pa,pb,pc,pl,pn,pu,pp⟩) w'/\Below W1.heap.size W1 w':=by
 rcases hh.2.2 with ⟨rfl,rfl,rfl,rfl,rfl,rfl,hu⟩|⟨rfl,rfl,rfl,rfl,rfl,rfl,t,rfl,h40,ht⟩|⟨hk,rfl,rfl,rfl,rfl,rfl,rfl⟩|⟨rfl,rfl,rfl,rfl,rfl,rfl,t,rfl,ht⟩|⟨hk,rfl,rfl,rfl,rfl,rfl⟩|⟨rfl,hc1,hc2,rfl,rfl,rfl⟩|⟨hk,rfl,rfl,rfl,rfl⟩|⟨rfl,rfl,rfl,h6,rfl,rfl⟩|⟨rfl,rfl,rfl,rfl,rfl,h4,hQ⟩|⟨rfl,hb,rfl,rfl,rfl,t,rfl,ht⟩|⟨rfl,rfl,rfl,rfl,rfl,t,rfl,ht⟩|⟨rfl,rfl,rfl,rfl⟩|⟨rfl,rfl,rfl,rfl,rfl⟩|⟨rfl,rfl,rfl,rfl,t,rfl,ht⟩|⟨rfl,rfl,rfl,rfl,rfl,rfl⟩
 ·clear hh;exact⟨_,_,_,_,zeE (pu:Int),zeV 0 0 0 (pu:Int) pp,fun W hW=>zgt (zg9 (w:=W) 1 0 0 0 (pu:Int) ⟨#[]⟩ (la:=none) (na:=none) (m:=0) (lc:=0) (q:=0) (nc:=0)) (rfl) hm hW⟩
 ·clear hh;obtain⟨gl,rfl,hct⟩:=zed hNM (show[Value.string t][0]?=some (.string t)from rfl);exact⟨_,_,_,_,zeF t,zeW 0 0 0 0 pp hct,fun W hW=>zgt (zga (w:=W) 2 0 0 0 0 t (la:=none) (na:=none) (m:=0) (lc:=0) (q:=0) (nc:=0)) (rfl) hm hW⟩
 ·clear hh;rcases hk with rfl|rfl|rfl
  ·exact⟨_,_,_,_,zeG 3,zeX 0 0 0 0 pp,fun W hW=>zgt (zgb (w:=W) 3 0 0 0 0 ⟨#[]⟩ (la:=none) (na:=none) (m:=0) (lc:=0) (q:=0) (nc:=0)) (rfl) hm hW⟩
  ·exact⟨_,_,_,_,zeG 4,zeY 0 0 0 0 pp,fun W hW=>zgt (zgb (w:=W) 4 0 0 0 0 ⟨#[]⟩ (la:=none) (na:=none) (m:=0) (lc:=0) (q:=0) (nc:=0)) (rfl) hm hW⟩
  ·exact⟨_,_,_,_,zeG 5,zeZ 0 0 0 0 pp,fun W hW=>zgt (zgb (w:=W) 5 0 0 0 0 ⟨#[]⟩ (la:=none) (na:=none) (m:=0) (lc:=0) (q:=0) (nc:=0)) (rfl) hm hW⟩
 ·clear hh;obtain⟨gl,rfl,hct⟩:=zed hNM (show[Value.string t][0]?=some (.string t)from rfl);exact⟨_,_,_,_,zeH t,zf0 0 0 0 0 pp hct,fun W hW=>zgt (zgc (w:=W) 6 0 0 0 0 t (la:=none) (na:=none) (m:=0) (lc:=0) (q:=0) (nc:=0)) (rfl) hm hW⟩
 ·clear hh;rcases hk with rfl|rfl|rfl|rfl|rfl|rfl
  ·exact⟨_,_,_,_,zeI 7 pa,zf1 pa 0 0 0 pp,fun W hW=>zgt (zgd (w:=W) 7 pa 0 0 0 ⟨#[]⟩ (la:=none) (na:=none) (m:=0) (lc:=0) (q:=0) (nc:=0)) (rfl) hm hW⟩
  ·exact⟨_,_,_,_,zeI 8 pa,zf2 pa 0 0 0 pp,fun W hW=>zgt (zgd (w:=W) 8 pa 0 0 0 ⟨#[]⟩ (la:=none) (na:=none) (m:=0) (lc:=0) (q:=0) (nc:=0)) (rfl) hm hW⟩
  ·exact⟨_,_,_,_,zeP 22 pa,zfa pa 0 0 0 pp,fun W hW=>zgt (zgi (w:=W) 22 pa 0 0 0 ⟨#[]⟩ (la:=none) (na:=none) (m:=0) (lc:=0) (q:=0) (nc:=0)) (rfl) hm hW⟩
  ·exact⟨_,_,_,_,zeP 25 pa,zfb pa 0 0 0 pp,fun W hW=>zgt (zgi (w:=W) 25 pa 0 0 0 ⟨#[]⟩ (la:=none) (na:=none) (m:=0) (lc:=0) (q:=0) (nc:=0)) (rfl) hm hW⟩
  ·exact⟨_,_,_,_,zeP 26 pa,zfc pa 0 0 0 pp,fun W hW=>zgt (zgi (w:=W) 26 pa 0 0 0 ⟨#[]⟩ (la:=none) (na:=none) (m:=0) (lc:=0) (q:=0) (nc:=0)) (rfl) hm hW⟩
  ·exact⟨_,_,_,_,zeP 28 pa,zfd pa 0 0 0 pp,fun W hW=>zgt (zgi (w:=W) 28 pa 0 0 0 ⟨#[]⟩ (la:=none) (na:=none) (m:=0) (lc:=0) (q:=0) (nc:=0)) (rfl) hm hW⟩
 ·clear hh;exact⟨_,_,_,_,zeJ pc pa pb,zf3 pa pb pc 0 pp,fun W hW=>zgt (zge (w:=W) 9 pa pb pc 0 ⟨#[]⟩ (la:=none) (na:=none) (m:=0) (lc:=0) (q:=0) (nc:=0)) (rfl) hm hW⟩
 ·clear hh;rcases hk with rfl|rfl
  ·exact⟨_,_,_,_,zeK 10 pa pb,zf4 pa pb 0 0 pp,fun W hW=>zgt (zgf (w:=W) 10 pa pb 0 0 ⟨#[]⟩ (la:=none) (na:=none) (m:=0) (lc:=0) (q:=0) (nc:=0)) (rfl) hm hW⟩
  ·exact⟨_,_,_,_,zeK 11 pa pb,zf5 pa pb 0 0 pp,fun W hW=>zgt (zgf (w:=W) 11 pa pb 0 0 ⟨#[]⟩ (la:=none) (na:=none) (m:=0) (lc:=0) (q:=0) (nc:=0)) (rfl) hm hW⟩
 ·clear hh;exact⟨_,_,_,_,zeL pa la _ lc,zf6 pa 0 0 0 pp,fun W hW=>zgt (zgp pa pl (z8B hLS hW) hLN) ((zgu _ _ _).symm) hm hW⟩
 ·clear hh;exact⟨_,_,_,_,zeM pa na _ nc,zf7 pa 0 0 0 pp,fun W hW=>zgt (zgg (w:=W) 13 pa 0 0 0 ⟨#[]⟩ (la:=none) (m:=0) (lc:=0) (na:=na) (q:=pn.length) (nc:=nc)) (rfl) hm hW⟩
 ·clear hh;obtain⟨gl,rfl,hct⟩:=zed hNM (show[Value.string t][0]?=some (.string t)from rfl);rcases hb with rfl|rfl
  ·exact⟨_,_,_,_,zeN t pa 0,zf8 pa 0 0 0 pp hct,fun W hW=>zgt (zgl (w:=W) pa t) (rfl) hm hW⟩
  ·exact⟨_,_,_,_,zeN t pa 1,zf8 pa 1 0 0 pp hct,fun W hW=>zgt (zgm (w:=W) pa t) (rfl) hm hW⟩
 ·clear hh;obtain⟨gl,rfl,hct⟩:=zed hNM (show[Value.string t][0]?=some (.string t)from rfl);exact⟨_,_,_,_,zeO t pa,zf9 pa 0 0 0 pp hct,fun W hW=>zgt (zgh (w:=W) 21 pa 0 0 0 t (la:=none) (na:=none) (m:=0) (lc:=0) (q:=0) (nc:=0)) (rfl) hm hW⟩
 ·clear hh;by_cases hcc:pc=-1
  ·subst hcc;exact⟨_,_,_,_,zeQ pa pb (-1),zfe pa pb (-1) 0 pp,fun W hW=>zgt (zgq (w:=W) pa pb) (rfl) hm hW⟩
  ·exact⟨_,_,_,_,zeQ pa pb pc,zfe pa pb pc 0 pp,fun W hW=>zgt (zgr (w:=W) pa pb pc hcc) ((zgw hcc).symm) hm hW⟩
 ·clear hh;exact⟨_,_,_,_,zeR pa pb,zff pa pb 0 0 pp,fun W hW=>zgt (zgj (w:=W) 24 pa pb 0 0 ⟨#[]⟩ (la:=none) (na:=none) (m:=0) (lc:=0) (q:=0) (nc:=0)) (rfl) hm hW⟩
 ·clear hh;obtain⟨gl,rfl,hct⟩:=zed hNM (show[Value.string t][0]?=some (.string t)from rfl);exact⟨_,_,_,_,zeS t pa pb,zfg pa pb 0 0 pp hct,fun W hW=>zgt (zgk (w:=W) 27 pa pb 0 0 t (la:=none) (na:=none) (m:=0) (lc:=0) (q:=0) (nc:=0)) (rfl) hm hW⟩
 ·clear hh;exact⟨_,_,_,_,zeT la _ lc,zfh 0 0 0 0 pp,fun W hW=>zgt (zgn pl (z8B hLS hW) hLN) ((zgv _ _).symm) hm hW⟩
theorem Tryz.infoBool:(Tryz.prog.info? 4).map (fun i=>(i.zero,i.size,i.bytes))=some (some (.bool false),1,1):=by kernel_rfl
def zgz(n:Nat)(xs:List Value)(l:List Int):Prop:=∀ i:Nat,i<n->xs[i]?=some (.bool (decide ((i:Int)∈l)))
theorem zgz.put{n:Nat}{xs:List Value}{l:List Int}{x:Nat}(h:zgz n xs l)(hx:x<n):zgz n (xs.set x (.bool true)) (l++[(x:Int)]):=by
 intro i hi;have hlen:∀ j,j<n->j<xs.length:=fun j hj=>(List.getElem?_eq_some_iff.1 (h j hj)).1;rcases Nat.decEq x i with e|e
 ·rw[List.getElem?_set_ne e,h i hi];have:decide ((i:Int)∈l++[(x:Int)])=decide ((i:Int)∈l):=by
   apply decide_eq_decide.2
   rw[List.mem_append,List.mem_singleton];constructor
   ·rintro (k|k)
    ·exact k
    ·omega
   ·exact .inl
  rw[this]
 ·subst e;rw[List.getElem?_set_self (hlen x hx),yb9 (by simp)]
theorem zgA{ns:List z4Q}{j:Nat}{p:z4Q}(h:ns[j]?=some p):z5Z (ns.take (j+1))=z5Z (ns.take j)++z8o p:=by
 rw[List.take_add_one,h];exact zdt _ _
theorem zgB{ns:List z4Q}(h:∀(j:Nat) (p:z4Q),ns[j]?=some p->p.list.length<=9000):∀ j:Nat,j<=ns.length->(z5Z (ns.take j)).length<=j*10000:=by
 intro j;induction j with
 | zero=>intro _;simp[z5Z]
 | succ j ih=>
  intro hj;obtain⟨p,hp⟩:∃ p,ns[j]?=some p:=⟨_,yd9 (by omega)⟩
  rw[zgA hp,List.length_append];have h1:=ih (by omega)
  have h2:=zgx (h j p hp);rw[←zdk,List.length_map];omega
theorem zgC{ns:List z4Q}{j:Nat}{p:z4Q}(h:ns[j]?=some p):∃ r,z5Z ns=z5Z (ns.take j)++(z8o p++r):=by
 refine⟨z5Z (ns.drop (j+1)),?_⟩;have e:ns=ns.take (j+1)++ns.drop (j+1):=(List.take_append_drop _ _).symm;have e2:z5Z ns=z5Z (ns.take (j+1))++z5Z (ns.drop (j+1)):=by
  have:z5Z ns=z5Z (ns.take (j+1)++ns.drop (j+1)):=by rw[←e]
  rw[this];unfold z5Z;rw[List.flatMap_append]
 rw[e2,zgA h,List.append_assoc]
theorem zgD{ns:List z4Q}{j q:Nat}{p:z4Q}{x:Nat}(hG:zdl ns)(h:ns[j]?=some p)(hq:(z8o p)[q]?=some (x:Int)):(x:Int)∉z5Z (ns.take j)++(z8o p).take q:=by
 intro hm;obtain⟨r,e⟩:=zgC h;have c:=hG.once x;have e3:z8o p=(z8o p).take q++((x:Int)::(z8o p).drop (q+1)):=by
  have hlt:=(List.getElem?_eq_some_iff.1 hq).1;have:(z8o p).drop q=(x:Int)::(z8o p).drop (q+1):=by
   rw[List.drop_eq_getElem_cons hlt,(List.getElem?_eq_some_iff.1 hq).2]
  rw[←this,List.take_append_drop]
 rw[e,e3,List.count_append,List.count_append,List.count_append,List.count_cons_self]at c;have:0<(z5Z (ns.take j)++(z8o p).take q).count (x:Int):=List.count_pos_iff.2 hm;rw[List.count_append]at this;omega
theorem zgE{w:World}{n B g tc:Nat}{ns:List z4Q}(hT:z8G w B (.slice (some ⟨g,0,none⟩) n tc) ns)(hn:ns.length=n)(hG:zdl ns):
  Calls Tryz.prog 16 #[.slice (some ⟨g,0,none⟩) n tc] w fun e w'=>e=.returned (.bool (decide ((z5Z ns).length+1=n)))/\Below w.heap.size w w':=by
 have few:=hG.few;rw[hn]at few;obtain⟨few1,few2⟩:=few;have HT:Hid (z8G w B (.slice (some ⟨g,0,none⟩) n tc) ns/\ns.length=n/\zdl ns):=⟨hT,hn,hG⟩;have hmk:=run_make_row' (P:=Tryz.prog) 84 4 (.bool false) 1 Tryz.underlying84 Tryz.infoBool rfl .i64 .i64 n (by omega) (by omega)
 have b0:Below w.heap.size w (w.alloc (.cells (madeCells #[.bool false] n) 4)):=(yg9 _ _).alloc (yf9 _) _;have o0:(w.alloc (.cells (madeCells #[.bool false] n) 4)).ownsRow w.heap.size 4 1 (.slice (some ⟨w.heap.size,0,none⟩) n n) n (List.replicate n (.bool false)):=by
  refine⟨by simp,.inr ⟨w.heap.size,n,_,rfl,yf9 _,heap_alloc_new w _,yf9 _,by unfold maxLen;omega,by simp[size_madeCells],?_⟩⟩
  rw[toList_madeCells_one,Nat.mul_one,List.take_of_length_le (by simp)]
 obtain⟨X,hX⟩:∃ X,w.heap.size=X:=⟨_,rfl⟩;obtain⟨W0,hW0⟩:∃ W,w.alloc (.cells (madeCells #[.bool false] n) 4)=W:=⟨_,rfl⟩;rw[hW0]at b0 o0;rw[hX]at o0;have H0:Hid (W0.ownsRow X 4 1 (.slice (some ⟨X,0,none⟩) n n) n (List.replicate n (.bool false))/\Below w.heap.size w W0/\w.heap.size=X):=⟨o0,b0,hX⟩;clear hT hn hG b0 o0;go_enter Tryz.func16,Tryz.ntmps16;go_upto_region 2 with fail;try simp only[hW0,hX]
 clear hW0 hX hmk;go_upto_region 4 with fail;go_loopw [4,14] (fun ct i wr=>∃(j:Nat) (xs:List Value),ct=.int .i64 ((z5Z (ns.take j)).length:Nat)/\i=.int .i64 (j:Int)/\j<=n/\Hid (wr.ownsRow X 4 1 (.slice (some ⟨X,0,none⟩) n n) n xs)/\Hid (Below w.heap.size w wr)/\Hid (zgz n xs (z5Z (ns.take j)))) (fun ct i _=>n-(intOf i).toNat)
 case atStart=>exact⟨0,List.replicate n (.bool false),rfl,rfl,yj9 _,H0.out.1,H0.out.2.1,fun i hi=>by
  rw[List.getElem?_replicate,if_pos hi];rfl⟩
 case round=>
  obtain⟨j,xs,rfl,rfl,hj,HO,HB,HU⟩:=hrel;obtain⟨U,hU⟩:∃ U,(z5Z (ns.take j)).length=U:=⟨_,rfl⟩;have HUL:Hid ((z5Z (ns.take j)).length=U):=hU;have hUb:U<=3000000:=by
   have:=zgB HT.out.2.2.lists j (by have:=HT.out.2.1;omega)
   omega
  rw[hU];clear hU;by_cases hlt:j<n
  ·skip
   obtain⟨⟨pk,pa,pb,pc,pl,pn,pu,pp⟩,hp⟩:∃ p,ns[j]?=some p:=⟨_,yd9 (by have:=HT.out.2.1;omega)⟩
   obtain⟨lv,nv,NA0⟩:=z9L HT.out.1 hp;obtain⟨la,lc,hla⟩:=z8A NA0.list;obtain⟨na,nc,hna⟩:=z8A NA0.names;have NA:=NA0.below (HB.out);rw[hla,hna]at NA;simp only at NA;obtain⟨ml,hml⟩:∃ k,pl.length=k:=⟨_,rfl⟩;obtain⟨qn,hqn⟩:∃ k,pn.length=k:=⟨_,rfl⟩;have HML:Hid (pl.length=ml/\pn.length=qn):=⟨hml,hqn⟩;rw[hml,hqn]at NA;have HHP:Hid (z5Y ⟨pk,pa,pb,pc,pl,pn,pu,pp⟩):=HT.out.2.2.held j _ hp;have HHN:Hid (ns[j]?=some ⟨pk,pa,pb,pc,pl,pn,pu,pp⟩):=hp;have NL:=NA.list;have NN:=NA.names;simp only[hml,hqn]at NL NN;have n0:=NA.c0;have n1:=NA.c1;have n2:=NA.c2;have n3:=NA.c3;have n4:=NA.c4;have n5:=NA.c5;have n6:=NA.c6;have n7:=NA.c7;have hB:=heap_alloc_new wr (.cells #[.int .i64 pk,.int .i64 pa,.int .i64 pb,.int .i64 pc,.slice la ml lc,.slice na qn nc,.int .u64 (pu:Int),.int .i64 pp] 34);have b1:Below wr.heap.size wr (wr.alloc (.cells #[.int .i64 pk,.int .i64 pa,.int .i64 pb,.int .i64 pc,.slice la ml lc,.slice na qn nc,.int .u64 (pu:Int),.int .i64 pp] 34)):=(yg9 _ _).alloc (yf9 _) _;obtain⟨Y,hY⟩:∃ Y,wr.heap.size=Y:=⟨_,rfl⟩;obtain⟨W1,hW1⟩:∃ W,wr.alloc (.cells #[.int .i64 pk,.int .i64 pa,.int .i64 pb,.int .i64 pc,.slice la ml lc,.slice na qn nc,.int .u64 (pu:Int),.int .i64 pp] 34)=W:=⟨_,rfl⟩;rw[hW1]at hB b1;rw[hY]at hB;have HLS:Hid (W1.ownsRow B 3 1 (.slice la pl.length lc) pl.length (pl.map (Value.int .i64))):=by rw[hml];exact z8B NL b1
   have HNM:Hid (W1.ownsRow B 9 1 (.slice na pn.length nc) pn.length (pn.map Value.string)):=by rw[hqn];exact z8B NN b1
   obtain⟨PS,hPS⟩:∃ PS,zdj ⟨pk,pa,pb,pc,pl,pn,pu,pp⟩=PS:=⟨_,rfl⟩;obtain⟨m,hm⟩:∃ m,PS.length=m:=⟨_,rfl⟩;have HPS:Hid (zdj ⟨pk,pa,pb,pc,pl,pn,pu,pp⟩=PS/\PS.length=m):=⟨hPS,hm⟩;have HLN:Hid (pl.length<=10000):=yi9 (HT.out.2.2.lists j _ hp) (by decide)
   have hm300:m<=10000:=by
    rw[←hm,←hPS];exact zgx (HT.out.2.2.lists j _ hp)
   have HW1:Hid (Below w.heap.size w W1/\Below wr.heap.size wr W1/\wr.heap.size=Y):=⟨HB.out.trans (b1.mono HB.out.size),b1,hY⟩;have hji:(j:Int)<(n:Int):=by omega
   have hj0:(0:Int)<=(j:Int):=by omega
   clear hp NA0 NA NL NN hla hna hPS hm b1 hml hqn;go_upto_region 6 with fail;try simp only[hW1,hY]
   clear hW1 hY n0 n1 n2 n3 n4 n5 n6 n7;obtain⟨y0,y1,y2,y3,y4,y5,y6,y7⟩:=z8C hB;clear hB;have cFP:=zgy HHP.out HLS.out HNM.out HLN.out (show(zdj ⟨pk,pa,pb,pc,pl,pn,pu,pp⟩).length=m by rw[HPS.out.1];exact HPS.out.2)
   rw[HML.out.1,HML.out.2,HPS.out.1]at cFP;go_cut [21,22,23] (fun v1 v2 v3 wx=>∃ va vc,v1=.slice va m vc/\v2=.int .i64 (m:Int)/\v3=.int .i64 0/\zg6 W1.heap.size (.slice va m vc) PS wx/\Below W1.heap.size W1 wx)
   case first=>
    obtain⟨T,v,fw,fp,hform,cF,cP⟩:=cFP;rcases hform with ⟨_,rfl,rfl,rfl,rfl⟩|⟨_,rfl,rfl,rfl,rfl⟩|⟨_,rfl,rfl,rfl,rfl⟩|⟨_,rfl,rfl,rfl,rfl⟩|⟨_,_,rfl,rfl,rfl,rfl⟩|⟨_,_,_,rfl,rfl,rfl,rfl⟩|⟨_,_,_,rfl,rfl,rfl,rfl⟩|⟨_,_,_,_,rfl,rfl,rfl,rfl⟩|⟨_,_,_,_,rfl,rfl,rfl,rfl⟩|⟨_,_,_,rfl,rfl,rfl,rfl⟩|⟨_,_,rfl,rfl,rfl,rfl⟩|⟨_,_,rfl,rfl,rfl,rfl⟩|⟨_,_,_,rfl,rfl,rfl,rfl⟩|⟨_,_,rfl,rfl,rfl,rfl⟩|⟨_,_,_,rfl,rfl,rfl,rfl⟩|⟨_,_,_,rfl,rfl,rfl,rfl⟩;all_goals
     go_wp2_with fail;refine cF.mono ?_;rintro e w3 ⟨rfl,b3⟩;have cP3:=cP w3 b3;clear cF cP b3;go_wp2_with fail;refine cP3.mono ?_;rintro e w4 ⟨va,vc,rfl,hp,b4⟩;have HP:Hid (zg6 W1.heap.size (.slice va m vc) PS w4/\Below W1.heap.size W1 w4):=⟨hp,b4⟩;clear hp b4 cP3;go_wp2_with fail;go_meet
     case rel=>exact⟨va,vc,rfl,rfl,rfl,HP.out.1,HP.out.2⟩
   case rest=>
    obtain⟨va,vc,rfl,rfl,rfl,HPA0,HBC⟩:=hcut;clear cFP;have HC0:Hid (zg6 W1.heap.size (.slice va m vc) PS wc/\Below W1.heap.size W1 wc):=⟨HPA0,HBC⟩;have HO0:Hid (wc.ownsRow X 4 1 (.slice (some ⟨X,0,none⟩) n n) n xs):=z8B (z8B HO.out HW1.out.2.1) HBC;clear HPA0 HBC y0 y1 y2 y3 y4 y5 y6 y7;go_upto_region 7 with fail;go_loopw [4,23] (fun ct i wr'=>∃(q:Nat) (xs':List Value),ct=.int .i64 (((z5Z (ns.take j)).length+q:Nat):Int)/\i=.int .i64 (q:Int)/\q<=m/\Hid (wr'.ownsRow X 4 1 (.slice (some ⟨X,0,none⟩) n n) n xs')/\Hid (Below w.heap.size w wr')/\Hid (zgz n xs' (z5Z (ns.take j)++(PS.map Prod.fst).take q))/\Hid (zg6 W1.heap.size (.slice va m vc) PS wr')) (fun ct i _=>m-(intOf i).toNat)
    case atStart=>exact⟨0,xs,by rw[HUL.out];rfl,rfl,yj9 _,HO0.out,HW1.out.1.trans (HC0.out.2.mono HW1.out.1.size),by rw[List.take_zero,List.append_nil];exact HU.out,HC0.out.1⟩
    case round=>
     obtain⟨q,xs',rfl,rfl,hq,HO1,HB1,HU1,HP1⟩:=hrel;rw[HUL.out];by_cases hqm:q<m
     ·obtain⟨⟨x,r⟩,hxr⟩:∃ x,PS[q]?=some x:=⟨_,yd9 (by have:=HPS.out.2;omega)⟩
      obtain⟨h0,h1,hfit⟩:=HT.out.2.2.part j _ HHN.out (x,r) (by rw[HPS.out.1];exact List.mem_iff_getElem?.2 ⟨q,hxr⟩)
      simp only at h0 h1 hfit;obtain⟨xn,rfl⟩:∃ xn:Nat,x=(xn:Int):=⟨x.toNat,by omega⟩
      have hxj:xn<j:=by omega
      obtain⟨px,hpx⟩:∃ px,ns[xn]?=some px:=⟨_,yd9 (by have:=HT.out.2.1;omega)⟩
      have hkx:z5X ns (xn:Int)=px.kind:=by unfold z5X;rw[Int.toNat_natCast,hpx]
      rw[hkx]at hfit;obtain⟨lvx,nvx,NX⟩:=z9L HT.out.1 hpx;have HKX:Hid (∀ W,Below w.heap.size w W->W.cell? ⟨g,xn*8,none⟩=some (.int .i64 px.kind)):=fun W hW=>(NX.below hW).c0;have hnot:=zgD HT.out.2.2 HHN.out (q:=q) (x:=xn) (by rw[←zdk,HPS.out.1,List.getElem?_map,hxr];rfl)
      rw[←zdk,HPS.out.1]at hnot;have HPX:Hid (PS[q]?=some ((xn:Int),r)):=hxr;obtain⟨xp,hop,hpr⟩:=HP1.out;rw[HPS.out.2]at hop;obtain⟨p0,p1⟩:=hpr q _ hxr;obtain⟨gp,hva,z0⟩:=zed hop p0;obtain⟨gp',hva',z1⟩:=zed hop p1;rw[hva]at hva';injection hva' with hva';injection hva' with hva';subst hva';subst hva;have hgp:X<gp:=by
       have:=(hop.lt gp rfl).1;have e1:=H0.out.2.2;have e2:=(HO.out.lt X rfl).2;have e3:=HW1.out.2.1.size;omega
      have u0:wr.cell? ⟨X,xn,none⟩=some (.bool false):=by
       have:=HU1.out xn (by omega)
       rw[ya9 hnot]at this;exact z9I HO1.out this
      have uf:=HO1.out.frozenAt xn;have hqi:(q:Int)<(m:Int):=by omega
      have hq0:(0:Int)<=(q:Int):=by omega
      have cM:=fun W=>zgs (w:=W) (xn:Int) r px.kind hfit;have k0:=HKX.out wr HB1.out;obtain⟨kx,hkx2⟩:∃ kx,px.kind=kx:=⟨_,rfl⟩;rw[hkx2]at cM k0;have HKX2:Hid (∀ W,Below w.heap.size w W->W.cell? ⟨g,xn*8,none⟩=some (.int .i64 kx)):=fun W hW=>by rw[←hkx2];exact HKX.out W hW
      have hx0:decide ((xn:Int)<0)=false:=ya9 (by omega)
      have hxg:decide ((j:Int)<=(xn:Int))=false:=ya9 (by omega)
      have hxg':decide ((xn:Int)<(j:Int))=true:=yb9 (by omega)
      have hxg2:decide (j<=xn)=false:=ya9 (by omega)
      have hxn:(xn:Int)<(n:Int):=by omega
      have hxn0:(0:Int)<=(xn:Int):=by omega
      have hBx:=heap_alloc_new wr (.cells #[.int .i64 (xn:Int),.int .i64 r] 52);have bx:Below wr.heap.size wr (wr.alloc (.cells #[.int .i64 (xn:Int),.int .i64 r] 52)):=(yg9 _ _).alloc (yf9 _) _;obtain⟨V,hV⟩:∃ V,wr.heap.size=V:=⟨_,rfl⟩;obtain⟨W2,hW2⟩:∃ W,wr.alloc (.cells #[.int .i64 (xn:Int),.int .i64 r] 52)=W:=⟨_,rfl⟩;rw[hW2]at hBx bx;rw[hV]at hBx;have HBX:Hid (Below wr.heap.size wr W2/\W2.heap[V]?=some (.cells #[.int .i64 (xn:Int),.int .i64 r] 52)):=⟨bx,hBx⟩;have HK4:Hid (∀ W,Below W2.heap.size W2 W->W.cell? ⟨V,0,none⟩=some (.int .i64 (xn:Int))/\W.cell? ⟨V,1,none⟩=some (.int .i64 r)/\W.cell? ⟨X,xn,none⟩=some (.bool false)/\W.cell? ⟨g,xn*8,none⟩=some (.int .i64 kx)):=fun W hW=>by
       have e:=(hW.block V (lt_of_block HBX.out.2)).trans HBX.out.2;have bw:=HBX.out.1.trans (hW.mono HBX.out.1.size);exact⟨cell_of_row _ _ 0 _ _ _ e,cell_of_row _ _ 1 _ _ _ e,(bw.cell (p:=⟨X,xn,none⟩) (World.block_lt_of_cell? wr _ u0)).trans u0,HKX2.out W (HB1.out.trans (bw.mono HB1.out.size))⟩
      have HNX:Hid (∀ W,Below W2.heap.size W2 W->(W.setCell ⟨X,xn,none⟩ (.bool true)).ownsRow X 4 1 (.slice (some ⟨X,0,none⟩) n n) n (xs'.set xn (.bool true))/\Below w.heap.size w (W.setCell ⟨X,xn,none⟩ (.bool true))/\zg6 W1.heap.size (.slice (some ⟨gp,0,none⟩) m vc) PS (W.setCell ⟨X,xn,none⟩ (.bool true))/\W.frozen? ⟨X,xn,none⟩=false):=fun W hW=>by
       have bw:=HBX.out.1.trans (hW.mono HBX.out.1.size);have oW:=z8B HO1.out bw;obtain⟨s1,g1⟩:=oW.stored xn (.bool true);have dW:=HB1.out.trans (bw.mono HB1.out.size);refine⟨s1,dW.grown g1 dW.size (fun k e=>by injection e with e;have:=H0.out.2.2;omega),⟨xp,?_,hpr⟩,oW.frozenAt xn⟩
       rw[HPS.out.2];exact(z8B hop bw).kept g1 (.inr fun e=>by have e':gp=X:=Option.some.inj e;omega)
      have HUX:Hid (zgz n (xs'.set xn (.bool true)) (z5Z (ns.take j)++(PS.map Prod.fst).take (q+1))):=by
       have:=HU1.out.put (x:=xn) (by omega)
       rw[List.take_add_one,List.getElem?_map,HPX.out,←List.append_assoc];exact this
      clear hxr h0 h1 hfit hpx hkx hkx2 NX hnot hop hpr p0 p1 hBx bx hgp;go_upto_region 9 with fail;try simp only[hW2,hV]
      clear hW2 hV z0 z1 u0 k0 uf;go_region_held3 (fun W=>W.cell? ⟨V,0,none⟩=some (.int .i64 (xn:Int))/\W.cell? ⟨V,1,none⟩=some (.int .i64 r)/\W.cell? ⟨X,xn,none⟩=some (.bool false)/\W.cell? ⟨g,xn*8,none⟩=some (.int .i64 kx)) (first|exact HK4.out _ (by first|with_reducible exact(yg9 _ _).drew|with_reducible exact yg9 _ _|with_reducible exact HBM.out|with_reducible exact HBM.out.drew|with_reducible exact below_drewN (yg9 _ _) _|with_reducible exact below_drewN HBM.out _)|go_keep) (first|(go_at_call 35;refine(cM _).mono ?_;rintro e w5 ⟨rfl,b5⟩;have HBM:Hid (Below W2.heap.size W2 w5):=by first|exact Below.trans (Below.drew (yg9 _ _)) (Below.mono b5 (by simp))|exact Below.trans (below_drewN (yg9 _ _) _) (Below.mono b5 (by simp))|exact b5))
      all_goals
       have HN5:Hid _:=HNX.out _ HBM.out;obtain⟨c0,c1,c2,c3⟩:=HK4.out _ HBM.out;have cf:=HN5.out.2.2.2;go_wp2_with fail;go_roundw
       case rel=>exact⟨q+1,_,by rw[show((U+(q+1):Nat):Int)=(U:Int)+(q:Int)+1 by omega],by go_num,by omega,HN5.out.1,HN5.out.2.1,HUX.out,HN5.out.2.2.1⟩
       case measure=>simp[intOf];omega
     ·have hge:decide ((q:Int)<(m:Int))=false:=ya9 (by omega)
      have hge':decide (q<m)=false:=ya9 (by omega)
      have HEQ:Hid (q=m/\z5Z (ns.take (j+1))=z5Z (ns.take j)++PS.map Prod.fst):=⟨by omega,by rw[zgA HHN.out,←zdk,HPS.out.1]⟩
      have HUE:Hid (zgz n xs' (z5Z (ns.take (j+1)))/\(z5Z (ns.take (j+1))).length=U+q):=by
       have:=HU1.out;rw[List.take_of_length_le (l:=PS.map Prod.fst) (i:=q) (by rw[List.length_map,HPS.out.2];omega)]at this
       rw[HEQ.out.2];exact⟨this,by rw[List.length_append,List.length_map,HPS.out.2,HUL.out,HEQ.out.1]⟩
      go_wp2;go_roundw
      case rel=>exact⟨j+1,xs',by rw[HUE.out.2],by go_num,by omega,HO1.out,HB1.out,HUE.out.1⟩
      case measure=>simp[intOf];omega
  ·have hge:decide ((j:Int)<(n:Int))=false:=ya9 (by omega)
   have hge':decide (j<n)=false:=ya9 (by omega)
   have HEQ:Hid (U=(z5Z ns).length):=by
    have e:ns.take j=ns:=List.take_of_length_le (by have:=HT.out.2.1;omega)
    rw[←HUL.out,e];exact rfl
   by_cases e:(z5Z ns).length+1=n
   ·have hb:((U:Int)==(n:Int)-1)=true:=by rw[beq_iff_eq];have:=HEQ.out;omega
    have HEE:Hid ((z5Z ns).length+1=n):=e;clear e;go_wp2;go_returns;exact⟨by rw[yb9 HEE.out];first|rfl|(rw[hb];rfl)|(simp only[hb];rfl),HB.out⟩
   ·have hb:((U:Int)==(n:Int)-1)=false:=by rw[yc9];have:=HEQ.out;omega
    have HEE:Hid (¬ (z5Z ns).length+1=n):=e;clear e;go_wp2;go_returns;exact⟨by rw[ya9 HEE.out];first|rfl|(rw[hb];rfl)|(simp only[hb];rfl),HB.out⟩
