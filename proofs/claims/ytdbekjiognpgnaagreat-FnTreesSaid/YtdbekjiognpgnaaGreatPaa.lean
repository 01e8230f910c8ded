/- Part 1. -/
import Derived.WalkSpells
import Derived.WalkLawsBesides
import Derived.Test.YtdbekjiognpgnaaGreatRows
import Derived.BigQuiet
import Derived.OpenShut
import Derived.Lib.Strings
import Derived.Deep.RegionLaw
import Derived.Lib.ItoaNum
set_option maxHeartbeats 16000000
set_option maxRecDepth 100000
set_option linter.unusedVariables false
namespace Go.Proofs.YtdbekjiognpgnaaGreat
theorem ya9{p:Prop}[Decidable p](h:¬p):decide p=false:=decide_eq_false h
theorem yb9{p:Prop}[Decidable p](h:p):decide p=true:=decide_eq_true h
theorem yc9{α:Type}[BEq α][LawfulBEq α]{a b:α}:(a==b)=false↔a≠b:=beq_eq_false_iff_ne
theorem yd9{α:Type}{l:List α}{i:Nat}(h:i<l.length):l[i]?=some l[i]:=List.getElem?_eq_getElem h
theorem yf9(n:Nat):n≤n:=Nat.le_refl n
theorem yg9(B:Nat)(w:World):Go.RowKit.Below B w w:=Go.RowKit.Below.refl B w
theorem yh9{α:Type}{l:List α}{i:Nat}{a:α}:l[i]?=some a↔∃ h:i<l.length,l[i]=a:=List.getElem?_eq_some_iff
theorem yi9{n m k:Nat}(h:n≤m)(h2:m≤k):n≤k:=Nat.le_trans h h2
theorem yj9(n:Nat):0≤n:=Nat.zero_le n
end Go.Proofs.YtdbekjiognpgnaaGreat
namespace Go.Proofs.YtdbekjiognpgnaaGreat
open Go.RowKit
theorem z00{k:IntKind}{a b:Int}(h:a=b):Ending.returned (.int k a)=.returned (.int k b):=by rw[h]
theorem z01{w w1 w2:World}(h:Below w.heap.size w w1)(k:Below w1.heap.size w1 w2):Below w.heap.size w w2:=h.trans (k.mono h.size)
theorem z02{P:Program}{w:World}{base:Nat}{e src dst:TypeId}{v:Value}{n:Nat}(xs:List Int)
  (hs:P.underlying src=some (.slice e)) (he:P.underlying e=some (.int .u8)) (hd:P.underlying dst=some .string)
  (hown:w.ownsRow base e 1 v n (xs.map (Value.int .u8))):
  (convert src dst v).run P w=.ok (.string (strOfNums xs)) w:=by
 have hcs:=fun g hg=>hown.cells (g:=g) hg;obtain⟨hlen,⟨rfl,rfl⟩|⟨g,cap,cur,rfl,hb,hg,hnc,hc,hsz,htk⟩⟩:=hown
 ·have hx:xs=[]:=by cases xs with
   | nil=>rfl
   | cons a l=>simp at hlen
  subst hx;rw[run_convert_bytes_nil w src e hs he 0 0 dst hd];rfl
 ·have hl:xs.length=n:=by simpa using hlen
  refine run_convert_bytes_arg w src e hs he g 0 n cap xs hl (fun i hi=>?_) dst hd;have h:=hcs g rfl i (.int .u8 (xs.getD i 0)) (by simp[yd9 (show i<xs.length by omega)])
  have hp:(⟨g,0,none⟩:Addr).add i=⟨g,0+i,none⟩:=by unfold Addr.add;split<;>simp_all
  rw[←hp];exact h
theorem z03{P:Program}{w w0:World}{ops:Array Oper}{rest:List Oper}{o:Oper}{a:Act}{Q:Exit->Act->World->Prop}(hgd:o.guard=none)(s x:Operand)(t:TypeId)
  (ho:o.op=.call { callee:=.builtin .append,args:=#[s,x],argTypes:=#[t,t] })
  (base:Nat) (e:TypeId) (i:TypeInfo) (z:Value) (bytes:Nat) (ht:P.underlying t=some (.slice e)) (hi:P.info? e=some i) (hz:i.zero=some z)
  (hsize:i.size=1) (hby:i.bytes=bytes) (hzs:z.cells.size=1)
  (v:Value) (n:Nat) (xs:List Value) (hs:a.eval s=v) (hown:w.ownsRow base e 1 v n xs)
  (y:Value) (hx:a.eval x=.slice (some ⟨w.heap.size,0,none⟩) 1 1) (hy:y.oneCell'=true)
  (hn:n<1000000000000) (hb:bytes<=64) (hbel:Below base w0 w) (hbase:base<=w.heap.size)
  (h:∀ v' w',w'.ownsRow base e 1 v' (n+1) (xs++[y])->Below base w0 w'->wpList P ops Q rest (a.put o.dst v') w'):wpList P ops Q (o::rest) a (w.alloc (.cells #[y] e)):=by
 refine wpList_append_own _ hgd s x t ho base e i z 1 bytes ht hi hz hsize hby hzs (by decide) v n xs hs (hown.alloc _) ⟨w.heap.size,0,none⟩ 1 1 [y] hx rfl (cell_one_new _ _ _) (fun u hu=>by simp at hu;subst hu;exact hy) (by unfold maxLen;omega) ?_ (by simp;omega) (fun v' w' h1 h2 _=>h v' w' h1 ((hbel.alloc hbase _).grown h2 (by simp;omega) (fun k hk=>(hown.lt k hk).1)))
 have:(n+1)*bytes<=1000000000000*64:=Nat.mul_le_mul (by omega) hb
 omega
theorem z04(n:Int):bits .and .i64 n 255=n%256:=by
 have h127:(BitVec.ofInt 64 255).toNat=2 ^ 8-1:=by decide
 have key:(BitVec.ofInt 64 n &&& BitVec.ofInt 64 255).toNat=(n%((2 ^ 64:Nat):Int)).toNat%2 ^ 8:=by
  rw[BitVec.toNat_and,BitVec.toNat_ofInt,h127,Nat.and_two_pow_sub_one_eq_mod]
 show IntKind.i64.wrap ((BitVec.ofInt 64 n &&& BitVec.ofInt 64 255).toNat:Nat)=n%256;rw[key,IntKind.wrap_i64];omega
theorem z05(n:Int):∃ x:Nat,x<256/\bits .and .i64 n 255=(x:Int):=⟨(n%256).toNat,by omega,by rw[z04];omega⟩
def z06(w:World)(ac:Option Addr)(len g:Nat):Prop:=
 len<=1048576/\(0<len->∃ b off,ac=some ⟨b,off,none⟩/\b≠g/\b<w.heap.size/\∀ j,j<len->∃ z:Nat,z<256/\w.cell? ⟨b,off+j,none⟩=some (.int .u8 z))
def Cur(ac:Option Addr)(len cap:Nat)(w:World)(g:Nat):Prop:=
 z06 w ac len g/\g<w.heap.size/\∃(i:Nat) (h:Int),i<=len/\w.heap[g]?=some (.cells #[.slice ac len cap,.int .i64 i,.int .i64 h] 58 (0,0))
theorem z07{w w':World}{ac:Option Addr}{len g:Nat}(h:z06 w ac len g)(hg:w.grownBy w' (some g)):z06 w' ac len g:=by
 refine⟨h.1,fun hp=>?_⟩;obtain⟨b,off,e,hb,hlt,hc⟩:=h.2 hp;refine⟨b,off,e,hb,Nat.lt_of_lt_of_le hlt hg.size,fun j hj=>?_⟩;obtain⟨z,hz,hcz⟩:=hc j hj;exact⟨z,hz,hg.cell hcz (by simpa using hb)⟩
theorem z08{w:World}{g:Nat}{a b c:Value}{t:TypeId}(h:w.heap[g]?=some (.cells #[a,b,c] t (0,0))):
  w.cell? ⟨g,0,none⟩=some a/\w.cell? ⟨g,1,none⟩=some b/\w.cell? ⟨g,2,none⟩=some c/\∀ j,w.frozen? ⟨g,j,none⟩=false:=by
 refine⟨?_,?_,?_,fun j=>?_⟩
 ·unfold World.cell?;simp only[h];rfl
 ·unfold World.cell?;simp only[h];rfl
 ·unfold World.cell?;simp only[h];rfl
 ·unfold World.frozen?;simp only[h];simp
theorem z09(w:World)(g j:Nat)(v:Value):w.grownBy (w.setCell ⟨g,j,none⟩ v) (some g):=
 ⟨rfl,rfl,rfl,by simp,fun k _ hk=>heap_setCell_other w ⟨g,j,none⟩ k v (fun e=>hk (by simp[e]))⟩
theorem z0a(w:World)(n:Nat)(row:Option Nat):w.grownBy (w.drewN n) row:=⟨rfl,rfl,rfl,yf9 _,fun _ _ _=>rfl⟩
theorem z0b(ac:Option Addr)(len cap g:Nat)(w:World)(hC:Cur ac len cap w g):
  Calls Tryz.prog 20 #[.pointer (some ⟨g,0,none⟩)] w fun e w'=>∃ x:Nat,x<256/\e=.returned (.int .i64 x)/\Cur ac len cap w' g/\w.grownBy w' (some g):=by
 obtain⟨hcode,hlt,i,h,hi,hg⟩:=hC;obtain⟨c0,c1,c2,hf⟩:=z08 hg;have f1:=hf 1;have f2:=hf 2;clear hf;go_enter Tryz.func20,Tryz.ntmps20;go_wp2;obtain⟨h1,hh1⟩:∃ h1,h1=wrap64 (wrap64 (h*6364136223846793005)+1442695040888963407):=⟨_,rfl⟩;rw[←hh1];clear hh1;obtain⟨W,hW⟩:∃ W,W=w.setCell ⟨g,2,none⟩ (.int .i64 h1):=⟨_,rfl⟩;rw[←hW];have hgW:W.heap[g]?=some (.cells #[.slice ac len cap,.int .i64 i,.int .i64 h1] 58 (0,0)):=by rw[hW,heap_setCell_same _ _ _ _ _ _ hg];rfl
 have grW:w.grownBy W (some g):=by rw[hW];exact z09 _ _ _ _
 have codeW:=z07 hcode grW;clear hW c0 c1 c2 f1 f2 hg hcode;obtain⟨c0,c1,c2,hf⟩:=z08 hgW;have f1:=hf 1;clear hf;go_quiet (fail)
 go_wp2;obtain⟨x0,hx1,hx0⟩:=z05 (bits BinOp.xor IntKind.i64 (h1/8589934592) (h1/35184372088832));rw[hx0];clear hx0;have hl:len<=1048576:=codeW.1;by_cases hil:i<len
 ·obtain⟨b,off,rfl,hbg,hbl,hcs⟩:=codeW.2 (by omega)
  obtain⟨z,hz,hcz⟩:=hcs i hil;have hil':(i:Int)<(len:Int):=by omega
  have hi0:(0:Int)<=(i:Int):=by omega
  clear hcs;go_quiet (fail)
  go_wp2;go_quiet (fail)
  go_wp2;obtain⟨x1,hx3,hx2⟩:=z05 ((x0:Int)+(z:Int));go_ret;refine⟨x1,hx3,by rw[←hx2];rfl,⟨z07 (z07 codeW (z0a _ _ _)) (z09 _ _ _ _),?_,i+1,h1,by omega,?_⟩,(grW.trans (z0a _ _ _)).trans (z09 _ _ _ _)⟩
  ·have:=grW.size;simp[World.drewN];omega
  ·rw[heap_setCell_same _ _ _ _ _ _ (show(W.drewN _).heap[g]?=_ from hgW)];rfl
 ·have d:decide ((i:Int)<(len:Int))=false:=by simp;omega
  go_quiet (fail)
  go_wp2;go_ret;exact⟨x0,hx1,rfl,⟨z07 (z07 codeW (z0a _ _ _)) (z0a _ _ _),by have:=grW.size;simp[World.drewN];omega,i,h1,hi,hgW⟩,(grW.trans (z0a _ _ _)).trans (z0a _ _ _)⟩
theorem z0c(ac:Option Addr)(len cap g:Nat)(n:Int)(w:World)(hC:Cur ac len cap w g)(hn:n<=4294967296):
  Calls Tryz.prog 21 #[.pointer (some ⟨g,0,none⟩),.int .i64 n] w fun e w'=>∃ x:Nat,((x:Int)<n\/(n<=0/\x=0))/\e=.returned (.int .i64 x)/\Cur ac len cap w' g/\w.grownBy w' (some g):=by
 by_cases h0:n<=0
 ·go_enter Tryz.func21,Tryz.ntmps21;go_wp2;go_ret;exact⟨0,.inr ⟨h0,rfl⟩,rfl,hC,⟨rfl,rfl,rfl,yf9 _,fun _ _ _=>rfl⟩⟩
 ·obtain⟨m,rfl⟩:∃ m:Nat,n=m:=⟨n.toNat,by omega⟩
  have hm0:0<m:=by omega
  have hmi:(0:Int)<(m:Int):=by omega
  have hne:((m:Int)==0)=false:=by rw[yc9];omega
  by_cases h256:m<=256
  ·go_enter Tryz.func21,Tryz.ntmps21;go_wp2_with fail;refine(z0b ac len cap g _ hC).mono ?_;rintro e w1 ⟨x,hx,rfl,hC1,gr1⟩;have hlt:=Nat.mod_lt x hm0;go_wp2;go_ret;exact⟨x%m,.inl (by omega),z00 rfl,hC1,gr1⟩
  ·have h257:256<m:=by omega
   go_enter Tryz.func21,Tryz.ntmps21;go_wp2_with fail;refine(z0b ac len cap g _ hC).mono ?_;rintro e w1 ⟨x,hx,rfl,hC1,gr1⟩;go_wp2_with fail;refine(z0b ac len cap g _ hC1).mono ?_;rintro e w2 ⟨y,hy,rfl,hC2,gr2⟩;go_wp2_with fail;refine(z0b ac len cap g _ hC2).mono ?_;rintro e w3 ⟨z,hz,rfl,hC3,gr3⟩;go_wp2_with fail;refine(z0b ac len cap g _ hC3).mono ?_;rintro e w4 ⟨q,hq,rfl,hC4,gr4⟩;have hlt:=Nat.mod_lt (x*16777216+y*65536+z*256+q) hm0;go_wp2;go_ret;exact⟨(x*16777216+y*65536+z*256+q)%m,.inl (by omega),z00 (by simp),hC4,((gr1.trans gr2).trans gr3).trans gr4⟩
theorem z0d(ac:Option Addr)(len cap g n:Nat)(w:World)(hC:Cur ac len cap w g)(h0:0<n)(hn:n<=4294967296):
  Calls Tryz.prog 21 #[.pointer (some ⟨g,0,none⟩),.int .i64 n] w fun e w'=>∃ x:Nat,x<n/\e=.returned (.int .i64 x)/\Cur ac len cap w' g/\w.grownBy w' (some g):=by
 refine(z0c ac len cap g n w hC (by omega)).mono fun e w' ⟨x,hx,h⟩=>⟨x,by omega,h⟩
theorem z0e(ac:Option Addr)(len cap g n:Nat)(w:World)(hC:Cur ac len cap w g)(h0:0<n)(hn:n<=4294967296):
  Calls Tryz.prog 31 #[.pointer (some ⟨g,0,none⟩),.int .i64 n] w fun e w'=>∃ b:Bool,e=.returned (.bool b)/\Cur ac len cap w' g/\w.grownBy w' (some g):=by
 go_enter Tryz.func31,Tryz.ntmps31;go_wp2_with fail;refine(z0d ac len cap g n _ hC h0 hn).mono ?_;rintro e w1 ⟨x,hx,rfl,hC1,gr1⟩;go_wp2;go_ret;exact⟨_,rfl,hC1,gr1⟩
theorem z0f{w:World}{ac:Option Addr}{len cap:Nat}(hc:z06 w ac len w.heap.size)(h:Int):Cur ac len cap (w.alloc (.cells #[.slice ac len cap,.int .i64 0,.int .i64 h] 58)) w.heap.size:=
 ⟨z07 hc (World.grownBy_alloc _ _ _),by simp,0,h,yj9 _,heap_alloc_new w _⟩
theorem z0g(ac:Option Addr)(len cap:Nat)(w:World)(hc:z06 w ac len w.heap.size):
  Calls Tryz.prog 11 #[.slice ac len cap] w fun e w'=>∃ g,e=.returned (.pointer (some ⟨g,0,none⟩))/\w.heap.size<=g/\Cur ac len cap w' g/\Below w.heap.size w w':=by
 have hl:=hc.1;go_enter Tryz.func11,Tryz.ntmps11;go_wp2;go_loop [3,4] (fun x y=>∃(h:Int) (i:Nat),i<=len/\x=.int .i64 h/\y=.int .i64 i) (fun _ y=>len-(intOf y).toNat)
 case atStart=>exact⟨_,0,yj9 _,rfl,rfl⟩
 case round=>
  obtain⟨h,i,hi,rfl,rfl⟩:=hrel;by_cases hil:i<len
  ·obtain⟨b,off,rfl,hbg,hbl,hcs⟩:=hc.2 (by omega)
   obtain⟨z,hz,hcz⟩:=hcs i hil;have hil':(i:Int)<(len:Int):=by omega
   have hi0:(0:Int)<=(i:Int):=by omega
   clear hcs;by_cases h4:i<4000
   ·have h4':(i:Int)<4000:=by omega
    go_wp2;go_round
    case rel=>exact⟨_,i+1,by omega,rfl,by go_num⟩
    case measure=>simp[intOf];omega
   ·have d:decide ((i:Int)<4000)=false:=by simp;omega
    go_wp2;go_ret;exact⟨w.heap.size,rfl,yf9 _,z0f hc _,(yg9 _ _).alloc (yf9 _) _⟩
  ·go_wp2;go_ret;exact⟨w.heap.size,rfl,yf9 _,z0f hc _,(yg9 _ _).alloc (yf9 _) _⟩
theorem Tryz.infoByte:(Tryz.prog.info? 5).map (fun i=>(i.zero,i.size,i.bytes))=some (some (.int .u8 0),1,1):=by kernel_rfl
theorem Tryz.infoText:(Tryz.prog.info? 9).map (fun i=>(i.zero,i.size,i.bytes))=some (some (.string ⟨#[]⟩),1,16):=by kernel_rfl
theorem Tryz.infoInt:(Tryz.prog.info? 3).map (fun i=>(i.zero,i.size,i.bytes))=some (some (.int .i64 0),1,8):=by kernel_rfl
theorem z0h{ac:Option Addr}{len cap g:Nat}{w:World}(h:Cur ac len cap w g)(o:Obj):Cur ac len cap (w.alloc o) g:=by
 obtain⟨h1,h2,i,hh,h3,h4⟩:=h;exact⟨z07 h1 (World.grownBy_alloc _ _ _),by simp;omega,i,hh,h3,by rw[Below.heap_alloc w o g h2];exact h4⟩
theorem z0i{w w1 w2:World}{row:Option Nat}(gr:w.grownBy w1 row)(b:Below w.heap.size w1 w2):w.grownBy w2 row:=
 ⟨b.os.trans gr.os,b.tape.trans gr.tape,b.output.trans gr.output,yi9 gr.size b.size,fun k hk hr=>(b.block k hk).trans (gr.block k hk hr)⟩
theorem z0j{ac:Option Addr}{len cap g:Nat}{w w1 w2:World}(h:Cur ac len cap w g)(h1:Cur ac len cap w1 g)(b:Below w.heap.size w1 w2):Cur ac len cap w2 g:=by
 obtain⟨⟨hc1,hc2⟩,hlt,_⟩:=h;obtain⟨⟨hd1,hd2⟩,hlt1,i,hh,h3,h4⟩:=h1;refine⟨⟨hd1,fun hp=>?_⟩,Nat.lt_of_lt_of_le hlt1 b.size,i,hh,h3,by rw[b.block g hlt];exact h4⟩
 obtain⟨x,off,e,hx,hxl,_⟩:=hc2 hp;obtain⟨y,off',e',hy,hyl,hc⟩:=hd2 hp;rw[e]at e';injection e' with e1;injection e1 with e2 e3;subst e2;subst e3;exact⟨x,off,e,hx,Nat.lt_of_lt_of_le hyl b.size,fun j hj=>by obtain⟨z,hz,hcz⟩:=hc j hj;exact⟨z,hz,(b.cell hxl).trans hcz⟩⟩
theorem z0k(ac:Option Addr)(len cap g n:Nat)(w:World)(hC:Cur ac len cap w g)(hn:n<=5000):
  Calls Tryz.prog 58 #[.pointer (some ⟨g,0,none⟩),.int .i64 n] w fun e w'=>∃ s:ByteArray,s.size=n/\e=.returned (.string s)/\Cur ac len cap w' g/\w.grownBy w' (some g):=by
 obtain⟨i0,hi,hz0,hz1,hz2⟩:=info_parts Tryz.infoByte;have hg:=hC.2.1;go_enter Tryz.func58,Tryz.ntmps58;go_wp2;go_loopw [5,6] (fun v x wr=>∃(k:Nat) (xs:List Int),k<=n/\x=.int .i64 k/\xs.length=k/\wr.ownsRow w.heap.size 5 1 v k (xs.map (Value.int .u8))/\Cur ac len cap wr g/\w.grownBy wr (some g)) (fun _ x _=>n-(intOf x).toNat)
 case atStart=>exact⟨0,[],yj9 _,rfl,rfl,World.ownsRow_made w #[] 0 (yf9 _) (yj9 _) rfl,z0h hC _,World.grownBy_alloc _ _ _⟩
 case round=>
  obtain⟨k,xs,hk,rfl,hxs,hown,hCr,gr⟩:=hrel;have hsz:=gr.size;by_cases hlt:k<n
  ·go_wp2_with fail;refine(z0b ac len cap g wr hCr).mono ?_;rintro e w1 ⟨x,hx,rfl,hC1,gr1⟩;have hown1:w1.ownsRow w.heap.size 5 1 _ k (xs.map (Value.int .u8)):=hown.kept gr1 (by
    cases hv:Value.ownBlock _ with
    | none=>exact .inl rfl
    | some q=>exact .inr (by have:=(hown.lt q hv).1;simp;omega))
   have hsz1:=gr1.size;go_wp2_with (at_builtin;refine z03 (w0:=w1) rfl _ _ 22 rfl w.heap.size 5 i0 (.int .u8 0) 1 Tryz.underlying22 hi hz0 hz1 hz2 rfl _ _ _ rfl hown1 (.int .u8 (x:Int)) rfl rfl (by omega) (by decide) (yg9 _ _) (by omega) ?_)
   intro v' w2 hown' hbel';have hC2:=z0j hC hC1 hbel';have gr2:=z0i (gr.trans gr1) hbel';have hrow:w2.ownsRow w.heap.size 5 1 v' (k+1) ((xs++[(x:Int)]).map (Value.int .u8)):=by simpa using hown'
   clear hown' hown hown1 gr gr1 hC hCr;go_wp2;go_roundw
   case rel=>exact⟨k+1,xs++[(x:Int)],by omega,by go_num,by simp[hxs],hrow,hC2,gr2⟩
   case measure=>simp[intOf];omega
  ·obtain rfl:k=n:=by omega
   have hcv:=z02 (P:=Tryz.prog) xs Tryz.underlying22 Tryz.underlying5 Tryz.underlying9 hown;go_wp2;go_ret;exact⟨strOfNums xs,by rw[strOfNums_size];exact hxs,rfl,hCr,gr⟩
theorem z0l{w:World}{B:Nat}{e:TypeId}{g n c:Nat}{xs:List Value}(h:w.ownsRow B e 1 (.slice (some ⟨g,0,none⟩) n c) n xs)(j:Nat):w.frozen? ⟨g,j,none⟩=false:=by
 rcases h.2 with ⟨h',_⟩|⟨g',cap',cur,h',hb,hg,_⟩
 ·simp at h'
 ·simp only[Value.slice.injEq,Option.some.injEq,Addr.mk.injEq,and_true,true_and]at h';obtain⟨rfl,rfl⟩:=h';unfold World.frozen?
  simp only[hg];simp
theorem z0m(n:Nat)(y:Int)(w:World)(hn:n<=1000000):
  Calls Tryz.prog 32 #[.int .i64 n,.int .u8 y] w fun e w'=>∃ s:ByteArray,s.size=n/\e=.returned (.string s)/\Below w.heap.size w w':=by
 obtain⟨i0,hi,hz0,hz1,hz2⟩:=info_parts Tryz.infoByte;have hmk:=fun W:World=>run_make (P:=Tryz.prog) W 22 5 i0 (.int .u8 0) Tryz.underlying22 hi hz0 .i64 .i64 (n:Int) (n:Int) (by omega) (by omega) (by rw[hz2];omega) (by omega)
 go_enter Tryz.func32,Tryz.ntmps32;go_wp2;clear hmk;go_loopw [6] (fun x wr=>∃(k:Nat) (zs:List Int),k<=n/\x=.int .i64 k/\zs.length=n/\wr.ownsRow w.heap.size 5 1 (.slice (some ⟨w.heap.size,0,none⟩) n n) n (zs.map (Value.int .u8))/\Below w.heap.size w wr) (fun x _=>n-(intOf x).toNat)
 case atStart=>
  refine⟨0,List.replicate n 0,yj9 _,rfl,by simp,⟨by simp,.inr ⟨w.heap.size,n,_,rfl,yf9 _,heap_alloc_new w _,yf9 _,by unfold maxLen;omega,by simp[size_madeCells],?_⟩⟩,(yg9 _ _).alloc (yf9 _) _⟩
  rw[toList_madeCells_one,Nat.mul_one,List.map_replicate,List.take_of_length_le (by simp)]
 case round=>
  obtain⟨k,zs,hk,rfl,hzl,hown,hbel⟩:=hrel;by_cases hlt:k<n
  ·have hki:(k:Int)<(n:Int):=by omega
   have hk0:(0:Int)<=(k:Int):=by omega
   have hc1:wr.cell? ⟨w.heap.size,k,none⟩=some (.int .u8 (zs[k]'(by omega))):=by
    have h:=hown.cells (g:=w.heap.size) rfl k (.int .u8 (zs[k]'(by omega))) (by rw[List.getElem?_map,yd9 (by omega)];rfl)
    have hp:(⟨w.heap.size,0,none⟩:Addr).add k=⟨w.heap.size,k,none⟩:=by unfold Addr.add;split<;>simp_all
    rw[←hp];exact h
   have hf1:wr.frozen? ⟨w.heap.size,k,none⟩=false:=z0l hown k;have st:=hown.stored k (.int .u8 y);have HS:Hid _:=st;clear st;go_wp2;go_roundw
   case rel=>exact⟨k+1,zs.set k y,by omega,by go_num,by simpa using hzl,by rw[List.map_set];exact HS.out.1,hbel.setCell (yf9 _) _⟩
   case measure=>simp[intOf];omega
  ·obtain rfl:k=n:=by omega
   have hcv:=z02 (P:=Tryz.prog) zs Tryz.underlying22 Tryz.underlying5 Tryz.underlying9 hown;go_wp2;go_ret;exact⟨strOfNums zs,by rw[strOfNums_size];exact hzl,rfl,hbel⟩
theorem z0n{w:World}{a:Option Addr}{len cap:Nat}{zs:List Int}(h:(a=none/\len=0/\cap=0/\zs=[])\/∃ x,a=some x/\len<=cap/\cap<=maxLen/\zs.length=cap/\(∀ i,i<zs.length->w.cell? (x.add i)=some (.int .u8 (zs.getD i 0)))/\∀ n∈zs,(Lit.int .u8 n).wf=true)(hl:len<=1048576):z06 w a len w.heap.size:=by
 refine⟨hl,fun hp=>?_⟩;rcases h with ⟨_,h0,_⟩|⟨⟨b,off,spot⟩,rfl,hlc,_,hz,hc,hw⟩
 ·omega
 ·have h0:=hc 0 (by omega)
  have hs:spot=none:=by simpa [Addr.add] using World.cell?_spot h0
  subst hs;have hp0:∀ j,(⟨b,off,none⟩:Addr).add j=⟨b,off+j,none⟩:=fun j=>by unfold Addr.add;split<;>simp_all
  have hlt:b<w.heap.size:=by
   have:=World.block_lt_of_cell? w _ h0;rw[hp0]at this;exact this
  refine⟨b,off,rfl,by omega,hlt,fun j hj=>?_⟩
  have hj2:j<zs.length:=by omega
  have hcj:=hc j hj2;rw[hp0,List.getD_eq_getElem?_getD,yd9 hj2]at hcj;have hwj:=hw _ (List.getElem_mem hj2);have hb:0<=zs[j]/\zs[j]<=255:=bounds_u8 hwj;refine⟨zs[j].toNat,by omega,?_⟩
  rw[hcj];simp only[Option.getD_some];congr 2
  omega
theorem z0o(ac:Option Addr)(len cap:Nat)(w:World)(hl:len<=9223372036854775807):
  Calls Tryz.prog 4 #[.slice ac len cap] w fun e w'=>e=.returned (.bool (decide (1048576<(len:Int))))/\w=w':=by
 go_enter Tryz.func4,Tryz.ntmps4;go_wp2;go_ret;exact⟨rfl,rfl⟩
theorem z0p(s:ByteArray)(k:Nat)(h:k<s.size):s.data.toList.take (k+1)=s.data.toList.take k++[s[k]]:=by
 rw[List.take_succ_eq_append_getElem (by rw[←Lib.size_eq];exact h)];rfl
theorem z0q(s:ByteArray):s.data.toList.take s.size=s.data.toList:=by rw[Lib.size_eq,List.take_length]
def sl(s:ByteArray)(a b:Nat):List UInt8:=(s.data.toList.drop a).take (b-a)
theorem z0r(s:ByteArray)(a:Nat):sl s a a=[]:=by simp[sl]
theorem z0s{s:ByteArray}{a b:Nat}(hb:b<=s.size):(sl s a b).length=b-a:=by
 have:s.size=s.data.toList.length:=Lib.size_eq s;simp only[sl,List.length_take,List.length_drop];omega
theorem z0t{s:ByteArray}{a i:Nat}(ha:a<=i)(h:i<s.size):sl s a (i+1)=sl s a i++[s[i]]:=by
 have hl:s.size=s.data.toList.length:=Lib.size_eq s;unfold sl;have e:i+1-a=(i-a)+1:=by omega
 have hlt:i-a<(s.data.toList.drop a).length:=by rw[List.length_drop];omega
 rw[e,List.take_succ_eq_append_getElem hlt,List.getElem_drop];congr 2
 have e2:a+(i-a)=i:=by omega
 simp only[e2];rfl
def fig(x:Nat):Nat:=if x<10 then 48+x else 87+x
theorem z0u(x:Nat)(w:World)(h:x<16):
  Calls Tryz.prog 84 #[.int .i64 x] w fun e w'=>e=.returned (.int .u8 (fig x))/\w=w':=by
 by_cases h10:x<10
 ·have E:Hid (fig x=48+x):=if_pos h10;go_enter Tryz.func84,Tryz.ntmps84;go_wp2;go_ret;exact⟨by rw[E.out];rfl,rfl⟩
 ·have E:Hid (fig x=87+x):=if_neg h10;go_enter Tryz.func84,Tryz.ntmps84;go_wp2;go_ret;exact⟨z00 (by rw[E.out];omega),rfl⟩
theorem z0v(x:Int)(w:World)(h0:0<=x)(h:x<16):
  Calls Tryz.prog 84 #[.int .i64 x] w fun e w'=>e=.returned (.int .u8 (fig x.toNat))/\w=w':=by
 obtain⟨N,rfl⟩:∃ N:Nat,x=N:=⟨x.toNat,by omega⟩
 exact z0u N w (by omega)
theorem z0w(w:World)(ys:List Value)(t:TypeId):∀ j u,ys[j]?=some u->(w.alloc (.cells ys.toArray t)).cell? ((⟨w.heap.size,0,none⟩:Addr).add j)=some u:=by
 intro j u hj;have hp:(⟨w.heap.size,0,none⟩:Addr).add j=⟨w.heap.size,j,none⟩:=by unfold Addr.add;split<;>simp_all
 rw[hp];have h:=heap_alloc_new w (.cells ys.toArray t);unfold World.cell?
 simp only[h];simpa using hj
def z0x(m:Nat):List UInt8:=if m=0 then []else Lib.decDigits m
theorem z0y:z0x 0=[]:=rfl
theorem z0z{m:Nat}(h:m≠0):z0x m=z0x (m/10)++[UInt8.ofNat (48+m%10)]:=by
 unfold z0x;rw[if_neg h];by_cases h10:m<10
 ·rw[Lib.decDigits,dif_pos h10,if_pos (by omega),show m%10=m by omega];rfl
 ·rw[Lib.decDigits,dif_neg h10,if_neg (by omega)]
theorem z0A{m:Nat}(h:m≠0):z0x m=Lib.decDigits m:=if_neg h
def z0B(u m:Nat)(l:List UInt8):Prop:=z0x m++l=Lib.decDigits u/\m<=u/\(1<=m->2*l.length+m<=u)/\(m=0->2*l.length<=u+1)
theorem z0C{u:Nat}(h:u≠0):z0B u u []:=⟨by rw[z0A h,List.append_nil],yf9 _,fun _=>by simp,fun e=>absurd e h⟩
theorem z0D{u m:Nat}{l:List UInt8}(hm:m≠0)(h:z0B u m l):z0B u (m/10) (UInt8.ofNat (48+m%10)::l):=by
 obtain⟨h1,h2,h3,h4⟩:=h;refine⟨?_,by omega,fun _=>?_,fun _=>?_⟩
 ·rw[←h1,z0z hm,List.append_assoc];rfl
 ·have:=h3 (by omega)
  rw[List.length_cons];omega
 ·have:=h3 (by omega)
  rw[List.length_cons];omega
theorem z0E{u m:Nat}{l:List UInt8}(h:z0B u m l):2*l.length<=u+1:=by
 obtain⟨_,_,h3,h4⟩:=h;by_cases e:m=0
 ·exact h4 e
 ·have:=h3 (by omega);omega
theorem z0F{u:Nat}{l:List UInt8}(h:z0B u 0 l):l=Lib.decDigits u:=by
 have:=h.1;rwa [z0y,List.nil_append]at this
theorem z0G(a:Nat)(l:List UInt8):strOfNums [(fig a:Int)]++(⟨l.toArray⟩:ByteArray)=⟨(UInt8.ofNat (fig a)::l).toArray⟩:=by
 apply ByteArray.ext
 rw[ByteArray.data_append];simp[strOfNums]
theorem z0H{a:Nat}(h:a<10):fig a=48+a:=if_pos h
theorem z0I{P:Program}(w:World){e src dst:TypeId}(y:Int)(hs:P.underlying src=some (.slice e))(he:P.underlying e=some (.int .u8))(hd:P.underlying dst=some .string):
  (convert src dst (.slice (some ⟨w.heap.size,0,none⟩) 1 1)).run P (w.alloc (.cells #[.int .u8 y] e))=.ok (.string (strOfNums [y])) (w.alloc (.cells #[.int .u8 y] e)):=by
 refine run_convert_bytes_arg _ src e hs he w.heap.size 0 1 1 [y] rfl (fun i hi=>?_) dst hd;obtain rfl:i=0:=by omega
 exact z0w w [.int .u8 y] e 0 _ rfl
theorem z0J(u:Nat)(w:World)(h0:u≠0)(hu:u<=9223372036854775807):
  Calls Tryz.prog 56 #[.int .i64 u] w fun e w'=>e=.returned (.string ⟨(Lib.decDigits u).toArray⟩)/\Below w.heap.size w w':=by
 have hne:((u:Int)==0)=false:=by simp;omega
 go_enter Tryz.func56,Tryz.ntmps56;go_wp2;go_loopw [0,4] (fun x v wr=>∃(m:Nat) (l:List UInt8),x=.int .i64 m/\v=.string ⟨l.toArray⟩/\z0B u m l/\Below w.heap.size w wr) (fun x _ _=>(intOf x).toNat)
 case atStart=>exact⟨u,[],rfl,rfl,z0C h0,yg9 _ _⟩
 case round=>
  obtain⟨m,l,rfl,rfl,hD,hbel⟩:=hrel;have hsz:=hbel.size;have hlen:=z0E hD;have hmu:m<=u:=hD.2.1;have HD:Hid (z0B u m l):=hD;clear hD;by_cases hm:m=0
  ·subst hm;have E:Hid (l=Lib.decDigits u):=z0F HD.out;go_wp2;go_ret;exact⟨by rw[←E.out];rfl,hbel⟩
  ·have hne2:((m:Int)!=0)=true:=by simp;omega
   have b1:(0:Int)<=(m:Int)%10:=by omega
   have b2:(m:Int)%10<16:=by omega
   have hcv:=fun y=>z0I (P:=Tryz.prog) wr y Tryz.underlying22 Tryz.underlying5 Tryz.underlying9;have hz:(strOfNums [(fig (m%10):Int)]).size=1:=by rw[strOfNums_size];rfl
   go_wp2_with (go_at_call 84;refine(z0v _ _ ?_ ?_).mono ?_;with_reducible assumption;with_reducible assumption;rintro e w' ⟨rfl,rfl⟩)
   go_roundw
   case rel=>
    refine⟨m/10,UInt8.ofNat (48+m%10)::l,by go_num,?_,z0D hm HD.out,hbel.alloc hsz _⟩
    rw[z0G,z0H (by omega)]
   case measure=>simp[intOf];omega
theorem z0K(w:World):
  Calls Tryz.prog 56 #[.int .i64 0] w fun e w'=>e=.returned (.string ⟨(Lib.decDigits 0).toArray⟩)/\Below w.heap.size w w':=by
 have E:Hid (Lib.decDigits 0=[48]):=by
  show Lib.decDigits 0=[48];rw[Lib.decDigits,dif_pos (by omega)];rfl
 go_enter Tryz.func56,Tryz.ntmps56;go_wp2;go_ret;exact⟨by rw[E.out];rfl,yg9 _ _⟩
theorem z0L(u:Nat)(w:World)(hu:u<=9223372036854775807):
  Calls Tryz.prog 56 #[.int .i64 u] w fun e w'=>e=.returned (.string ⟨(Lib.decDigits u).toArray⟩)/\Below w.heap.size w w':=by
 by_cases h:u=0
 ·subst h;exact z0K w
 ·exact z0J u w h hu
end Go.Proofs.YtdbekjiognpgnaaGreat
namespace Go.Proofs.YtdbekjiognpgnaaGreat
def rne(m k:Nat)(st:Bool):Nat:=if 2 ^ k<2*(m%2 ^ k)\/(2*(m%2 ^ k)=2 ^ k/\(st=true\/m/2 ^ k%2=1))then m/2 ^ k+1 else m/2 ^ k
def z0M(m:Nat)(e:Int)(st:Bool):Nat:=
 if m=0 then 0 else
 if max (e+m.log2-52) (-1074)<=e then min (m*2 ^ (e-max (e+m.log2-52) (-1074)).toNat+(max (e+m.log2-52) (-1074)+1074).toNat*4503599627370496) 9218868437227405312
 else min (rne m (max (e+m.log2-52) (-1074)-e).toNat st+(max (e+m.log2-52) (-1074)+1074).toNat*4503599627370496) 9218868437227405312
theorem z0N(m:Nat)(st:Bool):rne m 0 st=m:=by
 unfold rne;simp[Nat.mod_one]
theorem z0O(m k:Nat)(st:Bool):rne (2*m) (k+1) st=rne m k st:=by
 unfold rne;have h1:2*m/2 ^ (k+1)=m/2 ^ k:=by rw[Nat.pow_succ,Nat.mul_comm (2 ^ k) 2,Nat.mul_div_mul_left _ _ (by decide:0<2)]
 have h2:2*m%2 ^ (k+1)=2*(m%2 ^ k):=by rw[Nat.pow_succ,Nat.mul_comm (2 ^ k) 2,Nat.mul_mod_mul_left]
 rw[h1,h2,Nat.pow_succ];have h3:(2 ^ k*2<2*(2*(m%2 ^ k)))↔(2 ^ k<2*(m%2 ^ k)):=by omega
 have h4:(2*(2*(m%2 ^ k))=2 ^ k*2)↔(2*(m%2 ^ k)=2 ^ k):=by omega
 simp only[h3,h4]
theorem z0P{m k:Nat}(st:Bool)(h:2*m<2 ^ k):rne m k st=0:=by
 have hm:m<2 ^ k:=by omega
 unfold rne;rw[Nat.mod_eq_of_lt hm,Nat.div_eq_of_lt hm,if_neg (by omega)]
theorem z0Q{m k:Nat}(h1:2 ^ k<=m)(h2:m<2 ^ (k+1)):m.log2=k:=by
 have hm:m≠0:=by have:=Nat.two_pow_pos k;omega
 have a:=(Nat.le_log2 hm).2 h1;have b:=(Nat.log2_lt hm).2 h2;omega
theorem z0R{m k:Nat}{e:Int}(st:Bool)(hm:m≠0)(h0:-1074<=e+k)(h1:m<2 ^ (53+k))(h2:e+k=-1074\/2 ^ (52+k)<=m):
  z0M m e st=min (rne m k st+(e+k+1074).toNat*4503599627370496) 9218868437227405312:=by
 have hl:m.log2<53+k:=(Nat.log2_lt hm).2 h1;have ht:max (e+m.log2-52) (-1074)=e+k:=by
  rcases h2 with h2|h2
  ·omega
  ·have:=(Nat.le_log2 hm).2 h2;omega
 unfold z0M;rw[if_neg hm,ht];by_cases hk:k=0
 ·subst hk;simp[z0N]
 ·rw[if_neg (by omega)]
  have e1:(e+(k:Int)-e).toNat=k:=by omega
  rw[e1]
theorem z0S(m:Nat)(e:Int)(st:Bool):z0M (2*m) (e-1) st=z0M m e st:=by
 by_cases hm:m=0
 ·subst hm;simp[z0M]
 have hl:(2*m).log2=m.log2+1:=by
  refine z0Q ?_ ?_
  ·have:=Nat.log2_self_le hm;rw[Nat.pow_succ];omega
  ·have:=Nat.lt_log2_self (n:=m);rw[Nat.pow_succ];omega
 unfold z0M;rw[if_neg hm,if_neg (by omega),hl]
 have ht:e-1+((m.log2+1:Nat):Int)-52=e+m.log2-52:=by omega
 rw[ht];generalize max (e+(m.log2:Int)-52) (-1074)=t;by_cases h1:t<=e-1
 ·rw[if_pos h1,if_pos (by omega)]
  have e1:(e-t).toNat=(e-1-t).toNat+1:=by omega
  rw[e1,Nat.pow_succ,Nat.mul_comm 2 m,Nat.mul_assoc,Nat.mul_comm 2 (2 ^ _)]
 ·rw[if_neg h1];by_cases h2:t<=e
  ·have:t=e:=by omega
   subst this;have e1:(t-(t-1)).toNat=0+1:=by omega
   rw[if_pos (by omega),e1,z0O,z0N]
   simp
  ·rw[if_neg h2];have e1:(t-(e-1)).toNat=(t-e).toNat+1:=by omega
   rw[e1,z0O]
theorem z0T(j m:Nat)(e:Int)(st:Bool):z0M (m*2 ^ j) (e-j) st=z0M m e st:=by
 induction j with
 | zero=>simp
 | succ j ih=>
  rw[←ih,←z0S (m*2 ^ j)];congr 1
  ·rw[Nat.pow_succ,←Nat.mul_assoc];omega
  ·omega
theorem z0U{m:Nat}{e:Int}(st:Bool)(hm:m<18446744073709551616)(he:e<=-1139):z0M m e st=0:=by
 by_cases h0:m=0
 ·subst h0;simp[z0M]
 have hk:e+((-1074-e).toNat:Nat)=-1074:=by omega
 have hp:(2:Nat) ^ 65<=2 ^ (-1074-e).toNat:=Nat.pow_le_pow_right (by decide) (by omega)
 rw[z0R (k:=(-1074-e).toNat) st h0 (by omega) (by rw[Nat.pow_add];omega) (.inl hk),z0P st (by omega),hk]
 simp
theorem z0V{m:Nat}{e:Int}(st:Bool)(h0:m≠0)(he:1100<=e):z0M m e st=9218868437227405312:=by
 unfold z0M;rw[if_neg h0];have h1:1048<=max (e+m.log2-52) (-1074):=by omega
 have h2:2122*4503599627370496<=(max (e+(m.log2:Int)-52) (-1074)+1074).toNat*4503599627370496:=Nat.mul_le_mul_right _ (by omega)
 split<;>omega
def z0W(below:Bool)(x:Nat):Nat:=if below then x+9223372036854775808 else x
theorem z0X(m:Nat)(e:Int)(st:Bool):z0M m e st<=9218868437227405312:=by
 unfold z0M;split
 ·omega
 ·split<;>omega
theorem z0Y(m j:Nat)(st:Bool):rne m (j+1) st=m/2 ^ (j+1)+(if m/2 ^ j%2=1/\((st=true\/m%2 ^ j≠0)\/m/2 ^ (j+1)%2=1)then 1 else 0):=by
 unfold rne;have hr:m%2 ^ (j+1)=m%2 ^ j+2 ^ j*(m/2 ^ j%2):=by rw[Nat.pow_succ,Nat.mod_mul]
 have hlt:m%2 ^ j<2 ^ j:=Nat.mod_lt _ (Nat.two_pow_pos j);rw[hr,Nat.pow_succ];rcases Nat.mod_two_eq_zero_or_one (m/2 ^ j)with hb|hb
 ·rw[hb,if_neg (by omega),if_neg (by omega)];simp
 ·rw[hb,Nat.mul_one];by_cases hz:m%2 ^ j=0
  ·rw[hz];by_cases hc:st=true\/m/(2 ^ j*2)%2=1
   ·rw[if_pos (.inr ⟨by omega,hc⟩),if_pos ⟨rfl,by rcases hc with h|h;exact .inl (.inl h);exact .inr h⟩]
   ·rw[if_neg,if_neg]
    ·simp
    ·rintro ⟨-,(h|h)|h⟩
     ·exact hc (.inl h)
     ·exact h rfl
     ·exact hc (.inr h)
    ·rintro (h|⟨-,h⟩)
     ·omega
     ·exact hc h
  ·rw[if_pos (.inl (by omega)),if_pos ⟨rfl,.inl (.inr hz)⟩]
def z0Z(x:Nat):Nat:=x/4503599627370496%2048
def z11(x:Nat):Nat:=x%4503599627370496
def z12(x:Nat):Nat:=if z0Z x=2047 then (if z11 x=0 then 2 else 1)else if z0Z x=0/\z11 x=0 then 3 else 4
def z13(x:Nat):Bool:=decide (9223372036854775808<=x/\z12 x≠1)
def z14(x:Nat):Nat:=if z12 x=4 then (if z0Z x=0 then z11 x else z11 x+4503599627370496)else 0
def expN(x:Nat):Int:=if z12 x=4 then (if z0Z x=0 then -1074 else (z0Z x:Int)-1075)else 0
theorem z15{x:Nat}(hx:x<18446744073709551616):((x:Int)/9223372036854775808==1)=decide (9223372036854775808<=x):=by
 rw[Bool.eq_iff_iff];simp only[beq_iff_eq,decide_eq_true_eq];omega
theorem z16{M k d low:Nat}(hk:k≠0)(hl:low<2 ^ d):rne (M*2 ^ d+low) (k+d) false=rne M k (decide (low≠0)):=by
 obtain⟨j,rfl⟩:∃ j,k=j+1:=⟨k-1,by omega⟩
 have hd:=Nat.two_pow_pos d;have hq:(M*2 ^ d+low)/2 ^ (j+1+d)=M/2 ^ (j+1):=by
  rw[Nat.pow_add,Nat.mul_comm (2 ^ (j+1)),←Nat.div_div_eq_div_mul];congr 1
  rw[Nat.mul_comm,Nat.mul_add_div hd,Nat.div_eq_of_lt hl];simp
 have hm:(M*2 ^ d+low)%2 ^ (j+1+d)=M%2 ^ (j+1)*2 ^ d+low:=by
  have h1:=Nat.div_add_mod (M*2 ^ d+low) (2 ^ (j+1+d));have h2:=Nat.div_add_mod M (2 ^ (j+1));rw[hq]at h1;have h3:2 ^ (j+1+d)*(M/2 ^ (j+1))=2 ^ (j+1)*(M/2 ^ (j+1))*2 ^ d:=by rw[Nat.pow_add,Nat.mul_assoc,Nat.mul_comm (2 ^ d),←Nat.mul_assoc]
  have h4:M*2 ^ d=(2 ^ (j+1)*(M/2 ^ (j+1))+M%2 ^ (j+1))*2 ^ d:=by rw[h2]
  rw[Nat.add_mul]at h4;rw[h3]at h1;omega
 unfold rne;rw[hq,hm];generalize M%2 ^ (j+1)=r;generalize M/2 ^ (j+1)=q;have hP:(2:Nat) ^ (j+1+d)=2*(2 ^ j*2 ^ d):=by rw[Nat.pow_add,Nat.pow_succ];rw[Nat.mul_comm (2 ^ j) 2,Nat.mul_assoc]
 have hK:(2:Nat) ^ (j+1)=2*2 ^ j:=by rw[Nat.pow_succ,Nat.mul_comm]
 rw[hP,hK];generalize (2:Nat) ^ j=J at *;generalize hD:(2:Nat) ^ d=D at *;have c1:(2*(J*D)<2*(r*D+low))↔(J<r\/(r=J/\low≠0)):=by
  constructor
  ·intro h;rcases Nat.lt_trichotomy r J with h'|h'|h'
   ·have:(r+1)*D<=J*D:=Nat.mul_le_mul_right _ h';rw[Nat.add_mul]at this;omega
   ·subst h';exact .inr ⟨rfl,by omega⟩
   ·exact .inl h'
  ·rintro (h|⟨rfl,h⟩)
   ·have:(J+1)*D<=r*D:=Nat.mul_le_mul_right _ h;rw[Nat.add_mul]at this;omega
   ·omega
 have c2:(2*(r*D+low)=2*(J*D))↔(r=J/\low=0):=by
  constructor
  ·intro h;rcases Nat.lt_trichotomy r J with h'|h'|h'
   ·have:(r+1)*D<=J*D:=Nat.mul_le_mul_right _ h';rw[Nat.add_mul]at this;omega
   ·subst h';exact⟨rfl,by omega⟩
   ·have:(J+1)*D<=r*D:=Nat.mul_le_mul_right _ h';rw[Nat.add_mul]at this;omega
  ·rintro ⟨rfl,rfl⟩;simp
 have c3:(2*J<2*r)↔J<r:=by omega
 have c4:(2*r=2*J)↔r=J:=by omega
 simp only[c1,c2,c3,c4,Bool.false_eq_true,false_or,decide_eq_true_eq];by_cases h1:J<r
 ·rw[if_pos (.inl (.inl h1)),if_pos (.inl h1)]
 ·by_cases h2:r=J
  ·by_cases h3:low=0
   ·by_cases h4:q%2=1
    ·rw[if_pos (.inr ⟨⟨h2,h3⟩,h4⟩),if_pos (.inr ⟨h2,.inr h4⟩)]
    ·rw[if_neg,if_neg]
     ·rintro (h|⟨-,h|h⟩)
      ·exact h1 h
      ·exact h h3
      ·exact h4 h
     ·rintro ((h|⟨-,h⟩)|⟨-,h⟩)
      ·exact h1 h
      ·exact h h3
      ·exact h4 h
   ·rw[if_pos (.inl (.inr ⟨h2,h3⟩)),if_pos (.inr ⟨h2,.inl h3⟩)]
  ·rw[if_neg,if_neg]
   ·rintro (h|⟨h,-⟩)
    ·exact h1 h
    ·exact h2 h
   ·rintro ((h|⟨h,-⟩)|⟨⟨h,-⟩,-⟩)
    ·exact h1 h
    ·exact h2 h
    ·exact h2 h
theorem z17{M d low:Nat}{E:Int}(hl:low<2 ^ d)(hM:low=0\/9007199254740992<=M):z0M (M*2 ^ d+low) (E-d) false=z0M M E (decide (low≠0)):=by
 have hd:=Nat.two_pow_pos d;by_cases h0:low=0
 ·subst h0;rw[Nat.add_zero,z0T];rfl
 have hM1:9007199254740992<=M:=by omega
 have hm0:M≠0:=by omega
 obtain⟨l,hlog⟩:∃ l,M.log2=l:=⟨_,rfl⟩;have h1:2 ^ l<=M:=by rw[←hlog];exact Nat.log2_self_le hm0
 have h2:M<2 ^ (l+1):=by rw[←hlog];exact Nat.lt_log2_self
 have hl53:53<=l:=by
  rcases Nat.lt_or_ge l 53 with h|h
  ·have:(2:Nat) ^ (l+1)<=2 ^ 53:=Nat.pow_le_pow_right (by decide) h
   omega
  ·exact h
 obtain⟨k,hk⟩:∃ k:Nat,(k:Int)=max (E+l-52) (-1074)-E:=⟨(max (E+l-52) (-1074)-E).toNat,by omega⟩
 have hk0:k≠0:=by omega
 have hup:M<2 ^ (53+k):=Nat.lt_of_lt_of_le h2 (Nat.pow_le_pow_right (by decide) (by omega))
 have hlo:E+k=-1074\/2 ^ (52+k)<=M:=by
  rcases Int.le_total (-1074) (E+l-52)with h|h
  ·right
   have:52+k=l:=by omega
   rw[this];exact h1
  ·left;omega
 rw[z0R (k:=k) _ hm0 (by omega) hup hlo]
 have hMd:(M+1)*2 ^ d<=2 ^ (53+k)*2 ^ d:=Nat.mul_le_mul_right _ hup;rw[Nat.add_mul]at hMd;have hlo2:E-d+((k+d:Nat):Int)=-1074\/2 ^ (52+(k+d))<=M*2 ^ d+low:=by
  rcases hlo with h|h
  ·left;omega
  ·right
   have:2 ^ (52+k)*2 ^ d<=M*2 ^ d:=Nat.mul_le_mul_right _ h;rw[←Nat.pow_add]at this;rw[show 52+(k+d)=52+k+d by omega]
   omega
 have hup2:M*2 ^ d+low<2 ^ (53+(k+d)):=by
  rw[show 53+(k+d)=53+k+d by omega,Nat.pow_add]
  omega
 have hne:M*2 ^ d+low≠0:=by omega
 rw[z0R (k:=k+d) _ hne (by omega) hup2 hlo2,z16 hk0 hl]
 have e:E-d+((k+d:Nat):Int)=E+k:=by omega
 rw[e]
theorem z18{M d low:Nat}{E:Int}(st:Bool)(hl:low<2 ^ d)(hM:9007199254740992<=M):z0M (M*2 ^ d+low) (E-d) st=z0M M E (st||decide (low≠0)):=by
 cases st
 ·rw[Bool.false_or];exact z17 hl (.inr hM)
 ·have hp:=Nat.two_pow_pos d;have h1:M*1<=M*2 ^ d:=Nat.mul_le_mul_left _ hp;have a:=z17 (M:=M*2 ^ d+low) (d:=1) (low:=1) (E:=E-d) (by decide) (.inr (by omega))
  have b:=z17 (M:=M) (d:=d+1) (low:=low*2+1) (E:=E) (by rw[Nat.pow_succ];omega) (.inr hM)
  have e1:(M*2 ^ d+low)*2 ^ 1+1=M*2 ^ (d+1)+(low*2+1):=by rw[Nat.pow_succ 2 d,Nat.pow_one,Nat.add_mul,←Nat.mul_assoc];omega
  have e2:E-d-((1:Nat):Int)=E-((d+1:Nat):Int):=by omega
  rw[e1,e2,b]at a;have t1:decide (low*2+1≠0)=true:=by simp
  have t2:decide ((1:Nat)≠0)=true:=by simp
  rw[t1,t2]at a;rw[←a,Bool.true_or]
theorem z19{m n k d:Nat}{e:Int}(hn:n≠0)(h:9007199254740992<=m*2 ^ k/n):
  z0M (m*2 ^ (k+d)/n) (e-((k+d:Nat):Int)) (decide (m*2 ^ (k+d)%n≠0))=z0M (m*2 ^ k/n) (e-k) (decide (m*2 ^ k%n≠0)):=by
 have hp:=Nat.div_add_mod (m*2 ^ k) n;obtain⟨q,hq⟩:∃ q,m*2 ^ k/n=q:=⟨_,rfl⟩;obtain⟨r,hr⟩:∃ q,m*2 ^ k%n=q:=⟨_,rfl⟩;have hrn:r<n:=by rw[←hr];exact Nat.mod_lt _ (by omega)
 rw[hq,hr]at hp ⊢;rw[hq]at h;have hD:=Nat.two_pow_pos d;have e1:m*2 ^ (k+d)=n*(q*2 ^ d)+r*2 ^ d:=by rw[Nat.pow_add,←Nat.mul_assoc,←hp,Nat.add_mul,Nat.mul_assoc]
 have e2:m*2 ^ (k+d)/n=q*2 ^ d+r*2 ^ d/n:=by rw[e1,Nat.mul_add_div (by omega)]
 have e3:m*2 ^ (k+d)%n=r*2 ^ d%n:=by rw[e1,Nat.mul_add_mod]
 have hlow:r*2 ^ d/n<2 ^ d:=by
  rw[Nat.div_lt_iff_lt_mul (by omega),Nat.mul_comm]
  exact Nat.mul_lt_mul_of_pos_left hrn hD
 have hx:e-((k+d:Nat):Int)=e-k-d:=by omega
 rw[e2,e3,hx,z18 _ hlow h];congr 1
 have hz:=Nat.div_add_mod (r*2 ^ d) n;rw[Bool.eq_iff_iff,Bool.or_eq_true,decide_eq_true_iff,decide_eq_true_iff,decide_eq_true_iff];constructor
 ·intro h0 hr0;subst hr0;simp at h0
 ·intro hr0;rcases Nat.eq_zero_or_pos (r*2 ^ d%n)with h1|h1
  ·right
   intro h2;rw[h1,h2]at hz;have:0<r*2 ^ d:=Nat.mul_pos (by omega) hD
   omega
  ·left;omega
def upK:Nat:=4000
theorem z1a:upK=4000:=rfl
def quoG(a b:Nat):Nat:=z0M (a*2 ^ upK/b) (-(upK:Int)) (decide (a*2 ^ upK%b≠0))
theorem z1b{x c:Nat}(hc:c≠0):decide (x*c≠0)=decide (x≠0):=by
 rw[Bool.eq_iff_iff,decide_eq_true_iff,decide_eq_true_iff];simp only[ne_eq,Nat.mul_eq_zero,not_or];exact⟨fun h=>h.1,fun h=>⟨h,hc⟩⟩
theorem z1c{a b k:Nat}(hb:b≠0)(h:9007199254740992<=a*2 ^ k/b)(hk:k<=upK):z0M (a*2 ^ k/b) (-(k:Int)) (decide (a*2 ^ k%b≠0))=quoG a b:=by
 obtain⟨d,hd⟩:∃ d,k+d=upK:=⟨upK-k,by omega⟩
 have q:=z19 (m:=a) (n:=b) (k:=k) (d:=d) (e:=0) hb h;rw[hd,(by omega:(0:Int)-(upK:Int)=-(upK:Int)),(by omega:(0:Int)-(k:Int)=-(k:Int))]at q
 exact q.symm
theorem z1d{a b j:Nat}(hb:b≠0)(h:9007199254740992<=a/(b*2 ^ j)):z0M (a/(b*2 ^ j)) (j:Int) (decide (a%(b*2 ^ j)≠0))=quoG a b:=by
 have hp:(2:Nat) ^ j≠0:=Nat.pos_iff_ne_zero.mp (Nat.two_pow_pos j);have q:=z19 (m:=a) (n:=b*2 ^ j) (k:=0) (d:=upK+j) (e:=(j:Int)) (Nat.mul_ne_zero hb hp) (by rw[Nat.pow_zero,Nat.mul_one];exact h)
 rw[Nat.pow_zero,Nat.mul_one,Nat.zero_add,(by omega:(j:Int)-((upK+j:Nat):Int)=-(upK:Int)),(by omega:(j:Int)-((0:Nat):Int)=(j:Int))]at q
 have e1:a*2 ^ (upK+j)=a*2 ^ upK*2 ^ j:=by rw[Nat.pow_add,Nat.mul_assoc]
 rw[e1,Nat.mul_div_mul_right _ _ (Nat.two_pow_pos j),Nat.mul_mod_mul_right,z1b hp]at q;exact q.symm
def z1e(n:Nat):Nat:=if n=0 then 0 else n.log2+1
theorem z1f{n k:Nat}(h1:n=0/\k=0\/(k≠0/\2 ^ (k-1)<=n/\n<2 ^ k)):z1e n=k:=by
 unfold z1e;rcases h1 with ⟨h1,h2⟩|⟨h1,h2,h3⟩
 ·rw[if_pos h1,h2]
 ·have h0:n≠0:=by
   have:=Nat.two_pow_pos (k-1);omega
  rw[if_neg h0,z0Q (k:=k-1) h2 (by rw[(by omega:k-1+1=k)];exact h3)]
  omega
theorem z1g{n:Nat}(h:n≠0):z1e n≠0/\2 ^ (z1e n-1)<=n/\n<2 ^ z1e n:=by
 unfold z1e;rw[if_neg h];refine⟨by omega,?_,?_⟩
 ·rw[Nat.add_sub_cancel];exact Nat.log2_self_le h
 ·exact Nat.lt_log2_self
theorem z1h{A B p q:Nat}(hA1:2 ^ (p-1)<=A)(hA2:A<2 ^ p)(hB1:2 ^ (q-1)<=B)(hB2:B<2 ^ q)(hq:q≠0)(h:p=q+62):2305843009213693952<=A/B/\A/B<9223372036854775808:=by
 subst h;have hB0:0<B:=Nat.lt_of_lt_of_le (Nat.two_pow_pos _) hB1;constructor
 ·rw[Nat.le_div_iff_mul_le hB0];have e1:2 ^ (q+62-1)=2305843009213693952*2 ^ q:=by rw[(by omega:q+62-1=61+q),Nat.pow_add]
  rw[e1]at hA1;have:2305843009213693952*B<=2305843009213693952*2 ^ q:=Nat.mul_le_mul_left _ (Nat.le_of_lt hB2);omega
 ·rw[Nat.div_lt_iff_lt_mul hB0];have e1:2 ^ (q+62)=9223372036854775808*2 ^ (q-1):=by rw[(by omega:q+62=63+(q-1)),Nat.pow_add]
  rw[e1]at hA2;have:9223372036854775808*2 ^ (q-1)<=9223372036854775808*B:=Nat.mul_le_mul_left _ hB1;omega
structure z1i(A B:Nat)(up:Int)(X Y:Nat):Prop where
 x0:X≠0
 y0:Y≠0
 lo:2305843009213693952<=X/Y
 hi:X/Y<9223372036854775808
 eq:z0M (X/Y) (-up) (decide (X%Y≠0))=quoG A B
theorem z1j{A B k:Nat}(hA:A≠0)(hB:B≠0)(h:z1e A+k=z1e B+62)(hk:k<=upK):z1i A B (k:Int) (A*2 ^ k) B:=by
 obtain⟨a1,a2,a3⟩:=z1g hA;obtain⟨b1,b2,b3⟩:=z1g hB;have hp:=Nat.two_pow_pos k;obtain⟨c1,c2⟩:=z1h (A:=A*2 ^ k) (B:=B) (p:=z1e A+k) (q:=z1e B) (by rw[(by omega:z1e A+k-1=z1e A-1+k),Nat.pow_add];exact Nat.mul_le_mul_right _ a2) (by rw[Nat.pow_add];exact Nat.mul_lt_mul_of_pos_right a3 hp) b2 b3 b1 h
 exact⟨Nat.mul_ne_zero hA (by omega),hB,c1,c2,z1c hB (by omega) hk⟩
theorem z1k{A B j:Nat}(hA:A≠0)(hB:B≠0)(h:z1e A=z1e B+j+62):z1i A B (-(j:Int)) A (B*2 ^ j):=by
 obtain⟨a1,a2,a3⟩:=z1g hA;obtain⟨b1,b2,b3⟩:=z1g hB;have hp:=Nat.two_pow_pos j;obtain⟨c1,c2⟩:=z1h (A:=A) (B:=B*2 ^ j) (p:=z1e A) (q:=z1e B+j) a2 a3 (by rw[(by omega:z1e B+j-1=z1e B-1+j),Nat.pow_add];exact Nat.mul_le_mul_right _ b2) (by rw[Nat.pow_add];exact Nat.mul_lt_mul_of_pos_right b3 hp) (by omega) h
 refine⟨hA,Nat.mul_ne_zero hB (by omega),c1,c2,?_⟩
 rw[Int.neg_neg];exact z1d hB (by omega)
