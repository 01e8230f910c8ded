/- Part 22. -/
import Derived.Test.YtdbekjiognpgnaaGreatPar
import Derived.Test.YtdbekjiognpgnaaGreatPas
import Derived.Test.YtdbekjiognpgnaaGreatPat
import Derived.Test.YtdbekjiognpgnaaGreatPau
set_option maxHeartbeats 16000000
set_option maxRecDepth 100000
set_option linter.unusedVariables false
namespace Go.Proofs.YtdbekjiognpgnaaGreat
open Go.RowKit
theorem z9X{w0 w:World}{Bt g tc n u uc a:Nat}{ns:List z4Q}{p:z4Q}{L:List Int}(hR:z88 ns)(hT:z8G w0 Bt (.slice (some ⟨g,0,none⟩) n tc) ns)(hn:ns.length=n)(hn2:n<=10000)
  (hb:Below w0.heap.size w0 w) (hU:w.ownsRow w0.heap.size 3 1 (.slice (some ⟨u,0,none⟩) n uc) n (z9B n L)) (ha:ns[a]?=some p) (hc:∀ y,(L++z8o p).count y<=1000):
  Calls Tryz.prog 23 #[.slice (some ⟨g,0,none⟩) n tc,.int .i64 (a:Int),.slice (some ⟨u,0,none⟩) n uc] w fun e w'=>e=.returned (.bool true)/\w'.ownsRow w0.heap.size 3 1 (.slice (some ⟨u,0,none⟩) n uc) n (z9B n (L++z8o p))/\Below w0.heap.size w0 w':=by
 obtain⟨ua,ub,uu,ul,un,um,kA,kB,kC,hF⟩:=z9H hR ha;by_cases h2:p.kind=2
 ·have hu:=hF.use;rw[h2]at hu;have e4:(0:Int)=ul:=congrArg (fun t=>t.2.2.2.1) hu;have e5:(1:Int)=un:=congrArg (fun t=>t.2.2.2.2.1) hu;have e6:false=um:=congrArg (fun t=>t.2.2.2.2.2) hu;rcases hF.form with h|h|h|h|h|h
  ·rw[←e6]at h;exact absurd h.2.2.2.2.2 (by decide)
  ·exact z9V hT hn hn2 hb hU ha hc hF ⟨h2,h.2⟩
  ·exact absurd h.2.2.2.1 (by omega)
  ·exact absurd h.1 (by omega)
  ·exact absurd h.2.1 (by omega)
  ·exact absurd h.1 (by omega)
 ·rcases hF.form with h|h|h|h|h|h
  ·exact z9P hT hn hn2 hb hU ha hc hF h h2
  ·exact z9Q hT hn hn2 hb hU ha hc hF h h2
  ·exact z9R hT hn hn2 hb hU ha hc hF h h2
  ·exact z9S hT hn hn2 hb hU ha hc hF h h2
  ·exact z9T hT hn hn2 hb hU ha hc hF h h2
  ·rcases Nat.lt_or_ge 6 p.list.length with k|k
   ·exact z9W hT hn hn2 hb hU ha hc hF ⟨h.1,h.2.1,k,h.2.2⟩
   ·exact z9U hT hn hn2 hb hU ha hc hF ⟨h.1,h.2.1,k,h.2.2⟩
theorem z9Y(w:World)(n:Nat)(hn:n<=1048576):∃ W1:World,(Instr.makeSlice 29 (.int .i64 (n:Int)) (.int .i64 (n:Int))).run Tryz.prog w=.ok (.slice (some ⟨w.heap.size,0,none⟩) n n) W1/\
  W1.ownsRow w.heap.size 3 1 (.slice (some ⟨w.heap.size,0,none⟩) n n) n (z9B n [])/\Below w.heap.size w W1:=by
 obtain⟨i0,hi,hz0,hz1,hz2⟩:=z8y Tryz.infoInt;obtain⟨W,h1,h2,h3⟩:=run_make_full (P:=Tryz.prog) w w.heap.size 29 3 i0 _ 1 Tryz.underlying29 hi hz0 hz1 .i64 .i64 n (by rw[hz2];omega) (by unfold maxLen;omega) (yf9 _)
 refine⟨W,h1,?_,⟨h3.os,h3.tape,h3.output,h3.size,fun k hk=>h3.block k hk (by simp)⟩⟩
 have e:z9B n []=List.replicate n (Value.int .i64 0):=by
  apply List.ext_getElem?
  intro i;rcases Nat.lt_or_ge i n with hi|hi
  ·rw[z9D _ hi,List.getElem?_replicate,if_pos hi];rfl
  ·rw[List.getElem?_eq_none (by rw[z9C];exact hi),List.getElem?_eq_none (by simp;exact hi)]
 rw[e];rw[show(Value.int .i64 0).cells=#[Value.int .i64 0]from rfl,toList_madeCells_one,Nat.mul_one]at h2;exact h2
theorem z9Z{ns:List z4Q}{k:Nat}{p:z4Q}(h:ns[k]?=some p):z5Z (ns.take k)++z8o p=z5Z (ns.take (k+1)):=by
 unfold z5Z z8o;rw[List.take_add_one,h,List.flatMap_append];simp
theorem za0{ns:List z4Q}(hR:z88 ns)(k:Nat)(y:Int):(z5Z (ns.take k)).count y<=1:=by
 have h1:(z5Z (ns.take k)).count y<=(z5Z ns).count y:=by
  have e:z5Z ns=z5Z (ns.take k)++z5Z (ns.drop k):=by
   unfold z5Z;rw[←List.flatMap_append,List.take_append_drop]
  rw[e,List.count_append];omega
 rcases Decidable.em (0<=y/\y<ns.length)with h|h
 ·obtain⟨i,rfl⟩:∃ i:Nat,y=(i:Int):=⟨y.toNat,by omega⟩
  have:=hR.seg.once i (by omega)
  omega
 ·have:(z5Z ns).count y=0:=List.count_eq_zero.2 fun hy=>h (z62 hR.seg hy);omega
theorem za1{w:World}{B:Nat}{tv:Value}{ns:List z4Q}(hR:z88 ns)(hT:z8G w B tv ns):Calls Tryz.prog 10 #[tv] w fun e w'=>e=.returned (.bool true)/\Below w.heap.size w w':=by
 obtain⟨x,tc,rfl,hm,ho⟩:=hT.opened;obtain⟨n,hn0⟩:∃ n,ns.length=n:=⟨_,rfl⟩;have hfew:=hR.few;obtain⟨g,rfl,hat⟩:=ho (by omega)
 rw[hn0]at hfew hm;obtain⟨pl,hpl⟩:∃ p,ns[n-1]?=some p:=⟨_,yd9 (by omega)⟩
 obtain⟨lv,nv,NL⟩:=hat _ pl hpl;have hkl:pl.kind=29:=by
  have:=hR.last;unfold z5X at this;rw[show((ns.length:Int)-1).toNat=n-1 by omega,hpl]at this
  exact this
 have hlast:=NL.c0;rw[hkl]at hlast;obtain⟨W1,hmk,hrow,hbel⟩:=z9Y w n (by omega)
 have cI:=fun W=>z1D (n:Int) 1 300 W;rw[show(decide ((1:Int)<=(n:Int))&&decide ((n:Int)<=300))=true by rw[yb9 (by omega),yb9 (by omega)];rfl]at cI
 obtain⟨u,hu⟩:∃ u,w.heap.size=u:=⟨_,rfl⟩;have HT:Hid (z8G w B (.slice (some ⟨g,0,none⟩) n tc) ns):=by rw[hn0]at hT;exact hT
 have HN:Hid (ns.length=n):=hn0;have HU:Hid (w.heap.size=u):=hu;have HR:Hid (z88 ns):=hR;have H0:Hid (W1.ownsRow u 3 1 (.slice (some ⟨u,0,none⟩) n n) n (z9B n (z5Z (ns.take 0)))/\Below u w W1):=by
  rw[hu]at hrow hbel;exact⟨hrow,hbel⟩
 rw[hu]at hmk;obtain⟨l,hl⟩:∃ l,n-1=l:=⟨_,rfl⟩;rw[hl]at hlast;have hln:(l:Int)<(n:Int):=by omega
 have hl0:(0:Int)<=(l:Int):=by omega
 rw[hn0];have hx2:((n:Int)-1)=(l:Int):=by omega
 clear hR hT ho hat hpl NL hkl hrow hbel hn0 hu;go_enter Tryz.func10,Tryz.ntmps10;go_wp2_with fail;refine(cI _).mono ?_;rintro e w1 ⟨rfl,rfl⟩;clear cI;go_upto_region 5 with fail;clear hmk hlast;go_loopw [2,4] (fun _ i wr=>∃ k:Nat,i=.int .i64 (k:Int)/\k<=n/\wr.ownsRow u 3 1 (.slice (some ⟨u,0,none⟩) n n) n (z9B n (z5Z (ns.take k)))/\Below u w wr) (fun _ i _=>n-(intOf i).toNat)
 case atStart=>exact⟨0,rfl,yj9 _,H0.out.1,H0.out.2⟩
 case round=>
  clear H0;obtain⟨k,rfl,hk,hrow,hbel⟩:=hrel;by_cases hlt:k<n
  ·obtain⟨p,hp⟩:∃ p,ns[k]?=some p:=⟨_,yd9 (by have:=HN.out;omega)⟩
   have cN:∀ W,W=wr->Calls Tryz.prog 23 #[.slice (some ⟨g,0,none⟩) n tc,.int .i64 (k:Int),.slice (some ⟨u,0,none⟩) n n] W fun e w'=>e=.returned (.bool true)/\w'.ownsRow u 3 1 (.slice (some ⟨u,0,none⟩) n n) n (z9B n (z5Z (ns.take (k+1))))/\Below u w w':=fun W hW=>by
    subst hW;have e:=HU.out;subst e;have:=z9X (L:=z5Z (ns.take k)) HR.out HT.out HN.out (by omega) hbel hrow hp (fun y=>by rw[z9Z hp];have:=za0 HR.out (k+1) y;omega)
    rw[z9Z hp]at this;exact this
   clear hrow hbel hp;have hki:(k:Int)<(n:Int):=by omega
   go_wp2_with fail;refine(cN _ rfl).mono ?_;rintro e w5 ⟨rfl,hrow,hbel⟩;have HA:Hid (_/\_):=⟨hrow,hbel⟩;clear hrow hbel cN;go_wp2_with fail;go_roundw
   case rel=>exact⟨k+1,by go_num,by omega,HA.out.1,HA.out.2⟩
   case measure=>simp[intOf];omega
  ·have hge:decide ((k:Int)<(n:Int))=false:=ya9 (by omega)
   have hge':decide (k<n)=false:=ya9 (by omega)
   have HA:Hid (wr.ownsRow u 3 1 (.slice (some ⟨u,0,none⟩) n n) n (z9B n (z5Z ns))/\Below u w wr):=by
    rw[List.take_of_length_le (by have:=HN.out;omega)]at hrow
    exact⟨hrow,hbel⟩
   clear hrow hbel;go_upto_region 10 with fail;go_loopw [2,5] (fun _ i ws=>ws=wr/\∃ k:Nat,i=.int .i64 (k:Int)/\k<n) (fun _ i _=>n-(intOf i).toNat)
   case atStart=>exact⟨rfl,0,rfl,by omega⟩
   case round=>
    obtain⟨hws,j,rfl,hj⟩:=hrel;subst hws;by_cases hlt2:j+1<n
    ·have hcell:=z9I HA.out.1 (z9D (z5Z ns) hj);have h1:(z5Z ns).count (j:Int)=1:=by
      have:=HR.out.seg.once j (by have:=HN.out;omega)
      have z:List.count (j:Int) [((ns.length:Int)-1)]=0:=List.count_eq_zero.2 (fun hm=>by rw[List.mem_singleton]at hm;have:=HN.out;omega)
      rw[z]at this;omega
     rw[h1]at hcell;have hji:(j:Int)<(n:Int):=by omega
     have hj0:(0:Int)<=(j:Int):=by omega
     have hd:decide ((j:Int)+1<(n:Int))=true:=yb9 (by omega)
     have hd':decide (j+1<n)=true:=yb9 (by omega)
     have hcell':wr.cell? ⟨u,j,none⟩=some (.int .i64 1):=hcell;clear hcell h1;go_wp2_with fail;go_roundw
     case rel=>exact⟨trivial,j+1,by go_num,by omega⟩
     case measure=>simp[intOf];omega
    ·have hd:decide ((j:Int)+1<(n:Int))=false:=ya9 (by omega)
     have hd':decide (j+1<n)=false:=ya9 (by omega)
     have HE:Hid (Below w.heap.size w wr):=by rw[HU.out];exact HA.out.2
     clear HA;go_wp2;go_ret;exact⟨rfl,HE.out⟩
