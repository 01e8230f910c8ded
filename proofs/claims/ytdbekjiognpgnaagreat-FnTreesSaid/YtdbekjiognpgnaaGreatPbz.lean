/- Part 52. -/
import Derived.Test.YtdbekjiognpgnaaGreatPby
import Derived.Test.YtdbekjiognpgnaaGreatPbr
set_option maxHeartbeats 16000000
set_option maxRecDepth 100000
set_option linter.unusedVariables false
namespace Go.Proofs.YtdbekjiognpgnaaGreat
open Go.RowKit Go.Sort
theorem zgK{w w':World}{ac:Option Addr}{len:Nat}(h:z06 w ac len w.heap.size)(hb:Below w.heap.size w w'):z06 w' ac len w'.heap.size:=by
 refine⟨h.1,fun hp=>?_⟩;obtain⟨b,off,e,hne,hlt,hc⟩:=h.2 hp;have hs:=hb.size;refine⟨b,off,e,by omega,by omega,fun j hj=>?_⟩
 obtain⟨z,hz,hcz⟩:=hc j hj;exact⟨z,hz,(hb.cell (p:=⟨b,off+j,none⟩) hlt).trans hcz⟩
theorem zgL{w:World}{B:Nat}{e:TypeId}{size m:Nat}{v:Value}{xs:List Value}(h:w.ownsRow B e size v m xs)(hm:1<=m):∃ g c,v=.slice (some ⟨g,0,none⟩) m c/\m<=c:=by
 rcases h.2 with ⟨_,e⟩|⟨g,cap,cur,e,_,_,h1,_⟩
 ·omega
 ·exact⟨g,cap,e,h1⟩
theorem zgM{w:World}{e:TypeId}{size:Nat}:(w.alloc (.cells #[] e)).ownsRow w.heap.size e size (.slice (some ⟨w.heap.size,0,none⟩) 0 0) 0 []:=
 ⟨by simp,.inr ⟨w.heap.size,0,#[],rfl,yf9 _,heap_alloc_new w _,yf9 _,yj9 _,by simp,by simp⟩⟩
theorem zgN(w:World)(l:List Value)(t:TypeId):∀ j u,l[j]?=some u->(w.alloc (.cells l.toArray t)).cell? ((⟨w.heap.size,0,none⟩:Addr).add j)=some u:=by
 intro j u hj;have hp:(⟨w.heap.size,0,none⟩:Addr).add j=⟨w.heap.size,j,none⟩:=by unfold Addr.add;split<;>simp_all
 rw[hp,cell_of_row _ _ j _ _ _ (heap_alloc_new w (.cells l.toArray t))];simpa using hj
def zgO:z4Q:=⟨29,0,0,0,[],[],0,0⟩
theorem zgP(ns:List z4Q):zdw ns ns:=⟨rfl,fun q x y hx hy=>by rw[hx]at hy;injection hy with hy;subst hy;exact⟨rfl,rfl,rfl,rfl,rfl,rfl,rfl⟩⟩
theorem zgQ{w:World}{v:Value}(h:Calls Tryz.prog 6 #[v] w fun e w'=>e=.returned (.bool false)/\Below w.heap.size w w'):
  Calls Tryz.prog 8 #[v] w fun e w'=>e=.returned (.int .i64 0)/\Below w.heap.size w w':=by
 go_enter Tryz.func8,Tryz.ntmps8;go_wp2_with fail;refine h.mono ?_;rintro e w1 ⟨rfl,b1⟩;have HB:Hid (Below w.heap.size w w1):=b1;clear b1 h;go_wp2;go_returns;exact⟨rfl,HB.out⟩
theorem zgR(a0:Option Addr)(len0 cap0:Nat)(w:World)(hl9:len0<=9223372036854775807)(hcode:¬1048576<len0->z06 w a0 len0 w.heap.size):
  Calls Tryz.prog 3 #[.slice a0 len0 cap0] w fun e w'=>e=.returned (.bool true)/\Below w.heap.size w w':=by
 by_cases hbig:1048576<len0
 ·have hbig':(1048576:Int)<len0:=by omega
  go_enter Tryz.func3,Tryz.ntmps3;go_wp2_with fail;refine(z0o a0 len0 cap0 _ hl9).mono ?_;rintro e w1 ⟨rfl,rfl⟩;go_wp2;go_returns;exact⟨rfl,yg9 _ _⟩
 ·have hbig':decide (1048576<(len0:Int))=false:=ya9 (by omega)
  have HCD:Hid (z06 w a0 len0 w.heap.size):=hcode hbig;clear hcode;have cBg:=z0o a0 len0 cap0 w hl9;rw[hbig']at cBg;go_enter Tryz.func3,Tryz.ntmps3;go_wp2_with fail;refine cBg.mono ?_;rintro e w1 ⟨rfl,rfl⟩;go_wp2_with fail;refine(zdd a0 len0 cap0 _ HCD.out).mono ?_;rintro e wA ⟨g,tc,B,ns,rfl,hR,hT,hB,bA⟩;clear cBg hbig hbig' hl9;obtain⟨n,hn⟩:∃ n,ns.length=n:=⟨_,rfl⟩;rw[hn]at hT ⊢;have few:=hR.few;rw[hn]at few;obtain⟨few1,few2⟩:=few;have HT:Hid (z88 ns/\ns.length=n/\w.heap.size<=B/\z5X ns ((n:Int)-1)=29/\(z5Z ns).length+1=n):=⟨hR,hn,hB,by rw[←hn];exact hR.last,by rw[←hn];exact zdq hR⟩
  have cO:=zgF hT hn hR.good (by rw[←hn];exact hR.last)
  rw[yb9 HT.out.2.2.2.2]at cO;have HA:Hid (z8G wA B (.slice (some ⟨g,0,none⟩) n tc) ns/\Below w.heap.size w wA):=⟨hT,bA⟩;clear hT bA hR hn hB;go_wp2_with fail;refine cO.mono ?_;rintro e w2 ⟨rfl,b2⟩;have H2:Hid (z8G w2 B (.slice (some ⟨g,0,none⟩) n tc) ns/\Below w.heap.size w w2):=⟨HA.out.1.below b2,HA.out.2.trans (b2.mono HA.out.2.size)⟩;clear b2 cO;have cS:=zdG B B (.slice (some ⟨g,0,none⟩) n tc) (.slice (some ⟨g,0,none⟩) n tc) ns ns w2 H2.out.1 H2.out.1;go_wp2_with fail;refine cS.mono ?_;rintro e w3 ⟨r,rfl,hr,b3⟩;have er:r=true:=hr.2 (zgP ns);subst er;have H3:Hid (z8G w3 B (.slice (some ⟨g,0,none⟩) n tc) ns/\Below w.heap.size w w3):=⟨H2.out.1.below b3,H2.out.2.trans (b3.mono H2.out.2.size)⟩;clear b3 cS hr;have cD:=zgJ H3.out.1 HT.out.2.1 HT.out.1.good HT.out.2.2.2.1 HT.out.2.2.2.2;go_wp2_with fail;refine cD.mono ?_;rintro e w4 ⟨d,hd1,hd2,rfl,b4⟩;have H4:Hid (z8G w4 B (.slice (some ⟨g,0,none⟩) n tc) ns/\Below w.heap.size w w4):=⟨H3.out.1.below b4,H3.out.2.trans (b4.mono H3.out.2.size)⟩;clear b4 cD;go_wp2_with fail;refine(zdh a0 len0 cap0 _ (zgK HCD.out H4.out.2)).mono ?_;rintro e w5 ⟨pv,ps,rfl,⟨hp1,hp2,gp,cp,rfl,hp3,hp4,hp5⟩,b5⟩;have pc:=hp5 0 (by omega)
  obtain⟨x,hx⟩:∃ x,ps.getD 0 0=x:=⟨_,rfl⟩;rw[hx]at pc;have hxl:x<10000:=by rw[←hx];exact hp2 0
  obtain⟨k,hk⟩:∃ k,x%n=k:=⟨_,rfl⟩;have hkn:k<n:=by rw[←hk];exact Nat.mod_lt _ (by omega)
  have hki:(x:Int).tmod (n:Int)=(k:Int):=by rw[←hk];rfl
  have H5:Hid (z8G w5 B (.slice (some ⟨g,0,none⟩) n tc) ns/\Below w.heap.size w w5):=⟨H4.out.1.below b5,H4.out.2.trans (b5.mono H4.out.2.size)⟩;clear b5 hp5 hp1 hp2 hp3 hp4 hx hk;go_upto_region 8 with fail;obtain⟨i0,hi,hz0,hz1,hz2⟩:=z8y Tryz.infoNode9;have h63:n<=maxLen:=by unfold maxLen;omega
  have hby:n*96<=140737488355328:=by omega
  obtain⟨xs,hox,hone,hcopy⟩:=H5.out.1.cells;rw[HT.out.2.1]at hox;have hxlen:=hox.1;have hBg:=hox.lt g rfl;have HX:Hid (w5.ownsRow B 34 8 (.slice (some ⟨g,0,none⟩) n tc) n xs/\(∀{w':World} {B':Nat} {v':Value},Below w5.heap.size w5 w'->B<=B'->w'.ownsRow B' 34 8 v' ns.length xs->z8G w' B v' ns/\∀ q p,ns[q]?=some p->z8F w' B xs q p)):=⟨hox,hcopy⟩;have hcell5:∀ W,Below w5.heap.size w5 W->∀ j u,xs[j]?=some u->W.cell? ((⟨g,0,none⟩:Addr).add j)=some u:=fun W hW=>(z8B HX.out.1 hW).cells (g:=g) rfl;have htc:n<=tc:=by
   obtain⟨g',c',e',h'⟩:=zgL hox (by omega)
   injection e' with _ _ e';omega
  have b5a:∀ o,Below w5.heap.size w5 (w5.alloc o):=fun o=>(yg9 _ _).alloc (yf9 _) o;clear hox hcopy;go_upto_region 9 with (first|(at_builtin;refine wpList_append_own_at _ rfl _ _ 24 rfl w5.heap.size 34 i0 _ 8 96 Tryz.underlying24 hi hz0 hz1 hz2 rfl (by decide) (.slice (some ⟨w5.heap.size,0,none⟩) 0 0) 0 [] rfl zgM ⟨g,0,none⟩ n tc xs rfl hxlen (hcell5 _ (b5a _)) hone (by rw[Nat.zero_add];exact h63) (by rw[Nat.zero_add];exact hby) (by simp) ?_;intro v6 w6 ho6 hg6 _ _))
  rw[Nat.zero_add,List.nil_append]at ho6;obtain⟨G,bc,rfl,hbc⟩:=zgL ho6 (by omega)
  have b6:Below w5.heap.size w5 w6:=(b5a _).grown hg6 (b5a _).size (fun q e=>by have e':w5.heap.size=q:=Option.some.inj e;omega)
  have hG5:=(ho6.lt G rfl).1;have T6:z8G w6 B (.slice (some ⟨G,0,none⟩) n bc) ns:=(HX.out.2 b6 (Nat.le_of_lt (Nat.lt_of_le_of_lt hBg.1 hBg.2)) (by rw[HT.out.2.1];exact ho6)).1
  obtain⟨p,hp⟩:∃ p,ns[k]?=some p:=⟨_,yd9 (by rw[HT.out.2.1];exact hkn)⟩
  obtain⟨T7,g7⟩:=T6.bent (K:=30) HT.out.2.1 hp;have b7:Below w5.heap.size w5 (w6.setCell ⟨G,k*8,none⟩ (.int .i64 30)):=b6.grown g7 b6.size (fun q e=>by injection e with e;omega)
  obtain⟨⟨u6,c6⟩,f6⟩:=z8z ho6 (k*8) (by omega)
  obtain⟨ns7,hns7⟩:∃ l,ns.set k { p with kind:=30 }=l:=⟨_,rfl⟩;have HB7:Hid (ns7.length=n/\(∀(j:Nat) (q:z4Q),j<k->ns7[j]?=some q->z5Y q)/\∃ q,ns7[k]?=some q/\q.kind=30):=by
   have hkl:k<ns.length:=by rw[HT.out.2.1];exact hkn
   rw[←hns7];refine⟨by rw[List.length_set];exact HT.out.2.1,fun j q hj hq=>?_,⟨_,List.getElem?_set_self hkl,rfl⟩⟩
   rw[List.getElem?_set_ne (by omega)]at hq
   exact HT.out.1.seg.held j q hq
  rw[hns7]at T7;obtain⟨W7,hW7⟩:∃ W,w6.setCell ⟨G,k*8,none⟩ (.int .i64 30)=W:=⟨_,rfl⟩;rw[hW7]at T7 b7;have H7:Hid (z8G W7 B (.slice (some ⟨G,0,none⟩) n bc) ns7/\Below w5.heap.size w5 W7):=⟨T7,b7⟩;have hkn':(k:Int)<(n:Int):=by omega
  have hk0:(0:Int)<=(k:Int):=by omega
  clear T6 T7 g7 b6 hns7 hp hg6 ho6;go_upto_region 10 with fail;try simp only[hW7]
  clear hW7 c6 f6;have b7a:∀ o,Below W7.heap.size W7 (W7.alloc o):=fun o=>(yg9 _ _).alloc (yf9 _) o;have s57:w5.heap.size<=W7.heap.size:=b7.size;have b7b:∀ o,Below w5.heap.size w5 (W7.alloc o):=fun o=>b7.trans ((b7a o).mono s57);clear b7;have hoz:∀ u∈([.int .i64 29,.int .i64 0,.int .i64 0,.int .i64 0,.slice none 0 0,.slice none 0 0,.int .u64 0,.int .i64 0]:List Value),u.oneCell'=true:=fun u hu=>by
   simp only[List.mem_cons,List.not_mem_nil,or_false]at hu;rcases hu with rfl|rfl|rfl|rfl|rfl|rfl|rfl|rfl<;>rfl
  go_upto_region 11 with (first
   | (at_builtin;refine wpList_append_own_at _ rfl _ _ 24 rfl W7.heap.size 34 i0 _ 8 96 Tryz.underlying24 hi hz0 hz1 hz2 rfl (by decide) (.slice (some ⟨W7.heap.size,0,none⟩) 0 0) 0 [] rfl zgM ⟨g,0,none⟩ n tc xs rfl hxlen (hcell5 _ (b7b _)) hone (by rw[Nat.zero_add];exact h63) (by rw[Nat.zero_add];exact hby) (by simp) ?_;intro v8 w8 ho8 hg8 _ _;rw[Nat.zero_add,List.nil_append]at ho8;have b8:Below W7.heap.size W7 w8:=Below.grown (b7a _) hg8 (b7a _).size (fun q e=>by have e':W7.heap.size=q:=Option.some.inj e;omega);clear hg8)
   | (at_builtin;refine wpList_append_own_at _ rfl _ _ 24 rfl W7.heap.size 34 i0 _ 8 96 Tryz.underlying24 hi hz0 hz1 hz2 rfl (by decide) v8 n xs rfl (ho8.alloc _) ⟨w8.heap.size,0,none⟩ 1 1 [.int .i64 29,.int .i64 0,.int .i64 0,.int .i64 0,.slice none 0 0,.slice none 0 0,.int .u64 0,.int .i64 0] rfl rfl (zgN w8 [.int .i64 29,.int .i64 0,.int .i64 0,.int .i64 0,.slice none 0 0,.slice none 0 0,.int .u64 0,.int .i64 0] 34) hoz (by unfold maxLen;omega) (by omega) (yi9 b8.size (by simp)) ?_;intro v9 w9 ho9 hg9 _ _))
  obtain⟨M,mc,rfl,hmc⟩:=zgL ho9 (by omega)
  have b8a:∀ o,Below W7.heap.size W7 (w8.alloc o):=fun o=>b8.trans (Below.mono ((yg9 _ _).alloc (yf9 _) o) b8.size);have b59:Below w5.heap.size w5 w9:=Below.grown (H7.out.2.trans ((b8a _).mono s57)) hg9 (yi9 s57 (b8a _).size) (fun q e=>by have:=(ho8.lt q e).1;omega)
  have b79:Below W7.heap.size W7 w9:=Below.grown (b8a _) hg9 (b8a _).size (fun q e=>(ho8.lt q e).1);have T9:z8G w9 B (.slice (some ⟨M,0,none⟩) (n+1) mc) (ns++[zgO]):=by
   have ho8':=ho8.alloc (.cells #[.int .i64 29,.int .i64 0,.int .i64 0,.int .i64 0,.slice none 0 0,.slice none 0 0,.int .u64 0,.int .i64 0] 34);have hNN:=(HX.out.2 (H7.out.2.trans ((b8a _).mono s57)) (yi9 (Nat.le_of_lt (Nat.lt_of_le_of_lt hBg.1 hBg.2)) s57) (by rw[HT.out.2.1];exact ho8')).2
   exact z8G.more (p:=zgO) hNN (by rw[HT.out.2.1];exact ho8') hg9 (yi9 (Nat.le_of_lt (Nat.lt_of_le_of_lt hBg.1 hBg.2)) s57) (by rw[HT.out.2.1];exact ho9) rfl rfl
  obtain⟨m,hm⟩:∃ m,n=m+1:=⟨n-1,by omega⟩
  have T5:z8G w9 B (.slice (some ⟨g,0,none⟩) n tc) ns:=H5.out.1.below b59;have TL:z8G w9 B (.slice (some ⟨g,0,none⟩) m tc) (ns.take m):=by
   rw[hm]at T5;exact T5.less (by rw[HT.out.2.1];exact hm)
  have H9:Hid (z8G w9 B (.slice (some ⟨g,0,none⟩) n tc) ns/\z8G w9 B (.slice (some ⟨G,0,none⟩) n bc) ns7/\z8G w9 B (.slice (some ⟨M,0,none⟩) (n+1) mc) (ns++[zgO])/\z8G w9 B (.slice (some ⟨g,0,none⟩) m tc) (ns.take m)/\Below w.heap.size w w9/\n=m+1):=⟨T5,H7.out.1.below b79,T9,TL,H5.out.2.trans (b59.mono H5.out.2.size),hm⟩;have hm1:((n:Int)-1)=(m:Int):=by omega
  have hmt:(m:Int)<=(tc:Int):=by omega
  have hm0:(0:Int)<=(m:Int):=by omega
  have hmn:m<=200:=by omega
  clear T5 TL T9 b59 b79 b8a hm ho9 hg9 ho8 b8 hoz hcell5 hone hxlen b5a b7a b7b hbc hmc hi hz0 hz1 hz2 pc hki;go_upto_region 12 with fail;have hdd1:decide ((1:Int)<=(d:Int))=true:=yb9 (by omega)
  have hdd2:decide ((d:Int)<=(n:Int))=true:=yb9 (by omega)
  have cB:=zgH H9.out.2.1 HB7.out.1 (by omega) hkn HB7.out.2.1 HB7.out.2.2
  have HMG:Hid (zdl (ns++[zgO])/\(ns++[zgO]).length=n+1/\z5X (ns++[zgO]) (((n+1:Nat):Int)-1)=29/\decide ((z5Z (ns++[zgO])).length+1=n+1)=false):=by
   have hmo:=HT.out.1.more;refine⟨hmo.1,by rw[List.length_append,HT.out.2.1];rfl,?_,ya9 ?_⟩
   ·rw[show(((n+1:Nat):Int)-1)=((ns.length:Nat):Int) by rw[HT.out.2.1];omega,z61]
    rfl
   ·have:=hmo.2;rw[HT.out.2.1]at this;show ¬ (z5Z (ns++[⟨29,0,0,0,[],[],0,0⟩])).length+1=n+1;omega
  go_wp2_with fail;refine cB.mono ?_;rintro e w10 ⟨rfl,b10⟩;have H10:Hid (Below w9.heap.size w9 w10):=b10;clear b10 cB;have cM:=zgF (H9.out.2.2.1.below H10.out) HMG.out.2.1 HMG.out.1 HMG.out.2.2.1;rw[HMG.out.2.2.2]at cM;go_wp2_with fail;refine cM.mono ?_;rintro e w11 ⟨rfl,b11⟩;have H11:Hid (Below w9.heap.size w9 w11):=H10.out.trans (b11.mono H10.out.size);clear b11 cM;by_cases hm00:m=0
  ·subst hm00;have cS:=zdG B B (.slice (some ⟨g,0,none⟩) n tc) (.slice (some ⟨M,0,none⟩) (n+1) mc) ns (ns++[zgO]) w11 (H9.out.1.below H11.out) (H9.out.2.2.1.below H11.out);go_wp2_with fail;refine cS.mono ?_;rintro e w13 ⟨r,rfl,hr,b13⟩;have er:r=false:=by
    cases r with
    | false=>rfl
    | true=>
     have:=(hr.1 rfl).1;rw[List.length_append]at this;simp at this
   subst er;have H13:Hid (Below w9.heap.size w9 w13):=H11.out.trans (b13.mono H11.out.size);clear b13 cS hr;have cD:=zgQ (zgH (H9.out.2.1.below H13.out) HB7.out.1 (by omega) hkn HB7.out.2.1 HB7.out.2.2)
   go_wp2_with fail;refine cD.mono ?_;rintro e w14 ⟨rfl,b14⟩;have H14:Hid (Below w.heap.size w w14):=H9.out.2.2.2.2.1.trans ((H13.out.trans (b14.mono H13.out.size)).mono H9.out.2.2.2.2.1.size);clear b14 cD;go_wp2;go_returns;exact⟨rfl,H14.out⟩
  ·have hmz:((m:Int)==0)=false:=by rw[yc9];omega
   have cL:=zgG (H9.out.2.2.2.1.below H11.out) (by rw[List.length_take,HT.out.2.1];omega) (fun j q hq=>by
    have hjl:j<(ns.take m).length:=(List.getElem?_eq_some_iff.1 hq).1;rw[List.length_take]at hjl;rw[List.getElem?_take_of_lt (by omega)]at hq
    exact HT.out.1.seg.held j q hq) (by omega) (by
    have e:=H9.out.2.2.2.2.2;have hn2:=HT.out.2.1;obtain⟨q,hq⟩:∃ q,ns[ns.length-2]?=some q:=⟨_,yd9 (by omega)⟩
    have hk2:=HT.out.1.ahead hq (by omega)
    unfold z5X;rw[show((m:Int)-1).toNat=ns.length-2 by omega,List.getElem?_take_of_lt (by omega),hq]
    exact hk2)
   go_wp2_with fail;refine cL.mono ?_;rintro e w12 ⟨rfl,b12⟩;have H12:Hid (Below w9.heap.size w9 w12):=H11.out.trans (b12.mono H11.out.size);clear b12 cL;have cS:=zdG B B (.slice (some ⟨g,0,none⟩) n tc) (.slice (some ⟨M,0,none⟩) (n+1) mc) ns (ns++[zgO]) w12 (H9.out.1.below H12.out) (H9.out.2.2.1.below H12.out);go_wp2_with fail;refine cS.mono ?_;rintro e w13 ⟨r,rfl,hr,b13⟩;have er:r=false:=by
    cases r with
    | false=>rfl
    | true=>
     have:=(hr.1 rfl).1;rw[List.length_append]at this;simp at this
   subst er;have H13:Hid (Below w9.heap.size w9 w13):=H12.out.trans (b13.mono H12.out.size);clear b13 cS hr;have cD:=zgQ (zgH (H9.out.2.1.below H13.out) HB7.out.1 (by omega) hkn HB7.out.2.1 HB7.out.2.2)
   go_wp2_with fail;refine cD.mono ?_;rintro e w14 ⟨rfl,b14⟩;have H14:Hid (Below w.heap.size w w14):=H9.out.2.2.2.2.1.trans ((H13.out.trans (b14.mono H13.out.size)).mono H9.out.2.2.2.2.1.size);clear b14 cD;go_wp2;go_returns;exact⟨rfl,H14.out⟩
