/- Part 6. -/
import Derived.Test.YtdbekjiognpgnaaGreatPae
set_option maxHeartbeats 16000000
set_option maxRecDepth 100000
set_option linter.unusedVariables false
namespace Go.Proofs.YtdbekjiognpgnaaGreat
open Go.RowKit
theorem z41(g cap:Nat)(xs:List (List UInt8))(x:ByteArray)(w:World)(hn:xs.length<=1048576)(hc:∀ j,∀ h:j<xs.length,w.cell? ⟨g,j,none⟩=some (.string (txt xs[j]))):
  Calls Tryz.prog 64 #[.slice (some ⟨g,0,none⟩) xs.length cap,.string x] w fun e w'=>e=.returned (.bool (decide (x.data.toList∈xs)))/\w=w':=by
 obtain⟨R,hR⟩:∃ R,decide (x.data.toList∈xs)=R:=⟨_,rfl⟩;have HR:Hid (Unit->decide (x.data.toList∈xs)=R):=fun _=>hR;have HC:Hid (∀ j,∀ h:j<xs.length,w.cell? ⟨g,j,none⟩=some (.string (txt xs[j]))):=hc;rw[hR];obtain⟨n,hnn⟩:∃ n,xs.length=n:=⟨_,rfl⟩;have HNN:Hid (xs.length=n):=hnn;rw[hnn]at hn ⊢;clear hR hc hnn;go_enter Tryz.func64,Tryz.ntmps64;go_upto_region 2 with fail;go_loop [5] (fun y=>∃ i:Nat,y=.int .i64 i/\(i:Int)<=n/\Hid (Unit->x.data.toList∉xs.take i)) (fun y=>n-(intOf y).toNat)
 case atStart=>exact⟨0,rfl,by omega,fun _ h=>by simp at h⟩
 case round=>
  obtain⟨i,rfl,hi,HI⟩:=hrel;by_cases hlt:i<n
  ·have hlt':(i:Int)<n:=by omega
   obtain⟨z,hz⟩:∃ y,xs[i]'(by rw[HNN.out];exact hlt)=y:=⟨_,rfl⟩
   have hcell:=HC.out i (by rw[HNN.out];exact hlt)
   rw[hz]at hcell;obtain⟨y,hy⟩:∃ y,txt z=y:=⟨_,rfl⟩;rw[hy]at hcell;have hyz:y.data.toList=z:=by rw[←hy,z3a]
   have HY:Hid (Unit->xs.take (i+1)=xs.take i++[y.data.toList]):=fun _=>by
    rw[List.take_succ_eq_append_getElem (by rw[HNN.out];exact hlt),hz,hyz]
   have HM:Hid (Unit->y.data.toList∈xs):=fun _=>by rw[hyz,←hz];exact List.getElem_mem _
   clear hy hz hyz;by_cases he:y=x
   ·subst he;have HE:Hid (Unit->R=true):=fun _=>by rw[←HR.out ()];exact yb9 (HM.out ())
    go_wp2;go_ret;exact⟨by rw[HE.out ()];rfl,rfl⟩
   ·have he':(y.toList==x.toList)=false:=by
     rw[yc9,ByteArray.toList_eq,ByteArray.toList_eq];intro h;exact he (by rw[←z3b y,←z3b x,h])
    have HN:Hid (Unit->x.data.toList∉xs.take (i+1)):=fun _ h=>by
     rw[HY.out (),List.mem_append,List.mem_singleton]at h;rcases h with h|h
     ·exact HI.out () h
     ·exact he (by rw[←z3b y,←z3b x,h])
    go_wp2;go_round
    case rel=>exact⟨i+1,by go_num,by omega,HN⟩
    case measure=>simp[intOf];omega
  ·have hlt':decide ((i:Int)<n)=false:=by simp;omega
   have HE:Hid (Unit->R=false):=fun _=>by
    rw[←HR.out ()];refine ya9 (fun h=>HI.out () ?_);rw[List.take_of_length_le (by rw[HNN.out];omega)]
    exact h
   go_wp2;go_ret;exact⟨by rw[HE.out ()];rfl,rfl⟩
def z42:List (List UInt8):=[[61,61],[33,61],[60,61],[62,61],[38,38],[124,124]]
def z43:List UInt8:=[43,45,42,47,37,60,62,61,33,40,41,123,125,44,59]
def z44(l:List UInt8):Int:=if 2<=l.length/\l.take 2∈z42 then 2 else if l.getD 0 0∈z43 then 1 else -1
theorem z45{s:ByteArray}{a:Nat}(h:a+2<=s.size):(s.data.toList.drop a).take 2=sl s a (a+2)/\2<=(s.data.toList.drop a).length:=by
 refine⟨(z3J s a 2).symm,?_⟩;rw[List.length_drop,z1x];omega
theorem z46{s:ByteArray}{a:Nat}(h:a<s.size):(s.data.toList.drop a).getD 0 0=s[a]:=by
 rw[z3H s a h];rfl
theorem z47(s:ByteArray)(a:Nat)(w:World)(ha:a<s.size)(hs:s.size<=1048576):
  Calls Tryz.prog 72 #[.string s,.int .i64 a] w fun e w'=>e=.returned (.int .i64 (z44 (s.data.toList.drop a)))/\Below w.heap.size w w':=by
 obtain⟨R,hR⟩:∃ R,z44 (s.data.toList.drop a)=R:=⟨_,rfl⟩;have HR:Hid (Unit->z44 (s.data.toList.drop a)=R):=fun _=>hR;rw[hR];clear hR;obtain⟨w1,hw1⟩:∃ w1,w.alloc (.cells #[.string ⟨#[61,61]⟩,.string ⟨#[33,61]⟩,.string ⟨#[60,61]⟩,.string ⟨#[62,61]⟩,.string ⟨#[38,38]⟩,.string ⟨#[124,124]⟩] 9)=w1:=⟨_,rfl⟩;have b1:Below w.heap.size w w1:=by rw[←hw1];exact(yg9 _ _).alloc (yf9 _) _
 have hblk:=heap_alloc_new w (.cells #[.string ⟨#[61,61]⟩,.string ⟨#[33,61]⟩,.string ⟨#[60,61]⟩,.string ⟨#[62,61]⟩,.string ⟨#[38,38]⟩,.string ⟨#[124,124]⟩] 9);rw[hw1]at hblk;have cI:=fun x=>z41 w.heap.size 6 z42 x w1 (by decide) (fun j hj=>by
  rw[cell_of_row _ _ _ _ _ _ hblk];match j,hj with
  | 0,_=>rfl
  | 1,_=>rfl
  | 2,_=>rfl
  | 3,_=>rfl
  | 4,_=>rfl
  | 5,_=>rfl)
 have h6:z42.length=6:=rfl;rw[h6]at cI;clear hblk h6;have HH:Hid (Unit->(s.data.toList.drop a).getD 0 0=s[a]):=fun _=>z46 ha;have hai:(a:Int)<s.size:=by omega
 go_enter Tryz.func72,Tryz.ntmps72;go_upto_region 2 with fail;try simp only[hw1]
 clear hw1;go_cut [22] (fun x wx=>∃ d:Bool,x=.bool d/\wx=w1/\Hid (Unit->d=decide (2<=(s.data.toList.drop a).length/\(s.data.toList.drop a).take 2∈z42)))
 case first=>
  by_cases h2:a+2<=s.size
  ·have h2':(a:Int)+2<=s.size:=by omega
   obtain⟨b,hb⟩:∃ b,a+2=b:=⟨_,rfl⟩;have hb':(a:Int)+2=b:=by omega
   have hbs:(b:Int)<=s.size:=by omega
   have hab:(a:Int)<=b:=by omega
   obtain⟨T,hT⟩:∃ T,s.extract a b=T:=⟨_,rfl⟩;have c1:=cI T;obtain⟨y,hy⟩:∃ y,decide (T.data.toList∈z42)=y:=⟨_,rfl⟩;rw[hy]at c1;have HY:Hid (Unit->y=decide (2<=(s.data.toList.drop a).length/\(s.data.toList.drop a).take 2∈z42)):=fun _=>by
    rw[←hy,←hT,z3O,z3a,←hb,(z45 h2).1];by_cases hm:sl s a (a+2)∈z42
    ·rw[yb9 hm,yb9 ⟨(z45 h2).2,hm⟩]
    ·rw[ya9 hm,ya9 (fun h=>hm h.2)]
   clear hy;go_wp2_with fail;refine c1.mono ?_;rintro e w' ⟨rfl,rfl⟩;go_wp2;go_meet
   case rel=>exact⟨y,rfl,rfl,HY⟩
  ·have h2':decide ((a:Int)+2<=s.size)=false:=by simp;omega
   go_wp2;go_meet
   case rel=>exact⟨false,rfl,rfl,fun _=>(ya9 (fun h=>by rw[List.length_drop,z1x]at h;omega)).symm⟩
 case rest=>
  obtain⟨d,rfl,rfl,HD⟩:=hcut;clear cI;cases d
  ·have HR2:Hid (Unit->R=if s[a]∈z43 then 1 else -1):=fun _=>by
    have h:=HD.out ();rw[←HR.out ()];unfold z44;rw[if_neg (of_decide_eq_false h.symm),HH.out ()]
   obtain⟨c,hc⟩:∃ c,s[a]=c:=⟨_,rfl⟩;have HC:Hid (Unit->s[a]=c):=fun _=>hc;obtain⟨m,hm⟩:∃ m,c.toNat=m:=⟨_,rfl⟩;have hm':((s[a]).toNat:Int)=m:=by rw[hc,hm]
   have HM:Hid (Unit->c.toNat=m):=fun _=>hm;obtain⟨O,hO⟩:∃ O,(⟨#[43,45,42,47,37,60,62,61,33,40,41,123,125,44,59]⟩:ByteArray)=O:=⟨_,rfl⟩;have hOs:O.size=15:=by rw[←hO];rfl
   have HO:Hid (Unit->O.data.toList=z43):=fun _=>by rw[←hO];rfl
   go_upto_region 6 with fail;try simp only[hO]
   clear hO hc hm;go_loopw [7] (fun y wr=>∃ i:Nat,y=.int .i64 i/\(i:Int)<=15/\Below w.heap.size w wr/\Hid (Unit->c∉z43.take i)) (fun y _=>15-(intOf y).toNat)
   case atStart=>exact⟨0,rfl,by omega,b1,fun _ h=>by simp at h⟩
   case round=>
    obtain⟨i,rfl,hi,bb,HI⟩:=hrel;by_cases hlt:i<15
    ·have hlt':(i:Int)<15:=by omega
     have hiO:i<O.size:=by omega
     have hiO':(i:Int)<O.size:=by omega
     obtain⟨z,hz⟩:∃ z,O[i]=z:=⟨_,rfl⟩;obtain⟨q,hq⟩:∃ q,z.toNat=q:=⟨_,rfl⟩;have hq':((O[i]).toNat:Int)=q:=by rw[hz,hq]
     have HZ:Hid (Unit->z43.take (i+1)=z43.take i++[z]/\z∈z43/\z.toNat=q):=fun _=>by
      have h:=z0p O i hiO;rw[HO.out (),hz]at h;refine⟨h,?_,hq⟩;rw[←HO.out (),←hz];have e:O[i]=O.data.toList[i]'(by rw[z1x];exact hiO):=rfl
      rw[e];exact List.getElem_mem _
     clear hz hq;by_cases he:q=m
     ·subst he;have HE:Hid (Unit->R=1):=fun _=>by
       have h1:z=c:=UInt8.toNat_inj.1 (by rw[(HZ.out ()).2.2,HM.out ()])
       rw[HR2.out (),HC.out (),←h1,if_pos (HZ.out ()).2.1]
      go_wp2_with fail;go_quiet (fail)
      go_wp2;go_ret;exact⟨by rw[HE.out ()];rfl,below_drewN bb _⟩
     ·have he':((q:Int)==m)=false:=by rw[yc9];omega
      have HN:Hid (Unit->c∉z43.take (i+1)):=fun _ h=>by
       rw[(HZ.out ()).1,List.mem_append,List.mem_singleton]at h;rcases h with h|h
       ·exact HI.out () h
       ·exact he (by rw[←(HZ.out ()).2.2,←HM.out (),h])
      go_wp2_with fail;go_quiet (fail)
      go_wp2;go_roundw
      case rel=>exact⟨i+1,by go_num,by omega,below_drewN bb _,HN⟩
      case measure=>simp[intOf];omega
    ·have hie:i=15:=by omega
     subst hie;have HE:Hid (Unit->R=-1):=fun _=>by
      have hn:c∉z43:=fun h=>HI.out () h;rw[HR2.out (),HC.out (),if_neg hn]
     go_wp2;go_ret;exact⟨by rw[HE.out ()];rfl,bb⟩
  ·have HE:Hid (Unit->R=2):=fun _=>by
    have h:=HD.out ();rw[←HR.out ()];unfold z44;rw[if_pos (of_decide_eq_true h.symm)]
   go_wp2;go_ret;exact⟨by rw[HE.out ()];rfl,b1⟩
structure Two(g c:Nat)(w w':World):Prop where
 os:w'.os=w.os
 tape:w'.tape=w.tape
 output:w'.output=w.output
 size:w.heap.size<=w'.heap.size
 block:∀ k,k<w.heap.size->k≠g->k≠c->w'.heap[k]?=w.heap[k]?
theorem Two.refl(g c:Nat)(w:World):Two g c w w:=⟨rfl,rfl,rfl,yf9 _,fun _ _ _ _=>rfl⟩
theorem Two.trans{g c:Nat}{a b d:World}(h:Two g c a b)(k:Two g c b d):Two g c a d:=
 ⟨k.os.trans h.os,k.tape.trans h.tape,k.output.trans h.output,yi9 h.size k.size,fun i hi h1 h2=>(k.block i (Nat.lt_of_lt_of_le hi h.size) h1 h2).trans (h.block i hi h1 h2)⟩
theorem Two.of_grown{g c:Nat}{w w':World}(h:w.grownBy w' (some c)):Two g c w w':=⟨h.os,h.tape,h.output,h.size,fun k hk _ h2=>h.block k hk (fun e=>h2 (Option.some.inj e))⟩
theorem Two.of_grown'{g c:Nat}{w w':World}(h:w.grownBy w' (some g)):Two g c w w':=⟨h.os,h.tape,h.output,h.size,fun k hk h1 _=>h.block k hk (fun e=>h1 (Option.some.inj e))⟩
theorem Two.of_below{g c:Nat}{w w':World}(h:Below w.heap.size w w'):Two g c w w':=⟨h.os,h.tape,h.output,h.size,fun k hk _ _=>h.block k hk⟩
theorem Two.alloc{g c:Nat}{w w':World}(h:Two g c w w')(o:Obj):Two g c w (w'.alloc o):=h.trans (.of_below ((yg9 _ _).alloc (yf9 _) _))
theorem Two.drew{g c:Nat}{w w':World}(h:Two g c w w'):Two g c w w'.drew:=⟨h.os,h.tape,h.output,h.size,h.block⟩
theorem Two.cell{g c:Nat}{w w':World}(h:Two g c w w'){b j:Nat}(hb:b<w.heap.size)(h1:b≠g)(h2:b≠c):w'.cell? ⟨b,j,none⟩=w.cell? ⟨b,j,none⟩:=by
 unfold World.cell?
 rw[h.block b hb h1 h2]
def z48(w:World)(b n m:Nat):Prop:=∀ j,j<n->∃ s:ByteArray,w.cell? ⟨b,j,none⟩=some (.string s)/\s.size<=m
theorem z48.two{g c b n m:Nat}{w w':World}(h:z48 w b n m)(k:Two g c w w')(hb:b<w.heap.size)(h1:b≠g)(h2:b≠c):z48 w' b n m:=fun j hj=>by
 rw[k.cell hb h1 h2];exact h j hj
theorem z49(w:World)(xs:List Value)(t:TypeId)(n m:Nat)(hn:xs.length=n)(h:∀ v∈xs,∃ s:ByteArray,v=.string s/\s.size<=m):z48 (w.alloc (.cells xs.toArray t)) w.heap.size n m:=fun j hj=>by
 rw[cell_of_row _ _ _ _ _ _ (heap_alloc_new w (.cells xs.toArray t))];obtain⟨s,hs,h2⟩:=h xs[j] (List.getElem_mem _);refine⟨s,?_,h2⟩;rw[←hs];simp
def z4a(nv:Value)(g c n:Nat)(w:World):Prop:=(n=0/\nv=.slice none 0 0)\/∃ b nc,nv=.slice (some ⟨b,0,none⟩) n nc/\0<n/\b≠g/\b≠c/\b<w.heap.size/\z48 w b n 30
theorem z4a.two{nv:Value}{g c n:Nat}{w w':World}(h:z4a nv g c n w)(k:Two g c w w'):z4a nv g c n w':=by
 rcases h with h|⟨b,nc,e,h0,h1,h2,h3,h4⟩
 ·exact .inl h
 ·exact .inr ⟨b,nc,e,h0,h1,h2,Nat.lt_of_lt_of_le h3 k.size,h4.two k h3 h1 h2⟩
structure Gen(ac:Option Addr)(len cap g c:Nat)(nv:Value)(n:Nat)(w:World):Prop where
 cur:Cur ac len cap w c
 code:z06 w ac len g
 ne:g≠c
 blk:∃ l:Int,w.heap[g]?=some (.cells #[.pointer (some ⟨c,0,none⟩),nv,.int .i64 l] 70 (0,0))
 names:z4a nv g c n w
 few:n<=900
theorem z4b{w w':World}{ac:Option Addr}{len g c x:Nat}(h:z06 w ac len g)(h':z06 w ac len c)(k:Two g c w w')(hx:x=g\/x=c):z06 w' ac len x:=by
 refine⟨h.1,fun hp=>?_⟩;obtain⟨b,off,e,hb,hlt,hc⟩:=h.2 hp;obtain⟨b',off',e',hb',_,_⟩:=h'.2 hp;have hbb:b'=b:=by
  rw[e]at e';injection e' with e';injection e' with e1 e2;exact e1.symm
 subst hbb;refine⟨b',off,e,by rcases hx with rfl|rfl<;>assumption,Nat.lt_of_lt_of_le hlt k.size,fun j hj=>?_⟩
 obtain⟨z,hz,hcz⟩:=hc j hj;exact⟨z,hz,by rw[k.cell hlt hb hb'];exact hcz⟩
theorem Gen.lt{ac:Option Addr}{len cap g c:Nat}{nv:Value}{n:Nat}{w:World}(h:Gen ac len cap g c nv n w):g<w.heap.size/\c<w.heap.size:=by
 obtain⟨l,hl⟩:=h.blk;exact⟨lt_of_block hl,h.cur.2.1⟩
theorem Gen.drawn{ac:Option Addr}{len cap g c:Nat}{nv:Value}{n:Nat}{w w':World}(h:Gen ac len cap g c nv n w)(hc:Cur ac len cap w' c)(hg:w.grownBy w' (some c)):Gen ac len cap g c nv n w':=by
 have k:=Two.of_grown (g:=g) hg;obtain⟨l,hl⟩:=h.blk;exact⟨hc,z4b h.code h.cur.1 k (.inl rfl),h.ne,⟨l,by rw[hg.block g h.lt.1 (fun e=>h.ne (Option.some.inj e))];exact hl⟩,h.names.two k,h.few⟩
theorem Gen.below{ac:Option Addr}{len cap g c:Nat}{nv:Value}{n:Nat}{w w':World}(h:Gen ac len cap g c nv n w)(hb:Below w.heap.size w w'):Gen ac len cap g c nv n w':=by
 have k:=Two.of_below (g:=g) (c:=c) hb;obtain⟨l,hl⟩:=h.blk;obtain⟨_,_,i,hh,h3,h4⟩:=h.cur;exact⟨⟨z4b h.code h.cur.1 k (.inr rfl),Nat.lt_of_lt_of_le h.lt.2 hb.size,i,hh,h3,by rw[hb.block c h.lt.2];exact h4⟩,z4b h.code h.cur.1 k (.inl rfl),h.ne,⟨l,by rw[hb.block g h.lt.1];exact hl⟩,h.names.two k,h.few⟩
theorem Gen.alloc{ac:Option Addr}{len cap g c:Nat}{nv:Value}{n:Nat}{w:World}(h:Gen ac len cap g c nv n w)(o:Obj):Gen ac len cap g c nv n (w.alloc o):=h.below ((yg9 _ _).alloc (yf9 _) _)
theorem Gen.drew{ac:Option Addr}{len cap g c:Nat}{nv:Value}{n:Nat}{w:World}(h:Gen ac len cap g c nv n w):Gen ac len cap g c nv n w.drew:=h.below (yg9 _ _).drew
theorem Gen.cells{ac:Option Addr}{len cap g c:Nat}{nv:Value}{n:Nat}{w:World}(h:Gen ac len cap g c nv n w):w.cell? ⟨g,0,none⟩=some (.pointer (some ⟨c,0,none⟩))/\w.cell? ⟨g,1,none⟩=some nv/\(∃ l:Int,w.cell? ⟨g,2,none⟩=some (.int .i64 l))/\∀ j,w.frozen? ⟨g,j,none⟩=false:=by
 obtain⟨l,hl⟩:=h.blk;obtain⟨c0,c1,c2,hf⟩:=z08 hl;exact⟨c0,c1,⟨l,c2⟩,hf⟩
theorem Gen.setLeft{ac:Option Addr}{len cap g c:Nat}{nv:Value}{n:Nat}{w:World}(h:Gen ac len cap g c nv n w)(l:Int):Gen ac len cap g c nv n (w.setCell ⟨g,2,none⟩ (.int .i64 l)):=by
 have k:=Two.of_grown' (c:=c) (z09 w g 2 (.int .i64 l));obtain⟨l',hl⟩:=h.blk;obtain⟨_,_,i,hh,h3,h4⟩:=h.cur;refine⟨⟨z4b h.code h.cur.1 k (.inr rfl),Nat.lt_of_lt_of_le h.lt.2 k.size,i,hh,h3,?_⟩,z4b h.code h.cur.1 k (.inl rfl),h.ne,⟨l,?_⟩,h.names.two k,h.few⟩
 ·rw[heap_setCell_other _ _ _ _ h.ne.symm];exact h4
 ·rw[heap_setCell_same _ _ _ _ _ _ hl];rfl
theorem Gen.setNames{ac:Option Addr}{len cap g c:Nat}{nv nv':Value}{n n':Nat}{w:World}(h:Gen ac len cap g c nv n w)(hn:z4a nv' g c n' w)(hf:n'<=900):Gen ac len cap g c nv' n' (w.setCell ⟨g,1,none⟩ nv'):=by
 have k:=Two.of_grown' (c:=c) (z09 w g 1 nv');obtain⟨l',hl⟩:=h.blk;obtain⟨_,_,i,hh,h3,h4⟩:=h.cur;refine⟨⟨z4b h.code h.cur.1 k (.inr rfl),Nat.lt_of_lt_of_le h.lt.2 k.size,i,hh,h3,?_⟩,z4b h.code h.cur.1 k (.inl rfl),h.ne,⟨l',?_⟩,hn.two k,hf⟩
 ·rw[heap_setCell_other _ _ _ _ h.ne.symm];exact h4
 ·rw[heap_setCell_same _ _ _ _ _ _ hl];rfl
theorem z4c{g c j:Nat}{w:World}(v:Value):Two g c w (w.setCell ⟨g,j,none⟩ v):=Two.of_grown' (z09 w g j v)
theorem z4d(ac:Option Addr)(len cap c gl n m k:Nat)(w:World)(hC:Cur ac len cap w c)(hgl:gl≠c)(hb:gl<w.heap.size)(h0:0<n)(hn:n<=1000)(hz:z48 w gl n m):
  Calls Tryz.prog 30 #[.pointer (some ⟨c,0,none⟩),.slice (some ⟨gl,0,none⟩) n k] w fun e w'=>∃ s:ByteArray,s.size<=m/\e=.returned (.string s)/\Cur ac len cap w' c/\w.grownBy w' (some c):=by
 go_enter Tryz.func30,Tryz.ntmps30;go_wp2_with fail;refine(z0d ac len cap c n _ hC h0 (by omega)).mono ?_
 rintro e w1 ⟨x,hx,rfl,hc,gr⟩;obtain⟨s,hs,hsm⟩:=hz x hx;have hcell:w1.cell? ⟨gl,x,none⟩=some (.string s):=by rw[Two.cell (Two.of_grown (g:=c) gr) hb hgl hgl];exact hs
 have hx':(x:Int)<n:=by omega
 clear hz hs;go_wp2;go_ret;exact⟨s,hsm,rfl,hc,gr⟩
theorem z4e{m:Nat}:∀ v∈([]:List Value),∃ s:ByteArray,v=.string s/\s.size<=m:=fun v hv=>by cases hv
theorem z4f{m:Nat}{s:ByteArray}{l:List Value}(h:s.size<=m)(k:∀ v∈l,∃ s:ByteArray,v=.string s/\s.size<=m):∀ v∈(Value.string s::l),∃ s:ByteArray,v=.string s/\s.size<=m:=fun v hv=>by
 rcases List.mem_cons.1 hv with rfl|hv
 ·exact⟨s,rfl,h⟩
 ·exact k v hv
theorem z4g{ac:Option Addr}{len cap g c:Nat}{nv:Value}{N:Nat}{w:World}(xs:List Value)(t:TypeId)(n m:Nat)(hn:xs.length=n)(h0:0<n)(hle:n<=1000)(h:∀ v∈xs,∃ s:ByteArray,v=.string s/\s.size<=m)(G:Gen ac len cap g c nv N w):
  Calls Tryz.prog 30 #[.pointer (some ⟨c,0,none⟩),.slice (some ⟨w.heap.size,0,none⟩) n n] (w.alloc (.cells xs.toArray t)) fun e w'=>∃ s:ByteArray,s.size<=m/\e=.returned (.string s)/\Gen ac len cap g c nv N w'/\Two g c w w':=by
 have hlt:=G.lt;refine(z4d ac len cap c w.heap.size n m n _ (G.alloc (.cells xs.toArray t)).cur (by omega) (by simp) h0 hle (z49 w xs t n m hn h)).mono ?_
 rintro e w' ⟨s,hs,he,hc,gr⟩;exact⟨s,hs,he,(G.alloc _).drawn hc gr,(Two.alloc (Two.refl _ _ _) _).trans (.of_grown gr)⟩
theorem z4h{ac:Option Addr}{len cap g c:Nat}{nv:Value}{N:Nat}{w:World}(n:Nat)(h0:0<n)(hle:n<=1000)(G:Gen ac len cap g c nv N w):
  Calls Tryz.prog 31 #[.pointer (some ⟨c,0,none⟩),.int .i64 n] w fun e w'=>∃ b:Bool,e=.returned (.bool b)/\Gen ac len cap g c nv N w'/\Two g c w w':=
 (z0e ac len cap c n w G.cur h0 (by omega)).mono fun e w' ⟨b,he,hc,gr⟩=>⟨b,he,G.drawn hc gr,.of_grown gr⟩
theorem z4i{ac:Option Addr}{len cap g c:Nat}{nv:Value}{N:Nat}{w:World}(n:Nat)(h0:0<n)(hle:n<=4294967296)(G:Gen ac len cap g c nv N w):
  Calls Tryz.prog 21 #[.pointer (some ⟨c,0,none⟩),.int .i64 n] w fun e w'=>∃ x:Nat,x<n/\e=.returned (.int .i64 x)/\Gen ac len cap g c nv N w'/\Two g c w w':=
 (z0d ac len cap c n w G.cur h0 hle).mono fun e w' ⟨b,hb,he,hc,gr⟩=>⟨b,hb,he,G.drawn hc gr,.of_grown gr⟩
theorem z4j{ac:Option Addr}{len cap g c:Nat}{nv:Value}{N:Nat}{w:World}(G:Gen ac len cap g c nv N w):
  Calls Tryz.prog 54 #[.pointer (some ⟨g,0,none⟩)] w fun e w'=>∃ s:ByteArray,s.size<=30/\e=.returned (.string s)/\Gen ac len cap g c nv N w'/\Two g c w w':=by
 have hfew:=G.few;rcases G.names with ⟨rfl,rfl⟩|⟨bl,nc,rfl,h0,hb1,hb2,hb3,hb4⟩
 ·obtain⟨c0,c1,_,_⟩:=G.cells;go_enter Tryz.func54,Tryz.ntmps54;go_wp2_with fail;refine(z4g [.string ⟨#[120]⟩,.string ⟨#[121]⟩,.string ⟨#[110,111,110,101]⟩] 9 3 30 rfl (by omega) (by omega) (by repeat (first|exact z4e|refine z4f (by decide) ?_)) G).mono ?_
  rintro e w' ⟨s,hs,rfl,G',K'⟩;go_wp2;go_ret;exact⟨s,hs,rfl,G',K'⟩
 ·obtain⟨c0,c1,_,_⟩:=G.cells;have hN':((N:Int)==0)=false:=by rw[yc9];omega
  go_enter Tryz.func54,Tryz.ntmps54;go_wp2_with fail;refine(z4h 30 (by omega) (by omega) G).mono ?_
  rintro e w1 ⟨b,rfl,G1,K1⟩;obtain⟨d0,d1,_,_⟩:=G1.cells;cases b
  ·have cB:=fun(W:World) (GW:Gen ac len cap g c (.slice (some ⟨bl,0,none⟩) N nc) N W)=>z4i N (by omega) (by omega) GW
   have HROW:Hid (z48 w1.drew bl N 30/\bl<w1.drew.heap.size):=⟨hb4.two K1.drew hb3 hb1 hb2,Nat.lt_of_lt_of_le hb3 K1.size⟩;clear hb4;go_upto_region 3 with fail;go_region_with (first
    | (go_at_call 21;refine(cB _ ?_).mono ?_;(first|exact G1.drew|exact G1);rintro e w2 ⟨x,hx,rfl,G2,K2⟩;obtain⟨e0,e1,_,_⟩:=G2.cells;obtain⟨s,hcell,hsm⟩:=(HROW.out.1.two (g:=g) (c:=c) K2 HROW.out.2 hb1 hb2) x hx;have hx':(x:Int)<N:=Int.ofNat_lt.2 hx;have KK:=K1.drew.trans K2))
   all_goals go_wp2
   all_goals go_ret
   all_goals exact⟨s,hsm,rfl,G2,KK⟩
  ·go_wp2_with fail;refine(z4g [.string ⟨#[120]⟩,.string ⟨#[121]⟩,.string ⟨#[110,111,110,101]⟩] 9 3 30 rfl (by omega) (by omega) (by repeat (first|exact z4e|refine z4f (by decide) ?_)) G1).mono ?_
   rintro e w' ⟨s,hs,rfl,G',K'⟩;go_wp2;go_ret;exact⟨s,hs,rfl,G',K1.trans K'⟩
theorem z4k{w:World}{b:Nat}:∀{n:Nat},z48 w b n 30->∃ xs:List (List UInt8),xs.length=n/\∀ j,∀ h:j<xs.length,w.cell? ⟨b,j,none⟩=some (.string (txt xs[j]))
 | 0,_=>⟨[],rfl,fun j h=>by simp at h⟩
 | n+1,hr=>by
  obtain⟨xs,hl,hc⟩:=z4k (n:=n) (fun j hj=>hr j (by omega))
  obtain⟨s,hs,_⟩:=hr n (by omega)
  refine⟨xs++[s.data.toList],by simp[hl],fun j hj=>?_⟩
  rw[List.length_append,List.length_singleton,hl]at hj;rcases (by omega:j<n\/j=n)with h|h
  ·rw[List.getElem_append_left (by omega)]
   exact hc j (by omega)
  ·subst h;rw[List.getElem_append_right (by omega)]
   simp only[hl,Nat.sub_self,List.getElem_cons_zero];rw[z3b];exact hs
theorem z4l(x:ByteArray)(w:World):
  Calls Tryz.prog 64 #[.slice none 0 0,.string x] w fun e w'=>e=.returned (.bool false)/\w=w':=by
 go_enter Tryz.func64,Tryz.ntmps64;go_upto_region 2 with fail;go_loop [5] (fun y=>y=.int .i64 0) (fun _=>0)
 case atStart=>rfl
 case round=>
  subst hrel;go_wp2;go_ret;exact⟨rfl,rfl⟩
theorem z4m{ac:Option Addr}{len cap g c:Nat}{nv:Value}{N:Nat}{w:World}(x:ByteArray)(G:Gen ac len cap g c nv N w):
  Calls Tryz.prog 64 #[nv,.string x] w fun e w'=>∃ b,e=.returned (.bool b)/\w=w':=by
 have hfew:=G.few;rcases G.names with ⟨rfl,rfl⟩|⟨bl,nc,rfl,h0,hb1,hb2,hb3,hb4⟩
 ·exact(z4l x w).mono fun e w' h=>⟨_,h⟩
 ·obtain⟨xs,hl,hc⟩:=z4k hb4;have h:=z41 bl nc xs x w (by omega) hc
  rw[hl]at h;exact h.mono fun e w' h=>⟨_,h⟩
theorem z4n{ac:Option Addr}{len cap g c:Nat}{nv:Value}{N:Nat}{w:World}(n:Nat)(hn:n<1000)(G:Gen ac len cap g c nv N w):
  Calls Tryz.prog 56 #[.int .i64 n] w fun e w'=>∃ s:ByteArray,s.size<=3/\e=.returned (.string s)/\Gen ac len cap g c nv N w'/\Two g c w w':=
 (z0L n w (by omega)).mono fun e w' ⟨he,hb⟩=>⟨_,by
  rw[←z1x];show(Lib.decDigits n).length<=3;exact(z3w hn).2.2,he,G.below hb,.of_below hb⟩
theorem z4o{ac:Option Addr}{len cap g c:Nat}{nv:Value}{N:Nat}{w:World}(G:Gen ac len cap g c nv N w):
  Calls Tryz.prog 52 #[.pointer (some ⟨g,0,none⟩)] w fun e w'=>∃ s:ByteArray,s.size<=30/\e=.returned (.string s)/\Gen ac len cap g c nv N w'/\Two g c w w':=by
 have hfew:=G.few;obtain⟨c0,c1,_,_⟩:=G.cells;obtain⟨na,nc,HNV⟩:∃ na nc,Hid (nv=.slice na N nc):=by
  rcases G.names with ⟨rfl,rfl⟩|⟨bl,nc,rfl,_⟩
  ·exact⟨_,_,rfl⟩
  ·exact⟨_,_,rfl⟩
 go_enter Tryz.func52,Tryz.ntmps52;go_wp2_with fail;refine(z4g [.string ⟨#[97]⟩,.string ⟨#[98]⟩,.string ⟨#[99]⟩,.string ⟨#[100]⟩,.string ⟨#[101]⟩,.string ⟨#[102]⟩,.string ⟨#[103]⟩] 9 7 1 rfl (by omega) (by omega) (by repeat (first|exact z4e|refine z4f (by decide) ?_)) G).mono ?_
 rintro e w1 ⟨s,hs,rfl,G1,K1⟩;obtain⟨d0,d1,_,_⟩:=G1.cells;go_wp2_with fail;refine(z4m s G1).mono ?_;rintro e w2 ⟨b,rfl,rfl⟩;cases b
 ·go_wp2;go_ret;exact⟨s,by omega,rfl,G1,K1⟩
 ·go_wp2_with fail;refine(z4h 12 (by omega) (by omega) G1).mono ?_
  rintro e w3 ⟨b,rfl,G3,K3⟩;obtain⟨e0,e1,_,_⟩:=G3.cells;cases b
  ·rw[HNV.out]at e1;go_wp2_with fail;refine(z4n N (by omega) G3).mono ?_
   rintro e w4 ⟨z,hz,rfl,G4,K4⟩;have hb:(s++z).size<=30:=by rw[ByteArray.size_append];omega
   have hb2:s.size+z.size<=9223372036854775807:=by omega
   go_wp2;go_ret;exact⟨s++z,hb,rfl,G4,(K1.trans K3).trans K4⟩
  ·go_wp2;go_ret;exact⟨s,by omega,rfl,G3,K1.trans K3⟩
theorem z4p{ac:Option Addr}{len cap g c:Nat}{nv:Value}{N:Nat}{w:World}(xs:List Value)(t:TypeId)(n m:Nat)(G:Gen ac len cap g c nv N w)(hn:xs.length=n)(h0:0<n)(hle:n<=1000)(h:∀ v∈xs,∃ s:ByteArray,v=.string s/\s.size<=m):
  Calls Tryz.prog 30 #[.pointer (some ⟨c,0,none⟩),.slice (some ⟨w.heap.size,0,none⟩) n n] (w.alloc (.cells xs.toArray t)) fun e w'=>∃ s:ByteArray,s.size<=m/\e=.returned (.string s)/\Gen ac len cap g c nv N w'/\Two g c w w':=
 z4g xs t n m hn h0 hle h G
theorem z4q{ac:Option Addr}{len cap g c:Nat}{nv:Value}{N:Nat}{w w2:World}(xs:List Value)(t:TypeId)(n m:Nat)(G:Gen ac len cap g c nv N w)(G2:Gen ac len cap g c nv N w2)(k:Two g c (w.alloc (.cells xs.toArray t)) w2)(hn:xs.length=n)(h0:0<n)(hle:n<=1000)(h:∀ v∈xs,∃ s:ByteArray,v=.string s/\s.size<=m):
  Calls Tryz.prog 30 #[.pointer (some ⟨c,0,none⟩),.slice (some ⟨w.heap.size,0,none⟩) n n] w2 fun e w'=>∃ s:ByteArray,s.size<=m/\e=.returned (.string s)/\Gen ac len cap g c nv N w'/\Two g c w2 w':=by
 have hlt:=G.lt;have hk:=k.size;have e1:(w.alloc (.cells xs.toArray t)).heap.size=w.heap.size+1:=by simp
 rw[e1]at hk;refine(z4d ac len cap c w.heap.size n m n w2 G2.cur (by omega) (by omega) h0 hle ((z49 w xs t n m hn h).two k (by simp) (by omega) (by omega))).mono ?_
 rintro e w' ⟨s,hs,he,hc,gr⟩;exact⟨s,hs,he,G2.drawn hc gr,.of_grown gr⟩
def lenA(d:Nat):Nat:=200*30 ^ d
theorem z4r(d:Nat):lenA (d+1)=30*lenA d:=by unfold lenA;rw[Nat.pow_succ];omega
theorem z4s(d:Nat):200<=lenA d:=by unfold lenA;have:1<=30 ^ d:=Nat.one_le_pow _ _ (by decide);omega
theorem z4t{a b:Nat}(h:a<=b):lenA a<=lenA b:=by unfold lenA;exact Nat.mul_le_mul_left _ (Nat.pow_le_pow_right (by decide) h)
theorem z4u{d:Nat}(h:d<=3):lenA d<=5400000:=yi9 (z4t h) (by decide)
def z4v(d:Nat):Prop:=∀{ac:Option Addr} {len cap g c:Nat} {nv:Value} {N:Nat} {w:World},Gen ac len cap g c nv N w->N+20*d+12<=900->
  Calls Tryz.prog 53 #[.pointer (some ⟨g,0,none⟩),.int .i64 (d:Nat)] w fun e w'=>∃ s:ByteArray,s.size<=lenA d/\e=.returned (.string s)/\Gen ac len cap g c nv N w'/\Two g c w w'
def z4w(d:Nat):Prop:=∀{ac:Option Addr} {len cap g c:Nat} {nv:Value} {N:Nat} {w:World},Gen ac len cap g c nv N w->N+20*d+30<=900->
  Calls Tryz.prog 57 #[.pointer (some ⟨g,0,none⟩),.int .i64 (d:Nat)] w fun e w'=>∃ s:ByteArray,3<=s.size/\s.size<=7*lenA d/\e=.returned (.string s)/\Gen ac len cap g c nv N w'/\Two g c w w'
def z4x(d:Nat):Prop:=∀{ac:Option Addr} {len cap g c:Nat} {nv:Value} {N:Nat} {w:World},Gen ac len cap g c nv N w->N+20*d+28<=900->
  Calls Tryz.prog 55 #[.pointer (some ⟨g,0,none⟩),.int .i64 (d:Nat)] w fun e w'=>∃ s:ByteArray,s.size<=6*lenA d/\e=.returned (.string s)/\Gen ac len cap g c nv N w'/\Two g c w w'
def z4y(d:Nat):Prop:=∀{ac:Option Addr} {len cap g c:Nat} {nv:Value} {N:Nat} {w:World} (at':Int),Gen ac len cap g c nv N w->N+20*d+20<=900->
  Calls Tryz.prog 28 #[.pointer (some ⟨g,0,none⟩),.int .i64 (d:Nat),.int .i64 at'] w fun e w'=>∃(s:ByteArray) (nv':Value) (N':Nat),s.size<=2*lenA d/\e=.returned (.string s)/\N'<=N+d+1/\Gen ac len cap g c nv' N' w'/\Two g c w w'
theorem z4z{ac:Option Addr}{len cap g c:Nat}{nv:Value}{N:Nat}{w:World}(d:Int)(hd:d<=0)(G:Gen ac len cap g c nv N w):
  Calls Tryz.prog 53 #[.pointer (some ⟨g,0,none⟩),.int .i64 d] w fun e w'=>∃ s:ByteArray,s.size<=30/\e=.returned (.string s)/\Gen ac len cap g c nv N w'/\Two g c w w':=by
 obtain⟨c0,c1,⟨l,c2⟩,hf⟩:=G.cells;have f2:=hf 2;obtain⟨l',hl'⟩:∃ l',IntKind.i64.wrap (l-1)=l':=⟨_,rfl⟩;obtain⟨W1,hW1⟩:∃ W,w.setCell ⟨g,2,none⟩ (.int .i64 l')=W:=⟨_,rfl⟩;have G1:Gen ac len cap g c nv N W1:=by rw[←hW1];exact G.setLeft l'
 have KK:Two g c w W1.drew:=by rw[←hW1];exact(z4c _).drew
 obtain⟨d0,d1,_,_⟩:=G1.cells;have d0a:=fun o=>(G1.drew.alloc o).cells.1;have cP:=fun(W:World) (xs:List Value) (t:TypeId) (n:Nat) (GW:Gen ac len cap g c nv N W) (hn:xs.length=n) (h0:0<n) (hle:n<=1000) (h:∀ v∈xs,∃ s:ByteArray,v=.string s/\s.size<=30)=>z4p xs t n 30 GW hn h0 hle h;have cV:=fun(W:World) (GW:Gen ac len cap g c nv N W)=>z4j GW;go_enter Tryz.func53,Tryz.ntmps53;go_upto_region 3 with fail;try simp only[hW1]
 clear hW1 hf f2 c0 c1 c2 G;go_region_with (first
  | (go_at_call 54;refine(cV _ ?_).mono ?_;(first|assumption|exact G1.drew|exact G1);rintro e w2 ⟨s,hs,rfl,G2,K2⟩;have KK:Two g c w w2:=Two.trans KK K2;obtain⟨e0,e1,_,_⟩:=G2.cells;have e0a:=fun o=>(G2.alloc o).cells.1)
  | (go_at_call 30;refine(cP _ _ _ _ ?_ ?_ ?_ ?_ ?_).mono ?_;(first|assumption|exact G1.drew|exact G1);rfl;decide;decide;(repeat (first|exact z4e|refine z4f (by first|decide|assumption|omega) ?_));rintro e w5 ⟨p,hp,rfl,G5,K5⟩;have KK:Two g c w w5:=Two.trans KK K5;obtain⟨j0,j1,_,_⟩:=G5.cells))
 all_goals go_wp2
 all_goals go_ret
 all_goals exact⟨p,hp,rfl,G5,KK⟩
theorem z4A{ac:Option Addr}{len cap g c:Nat}{nv:Value}{N:Nat}{w:World}(d l:Int)(hd:¬d<=0)(hc2:w.cell? ⟨g,2,none⟩=some (.int .i64 l))(hl:IntKind.i64.wrap (l-1)<=0)(G:Gen ac len cap g c nv N w):
  Calls Tryz.prog 53 #[.pointer (some ⟨g,0,none⟩),.int .i64 d] w fun e w'=>∃ s:ByteArray,s.size<=30/\e=.returned (.string s)/\Gen ac len cap g c nv N w'/\Two g c w w':=by
 obtain⟨c0,c1,_,hf⟩:=G.cells;have c2:=hc2;have hd':decide (d<=0)=false:=by simpa using hd
 have f2:=hf 2;obtain⟨l',hl'⟩:∃ l',IntKind.i64.wrap (l-1)=l':=⟨_,rfl⟩;obtain⟨W1,hW1⟩:∃ W,w.setCell ⟨g,2,none⟩ (.int .i64 l')=W:=⟨_,rfl⟩;have G1:Gen ac len cap g c nv N W1:=by rw[←hW1];exact G.setLeft l'
 have KK:Two g c w W1.drew:=by rw[←hW1];exact(z4c _).drew
 rw[hl']at hl;have d2:W1.cell? ⟨g,2,none⟩=some (.int .i64 l'):=by
  obtain⟨lb,hb⟩:=G.blk;rw[←hW1];exact(z08 (by rw[heap_setCell_same _ _ _ _ _ _ hb];rfl)).2.2.1
 obtain⟨d0,d1,_,_⟩:=G1.cells;have d0a:=fun o=>(G1.drew.alloc o).cells.1;have cP:=fun(W:World) (xs:List Value) (t:TypeId) (n:Nat) (GW:Gen ac len cap g c nv N W) (hn:xs.length=n) (h0:0<n) (hle:n<=1000) (h:∀ v∈xs,∃ s:ByteArray,v=.string s/\s.size<=30)=>z4p xs t n 30 GW hn h0 hle h;have cV:=fun(W:World) (GW:Gen ac len cap g c nv N W)=>z4j GW;go_enter Tryz.func53,Tryz.ntmps53;go_upto_region 3 with fail;try simp only[hW1]
 clear hW1 hf f2 c0 c1 c2 hc2 d2 hd hd' G;go_region_with (first
  | (go_at_call 54;refine(cV _ ?_).mono ?_;(first|assumption|exact G1.drew|exact G1);rintro e w2 ⟨s,hs,rfl,G2,K2⟩;have KK:Two g c w w2:=Two.trans KK K2;obtain⟨e0,e1,_,_⟩:=G2.cells;have e0a:=fun o=>(G2.alloc o).cells.1)
  | (go_at_call 30;refine(cP _ _ _ _ ?_ ?_ ?_ ?_ ?_).mono ?_;(first|assumption|exact G1.drew|exact G1);rfl;decide;decide;(repeat (first|exact z4e|refine z4f (by first|decide|assumption|omega) ?_));rintro e w5 ⟨p,hp,rfl,G5,K5⟩;have KK:Two g c w w5:=Two.trans KK K5;obtain⟨j0,j1,_,_⟩:=G5.cells))
 all_goals go_wp2
 all_goals go_ret
 all_goals exact⟨p,hp,rfl,G5,KK⟩
