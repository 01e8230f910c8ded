/- Part 13. -/
import Derived.Test.YtdbekjiognpgnaaGreatPal
set_option maxHeartbeats 16000000
set_option maxRecDepth 100000
set_option linter.unusedVariables false
namespace Go.Proofs.YtdbekjiognpgnaaGreat
open Go.RowKit
theorem z8a:∀{r:List UInt8} {i:Nat},z3D r=some i->i<r.length
 | [],i,h=>by cases h
 | c::r,i,h=>by
  rw[z3D]at h;by_cases h34:c.toNat=34
  ·rw[if_pos h34]at h;obtain rfl:=Option.some.inj h;simp
  ·rw[if_neg h34]at h;by_cases hb:c.toNat<32\/126<c.toNat
   ·rw[if_pos hb]at h;cases h
   ·rw[if_neg hb]at h;cases hr:z3D r with
    | none=>rw[hr]at h;cases h
    | some j=>
     rw[hr]at h;obtain rfl:=Option.some.inj h;have:=z8a hr;simp;omega
theorem z8b(l:List UInt8):z3X l=-1\/(0<z3X l/\z3X l<=(l.length:Int)+1/\2<=z3X l):=by
 unfold z3X;cases h:z3D l with
 | none=>left;rfl
 | some i=>
  right
  have:=z8a h;simp only;omega
theorem z8c(l:List UInt8):z3C l<=l.length:=by
 have hr:=z3o l;have hf:∀ e,e<=l.length->z3z l e<=l.length:=fun e he=>by
  unfold z3z;cases h:l.drop e with
  | nil=>exact he
  | cons c q=>
   have hl:=congrArg List.length h;rw[List.length_drop,List.length_cons]at hl;cases q with
   | nil=>exact he
   | cons d q=>
    simp only;split
    ·have:=z3o (d::q);omega
    ·exact he
 have ht:∀ e,e<=l.length->z3B l e<=l.length:=fun e he=>by
  unfold z3B;cases h:l.drop e with
  | nil=>exact he
  | cons c q=>
   have hl:=congrArg List.length h;rw[List.length_drop,List.length_cons]at hl;cases q with
   | nil=>exact he
   | cons d q=>
    simp only;split
    ·cases hq:(d::q).drop (z3A d)with
     | nil=>exact he
     | cons f u=>
      simp only;split
      ·have h1:=z3o (f::u);have h2:=congrArg List.length hq;rw[List.length_drop,List.length_cons,List.length_cons]at h2;rw[List.length_cons]at h1 hl;omega
      ·exact he
    ·exact he
 exact ht _ (hf _ hr)
theorem z8d(s:ByteArray)(a:Nat)(w:World)(ha:a<s.size)(hs:s.size<=1048576)(hc:z3x s[a]=false)(hf:z3j s[a]=false)(hq:(s[a]).toNat=34):
  Calls Tryz.prog 47 #[.string s,.int .i64 a] w fun e w'=>e=.returned (.tuple #[tokV (tokN (s.data.toList.drop a)).1 a,.int .i64 (tokN (s.data.toList.drop a)).2])/\Below w.heap.size w w':=by
 have hz:=z8b (s.data.toList.drop (a+1));rw[List.length_drop,z1x]at hz;have cM:=fun W=>z40 s a W ha hs;obtain⟨z,hzz⟩:∃ z,z3X (s.data.toList.drop (a+1))=z:=⟨_,rfl⟩;rw[hzz]at hz cM;obtain⟨T,hT⟩:∃ T,(if 0<z then s.extract (a+1) (a+1+(z-2).toNat)else (⟨#[]⟩:ByteArray))=T:=⟨_,rfl⟩
 have hTl:T=txt (if 0<z then (s.data.toList.drop (a+1)).take (z-2).toNat else []):=by
  rw[←hT];by_cases h:0<z
  ·rw[if_pos h,if_pos h,z3O,z3J]
  ·rw[if_neg h,if_neg h];rfl
 have hR:tokN (s.data.toList.drop a)=((⟨3,if 0<z then (s.data.toList.drop (a+1)).take (z-2).toNat else [],0⟩:Tok),z):=by
  unfold tokN;rw[z46 ha,if_neg (by rw[hc];decide),if_neg (by rw[hf];decide),if_pos hq,List.drop_drop,hzz]
 rw[hR];have hV:tokV ⟨3,if 0<z then (s.data.toList.drop (a+1)).take (z-2).toNat else [],0⟩ a=.agg #[.int .i64 3,.string T,.int .u64 0,.int .i64 a]:=by
  unfold tokV;rw[←hTl];rfl
 show Calls _ _ _ _ (fun e w'=>e=.returned (.tuple #[tokV ⟨3,if 0<z then (s.data.toList.drop (a+1)).take (z-2).toNat else [],0⟩ a,.int .i64 z])/\_)
 rw[hV];have cL:=fun W=>z3U s[a] W;rw[hc]at cL;have cF:=fun W=>z3T s[a] W;rw[hf]at cF;have hq':((s[a]).toNat:Int)=34:=by omega
 have hai:(a:Int)<s.size:=by omega
 simp only[hq']at cL cF;have HT:Hid (Unit->(if 0<z then s.extract (a+1) (a+1+(z-2).toNat)else (⟨#[]⟩:ByteArray))=T):=fun _=>hT
 clear hzz hT hTl hR hV hc hf hq;go_enter Tryz.func47,Tryz.ntmps47;obtain⟨g0,hg0⟩:∃ g,w.heap.size=g:=⟨_,rfl⟩;obtain⟨W2,hW2⟩:∃ W,(w.alloc (.cells #[.int .i64 0,.string ⟨#[]⟩,.int .u64 0,.int .i64 0] 117)).alloc (.cells #[.int .i64 0,.string ⟨#[]⟩,.int .u64 0,.int .i64 (a:Int)] 117)=W:=⟨_,rfl⟩;have bb:Below w.heap.size w W2:=by rw[←hW2];exact((yg9 _ _).alloc (yf9 _) _).alloc (by simp) _
 have hB1:W2.heap[g0+1]?=some (.cells #[.int .i64 0,.string ⟨#[]⟩,.int .u64 0,.int .i64 (a:Int)] 117):=by
  have h:=heap_alloc_new (w.alloc (.cells #[.int .i64 0,.string ⟨#[]⟩,.int .u64 0,.int .i64 0] 117)) (.cells #[.int .i64 0,.string ⟨#[]⟩,.int .u64 0,.int .i64 (a:Int)] 117);rw[hW2]at h;have e:(w.alloc (.cells #[.int .i64 0,.string ⟨#[]⟩,.int .u64 0,.int .i64 0] 117)).heap.size=g0+1:=by rw[←hg0];simp
  rw[e]at h;exact h
 have hB0:W2.heap[g0]?=some (.cells #[.int .i64 0,.string ⟨#[]⟩,.int .u64 0,.int .i64 0] 117):=by
  have h:=heap_alloc_new w (.cells #[.int .i64 0,.string ⟨#[]⟩,.int .u64 0,.int .i64 0] 117);rw[hg0]at h;have k:Below (w.alloc (.cells #[.int .i64 0,.string ⟨#[]⟩,.int .u64 0,.int .i64 0] 117)).heap.size (w.alloc (.cells #[.int .i64 0,.string ⟨#[]⟩,.int .u64 0,.int .i64 0] 117)) W2:=by rw[←hW2];exact(yg9 _ _).alloc (yf9 _) _
  exact z3g k h
 obtain⟨g1,hg1⟩:∃ g,g0+1=g:=⟨_,rfl⟩;rw[hg1]at hB1;have hne:g0≠g1:=by omega
 have hne':g1≠g0:=by omega
 have hgw:w.heap.size<=g1:=by omega
 go_wp2_with fail;try simp only[hW2,hg0,hg1]
 clear hW2 hg1;refine(cL _).mono ?_;rintro e w' ⟨rfl,rfl⟩;go_wp2_with fail;refine(cF _).mono ?_;rintro e w' ⟨rfl,rfl⟩;go_wp2_with fail;refine(cM _).mono ?_;rintro e W3 ⟨rfl,rfl⟩;clear cL cF cM;have hgw0:w.heap.size<=g0:=by omega
 have f10:=frozen_of_row W2 g1 0 _ _ hB1;obtain⟨k0,k1,k2,k3⟩:=z2u hB1;obtain⟨W4,hW4⟩:∃ W,W2.setCell ⟨g1,0,none⟩ (.int .i64 3)=W:=⟨_,rfl⟩;have hC1:W4.heap[g1]?=some (.cells #[.int .i64 3,.string ⟨#[]⟩,.int .u64 0,.int .i64 (a:Int)] 117):=by
  rw[←hW4,heap_setCell_same _ _ _ _ _ _ hB1];rfl
 have hC0:W4.heap[g0]?=some (.cells #[.int .i64 0,.string ⟨#[]⟩,.int .u64 0,.int .i64 0] 117):=by
  rw[←hW4,heap_setCell_other _ _ _ _ hne];exact hB0
 have bc:Below w.heap.size w W4:=by rw[←hW4];exact bb.setCell (p:=⟨g1,0,none⟩) hgw _
 go_upto_region 26 with fail;try simp only[hW4]
 clear hW4 hB0 hB1 bb f10 k0 k1 k2 k3;clear W2;rcases hz with hz|⟨hz1,hz2,hz3⟩
 ·subst hz;have hTT:=HT.out ();rw[if_neg (by omega)]at hTT
  subst hTT;have bd:=bc;have hD1:=hC1;have hD0:=hC0;clear bc hC1 hC0;obtain⟨k0,k1,k2,k3⟩:=z2u hD1;obtain⟨m0,m1,m2,m3⟩:=z2u hD0;have f00:=frozen_of_row _ g0 0 _ _ hD0;have f01:=frozen_of_row _ g0 1 _ _ hD0;have f02:=frozen_of_row _ g0 2 _ _ hD0;have f03:=frozen_of_row _ g0 3 _ _ hD0;obtain⟨W5,hW5⟩:∃ W,(((W4.setCell ⟨g0,0,none⟩ (.int .i64 3)).setCell ⟨g0,1,none⟩ (.string ⟨#[]⟩)).setCell ⟨g0,2,none⟩ (.int .u64 0)).setCell ⟨g0,3,none⟩ (.int .i64 (a:Int))=W:=⟨_,rfl⟩;have b5:Below w.heap.size w W5:=by
   rw[←hW5];exact(((bd.setCell (p:=⟨g0,0,none⟩) hgw0 _).setCell (p:=⟨g0,1,none⟩) hgw0 _).setCell (p:=⟨g0,2,none⟩) hgw0 _).setCell (p:=⟨g0,3,none⟩) hgw0 _
  have hF:=z4N (a':=.int .i64 3) (b':=.string ⟨#[]⟩) (c':=.int .u64 0) (d':=.int .i64 (a:Int)) hD0;rw[hW5]at hF;obtain⟨v0,v1,v2,v3⟩:=z2u hF;clear hF bd hD0 hD1 HT;go_wp2;try simp only[hW5]
  try simp only[Exit.inBlock,Exit.then]
  refine bodyPost_ret (by simp[results,Tryz.results47,go_sem,v0,v1,v2,v3];try rfl) rfl ?_
  exact⟨rfl,b5⟩
 ·obtain⟨m,rfl⟩:∃ m:Nat,z=m:=⟨z.toNat,by omega⟩
  have hTT:=HT.out ();rw[if_pos hz1]at hTT;obtain⟨a1,ha1⟩:∃ b,a+1=b:=⟨_,rfl⟩;obtain⟨b,hb⟩:∃ b,a1+((m:Int)-2).toNat=b:=⟨_,rfl⟩;rw[ha1,hb]at hTT;have ha1':(a:Int)+1=a1:=by omega
  have hb':(a:Int)+m-1=b:=by omega
  have hbs:(b:Int)<=s.size:=by omega
  have hab:(a1:Int)<=b:=by omega
  have hm0:0<m:=by omega
  have f11:=frozen_of_row W4 g1 1 _ _ hC1;obtain⟨q0,q1,q2,q3⟩:=z2u hC1;obtain⟨W6,hW6⟩:∃ W,W4.setCell ⟨g1,1,none⟩ (.string T)=W:=⟨_,rfl⟩;have bd:Below w.heap.size w W6:=by rw[←hW6];exact bc.setCell (p:=⟨g1,1,none⟩) hgw _
  have hD1:W6.heap[g1]?=some (.cells #[.int .i64 3,.string T,.int .u64 0,.int .i64 (a:Int)] 117):=by
   rw[←hW6,heap_setCell_same _ _ _ _ _ _ hC1];rfl
  have hD0:W6.heap[g0]?=some (.cells #[.int .i64 0,.string ⟨#[]⟩,.int .u64 0,.int .i64 0] 117):=by
   rw[←hW6,heap_setCell_other _ _ _ _ hne];exact hC0
  clear hb ha1 bc hC1 hC0;obtain⟨k0,k1,k2,k3⟩:=z2u hD1;obtain⟨m0,m1,m2,m3⟩:=z2u hD0;have f00:=frozen_of_row _ g0 0 _ _ hD0;have f01:=frozen_of_row _ g0 1 _ _ hD0;have f02:=frozen_of_row _ g0 2 _ _ hD0;have f03:=frozen_of_row _ g0 3 _ _ hD0;obtain⟨W5,hW5⟩:∃ W,(((W6.setCell ⟨g0,0,none⟩ (.int .i64 3)).setCell ⟨g0,1,none⟩ (.string T)).setCell ⟨g0,2,none⟩ (.int .u64 0)).setCell ⟨g0,3,none⟩ (.int .i64 (a:Int))=W:=⟨_,rfl⟩;have b5:Below w.heap.size w W5:=by
   rw[←hW5];exact(((bd.setCell (p:=⟨g0,0,none⟩) hgw0 _).setCell (p:=⟨g0,1,none⟩) hgw0 _).setCell (p:=⟨g0,2,none⟩) hgw0 _).setCell (p:=⟨g0,3,none⟩) hgw0 _
  have hF:=z4N (a':=.int .i64 3) (b':=.string T) (c':=.int .u64 0) (d':=.int .i64 (a:Int)) hD0;rw[hW5]at hF;obtain⟨v0,v1,v2,v3⟩:=z2u hF;clear hF bd hD0 hD1 HT;go_wp2;try simp only[hW5]
  try simp only[Exit.inBlock,Exit.then]
  refine bodyPost_ret (by simp[results,Tryz.results47,go_sem,v0,v1,v2,v3];try rfl) rfl ?_
  exact⟨rfl,b5⟩
theorem z8e(s:ByteArray)(a:Nat)(w:World)(ha:a<s.size)(hs:s.size<=1048576)(hc:z3x s[a]=false)(hf:z3j s[a]=true):
  Calls Tryz.prog 47 #[.string s,.int .i64 a] w fun e w'=>e=.returned (.tuple #[tokV (tokN (s.data.toList.drop a)).1 a,.int .i64 (tokN (s.data.toList.drop a)).2])/\Below w.heap.size w w':=by
 have cM:=fun W=>z4I s a W (by omega) hs
 have hnl:=z8c (s.data.toList.drop a);obtain⟨m,hm⟩:∃ m,z3C (s.data.toList.drop a)=m:=⟨_,rfl⟩;rw[hm]at cM hnl;rw[List.length_drop,z1x]at hnl;obtain⟨T,hT⟩:∃ T,s.extract a (a+m)=T:=⟨_,rfl⟩;have hTl:T.data.toList=(s.data.toList.drop a).take m:=by rw[←hT,z3O,z3a,z3J]
 have hTs:T.size<=1048576:=by rw[←z1x,hTl,List.length_take,List.length_drop,z1x];omega
 have cR:=fun W=>z3S T W hTs;obtain⟨v,hv⟩:∃ v,z3t T.data.toList=v:=⟨_,rfl⟩;obtain⟨ok,hok⟩:∃ v,z3u T.data.toList=v:=⟨_,rfl⟩;have hR:tokN (s.data.toList.drop a)=((⟨2,T.data.toList,v⟩:Tok),(if ok=true then (m:Int)else -1:Int)):=by
  unfold tokN;rw[z46 ha,if_neg (by rw[hc];decide),if_pos hf,hm,←hTl,hv,hok]
 rw[hv,hok]at cR;rw[hR];have hV:tokV ⟨2,T.data.toList,v⟩ a=.agg #[.int .i64 2,.string T,.int .u64 (v:Int),.int .i64 a]:=by
  unfold tokV;rw[z3b]
 show Calls _ _ _ _ (fun e w'=>e=.returned (.tuple #[tokV ⟨2,T.data.toList,v⟩ a,.int .i64 (if ok=true then (m:Int)else -1)])/\_)
 rw[hV];have cL:=fun W=>z3U s[a] W;rw[hc]at cL;have cF:=fun W=>z3T s[a] W;rw[hf]at cF;have hai:(a:Int)<s.size:=by omega
 obtain⟨b,hb⟩:∃ b,a+m=b:=⟨_,rfl⟩;rw[hb]at hT;have hb':(a:Int)+m=b:=by omega
 have hbs:(b:Int)<=s.size:=by omega
 have hab:(a:Int)<=b:=by omega
 clear hR hV hc hf hm hTl hv hok hb;go_enter Tryz.func47,Tryz.ntmps47;obtain⟨g0,hg0⟩:∃ g,w.heap.size=g:=⟨_,rfl⟩;obtain⟨W2,hW2⟩:∃ W,(w.alloc (.cells #[.int .i64 0,.string ⟨#[]⟩,.int .u64 0,.int .i64 0] 117)).alloc (.cells #[.int .i64 0,.string ⟨#[]⟩,.int .u64 0,.int .i64 (a:Int)] 117)=W:=⟨_,rfl⟩;have bb:Below w.heap.size w W2:=by rw[←hW2];exact((yg9 _ _).alloc (yf9 _) _).alloc (by simp) _
 have hB1:W2.heap[g0+1]?=some (.cells #[.int .i64 0,.string ⟨#[]⟩,.int .u64 0,.int .i64 (a:Int)] 117):=by
  have h:=heap_alloc_new (w.alloc (.cells #[.int .i64 0,.string ⟨#[]⟩,.int .u64 0,.int .i64 0] 117)) (.cells #[.int .i64 0,.string ⟨#[]⟩,.int .u64 0,.int .i64 (a:Int)] 117);rw[hW2]at h;have e:(w.alloc (.cells #[.int .i64 0,.string ⟨#[]⟩,.int .u64 0,.int .i64 0] 117)).heap.size=g0+1:=by rw[←hg0];simp
  rw[e]at h;exact h
 have hB0:W2.heap[g0]?=some (.cells #[.int .i64 0,.string ⟨#[]⟩,.int .u64 0,.int .i64 0] 117):=by
  have h:=heap_alloc_new w (.cells #[.int .i64 0,.string ⟨#[]⟩,.int .u64 0,.int .i64 0] 117);rw[hg0]at h;have k:Below (w.alloc (.cells #[.int .i64 0,.string ⟨#[]⟩,.int .u64 0,.int .i64 0] 117)).heap.size (w.alloc (.cells #[.int .i64 0,.string ⟨#[]⟩,.int .u64 0,.int .i64 0] 117)) W2:=by rw[←hW2];exact(yg9 _ _).alloc (yf9 _) _
  exact z3g k h
 obtain⟨g1,hg1⟩:∃ g,g0+1=g:=⟨_,rfl⟩;rw[hg1]at hB1;have hne:g0≠g1:=by omega
 have hne':g1≠g0:=by omega
 have hgw:w.heap.size<=g1:=by omega
 go_wp2_with fail;try simp only[hW2,hg0,hg1]
 clear hW2 hg1;refine(cL _).mono ?_;rintro e w' ⟨rfl,rfl⟩;go_wp2_with fail;refine(cF _).mono ?_;rintro e w' ⟨rfl,rfl⟩;go_wp2_with fail;refine(cM _).mono ?_;rintro e W3 ⟨rfl,rfl⟩;clear cL cF cM;have hgw0:w.heap.size<=g0:=by omega
 have f10:=frozen_of_row W2 g1 0 _ _ hB1;have f11:=frozen_of_row W2 g1 1 _ _ hB1;obtain⟨k0,k1,k2,k3⟩:=z2u hB1;obtain⟨W4,hW4⟩:∃ W,(W2.setCell ⟨g1,0,none⟩ (.int .i64 2)).setCell ⟨g1,1,none⟩ (.string T)=W:=⟨_,rfl⟩;have hC1:W4.heap[g1]?=some (.cells #[.int .i64 2,.string T,.int .u64 0,.int .i64 (a:Int)] 117):=by
  rw[←hW4,heap_setCell_same _ _ _ _ _ _ (heap_setCell_same _ _ _ _ _ _ hB1)];rfl
 have hC0:W4.heap[g0]?=some (.cells #[.int .i64 0,.string ⟨#[]⟩,.int .u64 0,.int .i64 0] 117):=by
  rw[←hW4,heap_setCell_other _ _ _ _ hne,heap_setCell_other _ _ _ _ hne];exact hB0
 have bc:Below w.heap.size w W4:=by rw[←hW4];exact(bb.setCell (p:=⟨g1,0,none⟩) hgw _).setCell (p:=⟨g1,1,none⟩) hgw _
 go_upto_region 19 with fail;try simp only[hW4]
 clear hW4 hB0 hB1 bb f10 f11 k0 k1 k2 k3;clear W2;obtain⟨k0,k1,k2,k3⟩:=z2u hC1;go_wp2_with fail;refine(cR _).mono ?_;rintro e W6 ⟨rfl,b6⟩;replace hC1:=z3g b6 hC1;replace hC0:=z3g b6 hC0;replace bc:=z01 bc b6;clear b6 cR k0 k1 k2 k3;clear W4;have f12:=frozen_of_row W6 g1 2 _ _ hC1;obtain⟨k0,k1,k2,k3⟩:=z2u hC1;obtain⟨W7,hW7⟩:∃ W,W6.setCell ⟨g1,2,none⟩ (.int .u64 (v:Int))=W:=⟨_,rfl⟩;have hD1:W7.heap[g1]?=some (.cells #[.int .i64 2,.string T,.int .u64 (v:Int),.int .i64 (a:Int)] 117):=by
  rw[←hW7,heap_setCell_same _ _ _ _ _ _ hC1];rfl
 have hD0:W7.heap[g0]?=some (.cells #[.int .i64 0,.string ⟨#[]⟩,.int .u64 0,.int .i64 0] 117):=by
  rw[←hW7,heap_setCell_other _ _ _ _ hne];exact hC0
 have bd:Below w.heap.size w W7:=by rw[←hW7];exact bc.setCell (p:=⟨g1,2,none⟩) hgw _
 go_upto_region 21 with fail;try simp only[hW7]
 clear hW7 hC0 hC1 bc f12 k0 k1 k2 k3;clear W6;obtain⟨k0,k1,k2,k3⟩:=z2u hD1;cases ok
 ·obtain⟨m0,m1,m2,m3⟩:=z2u hD0;have f00:=frozen_of_row _ g0 0 _ _ hD0;have f01:=frozen_of_row _ g0 1 _ _ hD0;have f02:=frozen_of_row _ g0 2 _ _ hD0;have f03:=frozen_of_row _ g0 3 _ _ hD0;obtain⟨W5,hW5⟩:∃ W,(((W7.setCell ⟨g0,0,none⟩ (.int .i64 2)).setCell ⟨g0,1,none⟩ (.string T)).setCell ⟨g0,2,none⟩ (.int .u64 (v:Int))).setCell ⟨g0,3,none⟩ (.int .i64 (a:Int))=W:=⟨_,rfl⟩;have b5:Below w.heap.size w W5:=by
   rw[←hW5];exact(((bd.setCell (p:=⟨g0,0,none⟩) hgw0 _).setCell (p:=⟨g0,1,none⟩) hgw0 _).setCell (p:=⟨g0,2,none⟩) hgw0 _).setCell (p:=⟨g0,3,none⟩) hgw0 _
  have hF:=z4N (a':=.int .i64 2) (b':=.string T) (c':=.int .u64 (v:Int)) (d':=.int .i64 (a:Int)) hD0;rw[hW5]at hF;obtain⟨v0,v1,v2,v3⟩:=z2u hF;clear hF bd hD0;go_wp2;try simp only[hW5]
  try simp only[Exit.inBlock,Exit.then]
  refine bodyPost_ret (by simp[results,Tryz.results47,go_sem,v0,v1,v2,v3];try rfl) rfl ?_
  exact⟨rfl,by first|exact b5|(rw[←hg0];exact b5)⟩
 ·obtain⟨m0,m1,m2,m3⟩:=z2u hD0;have f00:=frozen_of_row _ g0 0 _ _ hD0;have f01:=frozen_of_row _ g0 1 _ _ hD0;have f02:=frozen_of_row _ g0 2 _ _ hD0;have f03:=frozen_of_row _ g0 3 _ _ hD0;obtain⟨W5,hW5⟩:∃ W,(((W7.setCell ⟨g0,0,none⟩ (.int .i64 2)).setCell ⟨g0,1,none⟩ (.string T)).setCell ⟨g0,2,none⟩ (.int .u64 (v:Int))).setCell ⟨g0,3,none⟩ (.int .i64 (a:Int))=W:=⟨_,rfl⟩;have b5:Below w.heap.size w W5:=by
   rw[←hW5];exact(((bd.setCell (p:=⟨g0,0,none⟩) hgw0 _).setCell (p:=⟨g0,1,none⟩) hgw0 _).setCell (p:=⟨g0,2,none⟩) hgw0 _).setCell (p:=⟨g0,3,none⟩) hgw0 _
  have hF:=z4N (a':=.int .i64 2) (b':=.string T) (c':=.int .u64 (v:Int)) (d':=.int .i64 (a:Int)) hD0;rw[hW5]at hF;obtain⟨v0,v1,v2,v3⟩:=z2u hF;clear hF bd hD0;go_wp2;try simp only[hW5]
  try simp only[Exit.inBlock,Exit.then]
  refine bodyPost_ret (by simp[results,Tryz.results47,go_sem,v0,v1,v2,v3];try rfl) rfl ?_
  exact⟨rfl,by first|exact b5|(rw[←hg0];exact b5)⟩
theorem z8f(s:ByteArray)(a:Nat)(w:World)(ha:a<s.size)(hs:s.size<=1048576):
  Calls Tryz.prog 47 #[.string s,.int .i64 a] w fun e w'=>e=.returned (.tuple #[tokV (tokN (s.data.toList.drop a)).1 a,.int .i64 (tokN (s.data.toList.drop a)).2])/\Below w.heap.size w w':=by
 cases hc:z3x s[a]with
 | true=>exact z4P s a w ha hs hc
 | false=>
  cases hf:z3j s[a]with
  | true=>exact z8e s a w ha hs hc hf
  | false=>
   by_cases hq:(s[a]).toNat=34
   ·exact z8d s a w ha hs hc hf hq
   ·exact z6L s a w ha hs hc hf hq
theorem z8g(k:Int)(w:World):Calls Tryz.prog 41 #[.int .i64 k] w fun e w'=>e=.returned (.bool (decide (1<=k)&&decide (k<=13)))/\w=w':=by
 have c0:=z1D k 1 13 w;obtain⟨b,hb⟩:∃ b,(decide (1<=k)&&decide (k<=13))=b:=⟨_,rfl⟩;rw[hb]at c0 ⊢;clear hb;go_enter Tryz.func41,Tryz.ntmps41;go_wp2_with fail;refine c0.mono ?_;rintro e w1 ⟨rfl,rfl⟩;go_wp2;go_ret;exact⟨rfl,rfl⟩
theorem z8h(k:Int)(w:World):Calls Tryz.prog 42 #[.int .i64 k] w fun e w'=>e=.returned (.bool (decide (20<=k)&&decide (k<=28)))/\w=w':=by
 have c0:=z1D k 20 28 w;obtain⟨b,hb⟩:∃ b,(decide (20<=k)&&decide (k<=28))=b:=⟨_,rfl⟩;rw[hb]at c0 ⊢;clear hb;go_enter Tryz.func42,Tryz.ntmps42;go_wp2_with fail;refine c0.mono ?_;rintro e w1 ⟨rfl,rfl⟩;go_wp2;go_ret;exact⟨rfl,rfl⟩
theorem z8i(x:ByteArray)(w:World)(h:x.size<=40)(ht:z5T x.data.toList):Calls Tryz.prog 44 #[.string x] w fun e w'=>e=.returned (.bool true)/\w=w':=by
 have h40:decide ((40:Int)<(x.size:Int))=false:=ya9 (by omega)
 have h40b:decide ((x.size:Int)>40)=false:=ya9 (by omega)
 have HT:Hid (∀ i,∀ hi:i<x.size,32<=(x[i]).toNat/\(x[i]).toNat<=126/\(x[i]).toNat≠34):=fun i hi=>ht _ (by
  have:x[i]=x.data.toList[i]'(by simpa using hi):=rfl
  rw[this];exact List.getElem_mem _)
 clear ht;go_enter Tryz.func44,Tryz.ntmps44;go_wp2;go_loop [3] (fun v=>∃ i:Nat,v=.int .i64 (i:Int)/\i<=x.size) (fun v=>x.size-(intOf v).toNat)
 case atStart=>exact⟨0,rfl,by omega⟩
 case round=>
  obtain⟨i,rfl,hi⟩:=hrel;by_cases hlt:i<x.size
  ·obtain⟨t1,t2,t3⟩:=HT.out i hlt;have d1:decide ((x[i]).toNat<32)=false:=ya9 (by omega)
   have d2:decide (126<(x[i]).toNat)=false:=ya9 (by omega)
   have d1':decide (((x[i]).toNat:Int)<32)=false:=ya9 (by omega)
   have d2':decide ((126:Int)<((x[i]).toNat:Int))=false:=ya9 (by omega)
   have d3:(((x[i]).toNat:Int)==34)=false:=by rw[yc9];omega
   have hi0:(i:Int)<(x.size:Int):=by omega
   go_wp2;go_round
   case rel=>exact⟨i+1,by go_num,by omega⟩
   case measure=>simp[intOf];omega
  ·have hge:decide ((i:Int)<(x.size:Int))=false:=ya9 (by omega)
   go_wp2;go_ret;exact⟨rfl,rfl⟩
theorem z8j(x:ByteArray)(w:World)(h:z5S x):Calls Tryz.prog 45 #[.string x] w fun e w'=>e=.returned (.bool true)/\Below w.heap.size w w':=by
 obtain⟨h1,h2,h3,h4⟩:=h;rw[z1x]at h1 h2 h3;have cI:=fun W=>z1D (x.size:Int) 1 12 W;have e1:(decide ((1:Int)<=(x.size:Int))&&decide ((x.size:Int)<=12))=true:=by rw[yb9 (by omega),yb9 (by omega)];rfl
 rw[e1]at cI;have cN:∀ W,Calls Tryz.prog 63 #[.string x,.int .i64 0] W fun e w'=>e=.returned (.int .i64 (x.size:Int))/\W=w':=fun W=>by
  have:=z3W x 0 W (yj9 _) (by omega)
  rw[List.drop_zero,h3]at this;exact this
 have cW:=fun W=>z4L W;have cL:∀(g:Nat) (W:World),W.heap[g]?=some z4K->Calls Tryz.prog 64 #[.slice (some ⟨g,0,none⟩) 13 13,.string x] W fun e w'=>e=.returned (.bool false)/\W=w':=fun g W hg=>by
  have:=z4M x W g hg;rw[ya9 h4]at this;exact this
 have hb:Below w.heap.size w (w.alloc z4K):=(yg9 _ _).alloc (yf9 _) _;have hg:=heap_alloc_new w z4K;obtain⟨W,hW⟩:∃ W,w.alloc z4K=W:=⟨_,rfl⟩;rw[hW]at hb hg;have HB:Hid (Below w.heap.size w W):=hb;clear h1 h2 h3 h4 hb e1;go_enter Tryz.func45,Tryz.ntmps45;go_wp2_with fail;refine(cI _).mono ?_;rintro e w1 ⟨rfl,rfl⟩;go_wp2_with fail;refine(cN _).mono ?_;rintro e w1 ⟨rfl,rfl⟩;go_wp2_with fail;refine(cW _).mono ?_;rintro e w1 ⟨rfl,rfl⟩;rw[hW];go_wp2_with fail;refine(cL _ _ hg).mono ?_;rintro e w1 ⟨rfl,rfl⟩;go_wp2;go_ret;exact⟨rfl,HB.out⟩
def useP(k:Int):Int × Int × Int × Int × Int × Bool:=
 if k=1 then (0,0,0,0,0,true)
 else if k=2\/k=6 then (0,0,0,0,1,false)
 else if k=7\/k=8\/k=22\/k=25\/k=26\/k=28 then (1,0,0,0,0,false)
 else if k=9 then (1,1,3,0,0,false)
 else if k=10\/k=11 then (1,1,0,0,0,false)
 else if k=12 then (1,0,0,1,0,false)
 else if k=13 then (2,0,0,0,-1,false)
 else if k=20 then (1,3,0,0,1,false)
 else if k=21 then (1,0,0,0,1,false)
 else if k=23 then (1,2,4,0,0,false)
 else if k=24 then (1,2,0,0,0,false)
 else if k=27 then (2,2,0,0,1,false)
 else if k=29 then (0,0,0,2,0,false)
 else (0,0,0,0,0,false)
def useV(u:Int × Int × Int × Int × Int × Bool):Value:=.agg #[.int .i64 u.1,.int .i64 u.2.1,.int .i64 u.2.2.1,.int .i64 u.2.2.2.1,.int .i64 u.2.2.2.2.1,.bool u.2.2.2.2.2]
theorem z8k(k:Int)(w:World)(hk:(1<=k/\k<=13)\/(20<=k/\k<=29)):Calls Tryz.prog 40 #[.int .i64 k] w fun e w'=>e=.returned (useV (useP k))/\Below w.heap.size w w':=by
 have hb:=fun o=>(yg9 w.heap.size w).alloc (yf9 _) o;rcases (by omega:k=1\/k=2\/k=3\/k=4\/k=5\/k=6\/k=7\/k=8\/k=9\/k=10\/k=11\/k=12\/k=13\/k=20\/k=21\/k=22\/k=23\/k=24\/k=25\/k=26\/k=27\/k=28\/k=29)with rfl|rfl|rfl|rfl|rfl|rfl|rfl|rfl|rfl|rfl|rfl|rfl|rfl|rfl|rfl|rfl|rfl|rfl|rfl|rfl|rfl|rfl|rfl
 all_goals
  clear hk;go_enter Tryz.func40,Tryz.ntmps40;go_wp2;first
   | (go_ret;exact⟨rfl,hb _⟩)
   | (go_returns;exact⟨rfl,hb _⟩)
theorem z8l(tv uv:Value)(a x use:Int)(w:World)(h:(use=0/\x=0)\/use=3\/(use=4/\x=-1)):
  Calls Tryz.prog 43 #[tv,.int .i64 a,.int .i64 x,.int .i64 use,uv] w fun e w'=>e=.returned (.bool true)/\w=w':=by
 rcases h with ⟨rfl,rfl⟩|rfl|⟨rfl,rfl⟩;all_goals
  go_enter Tryz.func43,Tryz.ntmps43;go_wp2;go_ret;exact⟨rfl,rfl⟩
theorem z8m(g tc n u uc a j:Nat)(use k c:Int)(w:World)(ha:a<=n)(hn:n<=10000)(hj:j<a)(hk:w.cell? ⟨g,j*8,none⟩=some (.int .i64 k))(hc:w.cell? ⟨u,j,none⟩=some (.int .i64 c))(hf:w.frozen? ⟨u,j,none⟩=false)(hgu:g≠u)(c0:0<=c)(c1:c<=100000)
  (h:(use=1/\1<=k/\k<=13)\/(use=2/\k=29)\/(use=4/\(k=29\/k=23))):
  Calls Tryz.prog 43 #[.slice (some ⟨g,0,none⟩) n tc,.int .i64 (a:Int),.int .i64 (j:Int),.int .i64 use,.slice (some ⟨u,0,none⟩) n uc] w fun e w'=>e=.returned (.bool true)/\w'=w.setCell ⟨u,j,none⟩ (.int .i64 (c+1)):=by
 have cI:=fun W=>z1D (j:Int) 0 ((a:Int)-1) W;have e1:(decide ((0:Int)<=(j:Int))&&decide ((j:Int)<=(a:Int)-1))=true:=by rw[yb9 (by omega),yb9 (by omega)];rfl
 rw[e1]at cI;have hk2:(w.setCell ⟨u,j,none⟩ (.int .i64 (c+1))).cell? ⟨g,j*8,none⟩=some (.int .i64 k):=by
  rw[World.cell?_of_block (a:=⟨g,j*8,none⟩) (heap_setCell_other w ⟨u,j,none⟩ g _ hgu)];exact hk
 have hji:(j:Int)<(n:Int):=by omega
 have hj0:(0:Int)<=(j:Int):=by omega
 have hj1:((j:Int)==-1)=false:=by rw[yc9];omega
 obtain⟨X,hX⟩:∃ X,w.setCell ⟨u,j,none⟩ (.int .i64 (c+1))=X:=⟨_,rfl⟩;rw[hX]at hk2 ⊢;rcases h with ⟨rfl,h1,h2⟩|⟨rfl,rfl⟩|⟨rfl,rfl|rfl⟩
 ·have cE:=fun W=>z8g k W;have e2:(decide ((1:Int)<=k)&&decide (k<=13))=true:=by rw[yb9 h1,yb9 h2];rfl
  rw[e2]at cE;clear e1 e2;go_enter Tryz.func43,Tryz.ntmps43;go_wp2_with fail;refine(cI _).mono ?_;rintro e w1 ⟨rfl,rfl⟩;go_wp2_with fail;refine(cE _).mono ?_;rintro e w1 ⟨rfl,rfl⟩;go_wp2;go_ret;exact⟨rfl,rfl⟩
 all_goals
  clear e1;go_enter Tryz.func43,Tryz.ntmps43;go_wp2_with fail;refine(cI _).mono ?_;rintro e w1 ⟨rfl,rfl⟩;go_wp2;go_ret;exact⟨rfl,rfl⟩
