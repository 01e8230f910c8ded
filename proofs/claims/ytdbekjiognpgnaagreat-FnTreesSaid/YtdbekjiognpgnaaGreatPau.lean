/- Part 21. -/
import Derived.Test.YtdbekjiognpgnaaGreatPaq
set_option maxHeartbeats 16000000
set_option maxRecDepth 100000
set_option linter.unusedVariables false
namespace Go.Proofs.YtdbekjiognpgnaaGreat
open Go.RowKit
theorem z9V{w0 w:World}{Bt g tc n u uc a:Nat}{ns:List z4Q}{p:z4Q}{L:List Int}{ua ub uu ul un:Int}{um:Bool}{kA kB kC:List Int}(hT:z8G w0 Bt (.slice (some ⟨g,0,none⟩) n tc) ns)(hn:ns.length=n)(hn2:n<=10000)
  (hb:Below w0.heap.size w0 w) (hU:w.ownsRow w0.heap.size 3 1 (.slice (some ⟨u,0,none⟩) n uc) n (z9B n L)) (ha:ns[a]?=some p) (hc:∀ y,(L++z8o p).count y<=1000) (hF:z9G ns a p ua ub uu ul un um kA kB kC)
  (hform:p.kind=2/\ul=0/\p.list=[]/\un=(p.names.length:Int)/\p.names.length<=4/\um=false/\p.num=0):
  Calls Tryz.prog 23 #[.slice (some ⟨g,0,none⟩) n tc,.int .i64 (a:Int),.slice (some ⟨u,0,none⟩) n uc] w fun e w'=>e=.returned (.bool true)/\w'.ownsRow w0.heap.size 3 1 (.slice (some ⟨u,0,none⟩) n uc) n (z9B n (L++z8o p))/\Below w0.heap.size w0 w':=by
 obtain⟨hk,rfl,hl,hun,hq,rfl,hm⟩:=hform;have han:a<n:=by have:=(List.getElem?_eq_some_iff.1 ha).1;omega
 obtain⟨lv,nv,NA0⟩:=z9L hT ha;have NA:=NA0.below hb;obtain⟨la,lc,rfl⟩:=z8A NA.list;obtain⟨na,nc,rfl⟩:=z8A NA.names;have hgw:g<w0.heap.size:=World.block_lt_of_cell? w0 _ NA0.c0;have huw:u<w.heap.size:=(hU.lt u rfl).2;have hup:w0.heap.size<=u:=(hU.lt u rfl).1;have hgu:g≠u:=by omega
 have HK:Hid (∀ W,Below w0.heap.size w0 W->∀ j q,ns[j]?=some q->W.cell? ⟨g,j*8,none⟩=some (.int .i64 q.kind)):=fun W hW j q hq=>by
  obtain⟨_,_,NQ⟩:=z9L hT hq;exact(NQ.below hW).c0
 have HLC:Hid (∀ W,Below w0.heap.size w0 W->∀(j:Nat) (x:Int),p.list[j]?=some x->∃ gl,la=some ⟨gl,0,none⟩/\W.cell? ⟨gl,j,none⟩=some (.int .i64 x)):=fun W hW j x hx=>z9N NA0.list hW (by rw[List.getElem?_map,hx];rfl)
 have HNC:Hid (∀ W,Below w0.heap.size w0 W->∀(j:Nat) (x:ByteArray),p.names[j]?=some x->∃ gl,na=some ⟨gl,0,none⟩/\W.cell? ⟨gl,j,none⟩=some (.string x)):=fun W hW j x hx=>z9N NA0.names hW (by rw[List.getElem?_map,hx];rfl)
 have HF:Hid (z9G ns a p ua ub uu 0 un false kA kB kC):=hF;have HC:Hid (∀ y,(L++z8o p).count y<=1000):=hc;have HN:Hid (ns.length=n):=hn;have cU:∀ W,Calls Tryz.prog 40 #[.int .i64 p.kind] W fun e w'=>e=.returned (.agg #[.int .i64 ua,.int .i64 ub,.int .i64 uu,.int .i64 0,.int .i64 un,.bool false])/\Below W.heap.size W w':=fun W=>by
  have:=z8k p.kind W (by omega)
  rw[hF.use]at this;exact this
 have HP:Hid (∀(D E:Nat) (k A B C:Int) (lv nv:Value) (z pos ua ub uu ul un:Int) (um:Bool) (W:World) (L':List Int) (use x:Int) (kk:List Int),z9M w0 n u uc D E k A B C lv nv z pos ua ub uu ul un um L' W->(∀ y,L'.count y<=1000)->z9F ns a use x kk->Calls Tryz.prog 43 #[.slice (some ⟨g,0,none⟩) n tc,.int .i64 (a:Int),.int .i64 x,.int .i64 use,.slice (some ⟨u,0,none⟩) n uc] W fun e w'=>e=.returned (.bool true)/\z9M w0 n u uc D E k A B C lv nv z pos ua ub uu ul un um (L'++kk) w'):=fun D E k A B C lv nv z pos ua ub uu ul un um W L' use x kk hl hc hf=>
  (z9J (HK.out W hl.tree) hn hn2 hl.used hgu (by omega) hf hc).mono fun e w' h=>⟨h.1,hl.turn h.2.1 h.2.2⟩
 obtain⟨m,hmm⟩:∃ m,p.list.length=m:=⟨_,rfl⟩;obtain⟨q,hqq⟩:∃ q,p.names.length=q:=⟨_,rfl⟩;have cP:∀ W,Calls Tryz.prog 46 #[.int .u64 (p.num:Int)] W fun e w'=>e=.returned (z2o p.num)/\Below W.heap.size W w':=fun W=>z2w p.num W (by have:=hF.finite;omega)
 obtain⟨kk,mm,ee,hPV,hkk1,hkk2⟩:=z9K hF.finite;rw[hPV]at cP;obtain⟨z,hz⟩:∃ z:Int,(p.num:Int)=z:=⟨_,rfl⟩;have hpos:=hF.pos;have n0:=NA.c0;have n1:=NA.c1;have n2:=NA.c2;have n3:=NA.c3;have n4:=NA.c4;have n5:=NA.c5;have n6:=NA.c6;have n7:=NA.c7;rw[hmm]at n4;rw[hqq]at n5 hq;rw[hz]at n6 cP;have hz0:z=0:=by rw[←hz,hm];rfl
 subst hz0;rw[hqq]at hun;subst hun;have hm0:Hid (m=0):=by rw[←hmm,hl];rfl
 obtain⟨k,hkv⟩:∃ k,p.kind=k:=⟨_,rfl⟩;obtain⟨A,hA⟩:∃ x,p.a=x:=⟨_,rfl⟩;obtain⟨B,hB⟩:∃ x,p.b=x:=⟨_,rfl⟩;obtain⟨C,hC⟩:∃ x,p.c=x:=⟨_,rfl⟩;obtain⟨pos,hpo⟩:∃ x,p.pos=x:=⟨_,rfl⟩;rw[hkv]at n0 hk cU;rw[hA]at n1;rw[hB]at n2;rw[hC]at n3;rw[hpo]at n7 hpos;have cAt:=fun W=>z1D pos 0 600 W;rw[show(decide ((0:Int)<=pos)&&decide (pos<=600))=true by rw[yb9 hpos.1,yb9 hpos.2];rfl]at cAt
 have cE:=fun W=>z8g k W;have cS:=fun W=>z8h k W;subst hk;rw[show(decide ((1:Int)<=2)&&decide ((2:Int)<=13))=true by decide]at cE
 have HKV:Hid (p.kind=2/\p.a=A/\p.b=B/\p.c=C/\p.list.length=m/\p.names.length=q):=⟨hkv,hA,hB,hC,hmm,hqq⟩;have hn0:(a:Int)<(n:Int):=by omega
 have ha0:(0:Int)<=(a:Int):=by omega
 have HL0:Hid (∀ w1,Below (w.heap.size+1) (w.alloc (.cells #[.int .i64 2,.int .i64 A,.int .i64 B,.int .i64 C,.slice la m lc,.slice na q nc,.int .u64 0,.int .i64 pos] 34)) w1->z9M w0 n u uc w.heap.size w1.heap.size 2 A B C (.slice la m lc) (.slice na q nc) 0 pos ua ub uu 0 (q:Int) false L (w1.alloc (.cells #[.int .i64 ua,.int .i64 ub,.int .i64 uu,.int .i64 0,.int .i64 (q:Int),.bool false] 109))):=fun w1 hw1=>by
  have s1:=hw1.size;simp at s1;have b0:Below w.heap.size w (w.alloc (.cells #[.int .i64 2,.int .i64 A,.int .i64 B,.int .i64 C,.slice la m lc,.slice na q nc,.int .u64 0,.int .i64 pos] 34)):=(yg9 _ _).alloc (yf9 _) _;have b1:Below w.heap.size w w1:=b0.trans (hw1.mono (by omega))
  have b2:Below w.heap.size w (w1.alloc (.cells #[.int .i64 ua,.int .i64 ub,.int .i64 uu,.int .i64 0,.int .i64 (q:Int),.bool false] 109)):=b1.alloc (by omega) _
  refine⟨?_,heap_alloc_new _ _,z8B hU b2,hb.trans (b2.mono hb.size),by omega,by omega,hup⟩
  rw[heap_alloc_old _ _ (by omega),hw1.block _ (by omega)]
  exact heap_alloc_new _ _
 have hsz1:(w.alloc (.cells #[.int .i64 2,.int .i64 A,.int .i64 B,.int .i64 C,.slice la m lc,.slice na q nc,.int .u64 0,.int .i64 pos] 34)).heap.size=w.heap.size+1:=by simp
 clear hT hb hU ha hc hF NA NA0 hn hPV hz hqq hmm hkv hA hB hC hpo;go_enter Tryz.func23,Tryz.ntmps23;go_wp2_with fail;refine(cU _).mono ?_;rintro e w1 ⟨rfl,b1⟩;rw[hsz1]at b1;have N2:=HL0.out w1 b1;clear HL0 b1 hsz1 cU n0 n1 n2 n3 n4 n5 n6 n7;obtain⟨D,hD⟩:∃ D,w.heap.size=D:=⟨_,rfl⟩;obtain⟨E,hE⟩:∃ E,w1.heap.size=E:=⟨_,rfl⟩;go_upto_region 3 with fail;rw[hD,hE]at N2;try simp only[hD,hE]
 obtain⟨W2,hW2⟩:∃ W,w1.alloc (.cells #[.int .i64 ua,.int .i64 ub,.int .i64 uu,.int .i64 0,.int .i64 (q:Int),.bool false] 109)=W:=⟨_,rfl⟩;rw[hW2]at N2;try simp only[hW2]
 clear hW2 hD hE;obtain⟨x0,x1,x2,x3,x4,x5,x6,x7⟩:=z8C N2.node;obtain⟨y0,y1,y2,y3,y4,y5⟩:=z8W N2.use;go_wp2_with fail;refine(cE _).mono ?_;rintro e w3 ⟨rfl,rfl⟩;go_wp2_with fail;refine(cAt _).mono ?_;rintro e w3 ⟨rfl,rfl⟩;go_wp2_with fail;refine(HP.out D E _ _ _ _ _ _ _ _ _ _ _ _ _ _ _ _ _ _ kA N2 (fun y=>by have:=HC.out y;rw[HF.out.kids]at this;simp only[List.count_append]at this ⊢;omega) (by have:=HF.out.partA;rw[HKV.out.2.1]at this;exact this)).mono ?_
 rintro e w4A ⟨rfl,N4A⟩;clear N2 x0 x1 x2 x3 x4 x5 x6 x7 y0 y1 y2 y3 y4 y5;obtain⟨x0,x1,x2,x3,x4,x5,x6,x7⟩:=z8C N4A.node;obtain⟨y0,y1,y2,y3,y4,y5⟩:=z8W N4A.use;go_wp2_with fail;refine(HP.out D E _ _ _ _ _ _ _ _ _ _ _ _ _ _ _ _ _ _ kB N4A (fun y=>by have:=HC.out y;rw[HF.out.kids]at this;simp only[List.count_append]at this ⊢;omega) (by have:=HF.out.partB;rw[HKV.out.2.2.1]at this;exact this)).mono ?_
 rintro e w4B ⟨rfl,N4B⟩;clear N4A x0 x1 x2 x3 x4 x5 x6 x7 y0 y1 y2 y3 y4 y5;obtain⟨x0,x1,x2,x3,x4,x5,x6,x7⟩:=z8C N4B.node;obtain⟨y0,y1,y2,y3,y4,y5⟩:=z8W N4B.use;go_wp2_with fail;refine(HP.out D E _ _ _ _ _ _ _ _ _ _ _ _ _ _ _ _ _ _ kC N4B (fun y=>by have:=HC.out y;rw[HF.out.kids]at this;simp only[List.count_append]at this ⊢;omega) (by have:=HF.out.partC;rw[HKV.out.2.2.2.1]at this;exact this)).mono ?_
 rintro e w4C ⟨rfl,N4C⟩;clear N4B x0 x1 x2 x3 x4 x5 x6 x7 y0 y1 y2 y3 y4 y5;obtain⟨x0,x1,x2,x3,x4,x5,x6,x7⟩:=z8C N4C.node;obtain⟨y0,y1,y2,y3,y4,y5⟩:=z8W N4C.use;have d1:decide ((0:Int)<(m:Int))=false:=ya9 (by have:=hm0.out;omega)
 have d2:decide (0<m)=false:=ya9 (by have:=hm0.out;omega)
 have d3:decide ((6:Int)<(m:Int))=false:=ya9 (by have:=hm0.out;omega)
 have d4:decide (6<m)=false:=ya9 (by have:=hm0.out;omega)
 have d5:decide ((4:Int)<(q:Int))=false:=ya9 (by omega)
 have d6:decide (4<q)=false:=ya9 (by omega)
 have d7:decide ((0:Int)<=(q:Int))=true:=yb9 (by omega)
 go_upto_region 10 with fail;have HNL:Hid (z9M w0 n u uc D E 2 A B C (.slice la m lc) (.slice na q nc) 0 pos ua ub uu 0 (q:Int) false (L++kA++kB++kC) w4C):=N4C;clear N4C x0 x1 x2 x3 x4 x5 x6 x7 y0 y1 y2 y3 y4 y5 HP;go_loopw [6,9,10] (fun _ i _ wr=>∃ j:Nat,i=.int .i64 (j:Int)/\j<=m/\z9M w0 n u uc D E 2 A B C (.slice la m lc) (.slice na q nc) 0 pos ua ub uu 0 (q:Int) false (L++kA++kB++kC++p.list.take j) wr) (fun _ i _ _=>m-(intOf i).toNat)
 case atStart=>exact⟨0,rfl,yj9 _,by rw[List.take_zero,List.append_nil];exact HNL.out⟩
 case round=>
  clear HNL;obtain⟨j,rfl,hj,NL⟩:=hrel;obtain⟨x0,x1,x2,x3,x4,x5,x6,x7⟩:=z8C NL.node;obtain⟨y0,y1,y2,y3,y4,y5⟩:=z8W NL.use;by_cases hlt:j<m
  ·obtain⟨x,hx⟩:∃ x,p.list[j]?=some x:=⟨_,yd9 (by have:=HKV.out.2.2.2.2.1;omega)⟩
   have hxm:x∈p.list:=List.mem_iff_getElem?.2 ⟨j,hx⟩;obtain⟨gl,hla,hcl⟩:=HLC.out wr NL.tree j x hx;have hxk:0<=x/\x<a/\(((0:Int)=1/\1<=z5X ns x/\z5X ns x<=13)\/((0:Int)=2/\20<=z5X ns x/\z5X ns x<=28)):=by
    rcases HF.out.list with ⟨e,h⟩|⟨e,h⟩|⟨e,h⟩
    ·exact⟨(h x hxm).1,(h x hxm).2.1,.inl ⟨e,(h x hxm).2.2⟩⟩
    ·exact⟨(h x hxm).1,(h x hxm).2.1,.inr ⟨e,(h x hxm).2.2⟩⟩
    ·rw[h]at hxm;cases hxm
   obtain⟨hx0,hxa,hxk⟩:=hxk;obtain⟨v,rfl⟩:∃ v:Nat,x=(v:Int):=⟨x.toNat,by omega⟩
   obtain⟨pv,hpv⟩:∃ q,ns[v]?=some q:=⟨_,yd9 (by have:=HN.out;omega)⟩
   have hkc:=HK.out wr NL.tree v pv hpv;rw[show z5X ns (v:Int)=pv.kind by unfold z5X;rw[Int.toNat_natCast,hpv]]at hxk
   obtain⟨kv,hkv⟩:∃ x,pv.kind=x:=⟨_,rfl⟩;rw[hkv]at hkc hxk;have hvn:v<n:=by omega
   obtain⟨hu1,hu2⟩:=NL.at hvn;have hcnt:(L++kA++kB++kC++p.list.take j).count (v:Int)<=1000:=by
    have:=HC.out (v:Int);rw[HF.out.kids]at this;have e:p.list=p.list.take j++p.list.drop j:=(List.take_append_drop _ _).symm;rw[e]at this;simp only[List.count_append]at this ⊢;omega
   have NB:Hid (z9M w0 n u uc D E 2 A B C (.slice la m lc) (.slice na q nc) 0 pos ua ub uu 0 (q:Int) false (L++kA++kB++kC++p.list.take (j+1)) (wr.setCell ⟨u,v,none⟩ (.int .i64 ((((L++kA++kB++kC++p.list.take j).count (v:Int):Nat):Int)+1)))):=by
    have:=NL.bump hvn;rw[List.append_assoc,z9O hx]at this;exact this
   obtain⟨cn,hcn⟩:∃ c,(L++kA++kB++kC++p.list.take j).count (v:Int)=c:=⟨_,rfl⟩;rw[hcn]at hu1 hcnt NB;have cI:=fun W=>z1D (v:Int) 0 ((a:Int)-1) W;rw[show(decide ((0:Int)<=(v:Int))&&decide ((v:Int)<=(a:Int)-1))=true by rw[yb9 (by omega),yb9 (by omega)];rfl]at cI
   have hji:(j:Int)<(m:Int):=by omega
   have hvi:(v:Int)<(n:Int):=by omega
   have hj0:(0:Int)<=(j:Int):=by omega
   have hv0:(0:Int)<=(v:Int):=by omega
   clear NL hpv hx hxm hcn hkv cE cS;subst hla;have:=hm0.out;omega
  ·have hge:decide ((j:Int)<(m:Int))=false:=ya9 (by omega)
   have hge':decide (j<m)=false:=ya9 (by omega)
   have HNL:Hid (z9M w0 n u uc D E 2 A B C (.slice la m lc) (.slice na q nc) 0 pos ua ub uu 0 (q:Int) false (L++z8o p) wr):=by
    rw[HF.out.kids,←List.append_assoc,←List.append_assoc,←List.append_assoc];have e:p.list.take j=p.list:=List.take_of_length_le (by have:=HKV.out.2.2.2.2.1;omega)
    rw[e]at NL;exact NL
   clear NL;go_upto_region 17 with fail;clear x0 x1 x2 x3 x4 x5 x6 x7 y0 y1 y2 y3 y4 y5;go_loopw [6,11] (fun _ i ws=>∃ j:Nat,i=.int .i64 (j:Int)/\j<=q/\z9M w0 n u uc D E 2 A B C (.slice la m lc) (.slice na q nc) 0 pos ua ub uu 0 (q:Int) false (L++z8o p) ws) (fun _ i _=>q-(intOf i).toNat)
   case atStart=>exact⟨0,rfl,yj9 _,HNL.out⟩
   case round=>
    clear HNL hge hge' hlt hj;obtain⟨j,rfl,hj,NL⟩:=hrel;obtain⟨x0,x1,x2,x3,x4,x5,x6,x7⟩:=z8C NL.node;obtain⟨y0,y1,y2,y3,y4,y5⟩:=z8W NL.use;by_cases hlt:j<q
    ·obtain⟨x,hx⟩:∃ x,p.names[j]?=some x:=⟨_,yd9 (by have:=HKV.out.2.2.2.2.2;omega)⟩
     have hxm:x∈p.names:=List.mem_iff_getElem?.2 ⟨j,hx⟩;obtain⟨gl,hna,hcl⟩:=HNC.out wr NL.tree j x hx;have hji:(j:Int)<(q:Int):=by omega
     have hj0:(0:Int)<=(j:Int):=by omega
     have hfit:=HF.out.names x hxm;rw[HKV.out.1]at hfit;have HNL:Hid (z9M w0 n u uc D E 2 A B C (.slice la m lc) (.slice na q nc) 0 pos ua ub uu 0 (q:Int) false (L++z8o p) wr):=NL;clear NL hx hxm;subst hna;obtain⟨_,f1,f2⟩|⟨hk2,_⟩:=hfit
     ·have cT:=fun W=>z8i x W f1 f2;clear f1 f2;go_wp2_with fail;refine(cT _).mono ?_;rintro e w5 ⟨rfl,rfl⟩;go_wp2_with fail;go_roundw
      case rel=>exact⟨j+1,by go_num,by omega,HNL.out⟩
      case measure=>simp[intOf];omega
     ·exact absurd rfl hk2
    ·have hge:decide ((j:Int)<(q:Int))=false:=ya9 (by omega)
     have hge':decide (j<q)=false:=ya9 (by omega)
     go_wp2_with fail;refine(cP _).mono ?_;rintro e w5 ⟨rfl,b5⟩;have N6:=(NL.below b5).below ((yg9 _ _).alloc (yf9 _) (.cells #[.int .i64 kk,.bool false,.int .u64 mm,.int .i64 ee] 114));obtain⟨q0,q1,q2,q3⟩:=z2u (heap_alloc_new w5 (.cells #[.int .i64 kk,.bool false,.int .u64 mm,.int .i64 ee] 114));have HKC:=HK.out _ N6.tree;have HEND:Hid (_/\_):=⟨N6.used,N6.tree⟩;clear NL b5 x0 x1 x2 x3 x4 x5 x6 x7 y0 y1 y2 y3 y4 y5 cP;obtain⟨x0,x1,x2,x3,x4,x5,x6,x7⟩:=z8C N6.node;have HKC':Hid _:=HKC;clear N6 HKC HNC HLC HC;go_upto_region 24 with fail;clear q0 q1 q2 q3;go_wp2;go_ret;exact⟨rfl,HEND.out⟩
theorem z9W{w0 w:World}{Bt g tc n u uc a:Nat}{ns:List z4Q}{p:z4Q}{L:List Int}{ua ub uu ul un:Int}{um:Bool}{kA kB kC:List Int}(hT:z8G w0 Bt (.slice (some ⟨g,0,none⟩) n tc) ns)(hn:ns.length=n)(hn2:n<=10000)
  (hb:Below w0.heap.size w0 w) (hU:w.ownsRow w0.heap.size 3 1 (.slice (some ⟨u,0,none⟩) n uc) n (z9B n L)) (ha:ns[a]?=some p) (hc:∀ y,(L++z8o p).count y<=1000) (hF:z9G ns a p ua ub uu ul un um kA kB kC)
  (hform:p.kind=29/\ul=2/\6<p.list.length/\un=(p.names.length:Int)/\p.names.length<=4/\um=false/\p.num=0):
  Calls Tryz.prog 23 #[.slice (some ⟨g,0,none⟩) n tc,.int .i64 (a:Int),.slice (some ⟨u,0,none⟩) n uc] w fun e w'=>e=.returned (.bool true)/\w'.ownsRow w0.heap.size 3 1 (.slice (some ⟨u,0,none⟩) n uc) n (z9B n (L++z8o p))/\Below w0.heap.size w0 w':=by
 obtain⟨hk,rfl,hl,hun,hq,rfl,hm⟩:=hform;have han:a<n:=by have:=(List.getElem?_eq_some_iff.1 ha).1;omega
 obtain⟨lv,nv,NA0⟩:=z9L hT ha;have NA:=NA0.below hb;obtain⟨la,lc,rfl⟩:=z8A NA.list;obtain⟨na,nc,rfl⟩:=z8A NA.names;have hgw:g<w0.heap.size:=World.block_lt_of_cell? w0 _ NA0.c0;have huw:u<w.heap.size:=(hU.lt u rfl).2;have hup:w0.heap.size<=u:=(hU.lt u rfl).1;have hgu:g≠u:=by omega
 have HK:Hid (∀ W,Below w0.heap.size w0 W->∀ j q,ns[j]?=some q->W.cell? ⟨g,j*8,none⟩=some (.int .i64 q.kind)):=fun W hW j q hq=>by
  obtain⟨_,_,NQ⟩:=z9L hT hq;exact(NQ.below hW).c0
 have HLC:Hid (∀ W,Below w0.heap.size w0 W->∀(j:Nat) (x:Int),p.list[j]?=some x->∃ gl,la=some ⟨gl,0,none⟩/\W.cell? ⟨gl,j,none⟩=some (.int .i64 x)):=fun W hW j x hx=>z9N NA0.list hW (by rw[List.getElem?_map,hx];rfl)
 have HNC:Hid (∀ W,Below w0.heap.size w0 W->∀(j:Nat) (x:ByteArray),p.names[j]?=some x->∃ gl,na=some ⟨gl,0,none⟩/\W.cell? ⟨gl,j,none⟩=some (.string x)):=fun W hW j x hx=>z9N NA0.names hW (by rw[List.getElem?_map,hx];rfl)
 have HF:Hid (z9G ns a p ua ub uu 2 un false kA kB kC):=hF;have HC:Hid (∀ y,(L++z8o p).count y<=1000):=hc;have HN:Hid (ns.length=n):=hn;have cU:∀ W,Calls Tryz.prog 40 #[.int .i64 p.kind] W fun e w'=>e=.returned (.agg #[.int .i64 ua,.int .i64 ub,.int .i64 uu,.int .i64 2,.int .i64 un,.bool false])/\Below W.heap.size W w':=fun W=>by
  have:=z8k p.kind W (by omega)
  rw[hF.use]at this;exact this
 have HP:Hid (∀(D E:Nat) (k A B C:Int) (lv nv:Value) (z pos ua ub uu ul un:Int) (um:Bool) (W:World) (L':List Int) (use x:Int) (kk:List Int),z9M w0 n u uc D E k A B C lv nv z pos ua ub uu ul un um L' W->(∀ y,L'.count y<=1000)->z9F ns a use x kk->Calls Tryz.prog 43 #[.slice (some ⟨g,0,none⟩) n tc,.int .i64 (a:Int),.int .i64 x,.int .i64 use,.slice (some ⟨u,0,none⟩) n uc] W fun e w'=>e=.returned (.bool true)/\z9M w0 n u uc D E k A B C lv nv z pos ua ub uu ul un um (L'++kk) w'):=fun D E k A B C lv nv z pos ua ub uu ul un um W L' use x kk hl hc hf=>
  (z9J (HK.out W hl.tree) hn hn2 hl.used hgu (by omega) hf hc).mono fun e w' h=>⟨h.1,hl.turn h.2.1 h.2.2⟩
 obtain⟨m,hmm⟩:∃ m,p.list.length=m:=⟨_,rfl⟩;obtain⟨q,hqq⟩:∃ q,p.names.length=q:=⟨_,rfl⟩;have cP:∀ W,Calls Tryz.prog 46 #[.int .u64 (p.num:Int)] W fun e w'=>e=.returned (z2o p.num)/\Below W.heap.size W w':=fun W=>z2w p.num W (by have:=hF.finite;omega)
 obtain⟨kk,mm,ee,hPV,hkk1,hkk2⟩:=z9K hF.finite;rw[hPV]at cP;obtain⟨z,hz⟩:∃ z:Int,(p.num:Int)=z:=⟨_,rfl⟩;have hpos:=hF.pos;have n0:=NA.c0;have n1:=NA.c1;have n2:=NA.c2;have n3:=NA.c3;have n4:=NA.c4;have n5:=NA.c5;have n6:=NA.c6;have n7:=NA.c7;rw[hmm]at n4;rw[hqq]at n5 hq;rw[hz]at n6 cP;have hz0:z=0:=by rw[←hz,hm];rfl
 subst hz0;rw[hqq]at hun;subst hun;rw[hmm]at hl;have hmx:m<=9223372036854775807:=by
  obtain⟨_,_,_,h,_⟩:=z8H NA0.list;unfold maxLen at h;omega
 obtain⟨k,hkv⟩:∃ k,p.kind=k:=⟨_,rfl⟩;obtain⟨A,hA⟩:∃ x,p.a=x:=⟨_,rfl⟩;obtain⟨B,hB⟩:∃ x,p.b=x:=⟨_,rfl⟩;obtain⟨C,hC⟩:∃ x,p.c=x:=⟨_,rfl⟩;obtain⟨pos,hpo⟩:∃ x,p.pos=x:=⟨_,rfl⟩;rw[hkv]at n0 hk cU;rw[hA]at n1;rw[hB]at n2;rw[hC]at n3;rw[hpo]at n7 hpos;have cAt:=fun W=>z1D pos 0 600 W;rw[show(decide ((0:Int)<=pos)&&decide (pos<=600))=true by rw[yb9 hpos.1,yb9 hpos.2];rfl]at cAt
 have cE:=fun W=>z8g k W;have cS:=fun W=>z8h k W;subst hk;rw[show(decide ((1:Int)<=29)&&decide ((29:Int)<=13))=false by decide]at cE
 rw[show(decide ((20:Int)<=29)&&decide ((29:Int)<=28))=false by decide]at cS
 have HKV:Hid (p.kind=29/\p.a=A/\p.b=B/\p.c=C/\p.list.length=m/\p.names.length=q):=⟨hkv,hA,hB,hC,hmm,hqq⟩;have hn0:(a:Int)<(n:Int):=by omega
 have ha0:(0:Int)<=(a:Int):=by omega
 have HL0:Hid (∀ w1,Below (w.heap.size+1) (w.alloc (.cells #[.int .i64 29,.int .i64 A,.int .i64 B,.int .i64 C,.slice la m lc,.slice na q nc,.int .u64 0,.int .i64 pos] 34)) w1->z9M w0 n u uc w.heap.size w1.heap.size 29 A B C (.slice la m lc) (.slice na q nc) 0 pos ua ub uu 2 (q:Int) false L (w1.alloc (.cells #[.int .i64 ua,.int .i64 ub,.int .i64 uu,.int .i64 2,.int .i64 (q:Int),.bool false] 109))):=fun w1 hw1=>by
  have s1:=hw1.size;simp at s1;have b0:Below w.heap.size w (w.alloc (.cells #[.int .i64 29,.int .i64 A,.int .i64 B,.int .i64 C,.slice la m lc,.slice na q nc,.int .u64 0,.int .i64 pos] 34)):=(yg9 _ _).alloc (yf9 _) _;have b1:Below w.heap.size w w1:=b0.trans (hw1.mono (by omega))
  have b2:Below w.heap.size w (w1.alloc (.cells #[.int .i64 ua,.int .i64 ub,.int .i64 uu,.int .i64 2,.int .i64 (q:Int),.bool false] 109)):=b1.alloc (by omega) _
  refine⟨?_,heap_alloc_new _ _,z8B hU b2,hb.trans (b2.mono hb.size),by omega,by omega,hup⟩
  rw[heap_alloc_old _ _ (by omega),hw1.block _ (by omega)]
  exact heap_alloc_new _ _
 have hsz1:(w.alloc (.cells #[.int .i64 29,.int .i64 A,.int .i64 B,.int .i64 C,.slice la m lc,.slice na q nc,.int .u64 0,.int .i64 pos] 34)).heap.size=w.heap.size+1:=by simp
 clear hT hb hU ha hc hF NA NA0 hn hPV hz hqq hmm hkv hA hB hC hpo;go_enter Tryz.func23,Tryz.ntmps23;go_wp2_with fail;refine(cU _).mono ?_;rintro e w1 ⟨rfl,b1⟩;rw[hsz1]at b1;have N2:=HL0.out w1 b1;clear HL0 b1 hsz1 cU n0 n1 n2 n3 n4 n5 n6 n7;obtain⟨D,hD⟩:∃ D,w.heap.size=D:=⟨_,rfl⟩;obtain⟨E,hE⟩:∃ E,w1.heap.size=E:=⟨_,rfl⟩;go_upto_region 3 with fail;rw[hD,hE]at N2;try simp only[hD,hE]
 obtain⟨W2,hW2⟩:∃ W,w1.alloc (.cells #[.int .i64 ua,.int .i64 ub,.int .i64 uu,.int .i64 2,.int .i64 (q:Int),.bool false] 109)=W:=⟨_,rfl⟩;rw[hW2]at N2;try simp only[hW2]
 clear hW2 hD hE;obtain⟨x0,x1,x2,x3,x4,x5,x6,x7⟩:=z8C N2.node;obtain⟨y0,y1,y2,y3,y4,y5⟩:=z8W N2.use;go_wp2_with fail;refine(cE _).mono ?_;rintro e w3 ⟨rfl,rfl⟩;go_wp2_with fail;refine(cS _).mono ?_;rintro e w3 ⟨rfl,rfl⟩;go_wp2_with fail;refine(cAt _).mono ?_;rintro e w3 ⟨rfl,rfl⟩;go_wp2_with fail;refine(HP.out D E _ _ _ _ _ _ _ _ _ _ _ _ _ _ _ _ _ _ kA N2 (fun y=>by have:=HC.out y;rw[HF.out.kids]at this;simp only[List.count_append]at this ⊢;omega) (by have:=HF.out.partA;rw[HKV.out.2.1]at this;exact this)).mono ?_
 rintro e w4A ⟨rfl,N4A⟩;clear N2 x0 x1 x2 x3 x4 x5 x6 x7 y0 y1 y2 y3 y4 y5;obtain⟨x0,x1,x2,x3,x4,x5,x6,x7⟩:=z8C N4A.node;obtain⟨y0,y1,y2,y3,y4,y5⟩:=z8W N4A.use;go_wp2_with fail;refine(HP.out D E _ _ _ _ _ _ _ _ _ _ _ _ _ _ _ _ _ _ kB N4A (fun y=>by have:=HC.out y;rw[HF.out.kids]at this;simp only[List.count_append]at this ⊢;omega) (by have:=HF.out.partB;rw[HKV.out.2.2.1]at this;exact this)).mono ?_
 rintro e w4B ⟨rfl,N4B⟩;clear N4A x0 x1 x2 x3 x4 x5 x6 x7 y0 y1 y2 y3 y4 y5;obtain⟨x0,x1,x2,x3,x4,x5,x6,x7⟩:=z8C N4B.node;obtain⟨y0,y1,y2,y3,y4,y5⟩:=z8W N4B.use;go_wp2_with fail;refine(HP.out D E _ _ _ _ _ _ _ _ _ _ _ _ _ _ _ _ _ _ kC N4B (fun y=>by have:=HC.out y;rw[HF.out.kids]at this;simp only[List.count_append]at this ⊢;omega) (by have:=HF.out.partC;rw[HKV.out.2.2.2.1]at this;exact this)).mono ?_
 rintro e w4C ⟨rfl,N4C⟩;clear N4B x0 x1 x2 x3 x4 x5 x6 x7 y0 y1 y2 y3 y4 y5;obtain⟨x0,x1,x2,x3,x4,x5,x6,x7⟩:=z8C N4C.node;obtain⟨y0,y1,y2,y3,y4,y5⟩:=z8W N4C.use;have d3:decide ((6:Int)<(m:Int))=true:=yb9 (by omega)
 have d4:decide (6<m)=true:=yb9 (by omega)
 have d5:decide ((4:Int)<(q:Int))=false:=ya9 (by omega)
 have d6:decide (4<q)=false:=ya9 (by omega)
 have d7:decide ((0:Int)<=(q:Int))=true:=yb9 (by omega)
 go_upto_region 10 with fail;have HNL:Hid (z9M w0 n u uc D E 29 A B C (.slice la m lc) (.slice na q nc) 0 pos ua ub uu 2 (q:Int) false (L++kA++kB++kC) w4C):=N4C;clear N4C x0 x1 x2 x3 x4 x5 x6 x7 y0 y1 y2 y3 y4 y5 HP;go_loopw [6,9,10] (fun _ i _ wr=>∃ j:Nat,i=.int .i64 (j:Int)/\j<=m/\z9M w0 n u uc D E 29 A B C (.slice la m lc) (.slice na q nc) 0 pos ua ub uu 2 (q:Int) false (L++kA++kB++kC++p.list.take j) wr) (fun _ i _ _=>m-(intOf i).toNat)
 case atStart=>exact⟨0,rfl,yj9 _,by rw[List.take_zero,List.append_nil];exact HNL.out⟩
 case round=>
  clear HNL;obtain⟨j,rfl,hj,NL⟩:=hrel;obtain⟨x0,x1,x2,x3,x4,x5,x6,x7⟩:=z8C NL.node;obtain⟨y0,y1,y2,y3,y4,y5⟩:=z8W NL.use;by_cases hlt:j<m
  ·obtain⟨x,hx⟩:∃ x,p.list[j]?=some x:=⟨_,yd9 (by have:=HKV.out.2.2.2.2.1;omega)⟩
   have hxm:x∈p.list:=List.mem_iff_getElem?.2 ⟨j,hx⟩;obtain⟨gl,hla,hcl⟩:=HLC.out wr NL.tree j x hx;have hxk:0<=x/\x<a/\(((2:Int)=1/\1<=z5X ns x/\z5X ns x<=13)\/((2:Int)=2/\20<=z5X ns x/\z5X ns x<=28)):=by
    rcases HF.out.list with ⟨e,h⟩|⟨e,h⟩|⟨e,h⟩
    ·exact⟨(h x hxm).1,(h x hxm).2.1,.inl ⟨e,(h x hxm).2.2⟩⟩
    ·exact⟨(h x hxm).1,(h x hxm).2.1,.inr ⟨e,(h x hxm).2.2⟩⟩
    ·rw[h]at hxm;cases hxm
   obtain⟨hx0,hxa,hxk⟩:=hxk;obtain⟨v,rfl⟩:∃ v:Nat,x=(v:Int):=⟨x.toNat,by omega⟩
   obtain⟨pv,hpv⟩:∃ q,ns[v]?=some q:=⟨_,yd9 (by have:=HN.out;omega)⟩
   have hkc:=HK.out wr NL.tree v pv hpv;rw[show z5X ns (v:Int)=pv.kind by unfold z5X;rw[Int.toNat_natCast,hpv]]at hxk
   obtain⟨kv,hkv⟩:∃ x,pv.kind=x:=⟨_,rfl⟩;rw[hkv]at hkc hxk;have hvn:v<n:=by omega
   obtain⟨hu1,hu2⟩:=NL.at hvn;have hcnt:(L++kA++kB++kC++p.list.take j).count (v:Int)<=1000:=by
    have:=HC.out (v:Int);rw[HF.out.kids]at this;have e:p.list=p.list.take j++p.list.drop j:=(List.take_append_drop _ _).symm;rw[e]at this;simp only[List.count_append]at this ⊢;omega
   have NB:Hid (z9M w0 n u uc D E 29 A B C (.slice la m lc) (.slice na q nc) 0 pos ua ub uu 2 (q:Int) false (L++kA++kB++kC++p.list.take (j+1)) (wr.setCell ⟨u,v,none⟩ (.int .i64 ((((L++kA++kB++kC++p.list.take j).count (v:Int):Nat):Int)+1)))):=by
    have:=NL.bump hvn;rw[List.append_assoc,z9O hx]at this;exact this
   obtain⟨cn,hcn⟩:∃ c,(L++kA++kB++kC++p.list.take j).count (v:Int)=c:=⟨_,rfl⟩;rw[hcn]at hu1 hcnt NB;have cI:=fun W=>z1D (v:Int) 0 ((a:Int)-1) W;rw[show(decide ((0:Int)<=(v:Int))&&decide ((v:Int)<=(a:Int)-1))=true by rw[yb9 (by omega),yb9 (by omega)];rfl]at cI
   have hji:(j:Int)<(m:Int):=by omega
   have hvi:(v:Int)<(n:Int):=by omega
   have hj0:(0:Int)<=(j:Int):=by omega
   have hv0:(0:Int)<=(v:Int):=by omega
   clear NL hpv hx hxm hcn hkv cE cS;subst hla;go_wp2_with fail;refine(cI _).mono ?_;rintro e w5 ⟨rfl,rfl⟩;have cE:=fun W=>z8h kv W;rw[show(decide ((20:Int)<=kv)&&decide (kv<=28))=true by rw[yb9 (by omega),yb9 (by omega)];rfl]at cE
   go_wp2_with fail;refine(cE _).mono ?_;rintro e w5 ⟨rfl,rfl⟩;go_wp2_with fail;go_roundw
   case rel=>exact⟨j+1,by go_num,by omega,NB.out⟩
   case measure=>simp[intOf];omega
  ·have hge:decide ((j:Int)<(m:Int))=false:=ya9 (by omega)
   have hge':decide (j<m)=false:=ya9 (by omega)
   have HNL:Hid (z9M w0 n u uc D E 29 A B C (.slice la m lc) (.slice na q nc) 0 pos ua ub uu 2 (q:Int) false (L++z8o p) wr):=by
    rw[HF.out.kids,←List.append_assoc,←List.append_assoc,←List.append_assoc];have e:p.list.take j=p.list:=List.take_of_length_le (by have:=HKV.out.2.2.2.2.1;omega)
    rw[e]at NL;exact NL
   clear NL;go_upto_region 17 with fail;clear x0 x1 x2 x3 x4 x5 x6 x7 y0 y1 y2 y3 y4 y5;go_loopw [6,11] (fun _ i ws=>∃ j:Nat,i=.int .i64 (j:Int)/\j<=q/\z9M w0 n u uc D E 29 A B C (.slice la m lc) (.slice na q nc) 0 pos ua ub uu 2 (q:Int) false (L++z8o p) ws) (fun _ i _=>q-(intOf i).toNat)
   case atStart=>exact⟨0,rfl,yj9 _,HNL.out⟩
   case round=>
    clear HNL hge hge' hlt hj;obtain⟨j,rfl,hj,NL⟩:=hrel;obtain⟨x0,x1,x2,x3,x4,x5,x6,x7⟩:=z8C NL.node;obtain⟨y0,y1,y2,y3,y4,y5⟩:=z8W NL.use;by_cases hlt:j<q
    ·obtain⟨x,hx⟩:∃ x,p.names[j]?=some x:=⟨_,yd9 (by have:=HKV.out.2.2.2.2.2;omega)⟩
     have hxm:x∈p.names:=List.mem_iff_getElem?.2 ⟨j,hx⟩;obtain⟨gl,hna,hcl⟩:=HNC.out wr NL.tree j x hx;have hji:(j:Int)<(q:Int):=by omega
     have hj0:(0:Int)<=(j:Int):=by omega
     have hfit:=HF.out.names x hxm;rw[HKV.out.1]at hfit;have HNL:Hid (z9M w0 n u uc D E 29 A B C (.slice la m lc) (.slice na q nc) 0 pos ua ub uu 2 (q:Int) false (L++z8o p) wr):=NL;clear NL hx hxm;subst hna;obtain⟨hk2,_,_⟩|⟨_,f1⟩:=hfit
     ·first|exact absurd (HKV.out.1.trans hk2) hne|exact absurd hk2 (by decide)
     ·have cT:=fun W=>z8j x W f1;clear f1;go_wp2_with fail;refine(cT _).mono ?_;rintro e w5 ⟨rfl,b5⟩;have HNL':Hid _:=HNL.out.below b5;clear b5;go_wp2_with fail;go_roundw
      case rel=>exact⟨j+1,by go_num,by omega,HNL'.out⟩
      case measure=>simp[intOf];omega
    ·have hge:decide ((j:Int)<(q:Int))=false:=ya9 (by omega)
     have hge':decide (j<q)=false:=ya9 (by omega)
     go_wp2_with fail;refine(cP _).mono ?_;rintro e w5 ⟨rfl,b5⟩;have N6:=(NL.below b5).below ((yg9 _ _).alloc (yf9 _) (.cells #[.int .i64 kk,.bool false,.int .u64 mm,.int .i64 ee] 114));obtain⟨q0,q1,q2,q3⟩:=z2u (heap_alloc_new w5 (.cells #[.int .i64 kk,.bool false,.int .u64 mm,.int .i64 ee] 114));have HKC:=HK.out _ N6.tree;have HEND:Hid (_/\_):=⟨N6.used,N6.tree⟩;clear NL b5 x0 x1 x2 x3 x4 x5 x6 x7 y0 y1 y2 y3 y4 y5 cP;obtain⟨x0,x1,x2,x3,x4,x5,x6,x7⟩:=z8C N6.node;have HKC':Hid _:=HKC;clear N6 HKC HNC HLC HC;go_upto_region 24 with fail;clear q0 q1 q2 q3;go_wp2;go_ret;exact⟨rfl,HEND.out⟩
