/- Part 17. -/
import Derived.Test.YtdbekjiognpgnaaGreatPam
import Derived.Test.YtdbekjiognpgnaaGreatPap
set_option maxHeartbeats 16000000
set_option maxRecDepth 100000
set_option linter.unusedVariables false
namespace Go.Proofs.YtdbekjiognpgnaaGreat
open Go.RowKit
def z9B(n:Nat)(L:List Int):List Value:=(List.range n).map fun(i:Nat)=>Value.int .i64 ((L.count (i:Int):Nat):Int)
theorem z9C(n:Nat)(L:List Int):(z9B n L).length=n:=by unfold z9B;simp
theorem z9D{n j:Nat}(L:List Int)(h:j<n):(z9B n L)[j]?=some (Value.int .i64 ((L.count (j:Int):Nat):Int)):=by
 unfold z9B;rw[List.getElem?_map,List.getElem?_range h];rfl
theorem z9E{n j:Nat}(L:List Int)(h:j<n):(z9B n L).set j (.int .i64 (((L.count (j:Int):Nat):Int)+1))=z9B n (L++[(j:Int)]):=by
 apply List.ext_getElem?
 intro i;rcases Nat.lt_or_ge i n with hi|hi
 ·rw[z9D _ hi,List.count_append];rcases Nat.decEq i j with e|e
  ·have z:List.count (i:Int) [(j:Int)]=0:=List.count_eq_zero.2 (by simp;omega)
   rw[List.getElem?_set_ne (by omega),z9D _ hi,z]
   rfl
  ·subst e;rw[List.getElem?_set_self (by rw[z9C];exact h)]
   simp
 ·rw[List.getElem?_eq_none (by rw[List.length_set,z9C];exact hi),List.getElem?_eq_none (by rw[z9C];exact hi)]
def z9F(ns:List z4Q)(a:Nat)(use x:Int)(k:List Int):Prop:=
 (k=[]/\((use=0/\x=0)\/use=3\/(use=4/\x=-1)))\/
 (k=[x]/\0<=x/\x<a/\((use=1/\1<=z5X ns x/\z5X ns x<=13)\/(use=2/\z5X ns x=29)\/(use=4/\(z5X ns x=29\/z5X ns x=23))))
structure z9G(ns:List z4Q)(a:Nat)(p:z4Q)(ua ub uc ul un:Int)(um:Bool)(kA kB kC:List Int):Prop where
 use:useP p.kind=(ua,ub,uc,ul,un,um)
 pos:0<=p.pos/\p.pos<=600
 partA:z9F ns a ua p.a kA
 partB:z9F ns a ub p.b kB
 partC:z9F ns a uc p.c kC
 kids:z8o p=kA++kB++kC++p.list
 list:(ul=1/\∀ x∈p.list,0<=x/\x<a/\1<=z5X ns x/\z5X ns x<=13)\/(ul=2/\∀ x∈p.list,0<=x/\x<a/\20<=z5X ns x/\z5X ns x<=28)\/(ul=0/\p.list=[])
 form:((1<=p.kind/\p.kind<=13)/\ul=0/\p.list=[]/\un=(p.names.length:Int)/\p.names.length<=4/\um=true)\/((1<=p.kind/\p.kind<=13)/\ul=0/\p.list=[]/\un=(p.names.length:Int)/\p.names.length<=4/\um=false/\p.num=0)\/((1<=p.kind/\p.kind<=13)/\ul=0/\p.list=[]/\un=-1/\p.names.length<=4/\um=false/\p.num=0)\/((20<=p.kind/\p.kind<=28)/\ul=0/\p.list=[]/\un=(p.names.length:Int)/\p.names.length<=4/\um=false/\p.num=0)\/((1<=p.kind/\p.kind<=13)/\ul=1/\p.list.length<=6/\un=(p.names.length:Int)/\p.names.length<=4/\um=false/\p.num=0)\/(p.kind=29/\ul=2/\un=(p.names.length:Int)/\p.names.length<=4/\um=false/\p.num=0)
 names:∀ x∈p.names,(p.kind=2/\x.size<=40/\z5T x.data.toList)\/(p.kind≠2/\z5S x)
 finite:p.num<9218868437227405312
 bin:p.kind=9->1<=p.c/\p.c<=11
 early:p.kind=20->p.b=0\/(p.b=1/\0<=p.a/\p.a<a/\z5X ns p.a=13)
theorem z9H{ns:List z4Q}(h:z88 ns){a:Nat}{p:z4Q}(ha:ns[a]?=some p):∃ ua ub uc ul un um kA kB kC,z9G ns a p ua ub uc ul un um kA kB kC:=by
 have hh:=h.seg.held a p ha;have hp:=h.seg.parts a p ha;have he:=h.seg.early a p ha;obtain⟨p1,p2,hh⟩:=hh;have fit:∀ r k,z5W r k->(r=1->1<=k/\k<=13)/\(r=2->k=29)/\(r=3->k=29\/k=23)/\(r=4->20<=k/\k<=28):=fun r k hf=>by unfold z5W at hf;omega
 rcases hh with ⟨hk,hA,hB,hC,hl,hn,hm⟩|⟨hk,hA,hB,hC,hl,hm,x,hn,hs,ht⟩|⟨hk,hA,hB,hC,hl,hn,hm⟩|⟨hk,hA,hB,hC,hl,hm,x,hn,hs⟩|⟨hk,hB,hC,hl,hn,hm⟩|⟨hk,hC1,hC2,hl,hn,hm⟩|⟨hk,hC,hl,hn,hm⟩|⟨hk,hB,hC,hl,hn,hm⟩|⟨hk,hB,hC,hl,hm,hn,hs⟩|⟨hk,hB,hC,hl,hm,x,hn,hs⟩|⟨hk,hB,hC,hl,hm,x,hn,hs⟩|⟨hk,hl,hn,hm⟩|⟨hk,hC,hl,hn,hm⟩|⟨hk,hC,hl,hm,x,hn,hs⟩|⟨hk,hA,hB,hC,hn,hm⟩
 ·exact⟨0,0,0,0,0,true,[],[],[],by rw[hk];rfl,⟨p1,p2⟩,.inl ⟨rfl,.inl ⟨rfl,hA⟩⟩,.inl ⟨rfl,.inl ⟨rfl,hB⟩⟩,.inl ⟨rfl,.inl ⟨rfl,hC⟩⟩,by rw[hl];unfold z8o z5V;rw[hk];rfl,.inr (.inr ⟨rfl,hl⟩),.inl ⟨by omega,rfl,hl,by rw[hn];rfl,by rw[hn];simp,rfl⟩,by rw[hn];simp,hm,by omega,by omega⟩
 ·exact⟨0,0,0,0,1,false,[],[],[],by rw[hk];rfl,⟨p1,p2⟩,.inl ⟨rfl,.inl ⟨rfl,hA⟩⟩,.inl ⟨rfl,.inl ⟨rfl,hB⟩⟩,.inl ⟨rfl,.inl ⟨rfl,hC⟩⟩,by rw[hl];unfold z8o z5V;rw[hk];rfl,.inr (.inr ⟨rfl,hl⟩),(by first|exact .inr (.inl ⟨by omega,rfl,hl,by rw[hn];rfl,by rw[hn];simp,rfl,hm⟩)|exact .inr (.inr (.inr (.inl ⟨by omega,rfl,hl,by rw[hn];rfl,by rw[hn];simp,rfl,hm⟩)))),by rw[hn];intro y hy;rw[List.mem_singleton.1 hy];exact .inl ⟨hk,hs,ht⟩,by rw[hm];decide,by omega,by omega⟩
 ·exact⟨0,0,0,0,0,false,[],[],[],by rcases hk with hk|hk|hk<;>rw[hk]<;>rfl,⟨p1,p2⟩,.inl ⟨rfl,.inl ⟨rfl,hA⟩⟩,.inl ⟨rfl,.inl ⟨rfl,hB⟩⟩,.inl ⟨rfl,.inl ⟨rfl,hC⟩⟩,by rw[hl];unfold z8o z5V;rcases hk with hk|hk|hk<;>rw[hk]<;>rfl,.inr (.inr ⟨rfl,hl⟩),(by first|exact .inr (.inl ⟨by omega,rfl,hl,by rw[hn];rfl,by rw[hn];simp,rfl,hm⟩)|exact .inr (.inr (.inr (.inl ⟨by omega,rfl,hl,by rw[hn];rfl,by rw[hn];simp,rfl,hm⟩)))),by rw[hn];simp,by rw[hm];decide,by omega,by omega⟩
 ·exact⟨0,0,0,0,1,false,[],[],[],by rw[hk];rfl,⟨p1,p2⟩,.inl ⟨rfl,.inl ⟨rfl,hA⟩⟩,.inl ⟨rfl,.inl ⟨rfl,hB⟩⟩,.inl ⟨rfl,.inl ⟨rfl,hC⟩⟩,by rw[hl];unfold z8o z5V;rw[hk];rfl,.inr (.inr ⟨rfl,hl⟩),(by first|exact .inr (.inl ⟨by omega,rfl,hl,by rw[hn];rfl,by rw[hn];simp,rfl,hm⟩)|exact .inr (.inr (.inr (.inl ⟨by omega,rfl,hl,by rw[hn];rfl,by rw[hn];simp,rfl,hm⟩)))),by rw[hn];intro y hy;rw[List.mem_singleton.1 hy];exact .inr ⟨by omega,hs⟩,by rw[hm];decide,by omega,by omega⟩
 ·have e:z5V p=[(p.a,1)]:=by unfold z5V;rw[if_pos (by omega)]
  rw[e]at hp;obtain⟨q1,q2,q3⟩:=hp _ (List.mem_singleton.2 rfl);exact⟨1,0,0,0,0,false,[p.a],[],[],by rcases hk with hk|hk|hk|hk|hk|hk<;>rw[hk]<;>rfl,⟨p1,p2⟩,.inr ⟨rfl,q1,q2,.inl ⟨rfl,(fit _ _ q3).1 rfl⟩⟩,.inl ⟨rfl,.inl ⟨rfl,hB⟩⟩,.inl ⟨rfl,.inl ⟨rfl,hC⟩⟩,by rw[hl];unfold z8o;rw[e];rfl,.inr (.inr ⟨rfl,hl⟩),(by rcases hk with hk|hk|hk|hk|hk|hk<;>first|exact .inr (.inl ⟨by omega,rfl,hl,by rw[hn];rfl,by rw[hn];simp,rfl,hm⟩)|exact .inr (.inr (.inr (.inl ⟨by omega,rfl,hl,by rw[hn];rfl,by rw[hn];simp,rfl,hm⟩)))),by rw[hn];simp,by rw[hm];decide,by omega,by omega⟩
 ·have e:z5V p=[(p.a,1),(p.b,1)]:=by unfold z5V;rw[if_neg (by omega),if_pos (by omega)]
  rw[e]at hp;obtain⟨q1,q2,q3⟩:=hp (p.a,1) (by simp)
  obtain⟨r1,r2,r3⟩:=hp (p.b,1) (by simp)
  exact⟨1,1,3,0,0,false,[p.a],[p.b],[],by rw[hk];rfl,⟨p1,p2⟩,.inr ⟨rfl,q1,q2,.inl ⟨rfl,(fit _ _ q3).1 rfl⟩⟩,.inr ⟨rfl,r1,r2,.inl ⟨rfl,(fit _ _ r3).1 rfl⟩⟩,.inl ⟨rfl,.inr (.inl rfl)⟩,by rw[hl];unfold z8o;rw[e];rfl,.inr (.inr ⟨rfl,hl⟩),(by first|exact .inr (.inl ⟨by omega,rfl,hl,by rw[hn];rfl,by rw[hn];simp,rfl,hm⟩)|exact .inr (.inr (.inr (.inl ⟨by omega,rfl,hl,by rw[hn];rfl,by rw[hn];simp,rfl,hm⟩)))),by rw[hn];simp,by rw[hm];decide,by omega,by omega⟩
 ·have e:z5V p=[(p.a,1),(p.b,1)]:=by unfold z5V;rw[if_neg (by omega),if_pos (by omega)]
  rw[e]at hp;obtain⟨q1,q2,q3⟩:=hp (p.a,1) (by simp)
  obtain⟨r1,r2,r3⟩:=hp (p.b,1) (by simp)
  exact⟨1,1,0,0,0,false,[p.a],[p.b],[],by rcases hk with hk|hk<;>rw[hk]<;>rfl,⟨p1,p2⟩,.inr ⟨rfl,q1,q2,.inl ⟨rfl,(fit _ _ q3).1 rfl⟩⟩,.inr ⟨rfl,r1,r2,.inl ⟨rfl,(fit _ _ r3).1 rfl⟩⟩,.inl ⟨rfl,.inl ⟨rfl,hC⟩⟩,by rw[hl];unfold z8o;rw[e];rfl,.inr (.inr ⟨rfl,hl⟩),(by first|exact .inr (.inl ⟨by omega,rfl,hl,by rw[hn];rfl,by rw[hn];simp,rfl,hm⟩)|exact .inr (.inr (.inr (.inl ⟨by omega,rfl,hl,by rw[hn];rfl,by rw[hn];simp,rfl,hm⟩)))),by rw[hn];simp,by rw[hm];decide,by omega,by omega⟩
 ·have e:z5V p=(p.a,1)::p.list.map (fun x=>(x,1)):=by unfold z5V;rw[if_neg (by omega),if_neg (by omega),if_pos hk]
  rw[e]at hp;obtain⟨q1,q2,q3⟩:=hp (p.a,1) (by simp)
  have hq:∀ x∈p.list,0<=x/\x<a/\1<=z5X ns x/\z5X ns x<=13:=fun x hx=>by
   obtain⟨r1,r2,r3⟩:=hp (x,1) (List.mem_cons_of_mem _ (List.mem_map.2 ⟨x,hx,rfl⟩));exact⟨r1,r2,(fit _ _ r3).1 rfl⟩
  exact⟨1,0,0,1,0,false,[p.a],[],[],by rw[hk];rfl,⟨p1,p2⟩,.inr ⟨rfl,q1,q2,.inl ⟨rfl,(fit _ _ q3).1 rfl⟩⟩,.inl ⟨rfl,.inl ⟨rfl,hB⟩⟩,.inl ⟨rfl,.inl ⟨rfl,hC⟩⟩,by unfold z8o;rw[e,List.map_cons,List.map_map];show p.a::p.list.map id=_;rw[List.map_id];rfl,.inl ⟨rfl,hq⟩,.inr (.inr (.inr (.inr (.inl ⟨by omega,rfl,hl,by rw[hn];rfl,by rw[hn];simp,rfl,hm⟩)))),by rw[hn];simp,by rw[hm];decide,by omega,by omega⟩
 ·have e:z5V p=[(p.a,2)]:=by unfold z5V;rw[if_neg (by omega),if_neg (by omega),if_neg (by omega),if_pos hk]
  rw[e]at hp;obtain⟨q1,q2,q3⟩:=hp (p.a,2) (by simp)
  exact⟨2,0,0,0,-1,false,[p.a],[],[],by rw[hk];rfl,⟨p1,p2⟩,.inr ⟨rfl,q1,q2,.inr (.inl ⟨rfl,(fit _ _ q3).2.1 rfl⟩)⟩,.inl ⟨rfl,.inl ⟨rfl,hB⟩⟩,.inl ⟨rfl,.inl ⟨rfl,hC⟩⟩,by rw[hl];unfold z8o;rw[e];rfl,.inr (.inr ⟨rfl,hl⟩),.inr (.inr (.inl ⟨by omega,rfl,hl,rfl,hn,rfl,hm⟩)),fun y hy=>.inr ⟨by omega,hs y hy⟩,by rw[hm];decide,by omega,by omega⟩
 ·have e:z5V p=[(p.a,1)]:=by unfold z5V;rw[if_pos (by omega)]
  rw[e]at hp;obtain⟨q1,q2,q3⟩:=hp _ (List.mem_singleton.2 rfl);exact⟨1,3,0,0,1,false,[p.a],[],[],by rw[hk];rfl,⟨p1,p2⟩,.inr ⟨rfl,q1,q2,.inl ⟨rfl,(fit _ _ q3).1 rfl⟩⟩,.inl ⟨rfl,.inr (.inl rfl)⟩,.inl ⟨rfl,.inl ⟨rfl,hC⟩⟩,by rw[hl];unfold z8o;rw[e];rfl,.inr (.inr ⟨rfl,hl⟩),(by first|exact .inr (.inl ⟨by omega,rfl,hl,by rw[hn];rfl,by rw[hn];simp,rfl,hm⟩)|exact .inr (.inr (.inr (.inl ⟨by omega,rfl,hl,by rw[hn];rfl,by rw[hn];simp,rfl,hm⟩)))),by rw[hn];intro y hy;rw[List.mem_singleton.1 hy];exact .inr ⟨by omega,hs⟩,by rw[hm];decide,by omega,fun _=>by
   rcases hB with b0|b1
   ·exact .inl b0
   ·exact .inr ⟨b1,q1,q2,he hk b1⟩⟩
 ·have e:z5V p=[(p.a,1)]:=by unfold z5V;rw[if_pos (by omega)]
  rw[e]at hp;obtain⟨q1,q2,q3⟩:=hp _ (List.mem_singleton.2 rfl);exact⟨1,0,0,0,1,false,[p.a],[],[],by rw[hk];rfl,⟨p1,p2⟩,.inr ⟨rfl,q1,q2,.inl ⟨rfl,(fit _ _ q3).1 rfl⟩⟩,.inl ⟨rfl,.inl ⟨rfl,hB⟩⟩,.inl ⟨rfl,.inl ⟨rfl,hC⟩⟩,by rw[hl];unfold z8o;rw[e];rfl,.inr (.inr ⟨rfl,hl⟩),(by first|exact .inr (.inl ⟨by omega,rfl,hl,by rw[hn];rfl,by rw[hn];simp,rfl,hm⟩)|exact .inr (.inr (.inr (.inl ⟨by omega,rfl,hl,by rw[hn];rfl,by rw[hn];simp,rfl,hm⟩)))),by rw[hn];intro y hy;rw[List.mem_singleton.1 hy];exact .inr ⟨by omega,hs⟩,by rw[hm];decide,by omega,by omega⟩
 ·have e:z5V p=(p.a,1)::(p.b,2)::(if p.c=-1 then []else [(p.c,3)]):=by unfold z5V;rw[if_neg (by omega),if_neg (by omega),if_neg (by omega),if_neg (by omega),if_pos hk]
  rw[e]at hp;obtain⟨q1,q2,q3⟩:=hp (p.a,1) (by simp)
  obtain⟨r1,r2,r3⟩:=hp (p.b,2) (by simp)
  rcases Decidable.em (p.c=-1)with hc|hc
  ·exact⟨1,2,4,0,0,false,[p.a],[p.b],[],by rw[hk];rfl,⟨p1,p2⟩,.inr ⟨rfl,q1,q2,.inl ⟨rfl,(fit _ _ q3).1 rfl⟩⟩,.inr ⟨rfl,r1,r2,.inr (.inl ⟨rfl,(fit _ _ r3).2.1 rfl⟩)⟩,.inl ⟨rfl,.inr (.inr ⟨rfl,hc⟩)⟩,by rw[hl];unfold z8o;rw[e,if_pos hc];rfl,.inr (.inr ⟨rfl,hl⟩),(by first|exact .inr (.inl ⟨by omega,rfl,hl,by rw[hn];rfl,by rw[hn];simp,rfl,hm⟩)|exact .inr (.inr (.inr (.inl ⟨by omega,rfl,hl,by rw[hn];rfl,by rw[hn];simp,rfl,hm⟩)))),by rw[hn];simp,by rw[hm];decide,by omega,by omega⟩
  ·rw[if_neg hc]at hp;obtain⟨s1,s2,s3⟩:=hp (p.c,3) (by simp)
   exact⟨1,2,4,0,0,false,[p.a],[p.b],[p.c],by rw[hk];rfl,⟨p1,p2⟩,.inr ⟨rfl,q1,q2,.inl ⟨rfl,(fit _ _ q3).1 rfl⟩⟩,.inr ⟨rfl,r1,r2,.inr (.inl ⟨rfl,(fit _ _ r3).2.1 rfl⟩)⟩,.inr ⟨rfl,s1,s2,.inr (.inr ⟨rfl,(fit _ _ s3).2.2.1 rfl⟩)⟩,by rw[hl];unfold z8o;rw[e,if_neg hc];rfl,.inr (.inr ⟨rfl,hl⟩),(by first|exact .inr (.inl ⟨by omega,rfl,hl,by rw[hn];rfl,by rw[hn];simp,rfl,hm⟩)|exact .inr (.inr (.inr (.inl ⟨by omega,rfl,hl,by rw[hn];rfl,by rw[hn];simp,rfl,hm⟩)))),by rw[hn];simp,by rw[hm];decide,by omega,by omega⟩
 ·have e:z5V p=[(p.a,1),(p.b,2)]:=by unfold z5V;rw[if_neg (by omega),if_neg (by omega),if_neg (by omega),if_neg (by omega),if_neg (by omega),if_pos hk]
  rw[e]at hp;obtain⟨q1,q2,q3⟩:=hp (p.a,1) (by simp)
  obtain⟨r1,r2,r3⟩:=hp (p.b,2) (by simp)
  exact⟨1,2,0,0,0,false,[p.a],[p.b],[],by rw[hk];rfl,⟨p1,p2⟩,.inr ⟨rfl,q1,q2,.inl ⟨rfl,(fit _ _ q3).1 rfl⟩⟩,.inr ⟨rfl,r1,r2,.inr (.inl ⟨rfl,(fit _ _ r3).2.1 rfl⟩)⟩,.inl ⟨rfl,.inl ⟨rfl,hC⟩⟩,by rw[hl];unfold z8o;rw[e];rfl,.inr (.inr ⟨rfl,hl⟩),(by first|exact .inr (.inl ⟨by omega,rfl,hl,by rw[hn];rfl,by rw[hn];simp,rfl,hm⟩)|exact .inr (.inr (.inr (.inl ⟨by omega,rfl,hl,by rw[hn];rfl,by rw[hn];simp,rfl,hm⟩)))),by rw[hn];simp,by rw[hm];decide,by omega,by omega⟩
 ·have e:z5V p=[(p.a,2),(p.b,2)]:=by unfold z5V;rw[if_neg (by omega),if_neg (by omega),if_neg (by omega),if_neg (by omega),if_neg (by omega),if_neg (by omega),if_pos hk]
  rw[e]at hp;obtain⟨q1,q2,q3⟩:=hp (p.a,2) (by simp)
  obtain⟨r1,r2,r3⟩:=hp (p.b,2) (by simp)
  exact⟨2,2,0,0,1,false,[p.a],[p.b],[],by rw[hk];rfl,⟨p1,p2⟩,.inr ⟨rfl,q1,q2,.inr (.inl ⟨rfl,(fit _ _ q3).2.1 rfl⟩)⟩,.inr ⟨rfl,r1,r2,.inr (.inl ⟨rfl,(fit _ _ r3).2.1 rfl⟩)⟩,.inl ⟨rfl,.inl ⟨rfl,hC⟩⟩,by rw[hl];unfold z8o;rw[e];rfl,.inr (.inr ⟨rfl,hl⟩),(by first|exact .inr (.inl ⟨by omega,rfl,hl,by rw[hn];rfl,by rw[hn];simp,rfl,hm⟩)|exact .inr (.inr (.inr (.inl ⟨by omega,rfl,hl,by rw[hn];rfl,by rw[hn];simp,rfl,hm⟩)))),by rw[hn];intro y hy;rw[List.mem_singleton.1 hy];exact .inr ⟨by omega,hs⟩,by rw[hm];decide,by omega,by omega⟩
 ·have e:z5V p=p.list.map (fun x=>(x,4)):=by unfold z5V;rw[if_neg (by omega),if_neg (by omega),if_neg (by omega),if_neg (by omega),if_neg (by omega),if_neg (by omega),if_neg (by omega),if_pos hk]
  rw[e]at hp;have hq:∀ x∈p.list,0<=x/\x<a/\20<=z5X ns x/\z5X ns x<=28:=fun x hx=>by
   obtain⟨r1,r2,r3⟩:=hp (x,4) (List.mem_map.2 ⟨x,hx,rfl⟩);exact⟨r1,r2,(fit _ _ r3).2.2.2 rfl⟩
  exact⟨0,0,0,2,0,false,[],[],[],by rw[hk];rfl,⟨p1,p2⟩,.inl ⟨rfl,.inl ⟨rfl,hA⟩⟩,.inl ⟨rfl,.inl ⟨rfl,hB⟩⟩,.inl ⟨rfl,.inl ⟨rfl,hC⟩⟩,by unfold z8o;rw[e,List.map_map];show p.list.map id=_;rw[List.map_id];rfl,.inr (.inl ⟨rfl,hq⟩),.inr (.inr (.inr (.inr (.inr ⟨hk,rfl,by rw[hn];rfl,by rw[hn];simp,rfl,hm⟩)))),by rw[hn];simp,by rw[hm];decide,by omega,by omega⟩
theorem z9I{w:World}{B:Nat}{e:TypeId}{size g n c:Nat}{xs:List Value}(h:w.ownsRow B e size (.slice (some ⟨g,0,none⟩) n c) n xs){j:Nat}{u:Value}(hj:xs[j]?=some u):w.cell? ⟨g,j,none⟩=some u:=by
 obtain⟨y,c',e1,_,hl,hc⟩:=z8H h;have hjl:j<xs.length:=(List.getElem?_eq_some_iff.1 hj).1;have h0:0<n:=by
  rcases Nat.eq_zero_or_pos n with e|e
  ·subst e;omega
  ·exact e
 obtain⟨gl,e2,hlt,hcell⟩:=hc h0;injection e1 with e1;rw[e2]at e1;injection e1 with e1;injection e1 with e1;subst e1;exact hcell j u hj
theorem z9J{w:World}{ns:List z4Q}{g tc n u uc U a:Nat}{use x:Int}{k L:List Int}(hT:∀ j p,ns[j]?=some p->w.cell? ⟨g,j*8,none⟩=some (.int .i64 p.kind))(hn:ns.length=n)(hn2:n<=10000)
  (hU:w.ownsRow U 3 1 (.slice (some ⟨u,0,none⟩) n uc) n (z9B n L)) (hgu:g≠u) (ha:a<=n) (hF:z9F ns a use x k) (hc:∀ y,L.count y<=1000):
  Calls Tryz.prog 43 #[.slice (some ⟨g,0,none⟩) n tc,.int .i64 (a:Int),.int .i64 x,.int .i64 use,.slice (some ⟨u,0,none⟩) n uc] w fun e w'=>e=.returned (.bool true)/\w'.ownsRow U 3 1 (.slice (some ⟨u,0,none⟩) n uc) n (z9B n (L++k))/\w.grownBy w' (some u):=by
 rcases hF with ⟨rfl,h⟩|⟨rfl,h0,h1,h⟩
 ·refine(z8l _ _ _ x use w h).mono ?_;rintro e w' ⟨rfl,rfl⟩;exact⟨rfl,by rw[List.append_nil];exact hU,⟨rfl,rfl,rfl,yf9 _,fun _ _ _=>rfl⟩⟩
 ·obtain⟨j,rfl⟩:∃ j:Nat,x=(j:Int):=⟨x.toNat,by omega⟩
  have hj:j<a:=by omega
  obtain⟨p,hp⟩:∃ p,ns[j]?=some p:=⟨_,yd9 (by omega)⟩
  have hk:z5X ns (j:Int)=p.kind:=by unfold z5X;rw[Int.toNat_natCast,hp]
  rw[hk]at h;have hcell:=z9I hU (z9D L (by omega:j<n))
  have hfz:w.frozen? ⟨u,j,none⟩=false:=by
   rcases hU.2 with ⟨e,_⟩|⟨g',cap,cur,e,_,hg',_⟩
   ·cases e
   ·injection e with e1 e2 e3;injection e1 with e1;injection e1 with e1 _;subst e1;exact z9v hg'
  refine(z8m g tc n u uc a j use p.kind _ w ha hn2 hj (hT j p hp) hcell hfz hgu (by omega) (by have:=hc (j:Int);omega) h).mono ?_
  rintro e w' ⟨rfl,rfl⟩;obtain⟨s1,s2⟩:=hU.stored j (.int .i64 (((L.count (j:Int):Nat):Int)+1));rw[z9E L (by omega)]at s1
  exact⟨rfl,s1,s2⟩
end Go.Proofs.YtdbekjiognpgnaaGreat
namespace Go.Proofs.YtdbekjiognpgnaaGreat
open Go.RowKit
theorem z9K{x:Nat}(h:x<9218868437227405312):∃(kk mm ee:Int),z2o x=.agg #[.int .i64 kk,.bool false,.int .u64 mm,.int .i64 ee]/\(kk==1)=false/\(kk==2)=false:=by
 have h1:z0Z x≠2047:=by unfold z0Z;omega
 have h2:z13 x=false:=by unfold z13;exact ya9 (by omega)
 refine⟨(z12 x:Int),(z14 x:Int),expN x,by unfold z2o;rw[h2],?_,?_⟩
 all_goals
  rw[yc9];unfold z12;rw[if_neg h1];split<;>omega
theorem z9L{w:World}{B g n tc:Nat}{ns:List z4Q}(hT:z8G w B (.slice (some ⟨g,0,none⟩) n tc) ns){q:Nat}{p:z4Q}(hq:ns[q]?=some p):∃ lv nv,z8J w B g (q*8) p lv nv:=by
 obtain⟨x,c,e,_,ho⟩:=hT.opened;obtain⟨g',e',k⟩:=ho (by have:=(List.getElem?_eq_some_iff.1 hq).1;omega)
 injection e with e1 e2 e3;subst e';injection e1 with e1;injection e1 with e1;subst e1;exact k q p hq
structure z9M(w0:World)(n u uc D E:Nat)(k A B C:Int)(lv nv:Value)(z pos ua ub uu ul un:Int)(um:Bool)(L:List Int)(w:World):Prop where
 node:w.heap[D]?=some (.cells #[.int .i64 k,.int .i64 A,.int .i64 B,.int .i64 C,lv,nv,.int .u64 z,.int .i64 pos] 34)
 use:w.heap[E]?=some (.cells #[.int .i64 ua,.int .i64 ub,.int .i64 uu,.int .i64 ul,.int .i64 un,.bool um] 109)
 used:w.ownsRow w0.heap.size 3 1 (.slice (some ⟨u,0,none⟩) n uc) n (z9B n L)
 tree:Below w0.heap.size w0 w
 ne1:D≠u
 ne2:E≠u
 up:w0.heap.size<=u
variable {w0 w w':World} {n u uc D E:Nat} {k A B C:Int} {lv nv:Value} {z pos ua ub uu ul un:Int} {um:Bool} {L L':List Int}
theorem z9M.turn(h:z9M w0 n u uc D E k A B C lv nv z pos ua ub uu ul un um L w)(hu:w'.ownsRow w0.heap.size 3 1 (.slice (some ⟨u,0,none⟩) n uc) n (z9B n L'))(hg:w.grownBy w' (some u)):z9M w0 n u uc D E k A B C lv nv z pos ua ub uu ul un um L' w':=by
 have old:∀ b,b<w.heap.size->b≠u->w'.heap[b]?=w.heap[b]?:=fun b hb hne=>hg.block b hb (fun e=>hne (Option.some.inj e));have h1:=lt_of_block h.node;have h2:=lt_of_block h.use;have h3:=h.tree.size;have h4:=h.up;exact⟨(old D h1 h.ne1).trans h.node,(old E h2 h.ne2).trans h.use,hu,⟨hg.os.trans h.tree.os,hg.tape.trans h.tree.tape,hg.output.trans h.tree.output,yi9 h3 hg.size,fun b hb=>(old b (by omega) (by omega)).trans (h.tree.block b hb)⟩,h.ne1,h.ne2,h.up⟩
theorem z9M.below(h:z9M w0 n u uc D E k A B C lv nv z pos ua ub uu ul un um L w)(hb:Below w.heap.size w w'):z9M w0 n u uc D E k A B C lv nv z pos ua ub uu ul un um L w':=by
 have h1:=lt_of_block h.node;have h2:=lt_of_block h.use;exact⟨(hb.block D h1).trans h.node,(hb.block E h2).trans h.use,z8B h.used hb,h.tree.trans (hb.mono h.tree.size),h.ne1,h.ne2,h.up⟩
theorem z9M.at(h:z9M w0 n u uc D E k A B C lv nv z pos ua ub uu ul un um L w){j:Nat}(hj:j<n):w.cell? ⟨u,j,none⟩=some (.int .i64 ((L.count (j:Int):Nat):Int))/\w.frozen? ⟨u,j,none⟩=false:=by
 refine⟨z9I h.used (z9D L hj),?_⟩;rcases h.used.2 with ⟨e,_⟩|⟨g',cap,cur,e,_,hg',_⟩
 ·cases e
 ·injection e with e1 e2 e3;injection e1 with e1;injection e1 with e1 _;subst e1;exact z9v hg'
theorem z9M.bump(h:z9M w0 n u uc D E k A B C lv nv z pos ua ub uu ul un um L w){j:Nat}(hj:j<n):z9M w0 n u uc D E k A B C lv nv z pos ua ub uu ul un um (L++[(j:Int)]) (w.setCell ⟨u,j,none⟩ (.int .i64 (((L.count (j:Int):Nat):Int)+1))):=by
 obtain⟨s1,s2⟩:=h.used.stored j (.int .i64 (((L.count (j:Int):Nat):Int)+1));rw[z9E L hj]at s1;exact h.turn s1 s2
theorem z9N{w0:World}{B:Nat}{e:TypeId}{la:Option Addr}{m lc:Nat}{xs:List Value}(h:w0.ownsRow B e 1 (.slice la m lc) m xs){W:World}(hb:Below w0.heap.size w0 W){j:Nat}{x:Value}(hx:xs[j]?=some x):∃ gl,la=some ⟨gl,0,none⟩/\W.cell? ⟨gl,j,none⟩=some x:=by
 obtain⟨y,c,e1,_,hl,hc⟩:=z8H h;have hj:j<xs.length:=(List.getElem?_eq_some_iff.1 hx).1;obtain⟨gl,e2,hlt,hcell⟩:=hc (by omega)
 injection e1 with e1;exact⟨gl,by rw[e1,e2],(hb.cell (p:=⟨gl,j,none⟩) hlt).trans (hcell j x hx)⟩
theorem z9O{l:List Int}{j:Nat}{x:Int}(h:l[j]?=some x):l.take j++[x]=l.take (j+1):=by
 rw[List.take_add_one,h];rfl
