/- Part 10. -/
import Derived.Test.YtdbekjiognpgnaaGreatPai
set_option maxHeartbeats 16000000
set_option maxRecDepth 100000
set_option linter.unusedVariables false
namespace Go.Proofs.YtdbekjiognpgnaaGreat
def z5R(x:List UInt8):Prop:=1<=x.length/\x.length<=12/\z3y x=x.length/\x∉z4J
def z5S(x:ByteArray):Prop:=z5R x.data.toList
def z5T(x:List UInt8):Prop:=∀ c∈x,32<=c.toNat/\c.toNat<=126/\c.toNat≠34
structure z5U(Q:PIn):Prop where
 name:∀ t∈Q.T,t.1.kind=1->z5R t.1.text
 text:∀ t∈Q.T,t.1.kind=3->z5T t.1.text
 num:∀ t∈Q.T,t.1.kind=2->t.1.num<=9218868437227405312
 place:∀ t∈Q.T,t.2<=600
 ends:Q.e<=600
def z5V(n:z4Q):List (Int × Nat):=
 if n.kind=7\/n.kind=8\/n.kind=20\/n.kind=21\/n.kind=22\/n.kind=25\/n.kind=26\/n.kind=28 then [(n.a,1)]
 else if n.kind=9\/n.kind=10\/n.kind=11 then [(n.a,1),(n.b,1)]
 else if n.kind=12 then (n.a,1)::n.list.map (fun x=>(x,1))
 else if n.kind=13 then [(n.a,2)]
 else if n.kind=23 then (n.a,1)::(n.b,2)::(if n.c=-1 then []else [(n.c,3)])
 else if n.kind=24 then [(n.a,1),(n.b,2)]
 else if n.kind=27 then [(n.a,2),(n.b,2)]
 else if n.kind=29 then n.list.map (fun x=>(x,4))
 else []
def z5W(r:Nat)(k:Int):Prop:=(r=1/\1<=k/\k<=13)\/(r=2/\k=29)\/(r=3/\(k=29\/k=23))\/(r=4/\20<=k/\k<=28)
def z5X(t:List z4Q)(x:Int):Int:=match t[x.toNat]? with|some n=>n.kind|none=>0
def z5Y(n:z4Q):Prop:=0<=n.pos/\n.pos<=600/\(
 (n.kind=1/\n.a=0/\n.b=0/\n.c=0/\n.list=[]/\n.names=[]/\n.num<9218868437227405312)
 \/ (n.kind=2/\n.a=0/\n.b=0/\n.c=0/\n.list=[]/\n.num=0/\∃ x,n.names=[x]/\x.size<=40/\z5T x.data.toList)
 \/ ((n.kind=3\/n.kind=4\/n.kind=5)/\n.a=0/\n.b=0/\n.c=0/\n.list=[]/\n.names=[]/\n.num=0)
 \/ (n.kind=6/\n.a=0/\n.b=0/\n.c=0/\n.list=[]/\n.num=0/\∃ x,n.names=[x]/\z5S x)
 \/ ((n.kind=7\/n.kind=8\/n.kind=22\/n.kind=25\/n.kind=26\/n.kind=28)/\n.b=0/\n.c=0/\n.list=[]/\n.names=[]/\n.num=0)
 \/ (n.kind=9/\1<=n.c/\n.c<=11/\n.list=[]/\n.names=[]/\n.num=0)
 \/ ((n.kind=10\/n.kind=11)/\n.c=0/\n.list=[]/\n.names=[]/\n.num=0)
 \/ (n.kind=12/\n.b=0/\n.c=0/\n.list.length<=6/\n.names=[]/\n.num=0)
 \/ (n.kind=13/\n.b=0/\n.c=0/\n.list=[]/\n.num=0/\n.names.length<=4/\∀ x∈n.names,z5S x)
 \/ (n.kind=20/\(n.b=0\/n.b=1)/\n.c=0/\n.list=[]/\n.num=0/\∃ x,n.names=[x]/\z5S x)
 \/ (n.kind=21/\n.b=0/\n.c=0/\n.list=[]/\n.num=0/\∃ x,n.names=[x]/\z5S x)
 \/ (n.kind=23/\n.list=[]/\n.names=[]/\n.num=0)
 \/ (n.kind=24/\n.c=0/\n.list=[]/\n.names=[]/\n.num=0)
 \/ (n.kind=27/\n.c=0/\n.list=[]/\n.num=0/\∃ x,n.names=[x]/\z5S x)
 \/ (n.kind=29/\n.a=0/\n.b=0/\n.c=0/\n.names=[]/\n.num=0))
def z5Z(t:List z4Q):List Int:=t.flatMap fun n=>(z5V n).map Prod.fst
structure Seg(t:List z4Q)(xs:List Int):Prop where
 held:∀(j:Nat) (n:z4Q),t[j]?=some n->z5Y n
 parts:∀(j:Nat) (n:z4Q),t[j]?=some n->∀ p∈z5V n,0<=p.1/\p.1<j/\z5W p.2 (z5X t p.1)
 early:∀(j:Nat) (n:z4Q),t[j]?=some n->n.kind=20->n.b=1->z5X t n.a=13
 once:∀ i:Nat,i<t.length->(z5Z t).count (i:Int)+xs.count (i:Int)=1
 roots:∀ x∈xs,0<=x/\x<t.length
theorem z60{t l:List z4Q}{x:Int}(h:0<=x)(h2:x<t.length):z5X (t++l) x=z5X t x:=by
 unfold z5X;rw[List.getElem?_append_left (by omega)]
theorem z61(t:List z4Q)(n:z4Q):z5X (t++[n]) (t.length:Int)=n.kind:=by
 unfold z5X;rw[Int.toNat_natCast,List.getElem?_append_right (yf9 _)];simp
theorem z62{t:List z4Q}{xs:List Int}(h:Seg t xs){x:Int}(hx:x∈z5Z t):0<=x/\x<t.length:=by
 unfold z5Z at hx;obtain⟨n,hn,hx⟩:=List.mem_flatMap.1 hx;obtain⟨p,hp,rfl⟩:=List.mem_map.1 hx;obtain⟨j,hj⟩:=List.mem_iff_getElem?.1 hn;have:=h.parts j n hj p hp;have hl:j<t.length:=(List.getElem?_eq_some_iff.1 hj).1;omega
theorem Seg.add{t:List z4Q}{xs ps:List Int}{n:z4Q}(h:Seg t (xs++ps))(hn:z5Y n)(hp:(z5V n).map Prod.fst=ps)
  (hk:∀ p∈z5V n,z5W p.2 (z5X t p.1)) (hl:n.kind=20->n.b=1->z5X t n.a=13):Seg (t++[n]) (xs++[(t.length:Int)]):=by
 have old:∀(j:Nat) (m:z4Q),(t++[n])[j]?=some m->t[j]?=some m\/(j=t.length/\m=n):=fun j m hj=>by
  rcases Nat.lt_or_ge j t.length with k|k
  ·rw[List.getElem?_append_left k]at hj;exact .inl hj
  ·rw[List.getElem?_append_right k]at hj;have:j-t.length=0:=by
    rcases Nat.eq_zero_or_pos (j-t.length)with e|e
    ·exact e
    ·rw[List.getElem?_eq_none (by simp;omega)]at hj
     cases hj
   rw[this]at hj;simp at hj;exact .inr ⟨by omega,hj.symm⟩
 have inp:∀ p∈z5V n,0<=p.1/\p.1<t.length:=fun p hp'=>by
  have:p.1∈xs++ps:=List.mem_append.2 (.inr (by rw[←hp];exact List.mem_map.2 ⟨p,hp',rfl⟩))
  exact h.roots _ this
 refine⟨fun j m hj=>?_,fun j m hj p hp'=>?_,fun j m hj k1 k2=>?_,fun i hi=>?_,fun x hx=>?_⟩
 ·rcases old j m hj with h'|⟨rfl,rfl⟩
  ·exact h.held j m h'
  ·exact hn
 ·rcases old j m hj with h'|⟨rfl,rfl⟩
  ·obtain⟨a,b,c⟩:=h.parts j m h' p hp';have hjl:j<t.length:=(List.getElem?_eq_some_iff.1 h').1;exact⟨a,b,by rw[z60 a (by omega)];exact c⟩
  ·obtain⟨a,b⟩:=inp p hp';exact⟨a,b,by rw[z60 a b];exact hk p hp'⟩
 ·rcases old j m hj with h'|⟨rfl,rfl⟩
  ·have hjl:j<t.length:=(List.getElem?_eq_some_iff.1 h').1;have hpm:(m.a,1)∈z5V m:=by unfold z5V;rw[if_pos (by omega)];simp
   obtain⟨a,b,c⟩:=h.parts j m h' _ hpm;rw[z60 a (by simp only at b;omega)]
   exact h.early j m h' k1 k2
  ·have hpm:(m.a,1)∈z5V m:=by unfold z5V;rw[if_pos (by omega)];simp
   obtain⟨a,b⟩:=inp _ hpm;rw[z60 a b];exact hl k1 k2
 ·have e:z5Z (t++[n])=z5Z t++ps:=by
   unfold z5Z;rw[List.flatMap_append];simp[hp]
  rw[e,List.count_append,List.count_append];rcases Nat.lt_or_ge i t.length with k|k
  ·have:=h.once i k;rw[List.count_append]at this;have z:List.count (i:Int) [(t.length:Int)]=0:=List.count_eq_zero.2 (by simp;omega)
   omega
  ·have hi':i=t.length:=by rw[List.length_append]at hi;simp at hi;omega
   subst hi';have z1:List.count (t.length:Int) (z5Z t)=0:=List.count_eq_zero.2 fun hx=>by have:=z62 h hx;omega
   have z2:List.count (t.length:Int) ps=0:=List.count_eq_zero.2 fun hx=>by have:=h.roots _ (List.mem_append.2 (.inr hx));omega
   have z3:List.count (t.length:Int) xs=0:=List.count_eq_zero.2 fun hx=>by have:=h.roots _ (List.mem_append.2 (.inl hx));omega
   rw[z1,z2,z3];simp
 ·rw[List.length_append];rcases List.mem_append.1 hx with hx|hx
  ·have:=h.roots x (List.mem_append.2 (.inl hx));simp;omega
  ·rw[List.mem_singleton]at hx;subst hx;simp;omega
theorem z63(Q:PIn)(s:PS)(x:List UInt8):(z4X Q s x).tree=s.tree:=by
 unfold z4X;split
 ·rfl
 ·exact z59 Q s
theorem z64(Q:PIn)(s:PS):(z4Z Q s).tree=s.tree:=by
 unfold z4Z;split
 ·rfl
 ·exact z59 Q s
theorem z65(Q:PIn)(s:PS):(inP Q s).tree=s.tree:=by
 unfold inP;split
 ·exact z59 Q s
 ·rfl
theorem z66(Q:PIn):∀(n:Nat) (l:List ByteArray) (s:PS),(parN Q n l s).2.tree=s.tree
 | 0,l,s=>rfl
 | n+1,l,s=>by
  rw[parN];split
  ·rw[z66 Q n,z64];have h2:∀ t:PS,(if l.length=4 then badP Q t else t).tree=t.tree:=fun t=>by
    split
    ·exact z59 Q t
    ·rfl
   rw[h2];split
   ·exact z63 Q s _
   ·rfl
  ·rfl
theorem z67(Q:PIn)(s:PS):(z52 Q s).tree=s.tree:=by unfold z52;rw[z63,z66,z63]
theorem z68{Q:PIn}(h:z5U Q)(s:PS):z4T Q s<=600:=by
 unfold z4T;split
 ·rename_i t ht
  have:=h.place t (List.mem_iff_getElem?.2 ⟨_,ht⟩);omega
 ·have:=h.ends;omega
theorem z69{Q:PIn}{s:PS}{k:Int}(h:z4U Q s k=true):∃ t,Q.T[s.i]?=some t/\t.1.kind=k/\tokP Q s=t.1:=by
 have hl:=(z5c h).2;unfold z4U at h;unfold tokP;rw[yd9 hl]at h ⊢;simp only[Bool.and_eq_true,decide_eq_true_eq]at h;exact⟨_,rfl,h.2,rfl⟩
theorem z6a(l:List UInt8):(txt l).data.toList=l:=by unfold txt;simp
theorem z6b{Q:PIn}(hQ:z5U Q){s:PS}(h:z4U Q s 1=true):z5S (txt (tokP Q s).text):=by
 obtain⟨t,ht,hk,e⟩:=z69 h;unfold z5S;rw[e,z6a];exact hQ.name t (List.mem_iff_getElem?.2 ⟨_,ht⟩) hk
theorem z6c{Q:PIn}(hQ:z5U Q){s:PS}(h:(z4Z Q s).fault<0):z5S (z4Y Q s):=by
 have k:=(z5j h).1;unfold z4Y;rw[if_pos k];exact z6b hQ k
theorem z6d{Q:PIn}(hQ:z5U Q):∀(n:Nat) (l:List ByteArray) (s:PS),l.length<=4->(∀ x∈l,z5S x)->(parN Q n l s).1.length<=4/\∀ x∈(parN Q n l s).1,z5S x
 | 0,l,s,h1,h2=>⟨h1,h2⟩
 | n+1,l,s,h1,h2=>by
  rw[parN];split
  ·simp only;have h4:l.length=4->0<=(if l.length=4 then badP Q (if 0<l.length then z4X Q s [44]else s)else (if 0<l.length then z4X Q s [44]else s)).fault:=fun e=>by
    rw[if_pos e];exact z56 Q _
   generalize (if l.length=4 then badP Q (if 0<l.length then z4X Q s [44]else s)else (if 0<l.length then z4X Q s [44]else s))=s2 at h4 ⊢
   by_cases hf:(z4Z Q s2).fault<0
   ·rw[if_pos hf];have k:=(z5c (z5j hf).1).1;refine z6d hQ n _ _ ?_ ?_
    ·rw[List.length_append,List.length_singleton];by_cases e:l.length=4
     ·have:=h4 e;omega
     ·omega
    ·intro x hx;rcases List.mem_append.1 hx with hx|hx
     ·exact h2 x hx
     ·rw[List.mem_singleton]at hx;subst hx;exact z6c hQ hf
   ·rw[if_neg hf];exact z6d hQ n _ _ h1 h2
  ·exact⟨h1,h2⟩
theorem z6e{Q:PIn}(hQ:z5U Q)(s:PS):(z51 Q s).length<=4/\∀ x∈z51 Q s,z5S x:=z6d hQ _ _ _ (by simp) (by simp)
theorem z6f{k:Nat}{x:List UInt8}(h:x∈z50 k)(hk:k≠0)(hk1:k≠1):1<=opN x/\opN x<=11:=by
 have:x∈opsL:=by
  match k,hk,hk1 with
  | 2,_,_=>simp only[z50,List.mem_cons,List.not_mem_nil,or_false]at h;rcases h with rfl|rfl<;>decide
  | 3,_,_=>simp only[z50,List.mem_cons,List.not_mem_nil,or_false]at h;rcases h with rfl|rfl|rfl|rfl<;>decide
  | 4,_,_=>simp only[z50,List.mem_cons,List.not_mem_nil,or_false]at h;rcases h with rfl|rfl<;>decide
  | k+5,_,_=>simp only[z50,List.mem_cons,List.not_mem_nil,or_false]at h;rcases h with rfl|rfl|rfl<;>decide
 simp only[opsL,List.mem_cons,List.not_mem_nil,or_false]at this;rcases this with rfl|rfl|rfl|rfl|rfl|rfl|rfl|rfl|rfl|rfl|rfl<;>decide
theorem z6g{k:Nat}{x:List UInt8}(h:x∈z50 k)(hk:k=0\/k=1):opN x=0:=by
 rcases hk with rfl|rfl<;>simp only[z50,List.mem_cons,List.not_mem_nil,or_false]at h<;>subst h<;>decide
def inL:Cmd->List Int
 | (Sum.inr (Sum.inl l))=>l
 | (Sum.inr (Sum.inr (Sum.inl l)))=>l
 | (Sum.inr (Sum.inr (Sum.inr (Sum.inr (Sum.inr (Sum.inr (Sum.inl x)))))))=>[x]
 | (Sum.inr (Sum.inr (Sum.inr (Sum.inr (Sum.inr (Sum.inr (Sum.inr (Sum.inl l))))))))=>l
 | (Sum.inr (Sum.inr (Sum.inr (Sum.inr (Sum.inr (Sum.inr (Sum.inr (Sum.inr (Sum.inr (Sum.inr (Sum.inl (_,x))))))))))))=>[x]
 | _=>[]
def outL:Cmd->Int × List Int × PS->List Int
 | (Sum.inr (Sum.inl _)),r=>r.2.1
 | (Sum.inr (Sum.inr (Sum.inl _))),r=>r.2.1
 | (Sum.inr (Sum.inr (Sum.inr (Sum.inr (Sum.inr (Sum.inr (Sum.inr (Sum.inl _)))))))),r=>r.2.1
 | _,r=>[r.1]
def z6h:Cmd->Int->Prop
 | (Sum.inl ()),k=>k=29
 | (Sum.inr (Sum.inl _)),k=>20<=k/\k<=28
 | (Sum.inr (Sum.inr (Sum.inl _))),k=>20<=k/\k<=28
 | (Sum.inr (Sum.inr (Sum.inr (Sum.inl _)))),k=>k=13
 | (Sum.inr (Sum.inr (Sum.inr (Sum.inr (Sum.inr (Sum.inr (Sum.inr (Sum.inr (Sum.inr (Sum.inr (Sum.inr (Sum.inl (q,_))))))))))))),k=>k=q
 | (Sum.inr (Sum.inr (Sum.inr (Sum.inr (Sum.inr (Sum.inr (Sum.inr (Sum.inr (Sum.inr (Sum.inr (Sum.inr (Sum.inr (Sum.inl ()))))))))))))),k=>20<=k/\k<=28
 | (Sum.inr (Sum.inr (Sum.inr (Sum.inr (Sum.inr (Sum.inr (Sum.inr (Sum.inr (Sum.inr (Sum.inr (Sum.inr (Sum.inr (Sum.inr (Sum.inl _)))))))))))))),k=>20<=k/\k<=28
 | (Sum.inr (Sum.inr (Sum.inr (Sum.inr (Sum.inr (Sum.inr (Sum.inr (Sum.inr (Sum.inr (Sum.inr (Sum.inr (Sum.inr (Sum.inr (Sum.inr _)))))))))))))),k=>k=23
 | _,k=>1<=k/\k<=13
def z6i:Cmd->Prop
 | (Sum.inr (Sum.inr (Sum.inr (Sum.inr (Sum.inr (Sum.inr (Sum.inr (Sum.inr (Sum.inr (Sum.inr (Sum.inr (Sum.inl (k,_)))))))))))))=>k=22\/k=25\/k=26\/k=28
 | (Sum.inr (Sum.inr (Sum.inr (Sum.inr (Sum.inr (Sum.inr (Sum.inr (Sum.inl l))))))))=>l.length<=6
 | _=>True
def z6j:Cmd->Prop
 | (Sum.inr (Sum.inr (Sum.inr (Sum.inl p))))=>0<=p/\p<=600
 | (Sum.inr (Sum.inr (Sum.inr (Sum.inr (Sum.inr (Sum.inr (Sum.inr (Sum.inr (Sum.inr (Sum.inr (Sum.inr (Sum.inl (_,p)))))))))))))=>0<=p/\p<=600
 | (Sum.inr (Sum.inr (Sum.inr (Sum.inr (Sum.inr (Sum.inr (Sum.inr (Sum.inr (Sum.inr (Sum.inr (Sum.inr (Sum.inr (Sum.inr (Sum.inl p))))))))))))))=>0<=p/\p<=600
 | (Sum.inr (Sum.inr (Sum.inr (Sum.inr (Sum.inr (Sum.inr (Sum.inr (Sum.inr (Sum.inr (Sum.inr (Sum.inr (Sum.inr (Sum.inr (Sum.inr p))))))))))))))=>0<=p/\p<=600
 | _=>True
structure Out(c:Cmd)(xs:List Int)(r:Int × List Int × PS):Prop where
 seg:Seg r.2.2.tree (xs++outL c r)
 kind:∀ x∈outL c r,z6h c (z5X r.2.2.tree x)
 few:∀ l,c=.args l->r.2.1.length<=6
theorem z6k{c:Cmd}{xs ps:List Int}{s:PS}{n:z4Q}(h:Seg s.tree (xs++ps))(hn:z5Y n)(hp:(z5V n).map Prod.fst=ps)
  (hk:∀ p∈z5V n,z5W p.2 (z5X s.tree p.1)) (hl:n.kind=20->n.b=1->z5X s.tree n.a=13) (ho:outL c (endN s n)=[(s.tree.length:Int)]) (hkc:z6h c n.kind) (hc:∀ l,c≠.args l):Out c xs (endN s n):=by
 refine⟨?_,fun x hx=>?_,fun l e=>absurd e (hc l)⟩
 ·rw[ho];exact h.add hn hp hk hl
 ·rw[ho,List.mem_singleton]at hx;subst hx;show z6h c (z5X (s.tree++[n]) _);rw[z61];exact hkc
def wt(Q:PIn)(s:PS):Nat:=s.tree.length+10*z5M Q s
theorem z6l{Q:PIn}{s s':PS}(h:Le Q s s')(ht:s'.tree=s.tree):wt Q s'<=wt Q s:=by
 have:=z5N h;unfold wt;rw[ht];omega
theorem z6m{Q:PIn}{s s':PS}{k:Int}{m:Nat}(h:Le Q s s')(g:On k m s s')(hm:1<=m)(hi:s.i<=Q.T.length)(hf:s.fault<0)(ht:s'.tree=s.tree):wt Q s'+10<=wt Q s:=by
 have:=z5O h g hm hi hf;unfold wt;rw[ht];omega
theorem z6n(Q:PIn)(s:PS)(n:z4Q):wt Q (addP s n)=wt Q s+1:=by
 have e:z5M Q (addP s n)=z5M Q s:=rfl;unfold wt;rw[e];show(s.tree++[n]).length+_=_;rw[List.length_append,List.length_singleton];omega
theorem z6o(Q:PIn)(s:PS)(n:z4Q):wt Q (endN s n).2.2=wt Q s+1:=z6n Q s n
theorem z6p(Q:PIn)(s:PS):wt Q (outP s)=wt Q s:=rfl
theorem z6q(Q:PIn)(s:PS):wt Q (inP Q s)<=wt Q s:=z6l (z5n Q s) (z65 Q s)
theorem z6r{Q:PIn}{s:PS}(hi:s.i<=Q.T.length)(hf:s.fault<0)(h:¬ (inP Q s).fault<0):wt Q (inP Q s)+10<=wt Q s:=
 z6m (k:=0) (m:=1) (z5n Q s) (fun f=>absurd f h) (yf9 _) hi hf (z65 Q s)
theorem z6s(Q:PIn)(s:PS)(x:List UInt8):wt Q (z4X Q s x)<=wt Q s:=z6l (z5e Q s x) (z63 Q s x)
theorem z6t{Q:PIn}{s:PS}(x:List UInt8)(hi:s.i<=Q.T.length)(hf:s.fault<0):wt Q (z4X Q s x)+10<=wt Q s:=z6m (z5e Q s x) (z5B Q s x) (yf9 _) hi hf (z63 Q s x)
theorem z6u(Q:PIn)(s:PS):wt Q (z4Z Q s)<=wt Q s:=z6l (z5h Q s) (z64 Q s)
theorem z6v{Q:PIn}{s:PS}(hi:s.i<=Q.T.length)(hf:s.fault<0):wt Q (z4Z Q s)+10<=wt Q s:=z6m (z5h Q s) (z5C Q s) (yf9 _) hi hf (z64 Q s)
theorem z6w(Q:PIn)(s:PS):wt Q (badP Q s)<=wt Q s:=z6l (z5a Q s) (z59 Q s)
theorem z6x{Q:PIn}{s:PS}(hi:s.i<=Q.T.length)(hf:s.fault<0):wt Q (badP Q s)+10<=wt Q s:=z6m (k:=1) (m:=1) (z5a Q s) (z5A Q s s _ _) (yf9 _) hi hf (z59 Q s)
theorem z6y{Q:PIn}{s:PS}(h:s.fault<0/\s.i<Q.T.length):wt Q (z4W s)+10<=wt Q s:=z6m (z5d h) (z5z h.1) (yf9 _) (by omega) h.1 rfl
theorem z6z(Q:PIn)(s:PS):wt Q (z52 Q s)<=wt Q s:=z6l (z5t Q s) (z67 Q s)
theorem z6A{Q:PIn}{s:PS}(hi:s.i<=Q.T.length)(hf:s.fault<0):wt Q (z52 Q s)+10<=wt Q s:=z6m (z5t Q s) (z5K Q s) (by decide) hi hf (z67 Q s)
theorem z6B(Q:PIn)(s:PS):wt Q { s with fault:=max s.fault 0 }<=wt Q s:=z6l (z5q Q s) rfl
theorem z6C{Q:PIn}{s:PS}(hi:s.i<=Q.T.length)(hf:s.fault<0):wt Q { s with fault:=max s.fault 0 }+10<=wt Q s:=z6m (k:=1) (m:=1) (z5q Q s) (z5H s _ _) (yf9 _) hi hf rfl
def z6D:Cmd->Nat
 | (Sum.inl ())=>9
 | (Sum.inr (Sum.inr (Sum.inr (Sum.inl _))))=>8
 | (Sum.inr (Sum.inr (Sum.inr (Sum.inr (Sum.inl ())))))=>9
 | (Sum.inr (Sum.inr (Sum.inr (Sum.inr (Sum.inr (Sum.inl ()))))))=>9
 | (Sum.inr (Sum.inr (Sum.inr (Sum.inr (Sum.inr (Sum.inr (Sum.inr (Sum.inr (Sum.inl ())))))))))=>9
 | (Sum.inr (Sum.inr (Sum.inr (Sum.inr (Sum.inr (Sum.inr (Sum.inr (Sum.inr (Sum.inr (Sum.inl _))))))))))=>9
 | (Sum.inr (Sum.inr (Sum.inr (Sum.inr (Sum.inr (Sum.inr (Sum.inr (Sum.inr (Sum.inr (Sum.inr (Sum.inr (Sum.inl (_,_)))))))))))))=>8
 | (Sum.inr (Sum.inr (Sum.inr (Sum.inr (Sum.inr (Sum.inr (Sum.inr (Sum.inr (Sum.inr (Sum.inr (Sum.inr (Sum.inr (Sum.inl ())))))))))))))=>7
 | (Sum.inr (Sum.inr (Sum.inr (Sum.inr (Sum.inr (Sum.inr (Sum.inr (Sum.inr (Sum.inr (Sum.inr (Sum.inr (Sum.inr (Sum.inr (Sum.inl _))))))))))))))=>7
 | (Sum.inr (Sum.inr (Sum.inr (Sum.inr (Sum.inr (Sum.inr (Sum.inr (Sum.inr (Sum.inr (Sum.inr (Sum.inr (Sum.inr (Sum.inr (Sum.inr _))))))))))))))=>7
 | _=>0
def z6E:Cmd->Nat
 | (Sum.inl ())=>1
 | (Sum.inr (Sum.inr (Sum.inr (Sum.inl _))))=>2
 | (Sum.inr (Sum.inr (Sum.inr (Sum.inr (Sum.inr (Sum.inr (Sum.inr (Sum.inr (Sum.inr (Sum.inr (Sum.inr (Sum.inl (_,_)))))))))))))=>1
 | (Sum.inr (Sum.inr (Sum.inr (Sum.inr (Sum.inr (Sum.inr (Sum.inr (Sum.inr (Sum.inr (Sum.inr (Sum.inr (Sum.inr (Sum.inr (Sum.inl _))))))))))))))=>1
 | _=>0
structure WtOk(Q:PIn)(c:Cmd)(s s':PS):Prop where
 on:s.fault<0->wt Q s'+z6D c<=wt Q s
 all:wt Q s'<=wt Q s+z6E c
theorem z6F(Q:PIn):∀(n:Nat) (c:Cmd) (s:PS),(∀ p,c=.cond p->isP Q s [105,102]=true)->s.i<=Q.T.length->WtOk Q c s (run Q n c s).2.2
 | 0,c,s,_,hi=>by
  have h1:=z6B Q s;have h2:=fun hf=>z6C (Q:=Q) (s:=s) hi hf;have e:(run Q 0 c s).2.2={ s with fault:=max s.fault 0 }:=by cases c using z53<;>rfl
  rw[e];refine⟨fun hf=>?_,by omega⟩
  have:=h2 hf;have:z6D c<=9:=by cases c using z53<;>simp[z6D]
  omega
 | n+1,c,s,hc,hi=>by
  have ih:=z6F Q n;have le:=z5x Q n;have nc:∀ c':Cmd,(∀ p,c'≠.cond p)->∀ s,(∀ p,c'=.cond p->isP Q s [105,102]=true):=fun c' h s p e=>absurd e (h p);cases c using z53 with
  | block=>
   have w1:=z6q Q s;have w2:=z6s Q (inP Q s) [123];have l1:=(z5n Q s).most hi;have l2:=(z5e Q (inP Q s) [123]).most l1;have w3:=ih (.stmts []) (z4X Q (inP Q s) [123]) (by intro p e;cases e) l2
   have w4:=z6s Q (run Q n (.stmts []) (z4X Q (inP Q s) [123])).2.2 [125];have a3:=w3.all;simp only[z6E]at a3;rw[run];split
   ·rename_i hin
    have w5:=z6t (Q:=Q) (s:=inP Q s) [123] l1 hin;exact⟨fun hf=>by simp only[z6D,z6o,z6p];omega,by simp only[z6E,z6o,z6p];omega⟩
   ·rename_i hin
    refine⟨fun hf=>?_,by simp only[z6E,z6o,z6p];omega⟩
    have:=z6r hi hf hin;simp only[z6D,z6o,z6p];omega
  | stmts l=>
   rw[run];split
   ·have w1:=ih .stmt s (by intro p e;cases e) hi
    have w2:=ih (.stmts (l++[(run Q n .stmt s).1])) (run Q n .stmt s).2.2 (by intro p e;cases e) ((le .stmt s (by intro p e;cases e)).most hi)
    have a1:=w1.all;have a2:=w2.all;simp only[z6E]at a1 a2;exact⟨fun hf=>by simp only[z6D];omega,by simp only[z6E];omega⟩
   ·exact⟨fun hf=>by simp only[z6D];omega,by simp only[z6E];omega⟩
  | top l=>
   rw[run];split
   ·have w1:=ih .stmt s (by intro p e;cases e) hi
    have w2:=ih (.top (l++[(run Q n .stmt s).1])) (run Q n .stmt s).2.2 (by intro p e;cases e) ((le .stmt s (by intro p e;cases e)).most hi)
    have a1:=w1.all;have a2:=w2.all;simp only[z6E]at a1 a2;exact⟨fun hf=>by simp only[z6D];omega,by simp only[z6E];omega⟩
   ·exact⟨fun hf=>by simp only[z6D];omega,by simp only[z6E];omega⟩
  | fn p=>
   have w1:=z6z Q s;have w2:=(ih .block (z52 Q s) (by intro p e;cases e) ((z5t Q s).most hi)).all
   simp only[z6E]at w2;rw[run];refine⟨fun hf=>?_,by simp only[z6E,z6o];omega⟩
   have:=z6A hi hf;simp only[z6D,z6o];omega
  | first=>
   have node:∀(m:z4Q),(s.fault<0/\s.i<Q.T.length)->WtOk Q .first s (endN (z4W s) m).2.2:=fun m h=>by
    have:=z6y h;exact⟨fun _=>by simp only[z6D,z6o];omega,by simp only[z6E,z6o];omega⟩
   have bad:¬ (inP Q s).fault<0->WtOk Q .first s (outP (inP Q s)):=fun h=>by
    have:=z6q Q s;refine⟨fun hf=>?_,by simp only[z6E,z6p];omega⟩
    have:=z6r hi hf h;simp only[z6D,z6p];omega
   have l1:=(z5n Q s).most hi;have w1:=z6q Q s;rw[run];split
   ·exact node _ (z5b ‹_›)
   split
   ·exact node _ (z5b ‹_›)
   split
   ·exact node _ (z5b ‹_›)
   split
   ·rename_i h
    exact node _ (z5c h.1)
   split
   ·rename_i h
    exact node _ (z5c h.1)
   split
   ·exact node _ (z5c ‹_›)
   split
   ·rename_i h
    split
    ·rename_i hin
     have hs:(inP Q s).fault<0/\(inP Q s).i<Q.T.length:=⟨hin,by rw[z5l];exact(z5b h).2⟩
     have w2:=z6y hs;have w3:=(ih (.level 0) (z4W (inP Q s)) (by intro p e;cases e) ((z5d hs).most l1)).all
     have w4:=z6s Q (run Q n (.level 0) (z4W (inP Q s))).2.2 [41];simp only[z6E]at w3;exact⟨fun hf=>by simp only[z6D,z6p];omega,by simp only[z6E,z6p];omega⟩
    ·exact bad ‹_›
   split
   ·rename_i h
    split
    ·rename_i hin
     have hs:(inP Q s).fault<0/\(inP Q s).i<Q.T.length:=⟨hin,by rw[z5l];exact(z5b h).2⟩
     have w2:=z6y hs;have w3:=(ih (.fn (z4T Q s)) (z4W (inP Q s)) (by intro p e;cases e) ((z5d hs).most l1))
     have a3:=w3.all;simp only[z6E]at a3;refine⟨fun hf=>?_,by simp only[z6E,z6p];omega⟩
     have:wt Q (run Q n (.fn (z4T Q s)) (z4W (inP Q s))).2.2<=wt Q (z4W (inP Q s)):=by
      have:=w3.on hin;omega
     simp only[z6D,z6p];omega
    ·exact bad ‹_›
   ·have w2:=z6w Q s;refine⟨fun hf=>?_,by simp only[z6E];omega⟩
    have:=z6x hi hf;simp only[z6D];omega
  | call=>
   have w1:=ih .first s (by intro p e;cases e) hi
   have w2:=(ih (.calls (run Q n .first s).1) (run Q n .first s).2.2 (by intro p e;cases e) ((le .first s (by intro p e;cases e)).most hi)).all
   have a1:=w1.all;simp only[z6E]at a1 w2;rw[run];refine⟨fun hf=>?_,by simp only[z6E];omega⟩
   have:=w1.on hf;simp only[z6D]at this ⊢;omega
  | calls x=>
   rw[run];split
   ·rename_i h
    have hs:=z5b h;have w1:=z6y hs;have l1:=(z5d hs).most hi;have w2:=(ih (.args []) (z4W s) (by intro p e;cases e) l1).all
    have l2:=(le (.args []) (z4W s) (by intro p e;cases e)).most l1
    have w3:=z6s Q (run Q n (.args []) (z4W s)).2.2 [41];have l3:=(z5e Q (run Q n (.args []) (z4W s)).2.2 [41]).most l2;have w4:=(ih (.calls (z4X Q (run Q n (.args []) (z4W s)).2.2 [41]).tree.length) (addP (z4X Q (run Q n (.args []) (z4W s)).2.2 [41]) ⟨12,x,0,0,(run Q n (.args []) (z4W s)).2.1,[],0,z4T Q s⟩) (by intro p e;cases e) l3).all
    simp only[z6E,z6n]at w2 w4;exact⟨fun hf=>by simp only[z6D];omega,by simp only[z6E];omega⟩
   ·exact⟨fun hf=>by simp only[z6D];omega,by simp only[z6E];omega⟩
  | args l=>
   rw[run];split
   ·have h1:Le Q s (if 0<l.length then z4X Q s [44]else s)/\wt Q (if 0<l.length then z4X Q s [44]else s)<=wt Q s:=by
     split
     ·exact⟨z5e Q s _,z6s Q s _⟩
     ·exact⟨Le.refl Q s,yf9 _⟩
    have h2:∀ t,Le Q t (if l.length=6 then badP Q t else t)/\wt Q (if l.length=6 then badP Q t else t)<=wt Q t:=fun t=>by
     split
     ·exact⟨z5a Q t,z6w Q t⟩
     ·exact⟨Le.refl Q t,yf9 _⟩
    have h3:=h2 (if 0<l.length then z4X Q s [44]else s)
    simp only;generalize (if l.length=6 then badP Q (if 0<l.length then z4X Q s [44]else s)else (if 0<l.length then z4X Q s [44]else s))=s2 at h3 ⊢
    have l2:=h3.1.most (h1.1.most hi);have w3:=(ih (.level 0) s2 (by intro p e;cases e) l2).all
    have w4:=(ih (.args (l++[(run Q n (.level 0) s2).1])) (run Q n (.level 0) s2).2.2 (by intro p e;cases e) ((le (.level 0) s2 (by intro p e;cases e)).most l2)).all
    simp only[z6E]at w3 w4;have h4:=h1.2;have h5:=h3.2;exact⟨fun hf=>by simp only[z6D];omega,by simp only[z6E];omega⟩
   ·exact⟨fun hf=>by simp only[z6D];omega,by simp only[z6E];omega⟩
  | signed=>
   rw[run];split
   ·rename_i h
    have hh:s.fault<0/\s.i<Q.T.length:=by rcases h with h|h<;>exact z5b h
    have l1:=(z5n Q s).most hi;have w1:=z6q Q s;split
    ·rename_i hin
     have hs:(inP Q s).fault<0/\(inP Q s).i<Q.T.length:=⟨hin,by rw[z5l];exact hh.2⟩
     have w2:=z6y hs;have w3:=(ih .signed (z4W (inP Q s)) (by intro p e;cases e) ((z5d hs).most l1)).all
     simp only[z6E]at w3;exact⟨fun hf=>by simp only[z6D,z6o,z6p];omega,by simp only[z6E,z6o,z6p];omega⟩
    ·rename_i hin
     have:=z6r hi hh.1 hin;exact⟨fun hf=>by simp only[z6D,z6o,z6p];omega,by simp only[z6E,z6o,z6p];omega⟩
   ·exact⟨(ih .call s (by intro p e;cases e) hi).on,(ih .call s (by intro p e;cases e) hi).all⟩
  | level k=>
   rw[run];split
   ·exact⟨(ih .signed s (by intro p e;cases e) hi).on,(ih .signed s (by intro p e;cases e) hi).all⟩
   ·have w1:=ih (.level (k+1)) s (by intro p e;cases e) hi
    have w2:=(ih (.more k (run Q n (.level (k+1)) s).1) (run Q n (.level (k+1)) s).2.2 (by intro p e;cases e) ((le (.level (k+1)) s (by intro p e;cases e)).most hi)).all
    have a1:=w1.all;simp only[z6E]at a1 w2;refine⟨fun hf=>?_,by simp only[z6E];omega⟩
    have:=w1.on hf;simp only[z6D]at this ⊢;omega
  | more k x=>
   rw[run];split
   ·rename_i h
    have hs:=z5c h.1;have w1:=z6y hs;have l1:=(z5d hs).most hi;have w2:=(ih (.level (k+1)) (z4W s) (by intro p e;cases e) l1).all
    have l2:=(le (.level (k+1)) (z4W s) (by intro p e;cases e)).most l1
    have w4:=(ih (.more k (run Q n (.level (k+1)) (z4W s)).2.2.tree.length) (addP (run Q n (.level (k+1)) (z4W s)).2.2 ⟨if k=0 then 11 else if k=1 then 10 else 9,x,(run Q n (.level (k+1)) (z4W s)).1,opN (tokP Q s).text,[],[],0,z4T Q s⟩) (by intro p e;cases e) l2).all
    simp only[z6E,z6n]at w2 w4;exact⟨fun hf=>by simp only[z6D];omega,by simp only[z6E];omega⟩
   ·exact⟨fun hf=>by simp only[z6D];omega,by simp only[z6E];omega⟩
  | plain k p=>
   have w1:=ih (.level 0) s (by intro p e;cases e) hi
   have w2:=z6s Q (run Q n (.level 0) s).2.2 [59];have a1:=w1.all;simp only[z6E]at a1;rw[run];refine⟨fun hf=>?_,by simp only[z6E,z6o];omega⟩
   have:=w1.on hf;simp only[z6D,z6o]at this ⊢;omega
  | stmt=>
   have w1:=z6q Q s;have l1:=(z5n Q s).most hi;rw[run];split
   ·rename_i hin
    have w2:=ih (.inner (z4T Q (inP Q s))) (inP Q s) (by intro p e;cases e) l1
    have:=w2.on hin;simp only[z6D]at this;exact⟨fun hf=>by simp only[z6D,z6p];omega,by simp only[z6E,z6p];omega⟩
   ·rename_i hin
    refine⟨fun hf=>?_,by simp only[z6E,z6p];omega⟩
    have:=z6r hi hf hin;simp only[z6D,z6p];omega
  | inner p=>
   have word:∀ k,(s.fault<0/\s.i<Q.T.length)->WtOk Q (.inner p) s (run Q n (.plain k p) (z4W s)).2.2:=fun k h=>by
    have w1:=z6y h;have w2:=(ih (.plain k p) (z4W s) (by intro p e;cases e) ((z5d h).most hi)).all
    simp only[z6E]at w2;exact⟨fun _=>by simp only[z6D];omega,by simp only[z6E];omega⟩
   have told:∀(t:PS) (k:Int) (m:ByteArray),Le Q s t->wt Q t+10<=wt Q s->WtOk Q (.inner p) s (endN (z4X Q (run Q n (.level 0) t).2.2 [59]) ⟨k,(run Q n (.level 0) t).1,0,0,[],[m],0,p⟩).2.2:=fun t k m h1 h2=>by
    have w2:=(ih (.level 0) t (by intro p e;cases e) (h1.most hi)).all
    have w3:=z6s Q (run Q n (.level 0) t).2.2 [59];simp only[z6E]at w2;exact⟨fun _=>by simp only[z6D,z6o];omega,by simp only[z6E,z6o];omega⟩
   rw[run];split
   ·exact word _ (z5b ‹_›)
   split
   ·exact word _ (z5b ‹_›)
   split
   ·exact word _ (z5b ‹_›)
   split
   ·rename_i h
    have hs:=z5b h;have w1:=z6y hs;have w2:=z6u Q (z4W s);have w3:=z6s Q (z4Z Q (z4W s)) [61];exact told _ _ _ (((z5d hs).trans (z5h Q _)).trans (z5e Q _ _)) (by omega)
   split
   ·rename_i h
    have hs:=z5c h.1;have w2:=z6v (Q:=Q) (s:=s) hi hs.1;have w3:=z6s Q (z4Z Q s) [61];exact told _ _ _ ((z5h Q _).trans (z5e Q _ _)) (by omega)
   split
   ·rename_i h
    have w:=ih (.cond p) s (by intro p' e;exact h) hi
    have a:=w.all;simp only[z6E]at a;exact⟨fun hf=>w.on hf,by simp only[z6E];omega⟩
   split
   ·rename_i h
    have hs:=z5b h;have w1:=z6y hs;have w2:=z6s Q (z4W s) [40];have l2:=((z5d hs).trans (z5e Q _ [40])).most hi;have w3:=(ih (.level 0) (z4X Q (z4W s) [40]) (by intro p e;cases e) l2).all
    have l3:=(le (.level 0) (z4X Q (z4W s) [40]) (by intro p e;cases e)).most l2
    have w4:=z6s Q (run Q n (.level 0) (z4X Q (z4W s) [40])).2.2 [41];have l4:=(z5e Q (run Q n (.level 0) (z4X Q (z4W s) [40])).2.2 [41]).most l3;have w5:=(ih .block (z4X Q (run Q n (.level 0) (z4X Q (z4W s) [40])).2.2 [41]) (by intro p e;cases e) l4).all
    simp only[z6E]at w3 w5;exact⟨fun _=>by simp only[z6D,z6o];omega,by simp only[z6E,z6o];omega⟩
   split
   ·rename_i h
    have hs:=z5b h;have w1:=z6y hs;have l1:=(z5d hs).most hi;have w2:=(ih .block (z4W s) (by intro p e;cases e) l1).all
    have l2:=(le .block (z4W s) (by intro p e;cases e)).most l1
    have w3:=z6s Q (run Q n .block (z4W s)).2.2 [99,97,116,99,104];have w4:=z6u Q (z4X Q (run Q n .block (z4W s)).2.2 [99,97,116,99,104]);have l4:=((z5e Q (run Q n .block (z4W s)).2.2 [99,97,116,99,104]).trans (z5h Q _)).most l2;have w5:=(ih .block (z4Z Q (z4X Q (run Q n .block (z4W s)).2.2 [99,97,116,99,104])) (by intro p e;cases e) l4).all
    simp only[z6E]at w2 w5;exact⟨fun _=>by simp only[z6D,z6o];omega,by simp only[z6E,z6o];omega⟩
   split
   ·rename_i h
    have hs:=z5b h.1;have w1:=z6y hs;have w2:=z6u Q (z4W s);have w3:=(ih (.fn p) (z4Z Q (z4W s)) (by intro p e;cases e) (((z5d hs).trans (z5h Q _)).most hi)).all
    simp only[z6E]at w3;exact⟨fun _=>by simp only[z6D,z6o];omega,by simp only[z6E,z6o];omega⟩
   ·have w:=ih (.plain 28 p) s (by intro p e;cases e) hi
    have a:=w.all;simp only[z6E]at a;refine⟨fun hf=>?_,by simp only[z6E];omega⟩
    have:=w.on hf;simp only[z6D]at this ⊢;omega
  | cond p=>
   have hs:=z5b (hc p rfl);have w1:=z6y hs;have w2:=z6s Q (z4W s) [40];have l2:=((z5d hs).trans (z5e Q _ [40])).most hi;have w3:=(ih (.level 0) (z4X Q (z4W s) [40]) (by intro p e;cases e) l2).all
   have l3:=(le (.level 0) (z4X Q (z4W s) [40]) (by intro p e;cases e)).most l2
   have w4:=z6s Q (run Q n (.level 0) (z4X Q (z4W s) [40])).2.2 [41];have l4:=(z5e Q (run Q n (.level 0) (z4X Q (z4W s) [40])).2.2 [41]).most l3;have w5:=(ih .block (z4X Q (run Q n (.level 0) (z4X Q (z4W s) [40])).2.2 [41]) (by intro p e;cases e) l4).all
   have l5:=(le .block (z4X Q (run Q n (.level 0) (z4X Q (z4W s) [40])).2.2 [41]) (by intro p e;cases e)).most l4
   simp only[z6E]at w3 w5;rw[run];simp only;generalize (run Q n .block (z4X Q (run Q n (.level 0) (z4X Q (z4W s) [40])).2.2 [41]))=B at w5 l5 ⊢;split
   ·rename_i h
    have hb:=z5b h;have w6:=z6y hb;have l6:=(z5d hb).most l5;have w7:wt Q (if isP Q (z4W B.2.2) [105,102]=true then run Q n .stmt (z4W B.2.2)else run Q n .block (z4W B.2.2)).2.2<=wt Q (z4W B.2.2)+1:=by
     split
     ·have:=(ih .stmt (z4W B.2.2) (by intro p e;cases e) l6).all
      simp only[z6E]at this;omega
     ·have:=(ih .block (z4W B.2.2) (by intro p e;cases e) l6).all
      simp only[z6E]at this;omega
    exact⟨fun _=>by simp only[z6D,z6o];omega,by simp only[z6E,z6o];omega⟩
   ·exact⟨fun _=>by simp only[z6D,z6o];omega,by simp only[z6E,z6o];omega⟩
def LO(s:PS):Prop:=∀ p,p∈s.tree->p.list.length<=10000/\p.names.length<=10000
theorem LO.same{s t:PS}(h:LO s)(e:t.tree=s.tree):LO t:=fun p hp=>h p (by rw[←e];exact hp)
theorem LO.add{s:PS}{n:z4Q}(h:LO s)(h1:n.list.length<=10000)(h2:n.names.length<=10000):LO (addP s n):=fun p hp=>by
 have hp':p∈s.tree++[n]:=hp;rcases List.mem_append.1 hp' with k|k
 ·exact h p k
 ·have e:p=n:=by simpa using k
  subst e;exact⟨h1,h2⟩
theorem LO.take{s:PS}(h:LO s)(Q:PIn)(x:List UInt8):LO (z4X Q s x):=h.same (z63 Q s x)
theorem LO.name{s:PS}(h:LO s)(Q:PIn):LO (z4Z Q s):=h.same (z64 Q s)
theorem LO.bad{s:PS}(h:LO s)(Q:PIn):LO (badP Q s):=h.same (z59 Q s)
theorem LO.inn{s:PS}(h:LO s)(Q:PIn):LO (inP Q s):=h.same (z65 Q s)
theorem LO.params{s:PS}(h:LO s)(Q:PIn):LO (z52 Q s):=h.same (z67 Q s)
theorem LO.out{s:PS}(h:LO s):LO (outP s):=h
theorem LO.step{s:PS}(h:LO s):LO (z4W s):=h
theorem LO.end{s:PS}{n:z4Q}(h:LO s)(h1:n.list.length<=10000)(h2:n.names.length<=10000)(m:Nat):LO (endN s n).2.2/\(endN s n).2.1.length<=m:=⟨h.add h1 h2,yj9 _⟩
theorem z6G{c:Prop}[Decidable c](l:List ByteArray)(x:ByteArray):(if c then l++[x]else l).length<=l.length+1:=by
 split
 ·simp
 ·omega
theorem z6H(Q:PIn):∀(n:Nat) (l:List ByteArray) (s:PS),(parN Q n l s).1.length<=l.length+n
 | 0,l,s=>yf9 _
 | n+1,l,s=>by
  rw[parN];split
  ·exact yi9 (z6H Q n _ _) (yi9 (Nat.add_le_add_right (z6G _ _) n) (by omega))
  ·show l.length<=_;omega
theorem z6I(Q:PIn)(s:PS):(z51 Q s).length<=6:=by
 have:=z6H Q 6 [] (z4X Q s [40]);show(parN Q 6 [] (z4X Q s [40])).1.length<=6;simpa using this
def lenC:Cmd->Nat
 | (Sum.inr (Sum.inl l))=>l.length
 | (Sum.inr (Sum.inr (Sum.inl l)))=>l.length
 | (Sum.inr (Sum.inr (Sum.inr (Sum.inr (Sum.inr (Sum.inr (Sum.inr (Sum.inl l))))))))=>l.length
 | _=>0
theorem z6J(Q:PIn):∀(n:Nat) (c:Cmd) (s:PS),lenC c+n<=10000->LO s->LO (run Q n c s).2.2/\(run Q n c s).2.1.length<=lenC c+n
 | 0,c,s,hn,h=>by cases c using z53<;>exact⟨h.same rfl,yj9 _⟩
 | n+1,c,s,hn,h=>by
  have ih:=z6J Q n;have c1:([]:List Int).length<=10000:=yj9 _;have c2:([]:List ByteArray).length<=10000:=yj9 _;have c3:∀ x:ByteArray,[x].length<=10000:=fun x=>by simp
  have wk:∀{c':Cmd} {s':PS},lenC c'=0->LO s'->LO (run Q n c' s').2.2:=fun{c' s'} e k=>(ih c' s' (by rw[e];omega) k).1
  cases c using z53 with
  | block=>
   simp only[lenC]at hn;rw[run];split
   ·have k:=ih (.stmts []) (z4X Q (inP Q s) [123]) (by simp only[lenC,List.length_nil];omega) ((h.inn Q).take Q _)
    exact((k.1.take Q _).out).end (by have:=k.2;simp only[lenC,List.length_nil]at this;show(run Q n (.stmts []) (z4X Q (inP Q s) [123])).2.1.length<=10000;omega) c2 _
   ·exact((h.inn Q).out).end c1 c2 _
  | stmts l=>
   simp only[lenC]at hn;rw[run];split
   ·have k1:=wk (c':=.stmt) rfl h;have k:=ih (.stmts (l++[(run Q n .stmt s).1])) _ (by simp only[lenC,List.length_append,List.length_cons,List.length_nil];omega) k1
    exact⟨k.1,yi9 k.2 (by simp only[lenC,List.length_append,List.length_cons,List.length_nil];omega)⟩
   ·exact⟨h,by simp only[lenC];omega⟩
  | top l=>
   simp only[lenC]at hn;rw[run];split
   ·have k1:=wk (c':=.stmt) rfl h;have k:=ih (.top (l++[(run Q n .stmt s).1])) _ (by simp only[lenC,List.length_append,List.length_cons,List.length_nil];omega) k1
    exact⟨k.1,yi9 k.2 (by simp only[lenC,List.length_append,List.length_cons,List.length_nil];omega)⟩
   ·exact⟨h,by simp only[lenC];omega⟩
  | fn p=>
   simp only[lenC]at hn;rw[run];exact(wk (c':=.block) rfl (h.params Q)).end c1 (by show(z51 Q s).length<=10000;have:=z6I Q s;omega) _
  | first=>
   simp only[lenC]at hn;rw[run];split
   ·exact h.step.end c1 c2 _
   split
   ·exact h.step.end c1 c2 _
   split
   ·exact h.step.end c1 c2 _
   split
   ·exact h.step.end c1 c2 _
   split
   ·exact h.step.end c1 (c3 _) _
   split
   ·exact h.step.end c1 (c3 _) _
   split
   ·split
    ·exact⟨((wk (c':=.level 0) rfl (h.inn Q).step).take Q _).out,yj9 _⟩
    ·exact⟨(h.inn Q).out,yj9 _⟩
   split
   ·split
    ·exact⟨(wk (c':=.fn _) rfl (h.inn Q).step).out,yj9 _⟩
    ·exact⟨(h.inn Q).out,yj9 _⟩
   ·exact⟨h.bad Q,yj9 _⟩
  | call=>
   simp only[lenC]at hn;rw[run];have k:=ih (.calls (run Q n .first s).1) _ (by simp only[lenC];omega) (wk (c':=.first) rfl h)
   exact⟨k.1,yi9 k.2 (by simp only[lenC];omega)⟩
  | calls x=>
   simp only[lenC]at hn;rw[run];split
   ·have k:=ih (.args []) (z4W s) (by simp only[lenC,List.length_nil];omega) h.step
    have k2:=ih (.calls (z4X Q (run Q n (.args []) (z4W s)).2.2 [41]).tree.length) (addP (z4X Q (run Q n (.args []) (z4W s)).2.2 [41]) ⟨12,x,0,0,(run Q n (.args []) (z4W s)).2.1,[],0,z4T Q s⟩) (by simp only[lenC];omega) ((k.1.take Q _).add (by have:=k.2;simp only[lenC,List.length_nil]at this;show(run Q n (.args []) (z4W s)).2.1.length<=10000;omega) c2)
    exact⟨k2.1,yi9 k2.2 (by simp only[lenC];omega)⟩
   ·exact⟨h,yj9 _⟩
  | args l=>
   simp only[lenC]at hn;rw[run];split
   ·have h1:LO (if 0<l.length then z4X Q s [44]else s):=by
     split
     ·exact h.take Q _
     ·exact h
    have h2:∀ t,LO t->LO (if l.length=6 then badP Q t else t):=fun t ht=>by
     split
     ·exact ht.bad Q
     ·exact ht
    have k1:=wk (c':=.level 0) rfl (h2 _ h1);have k:=ih (.args (l++[(run Q n (.level 0) (if l.length=6 then badP Q (if 0<l.length then z4X Q s [44]else s)else if 0<l.length then z4X Q s [44]else s)).1])) _ (by simp only[lenC,List.length_append,List.length_cons,List.length_nil];omega) k1
    exact⟨k.1,yi9 k.2 (by simp only[lenC,List.length_append,List.length_cons,List.length_nil];omega)⟩
   ·exact⟨h,by simp only[lenC];omega⟩
  | signed=>
   simp only[lenC]at hn;rw[run];split
   ·split
    ·exact(wk (c':=.signed) rfl (h.inn Q).step).out.end c1 c2 _
    ·exact((h.inn Q).out).end c1 c2 _
   ·have k:=ih .call s (by simp only[lenC];omega) h
    exact⟨k.1,yi9 k.2 (by simp only[lenC];omega)⟩
  | level k=>
   simp only[lenC]at hn;rw[run];split
   ·have k:=ih .signed s (by simp only[lenC];omega) h
    exact⟨k.1,yi9 k.2 (by simp only[lenC];omega)⟩
   ·have k:=ih (.more k (run Q n (.level (k+1)) s).1) _ (by simp only[lenC];omega) (wk (c':=.level (k+1)) rfl h)
    exact⟨k.1,yi9 k.2 (by simp only[lenC];omega)⟩
  | more k x=>
   simp only[lenC]at hn;rw[run];split
   ·have k:=ih (.more k (run Q n (.level (k+1)) (z4W s)).2.2.tree.length) (addP (run Q n (.level (k+1)) (z4W s)).2.2 ⟨if k=0 then 11 else if k=1 then 10 else 9,x,(run Q n (.level (k+1)) (z4W s)).1,opN (tokP Q s).text,[],[],0,z4T Q s⟩) (by simp only[lenC];omega) ((wk (c':=.level (k+1)) rfl h.step).add c1 c2)
    exact⟨k.1,yi9 k.2 (by simp only[lenC];omega)⟩
   ·exact⟨h,yj9 _⟩
  | plain k p=>
   simp only[lenC]at hn;rw[run];exact((wk (c':=.level 0) rfl h).take Q _).end c1 c2 _
  | stmt=>
   simp only[lenC]at hn;rw[run];split
   ·exact⟨(wk (c':=.inner _) rfl (h.inn Q)).out,yj9 _⟩
   ·exact⟨(h.inn Q).out,yj9 _⟩
  | inner p=>
   simp only[lenC]at hn;have ends:∀{c':Cmd} {s':PS},lenC c'=0->LO s'->LO (run Q n c' s').2.2/\(run Q n c' s').2.1.length<=lenC (.inner p)+(n+1):=fun{c' s'} e k=>by
    have q:=ih c' s' (by rw[e];omega) k
    exact⟨q.1,by have:=q.2;rw[e]at this;simp only[lenC];omega⟩
   rw[run];split
   ·exact ends (c':=.plain 22 p) rfl h.step
   split
   ·exact ends (c':=.plain 25 p) rfl h.step
   split
   ·exact ends (c':=.plain 26 p) rfl h.step
   split
   ·exact((wk (c':=.level 0) rfl ((h.step.name Q).take Q _)).take Q _).end c1 (c3 _) _
   split
   ·exact((wk (c':=.level 0) rfl ((h.name Q).take Q _)).take Q _).end c1 (c3 _) _
   split
   ·exact ends (c':=.cond p) rfl h
   split
   ·exact(wk (c':=.block) rfl ((wk (c':=.level 0) rfl (h.step.take Q _)).take Q _)).end c1 c2 _
   split
   ·exact(wk (c':=.block) rfl (((wk (c':=.block) rfl h.step).take Q _).name Q)).end c1 (c3 _) _
   split
   ·exact(wk (c':=.fn p) rfl (h.step.name Q)).end c1 (c3 _) _
   ·exact ends (c':=.plain 28 p) rfl h
  | cond p=>
   simp only[lenC]at hn;rw[run];have kb:=wk (c':=.block) rfl ((wk (c':=.level 0) rfl (h.step.take Q [40])).take Q [41]);simp only;split
   ·have ko:∀ b:Bool,LO (if b=true then run Q n .stmt (z4W (run Q n .block (z4X Q (run Q n (.level 0) (z4X Q (z4W s) [40])).2.2 [41])).2.2)else run Q n .block (z4W (run Q n .block (z4X Q (run Q n (.level 0) (z4X Q (z4W s) [40])).2.2 [41])).2.2)).2.2:=fun b=>by
     cases b
     ·exact wk (c':=.block) rfl kb.step
     ·exact wk (c':=.stmt) rfl kb.step
    exact(ko _).end c1 c2 _
   ·exact kb.end c1 c2 _
