/-
  Part 10 of the proof on drawn right trees.
-/
import Derived.Test.YtggjeepbgpfcpaaGreatPai
import Derived.Test.YtggjeepbgpfcpaaGreatPaa
set_option maxHeartbeats 16000000
set_option maxRecDepth 100000
set_option linter.unusedVariables false
namespace Go.Proofs.YtggjeepbgpfcpaaGreat
def z6i(x:List UInt8):Prop:=1<=x.length/\x.length<=12/\z3y x=x.length/\x∉z5b
def z6j(x:ByteArray):Prop:=z6i x.data.toList
def z6k(x:List UInt8):Prop:=∀ c∈x,32<=c.toNat/\c.toNat<=126/\c.toNat≠34
structure z6l(Q:PIn):Prop where
 name:∀ t∈Q.T,t.1.kind=1->z6i t.1.text
 text:∀ t∈Q.T,t.1.kind=3->z6k t.1.text
 num:∀ t∈Q.T,t.1.kind=2->t.1.num<=9218868437227405312
 place:∀ t∈Q.T,t.2<=600
 ends:Q.e<=600
def z6m(n:z5i):List (Int × Nat):=
 if n.kind=7\/n.kind=8\/n.kind=20\/n.kind=21\/n.kind=22\/n.kind=25\/n.kind=26\/n.kind=28 then [(n.a,1)]
 else if n.kind=9\/n.kind=10\/n.kind=11 then [(n.a,1),(n.b,1)]
 else if n.kind=12 then (n.a,1)::n.list.map (fun x=>(x,1))
 else if n.kind=13 then [(n.a,2)]
 else if n.kind=23 then (n.a,1)::(n.b,2)::(if n.c=-1 then []else [(n.c,3)])
 else if n.kind=24 then [(n.a,1),(n.b,2)]
 else if n.kind=27 then [(n.a,2),(n.b,2)]
 else if n.kind=29 then n.list.map (fun x=>(x,4))
 else []
def z6n(r:Nat)(k:Int):Prop:=(r=1/\1<=k/\k<=13)\/(r=2/\k=29)\/(r=3/\(k=29\/k=23))\/(r=4/\20<=k/\k<=28)
def z6o(t:List z5i)(x:Int):Int:=match t[x.toNat]? with|some n=>n.kind|none=>0
def z6p(n:z5i):Prop:=0<=n.pos/\n.pos<=600/\(
 (n.kind=1/\n.a=0/\n.b=0/\n.c=0/\n.list=[]/\n.names=[]/\n.num<9218868437227405312)
 \/ (n.kind=2/\n.a=0/\n.b=0/\n.c=0/\n.list=[]/\n.num=0/\∃ x,n.names=[x]/\x.size<=40/\z6k x.data.toList)
 \/ ((n.kind=3\/n.kind=4\/n.kind=5)/\n.a=0/\n.b=0/\n.c=0/\n.list=[]/\n.names=[]/\n.num=0)
 \/ (n.kind=6/\n.a=0/\n.b=0/\n.c=0/\n.list=[]/\n.num=0/\∃ x,n.names=[x]/\z6j x)
 \/ ((n.kind=7\/n.kind=8\/n.kind=22\/n.kind=25\/n.kind=26\/n.kind=28)/\n.b=0/\n.c=0/\n.list=[]/\n.names=[]/\n.num=0)
 \/ (n.kind=9/\1<=n.c/\n.c<=11/\n.list=[]/\n.names=[]/\n.num=0)
 \/ ((n.kind=10\/n.kind=11)/\n.c=0/\n.list=[]/\n.names=[]/\n.num=0)
 \/ (n.kind=12/\n.b=0/\n.c=0/\n.list.length<=6/\n.names=[]/\n.num=0)
 \/ (n.kind=13/\n.b=0/\n.c=0/\n.list=[]/\n.num=0/\n.names.length<=4/\∀ x∈n.names,z6j x)
 \/ (n.kind=20/\(n.b=0\/n.b=1)/\n.c=0/\n.list=[]/\n.num=0/\∃ x,n.names=[x]/\z6j x)
 \/ (n.kind=21/\n.b=0/\n.c=0/\n.list=[]/\n.num=0/\∃ x,n.names=[x]/\z6j x)
 \/ (n.kind=23/\n.list=[]/\n.names=[]/\n.num=0)
 \/ (n.kind=24/\n.c=0/\n.list=[]/\n.names=[]/\n.num=0)
 \/ (n.kind=27/\n.c=0/\n.list=[]/\n.num=0/\∃ x,n.names=[x]/\z6j x)
 \/ (n.kind=29/\n.a=0/\n.b=0/\n.c=0/\n.names=[]/\n.num=0))
def z6q(t:List z5i):List Int:=t.flatMap fun n=>(z6m n).map Prod.fst
structure Seg(t:List z5i)(xs:List Int):Prop where
 held:∀(j:Nat) (n:z5i),t[j]?=some n->z6p n
 parts:∀(j:Nat) (n:z5i),t[j]?=some n->∀ p∈z6m n,0<=p.1/\p.1<j/\z6n p.2 (z6o t p.1)
 early:∀(j:Nat) (n:z5i),t[j]?=some n->n.kind=20->n.b=1->z6o t n.a=13
 once:∀ i:Nat,i<t.length->(z6q t).count (i:Int)+xs.count (i:Int)=1
 roots:∀ x∈xs,0<=x/\x<t.length
theorem z6r{t l:List z5i}{x:Int}(h:0<=x)(h2:x<t.length):z6o (t++l) x=z6o t x:=by
 unfold z6o;rw[List.getElem?_append_left (by omega)]
theorem z6s(t:List z5i)(n:z5i):z6o (t++[n]) (t.length:Int)=n.kind:=by
 unfold z6o;rw[Int.toNat_natCast,List.getElem?_append_right (yf9 _)];simp
theorem z6t{t:List z5i}{xs:List Int}(h:Seg t xs){x:Int}(hx:x∈z6q t):0<=x/\x<t.length:=by
 unfold z6q at hx;obtain⟨n,hn,hx⟩:=List.mem_flatMap.1 hx;obtain⟨p,hp,rfl⟩:=List.mem_map.1 hx;obtain⟨j,hj⟩:=List.mem_iff_getElem?.1 hn;have:=h.parts j n hj p hp;have hl:j<t.length:=(List.getElem?_eq_some_iff.1 hj).1;omega
theorem Seg.add{t:List z5i}{xs ps:List Int}{n:z5i}(h:Seg t (xs++ps))(hn:z6p n)(hp:(z6m n).map Prod.fst=ps)
  (hk:∀ p∈z6m n,z6n p.2 (z6o t p.1)) (hl:n.kind=20->n.b=1->z6o t n.a=13):Seg (t++[n]) (xs++[(t.length:Int)]):=by
 have old:∀(j:Nat) (m:z5i),(t++[n])[j]?=some m->t[j]?=some m\/(j=t.length/\m=n):=fun j m hj=>by
  rcases Nat.lt_or_ge j t.length with k|k
  ·rw[List.getElem?_append_left k]at hj;exact .inl hj
  ·rw[List.getElem?_append_right k]at hj;have:j-t.length=0:=by
    rcases Nat.eq_zero_or_pos (j-t.length)with e|e
    ·exact e
    ·rw[List.getElem?_eq_none (by simp;omega)]at hj
     cases hj
   rw[this]at hj;simp at hj;exact .inr ⟨by omega,hj.symm⟩
 have inp:∀ p∈z6m n,0<=p.1/\p.1<t.length:=fun p hp'=>by
  have:p.1∈xs++ps:=List.mem_append.2 (.inr (by rw[←hp];exact List.mem_map.2 ⟨p,hp',rfl⟩))
  exact h.roots _ this
 refine⟨fun j m hj=>?_,fun j m hj p hp'=>?_,fun j m hj k1 k2=>?_,fun i hi=>?_,fun x hx=>?_⟩
 ·rcases old j m hj with h'|⟨rfl,rfl⟩
  ·exact h.held j m h'
  ·exact hn
 ·rcases old j m hj with h'|⟨rfl,rfl⟩
  ·obtain⟨a,b,c⟩:=h.parts j m h' p hp';have hjl:j<t.length:=(List.getElem?_eq_some_iff.1 h').1;exact⟨a,b,by rw[z6r a (by omega)];exact c⟩
  ·obtain⟨a,b⟩:=inp p hp';exact⟨a,b,by rw[z6r a b];exact hk p hp'⟩
 ·rcases old j m hj with h'|⟨rfl,rfl⟩
  ·have hjl:j<t.length:=(List.getElem?_eq_some_iff.1 h').1;have hpm:(m.a,1)∈z6m m:=by unfold z6m;rw[if_pos (by omega)];simp
   obtain⟨a,b,c⟩:=h.parts j m h' _ hpm;rw[z6r a (by simp only at b;omega)]
   exact h.early j m h' k1 k2
  ·have hpm:(m.a,1)∈z6m m:=by unfold z6m;rw[if_pos (by omega)];simp
   obtain⟨a,b⟩:=inp _ hpm;rw[z6r a b];exact hl k1 k2
 ·have e:z6q (t++[n])=z6q t++ps:=by
   unfold z6q;rw[List.flatMap_append];simp[hp]
  rw[e,List.count_append,List.count_append];rcases Nat.lt_or_ge i t.length with k|k
  ·have:=h.once i k;rw[List.count_append]at this;have z:List.count (i:Int) [(t.length:Int)]=0:=List.count_eq_zero.2 (by simp;omega)
   omega
  ·have hi':i=t.length:=by rw[List.length_append]at hi;simp at hi;omega
   subst hi';have z1:List.count (t.length:Int) (z6q t)=0:=List.count_eq_zero.2 fun hx=>by have:=z6t h hx;omega
   have z2:List.count (t.length:Int) ps=0:=List.count_eq_zero.2 fun hx=>by have:=h.roots _ (List.mem_append.2 (.inr hx));omega
   have z3:List.count (t.length:Int) xs=0:=List.count_eq_zero.2 fun hx=>by have:=h.roots _ (List.mem_append.2 (.inl hx));omega
   rw[z1,z2,z3];simp
 ·rw[List.length_append];rcases List.mem_append.1 hx with hx|hx
  ·have:=h.roots x (List.mem_append.2 (.inl hx));simp;omega
  ·rw[List.mem_singleton]at hx;subst hx;simp;omega
theorem z6u(Q:PIn)(s:PS)(x:List UInt8):(z5p Q s x).tree=s.tree:=by
 unfold z5p;split
 ·rfl
 ·exact z5A Q s
theorem z6v(Q:PIn)(s:PS):(z5r Q s).tree=s.tree:=by
 unfold z5r;split
 ·rfl
 ·exact z5A Q s
theorem z6w(Q:PIn)(s:PS):(inP Q s).tree=s.tree:=by
 unfold inP;split
 ·exact z5A Q s
 ·rfl
theorem z6x(Q:PIn):∀(n:Nat) (l:List ByteArray) (s:PS),(parN Q n l s).2.tree=s.tree
 | 0,l,s=>rfl
 | n+1,l,s=>by
  rw[parN];split
  ·rw[z6x Q n,z6v];have h2:∀ t:PS,(if l.length=4 then badP Q t else t).tree=t.tree:=fun t=>by
    split
    ·exact z5A Q t
    ·rfl
   rw[h2];split
   ·exact z6u Q s _
   ·rfl
  ·rfl
theorem z6y(Q:PIn)(s:PS):(z5u Q s).tree=s.tree:=by unfold z5u;rw[z6u,z6x,z6u]
theorem z6z{Q:PIn}(h:z6l Q)(s:PS):z5l Q s<=600:=by
 unfold z5l;split
 ·rename_i t ht
  have:=h.place t (List.mem_iff_getElem?.2 ⟨_,ht⟩);omega
 ·have:=h.ends;omega
theorem z6A{Q:PIn}{s:PS}{k:Int}(h:z5m Q s k=true):∃ t,Q.T[s.i]?=some t/\t.1.kind=k/\tokP Q s=t.1:=by
 have hl:=(z5D h).2;unfold z5m at h;unfold tokP;rw[yd9 hl]at h ⊢;simp only[Bool.and_eq_true,decide_eq_true_eq]at h;exact⟨_,rfl,h.2,rfl⟩
theorem z6B(l:List UInt8):(txt l).data.toList=l:=by unfold txt;simp
theorem z6C{Q:PIn}(hQ:z6l Q){s:PS}(h:z5m Q s 1=true):z6j (txt (tokP Q s).text):=by
 obtain⟨t,ht,hk,e⟩:=z6A h;unfold z6j;rw[e,z6B];exact hQ.name t (List.mem_iff_getElem?.2 ⟨_,ht⟩) hk
theorem z6D{Q:PIn}(hQ:z6l Q){s:PS}(h:(z5r Q s).fault<0):z6j (z5q Q s):=by
 have k:=(z5K h).1;unfold z5q;rw[if_pos k];exact z6C hQ k
theorem z6E{Q:PIn}(hQ:z6l Q):∀(n:Nat) (l:List ByteArray) (s:PS),l.length<=4->(∀ x∈l,z6j x)->(parN Q n l s).1.length<=4/\∀ x∈(parN Q n l s).1,z6j x
 | 0,l,s,h1,h2=>⟨h1,h2⟩
 | n+1,l,s,h1,h2=>by
  rw[parN];split
  ·simp only;have h4:l.length=4->0<=(if l.length=4 then badP Q (if 0<l.length then z5p Q s [44]else s)else (if 0<l.length then z5p Q s [44]else s)).fault:=fun e=>by
    rw[if_pos e];exact z5x Q _
   generalize (if l.length=4 then badP Q (if 0<l.length then z5p Q s [44]else s)else (if 0<l.length then z5p Q s [44]else s))=s2 at h4 ⊢
   by_cases hf:(z5r Q s2).fault<0
   ·rw[if_pos hf];have k:=(z5D (z5K hf).1).1;refine z6E hQ n _ _ ?_ ?_
    ·rw[List.length_append,List.length_singleton];by_cases e:l.length=4
     ·have:=h4 e;omega
     ·omega
    ·intro x hx;rcases List.mem_append.1 hx with hx|hx
     ·exact h2 x hx
     ·rw[List.mem_singleton]at hx;subst hx;exact z6D hQ hf
   ·rw[if_neg hf];exact z6E hQ n _ _ h1 h2
  ·exact⟨h1,h2⟩
theorem z6F{Q:PIn}(hQ:z6l Q)(s:PS):(z5t Q s).length<=4/\∀ x∈z5t Q s,z6j x:=z6E hQ _ _ _ (by simp) (by simp)
theorem z6G{k:Nat}{x:List UInt8}(h:x∈z5s k)(hk:k≠0)(hk1:k≠1):1<=opN x/\opN x<=11:=by
 have:x∈opsL:=by
  match k,hk,hk1 with
  | 2,_,_=>simp only[z5s,List.mem_cons,List.not_mem_nil,or_false]at h;rcases h with rfl|rfl<;>decide
  | 3,_,_=>simp only[z5s,List.mem_cons,List.not_mem_nil,or_false]at h;rcases h with rfl|rfl|rfl|rfl<;>decide
  | 4,_,_=>simp only[z5s,List.mem_cons,List.not_mem_nil,or_false]at h;rcases h with rfl|rfl<;>decide
  | k+5,_,_=>simp only[z5s,List.mem_cons,List.not_mem_nil,or_false]at h;rcases h with rfl|rfl|rfl<;>decide
 simp only[opsL,List.mem_cons,List.not_mem_nil,or_false]at this;rcases this with rfl|rfl|rfl|rfl|rfl|rfl|rfl|rfl|rfl|rfl|rfl<;>decide
theorem z6H{k:Nat}{x:List UInt8}(h:x∈z5s k)(hk:k=0\/k=1):opN x=0:=by
 rcases hk with rfl|rfl<;>simp only[z5s,List.mem_cons,List.not_mem_nil,or_false]at h<;>subst h<;>decide
def inL:Cmd->List Int
 | .stmts l=>l
 | .top l=>l
 | .calls x=>[x]
 | .args l=>l
 | .more _ x=>[x]
 | _=>[]
def outL:Cmd->Int × List Int × PS->List Int
 | .stmts _,r=>r.2.1
 | .top _,r=>r.2.1
 | .args _,r=>r.2.1
 | _,r=>[r.1]
def z6I:Cmd->Int->Prop
 | .block,k=>k=29
 | .stmts _,k=>20<=k/\k<=28
 | .top _,k=>20<=k/\k<=28
 | .fn _,k=>k=13
 | .plain q _,k=>k=q
 | .stmt,k=>20<=k/\k<=28
 | .inner _,k=>20<=k/\k<=28
 | .cond _,k=>k=23
 | _,k=>1<=k/\k<=13
def z6J:Cmd->Prop
 | .plain k _=>k=22\/k=25\/k=26\/k=28
 | .args l=>l.length<=6
 | _=>True
def z6K:Cmd->Prop
 | .fn p=>0<=p/\p<=600
 | .plain _ p=>0<=p/\p<=600
 | .inner p=>0<=p/\p<=600
 | .cond p=>0<=p/\p<=600
 | _=>True
structure Out(c:Cmd)(xs:List Int)(r:Int × List Int × PS):Prop where
 seg:Seg r.2.2.tree (xs++outL c r)
 kind:∀ x∈outL c r,z6I c (z6o r.2.2.tree x)
 few:∀ l,c=.args l->r.2.1.length<=6
theorem z6L{c:Cmd}{xs ps:List Int}{s:PS}{n:z5i}(h:Seg s.tree (xs++ps))(hn:z6p n)(hp:(z6m n).map Prod.fst=ps)
  (hk:∀ p∈z6m n,z6n p.2 (z6o s.tree p.1)) (hl:n.kind=20->n.b=1->z6o s.tree n.a=13) (ho:outL c (endN s n)=[(s.tree.length:Int)]) (hkc:z6I c n.kind) (hc:∀ l,c≠.args l):Out c xs (endN s n):=by
 refine⟨?_,fun x hx=>?_,fun l e=>absurd e (hc l)⟩
 ·rw[ho];exact h.add hn hp hk hl
 ·rw[ho,List.mem_singleton]at hx;subst hx;show z6I c (z6o (s.tree++[n]) _);rw[z6s];exact hkc
def wt(Q:PIn)(s:PS):Nat:=s.tree.length+10*z6d Q s
theorem z6M{Q:PIn}{s s':PS}(h:Le Q s s')(ht:s'.tree=s.tree):wt Q s'<=wt Q s:=by
 have:=z6e h;unfold wt;rw[ht];omega
theorem z6N{Q:PIn}{s s':PS}{k:Int}{m:Nat}(h:Le Q s s')(g:On k m s s')(hm:1<=m)(hi:s.i<=Q.T.length)(hf:s.fault<0)(ht:s'.tree=s.tree):wt Q s'+10<=wt Q s:=by
 have:=z6f h g hm hi hf;unfold wt;rw[ht];omega
theorem z6O(Q:PIn)(s:PS)(n:z5i):wt Q (addP s n)=wt Q s+1:=by
 have e:z6d Q (addP s n)=z6d Q s:=rfl;unfold wt;rw[e];show(s.tree++[n]).length+_=_;rw[List.length_append,List.length_singleton];omega
theorem z6P(Q:PIn)(s:PS)(n:z5i):wt Q (endN s n).2.2=wt Q s+1:=z6O Q s n
theorem z6Q(Q:PIn)(s:PS):wt Q (outP s)=wt Q s:=rfl
theorem z6R(Q:PIn)(s:PS):wt Q (inP Q s)<=wt Q s:=z6M (z5O Q s) (z6w Q s)
theorem z6S{Q:PIn}{s:PS}(hi:s.i<=Q.T.length)(hf:s.fault<0)(h:¬ (inP Q s).fault<0):wt Q (inP Q s)+10<=wt Q s:=
 z6N (k:=0) (m:=1) (z5O Q s) (fun f=>absurd f h) (yf9 _) hi hf (z6w Q s)
theorem z6T(Q:PIn)(s:PS)(x:List UInt8):wt Q (z5p Q s x)<=wt Q s:=z6M (z5F Q s x) (z6u Q s x)
theorem z6U{Q:PIn}{s:PS}(x:List UInt8)(hi:s.i<=Q.T.length)(hf:s.fault<0):wt Q (z5p Q s x)+10<=wt Q s:=z6N (z5F Q s x) (z62 Q s x) (yf9 _) hi hf (z6u Q s x)
theorem z6V(Q:PIn)(s:PS):wt Q (z5r Q s)<=wt Q s:=z6M (z5I Q s) (z6v Q s)
theorem z6W{Q:PIn}{s:PS}(hi:s.i<=Q.T.length)(hf:s.fault<0):wt Q (z5r Q s)+10<=wt Q s:=z6N (z5I Q s) (z63 Q s) (yf9 _) hi hf (z6v Q s)
theorem z6X(Q:PIn)(s:PS):wt Q (badP Q s)<=wt Q s:=z6M (z5B Q s) (z5A Q s)
theorem z6Y{Q:PIn}{s:PS}(hi:s.i<=Q.T.length)(hf:s.fault<0):wt Q (badP Q s)+10<=wt Q s:=z6N (k:=1) (m:=1) (z5B Q s) (z61 Q s s _ _) (yf9 _) hi hf (z5A Q s)
theorem z6Z{Q:PIn}{s:PS}(h:s.fault<0/\s.i<Q.T.length):wt Q (z5o s)+10<=wt Q s:=z6N (z5E h) (z60 h.1) (yf9 _) (by omega) h.1 rfl
theorem z70(Q:PIn)(s:PS):wt Q (z5u Q s)<=wt Q s:=z6M (z5U Q s) (z6y Q s)
theorem z71{Q:PIn}{s:PS}(hi:s.i<=Q.T.length)(hf:s.fault<0):wt Q (z5u Q s)+10<=wt Q s:=z6N (z5U Q s) (z6b Q s) (by decide) hi hf (z6y Q s)
theorem z72(Q:PIn)(s:PS):wt Q { s with fault:=max s.fault 0 }<=wt Q s:=z6M (z5R Q s) rfl
theorem z73{Q:PIn}{s:PS}(hi:s.i<=Q.T.length)(hf:s.fault<0):wt Q { s with fault:=max s.fault 0 }+10<=wt Q s:=z6N (k:=1) (m:=1) (z5R Q s) (z68 s _ _) (yf9 _) hi hf rfl
def z74:Cmd->Nat
 | .block=>9
 | .fn _=>8
 | .first=>9
 | .call=>9
 | .signed=>9
 | .level _=>9
 | .plain _ _=>8
 | .stmt=>7
 | .inner _=>7
 | .cond _=>7
 | _=>0
def z75:Cmd->Nat
 | .block=>1
 | .fn _=>2
 | .plain _ _=>1
 | .inner _=>1
 | _=>0
structure WtOk(Q:PIn)(c:Cmd)(s s':PS):Prop where
 on:s.fault<0->wt Q s'+z74 c<=wt Q s
 all:wt Q s'<=wt Q s+z75 c
theorem z76(Q:PIn):∀(n:Nat) (c:Cmd) (s:PS),(∀ p,c=.cond p->isP Q s [105,102]=true)->s.i<=Q.T.length->WtOk Q c s (run Q n c s).2.2
 | 0,c,s,_,hi=>by
  have h1:=z72 Q s;have h2:=fun hf=>z73 (Q:=Q) (s:=s) hi hf;have e:(run Q 0 c s).2.2={ s with fault:=max s.fault 0 }:=by cases c<;>rfl
  rw[e];refine⟨fun hf=>?_,by omega⟩
  have:=h2 hf;have:z74 c<=9:=by cases c<;>simp[z74]
  omega
 | n+1,c,s,hc,hi=>by
  have ih:=z76 Q n;have le:=z5Y Q n;have nc:∀ c':Cmd,(∀ p,c'≠.cond p)->∀ s,(∀ p,c'=.cond p->isP Q s [105,102]=true):=fun c' h s p e=>absurd e (h p);cases c with
  | block=>
   have w1:=z6R Q s;have w2:=z6T Q (inP Q s) [123];have l1:=(z5O Q s).most hi;have l2:=(z5F Q (inP Q s) [123]).most l1;have w3:=ih (.stmts []) (z5p Q (inP Q s) [123]) (by intro p e;cases e) l2
   have w4:=z6T Q (run Q n (.stmts []) (z5p Q (inP Q s) [123])).2.2 [125];have a3:=w3.all;simp only[z75]at a3;rw[run];split
   ·rename_i hin
    have w5:=z6U (Q:=Q) (s:=inP Q s) [123] l1 hin;exact⟨fun hf=>by simp only[z74,z6P,z6Q];omega,by simp only[z75,z6P,z6Q];omega⟩
   ·rename_i hin
    refine⟨fun hf=>?_,by simp only[z75,z6P,z6Q];omega⟩
    have:=z6S hi hf hin;simp only[z74,z6P,z6Q];omega
  | stmts l=>
   rw[run];split
   ·have w1:=ih .stmt s (by intro p e;cases e) hi
    have w2:=ih (.stmts (l++[(run Q n .stmt s).1])) (run Q n .stmt s).2.2 (by intro p e;cases e) ((le .stmt s (by intro p e;cases e)).most hi)
    have a1:=w1.all;have a2:=w2.all;simp only[z75]at a1 a2;exact⟨fun hf=>by simp only[z74];omega,by simp only[z75];omega⟩
   ·exact⟨fun hf=>by simp only[z74];omega,by simp only[z75];omega⟩
  | top l=>
   rw[run];split
   ·have w1:=ih .stmt s (by intro p e;cases e) hi
    have w2:=ih (.top (l++[(run Q n .stmt s).1])) (run Q n .stmt s).2.2 (by intro p e;cases e) ((le .stmt s (by intro p e;cases e)).most hi)
    have a1:=w1.all;have a2:=w2.all;simp only[z75]at a1 a2;exact⟨fun hf=>by simp only[z74];omega,by simp only[z75];omega⟩
   ·exact⟨fun hf=>by simp only[z74];omega,by simp only[z75];omega⟩
  | fn p=>
   have w1:=z70 Q s;have w2:=(ih .block (z5u Q s) (by intro p e;cases e) ((z5U Q s).most hi)).all
   simp only[z75]at w2;rw[run];refine⟨fun hf=>?_,by simp only[z75,z6P];omega⟩
   have:=z71 hi hf;simp only[z74,z6P];omega
  | first=>
   have node:∀(m:z5i),(s.fault<0/\s.i<Q.T.length)->WtOk Q .first s (endN (z5o s) m).2.2:=fun m h=>by
    have:=z6Z h;exact⟨fun _=>by simp only[z74,z6P];omega,by simp only[z75,z6P];omega⟩
   have bad:¬ (inP Q s).fault<0->WtOk Q .first s (outP (inP Q s)):=fun h=>by
    have:=z6R Q s;refine⟨fun hf=>?_,by simp only[z75,z6Q];omega⟩
    have:=z6S hi hf h;simp only[z74,z6Q];omega
   have l1:=(z5O Q s).most hi;have w1:=z6R Q s;rw[run];split
   ·exact node _ (z5C ‹_›)
   split
   ·exact node _ (z5C ‹_›)
   split
   ·exact node _ (z5C ‹_›)
   split
   ·rename_i h
    exact node _ (z5D h.1)
   split
   ·rename_i h
    exact node _ (z5D h.1)
   split
   ·exact node _ (z5D ‹_›)
   split
   ·rename_i h
    split
    ·rename_i hin
     have hs:(inP Q s).fault<0/\(inP Q s).i<Q.T.length:=⟨hin,by rw[z5M];exact(z5C h).2⟩
     have w2:=z6Z hs;have w3:=(ih (.level 0) (z5o (inP Q s)) (by intro p e;cases e) ((z5E hs).most l1)).all
     have w4:=z6T Q (run Q n (.level 0) (z5o (inP Q s))).2.2 [41];simp only[z75]at w3;exact⟨fun hf=>by simp only[z74,z6Q];omega,by simp only[z75,z6Q];omega⟩
    ·exact bad ‹_›
   split
   ·rename_i h
    split
    ·rename_i hin
     have hs:(inP Q s).fault<0/\(inP Q s).i<Q.T.length:=⟨hin,by rw[z5M];exact(z5C h).2⟩
     have w2:=z6Z hs;have w3:=(ih (.fn (z5l Q s)) (z5o (inP Q s)) (by intro p e;cases e) ((z5E hs).most l1))
     have a3:=w3.all;simp only[z75]at a3;refine⟨fun hf=>?_,by simp only[z75,z6Q];omega⟩
     have:wt Q (run Q n (.fn (z5l Q s)) (z5o (inP Q s))).2.2<=wt Q (z5o (inP Q s)):=by
      have:=w3.on hin;omega
     simp only[z74,z6Q];omega
    ·exact bad ‹_›
   ·have w2:=z6X Q s;refine⟨fun hf=>?_,by simp only[z75];omega⟩
    have:=z6Y hi hf;simp only[z74];omega
  | call=>
   have w1:=ih .first s (by intro p e;cases e) hi
   have w2:=(ih (.calls (run Q n .first s).1) (run Q n .first s).2.2 (by intro p e;cases e) ((le .first s (by intro p e;cases e)).most hi)).all
   have a1:=w1.all;simp only[z75]at a1 w2;rw[run];refine⟨fun hf=>?_,by simp only[z75];omega⟩
   have:=w1.on hf;simp only[z74]at this ⊢;omega
  | calls x=>
   rw[run];split
   ·rename_i h
    have hs:=z5C h;have w1:=z6Z hs;have l1:=(z5E hs).most hi;have w2:=(ih (.args []) (z5o s) (by intro p e;cases e) l1).all
    have l2:=(le (.args []) (z5o s) (by intro p e;cases e)).most l1
    have w3:=z6T Q (run Q n (.args []) (z5o s)).2.2 [41];have l3:=(z5F Q (run Q n (.args []) (z5o s)).2.2 [41]).most l2;have w4:=(ih (.calls (z5p Q (run Q n (.args []) (z5o s)).2.2 [41]).tree.length) (addP (z5p Q (run Q n (.args []) (z5o s)).2.2 [41]) ⟨12,x,0,0,(run Q n (.args []) (z5o s)).2.1,[],0,z5l Q s⟩) (by intro p e;cases e) l3).all
    simp only[z75,z6O]at w2 w4;exact⟨fun hf=>by simp only[z74];omega,by simp only[z75];omega⟩
   ·exact⟨fun hf=>by simp only[z74];omega,by simp only[z75];omega⟩
  | args l=>
   rw[run];split
   ·have h1:Le Q s (if 0<l.length then z5p Q s [44]else s)/\wt Q (if 0<l.length then z5p Q s [44]else s)<=wt Q s:=by
     split
     ·exact⟨z5F Q s _,z6T Q s _⟩
     ·exact⟨Le.refl Q s,yf9 _⟩
    have h2:∀ t,Le Q t (if l.length=6 then badP Q t else t)/\wt Q (if l.length=6 then badP Q t else t)<=wt Q t:=fun t=>by
     split
     ·exact⟨z5B Q t,z6X Q t⟩
     ·exact⟨Le.refl Q t,yf9 _⟩
    have h3:=h2 (if 0<l.length then z5p Q s [44]else s)
    simp only;generalize (if l.length=6 then badP Q (if 0<l.length then z5p Q s [44]else s)else (if 0<l.length then z5p Q s [44]else s))=s2 at h3 ⊢
    have l2:=h3.1.most (h1.1.most hi);have w3:=(ih (.level 0) s2 (by intro p e;cases e) l2).all
    have w4:=(ih (.args (l++[(run Q n (.level 0) s2).1])) (run Q n (.level 0) s2).2.2 (by intro p e;cases e) ((le (.level 0) s2 (by intro p e;cases e)).most l2)).all
    simp only[z75]at w3 w4;have h4:=h1.2;have h5:=h3.2;exact⟨fun hf=>by simp only[z74];omega,by simp only[z75];omega⟩
   ·exact⟨fun hf=>by simp only[z74];omega,by simp only[z75];omega⟩
  | signed=>
   rw[run];split
   ·rename_i h
    have hh:s.fault<0/\s.i<Q.T.length:=by rcases h with h|h<;>exact z5C h
    have l1:=(z5O Q s).most hi;have w1:=z6R Q s;split
    ·rename_i hin
     have hs:(inP Q s).fault<0/\(inP Q s).i<Q.T.length:=⟨hin,by rw[z5M];exact hh.2⟩
     have w2:=z6Z hs;have w3:=(ih .signed (z5o (inP Q s)) (by intro p e;cases e) ((z5E hs).most l1)).all
     simp only[z75]at w3;exact⟨fun hf=>by simp only[z74,z6P,z6Q];omega,by simp only[z75,z6P,z6Q];omega⟩
    ·rename_i hin
     have:=z6S hi hh.1 hin;exact⟨fun hf=>by simp only[z74,z6P,z6Q];omega,by simp only[z75,z6P,z6Q];omega⟩
   ·exact⟨(ih .call s (by intro p e;cases e) hi).on,(ih .call s (by intro p e;cases e) hi).all⟩
  | level k=>
   rw[run];split
   ·exact⟨(ih .signed s (by intro p e;cases e) hi).on,(ih .signed s (by intro p e;cases e) hi).all⟩
   ·have w1:=ih (.level (k+1)) s (by intro p e;cases e) hi
    have w2:=(ih (.more k (run Q n (.level (k+1)) s).1) (run Q n (.level (k+1)) s).2.2 (by intro p e;cases e) ((le (.level (k+1)) s (by intro p e;cases e)).most hi)).all
    have a1:=w1.all;simp only[z75]at a1 w2;refine⟨fun hf=>?_,by simp only[z75];omega⟩
    have:=w1.on hf;simp only[z74]at this ⊢;omega
  | more k x=>
   rw[run];split
   ·rename_i h
    have hs:=z5D h.1;have w1:=z6Z hs;have l1:=(z5E hs).most hi;have w2:=(ih (.level (k+1)) (z5o s) (by intro p e;cases e) l1).all
    have l2:=(le (.level (k+1)) (z5o s) (by intro p e;cases e)).most l1
    have w4:=(ih (.more k (run Q n (.level (k+1)) (z5o s)).2.2.tree.length) (addP (run Q n (.level (k+1)) (z5o s)).2.2 ⟨if k=0 then 11 else if k=1 then 10 else 9,x,(run Q n (.level (k+1)) (z5o s)).1,opN (tokP Q s).text,[],[],0,z5l Q s⟩) (by intro p e;cases e) l2).all
    simp only[z75,z6O]at w2 w4;exact⟨fun hf=>by simp only[z74];omega,by simp only[z75];omega⟩
   ·exact⟨fun hf=>by simp only[z74];omega,by simp only[z75];omega⟩
  | plain k p=>
   have w1:=ih (.level 0) s (by intro p e;cases e) hi
   have w2:=z6T Q (run Q n (.level 0) s).2.2 [59];have a1:=w1.all;simp only[z75]at a1;rw[run];refine⟨fun hf=>?_,by simp only[z75,z6P];omega⟩
   have:=w1.on hf;simp only[z74,z6P]at this ⊢;omega
  | stmt=>
   have w1:=z6R Q s;have l1:=(z5O Q s).most hi;rw[run];split
   ·rename_i hin
    have w2:=ih (.inner (z5l Q (inP Q s))) (inP Q s) (by intro p e;cases e) l1
    have:=w2.on hin;simp only[z74]at this;exact⟨fun hf=>by simp only[z74,z6Q];omega,by simp only[z75,z6Q];omega⟩
   ·rename_i hin
    refine⟨fun hf=>?_,by simp only[z75,z6Q];omega⟩
    have:=z6S hi hf hin;simp only[z74,z6Q];omega
  | inner p=>
   have word:∀ k,(s.fault<0/\s.i<Q.T.length)->WtOk Q (.inner p) s (run Q n (.plain k p) (z5o s)).2.2:=fun k h=>by
    have w1:=z6Z h;have w2:=(ih (.plain k p) (z5o s) (by intro p e;cases e) ((z5E h).most hi)).all
    simp only[z75]at w2;exact⟨fun _=>by simp only[z74];omega,by simp only[z75];omega⟩
   have told:∀(t:PS) (k:Int) (m:ByteArray),Le Q s t->wt Q t+10<=wt Q s->WtOk Q (.inner p) s (endN (z5p Q (run Q n (.level 0) t).2.2 [59]) ⟨k,(run Q n (.level 0) t).1,0,0,[],[m],0,p⟩).2.2:=fun t k m h1 h2=>by
    have w2:=(ih (.level 0) t (by intro p e;cases e) (h1.most hi)).all
    have w3:=z6T Q (run Q n (.level 0) t).2.2 [59];simp only[z75]at w2;exact⟨fun _=>by simp only[z74,z6P];omega,by simp only[z75,z6P];omega⟩
   rw[run];split
   ·exact word _ (z5C ‹_›)
   split
   ·exact word _ (z5C ‹_›)
   split
   ·exact word _ (z5C ‹_›)
   split
   ·rename_i h
    have hs:=z5C h;have w1:=z6Z hs;have w2:=z6V Q (z5o s);have w3:=z6T Q (z5r Q (z5o s)) [61];exact told _ _ _ (((z5E hs).trans (z5I Q _)).trans (z5F Q _ _)) (by omega)
   split
   ·rename_i h
    have hs:=z5D h.1;have w2:=z6W (Q:=Q) (s:=s) hi hs.1;have w3:=z6T Q (z5r Q s) [61];exact told _ _ _ ((z5I Q _).trans (z5F Q _ _)) (by omega)
   split
   ·rename_i h
    have w:=ih (.cond p) s (by intro p' e;exact h) hi
    have a:=w.all;simp only[z75]at a;exact⟨fun hf=>w.on hf,by simp only[z75];omega⟩
   split
   ·rename_i h
    have hs:=z5C h;have w1:=z6Z hs;have w2:=z6T Q (z5o s) [40];have l2:=((z5E hs).trans (z5F Q _ [40])).most hi;have w3:=(ih (.level 0) (z5p Q (z5o s) [40]) (by intro p e;cases e) l2).all
    have l3:=(le (.level 0) (z5p Q (z5o s) [40]) (by intro p e;cases e)).most l2
    have w4:=z6T Q (run Q n (.level 0) (z5p Q (z5o s) [40])).2.2 [41];have l4:=(z5F Q (run Q n (.level 0) (z5p Q (z5o s) [40])).2.2 [41]).most l3;have w5:=(ih .block (z5p Q (run Q n (.level 0) (z5p Q (z5o s) [40])).2.2 [41]) (by intro p e;cases e) l4).all
    simp only[z75]at w3 w5;exact⟨fun _=>by simp only[z74,z6P];omega,by simp only[z75,z6P];omega⟩
   split
   ·rename_i h
    have hs:=z5C h;have w1:=z6Z hs;have l1:=(z5E hs).most hi;have w2:=(ih .block (z5o s) (by intro p e;cases e) l1).all
    have l2:=(le .block (z5o s) (by intro p e;cases e)).most l1
    have w3:=z6T Q (run Q n .block (z5o s)).2.2 [99,97,116,99,104];have w4:=z6V Q (z5p Q (run Q n .block (z5o s)).2.2 [99,97,116,99,104]);have l4:=((z5F Q (run Q n .block (z5o s)).2.2 [99,97,116,99,104]).trans (z5I Q _)).most l2;have w5:=(ih .block (z5r Q (z5p Q (run Q n .block (z5o s)).2.2 [99,97,116,99,104])) (by intro p e;cases e) l4).all
    simp only[z75]at w2 w5;exact⟨fun _=>by simp only[z74,z6P];omega,by simp only[z75,z6P];omega⟩
   split
   ·rename_i h
    have hs:=z5C h.1;have w1:=z6Z hs;have w2:=z6V Q (z5o s);have w3:=(ih (.fn p) (z5r Q (z5o s)) (by intro p e;cases e) (((z5E hs).trans (z5I Q _)).most hi)).all
    simp only[z75]at w3;exact⟨fun _=>by simp only[z74,z6P];omega,by simp only[z75,z6P];omega⟩
   ·have w:=ih (.plain 28 p) s (by intro p e;cases e) hi
    have a:=w.all;simp only[z75]at a;refine⟨fun hf=>?_,by simp only[z75];omega⟩
    have:=w.on hf;simp only[z74]at this ⊢;omega
  | cond p=>
   have hs:=z5C (hc p rfl);have w1:=z6Z hs;have w2:=z6T Q (z5o s) [40];have l2:=((z5E hs).trans (z5F Q _ [40])).most hi;have w3:=(ih (.level 0) (z5p Q (z5o s) [40]) (by intro p e;cases e) l2).all
   have l3:=(le (.level 0) (z5p Q (z5o s) [40]) (by intro p e;cases e)).most l2
   have w4:=z6T Q (run Q n (.level 0) (z5p Q (z5o s) [40])).2.2 [41];have l4:=(z5F Q (run Q n (.level 0) (z5p Q (z5o s) [40])).2.2 [41]).most l3;have w5:=(ih .block (z5p Q (run Q n (.level 0) (z5p Q (z5o s) [40])).2.2 [41]) (by intro p e;cases e) l4).all
   have l5:=(le .block (z5p Q (run Q n (.level 0) (z5p Q (z5o s) [40])).2.2 [41]) (by intro p e;cases e)).most l4
   simp only[z75]at w3 w5;rw[run];simp only;generalize (run Q n .block (z5p Q (run Q n (.level 0) (z5p Q (z5o s) [40])).2.2 [41]))=B at w5 l5 ⊢;split
   ·rename_i h
    have hb:=z5C h;have w6:=z6Z hb;have l6:=(z5E hb).most l5;have w7:wt Q (if isP Q (z5o B.2.2) [105,102]=true then run Q n .stmt (z5o B.2.2)else run Q n .block (z5o B.2.2)).2.2<=wt Q (z5o B.2.2)+1:=by
     split
     ·have:=(ih .stmt (z5o B.2.2) (by intro p e;cases e) l6).all
      simp only[z75]at this;omega
     ·have:=(ih .block (z5o B.2.2) (by intro p e;cases e) l6).all
      simp only[z75]at this;omega
    exact⟨fun _=>by simp only[z74,z6P];omega,by simp only[z75,z6P];omega⟩
   ·exact⟨fun _=>by simp only[z74,z6P];omega,by simp only[z75,z6P];omega⟩
def LO(s:PS):Prop:=∀ p,p∈s.tree->p.list.length<=10000/\p.names.length<=10000
theorem LO.same{s t:PS}(h:LO s)(e:t.tree=s.tree):LO t:=fun p hp=>h p (by rw[←e];exact hp)
theorem LO.add{s:PS}{n:z5i}(h:LO s)(h1:n.list.length<=10000)(h2:n.names.length<=10000):LO (addP s n):=fun p hp=>by
 have hp':p∈s.tree++[n]:=hp;rcases List.mem_append.1 hp' with k|k
 ·exact h p k
 ·have e:p=n:=by simpa using k
  subst e;exact⟨h1,h2⟩
theorem LO.take{s:PS}(h:LO s)(Q:PIn)(x:List UInt8):LO (z5p Q s x):=h.same (z6u Q s x)
theorem LO.name{s:PS}(h:LO s)(Q:PIn):LO (z5r Q s):=h.same (z6v Q s)
theorem LO.bad{s:PS}(h:LO s)(Q:PIn):LO (badP Q s):=h.same (z5A Q s)
theorem LO.inn{s:PS}(h:LO s)(Q:PIn):LO (inP Q s):=h.same (z6w Q s)
theorem LO.params{s:PS}(h:LO s)(Q:PIn):LO (z5u Q s):=h.same (z6y Q s)
theorem LO.out{s:PS}(h:LO s):LO (outP s):=h
theorem LO.step{s:PS}(h:LO s):LO (z5o s):=h
theorem LO.end{s:PS}{n:z5i}(h:LO s)(h1:n.list.length<=10000)(h2:n.names.length<=10000)(m:Nat):LO (endN s n).2.2/\(endN s n).2.1.length<=m:=⟨h.add h1 h2,yj9 _⟩
theorem z77{c:Prop}[Decidable c](l:List ByteArray)(x:ByteArray):(if c then l++[x]else l).length<=l.length+1:=by
 split
 ·simp
 ·omega
theorem z78(Q:PIn):∀(n:Nat) (l:List ByteArray) (s:PS),(parN Q n l s).1.length<=l.length+n
 | 0,l,s=>yf9 _
 | n+1,l,s=>by
  rw[parN];split
  ·exact yi9 (z78 Q n _ _) (yi9 (Nat.add_le_add_right (z77 _ _) n) (by omega))
  ·show l.length<=_;omega
theorem z79(Q:PIn)(s:PS):(z5t Q s).length<=6:=by
 have:=z78 Q 6 [] (z5p Q s [40]);show(parN Q 6 [] (z5p Q s [40])).1.length<=6;simpa using this
def lenC:Cmd->Nat
 | .stmts l=>l.length
 | .top l=>l.length
 | .args l=>l.length
 | _=>0
theorem z7a(Q:PIn):∀(n:Nat) (c:Cmd) (s:PS),lenC c+n<=10000->LO s->LO (run Q n c s).2.2/\(run Q n c s).2.1.length<=lenC c+n
 | 0,c,s,hn,h=>by cases c<;>exact⟨h.same rfl,yj9 _⟩
 | n+1,c,s,hn,h=>by
  have ih:=z7a Q n;have c1:([]:List Int).length<=10000:=yj9 _;have c2:([]:List ByteArray).length<=10000:=yj9 _;have c3:∀ x:ByteArray,[x].length<=10000:=fun x=>by simp
  have wk:∀{c':Cmd} {s':PS},lenC c'=0->LO s'->LO (run Q n c' s').2.2:=fun{c' s'} e k=>(ih c' s' (by rw[e];omega) k).1
  cases c with
  | block=>
   simp only[lenC]at hn;rw[run];split
   ·have k:=ih (.stmts []) (z5p Q (inP Q s) [123]) (by simp only[lenC,List.length_nil];omega) ((h.inn Q).take Q _)
    exact((k.1.take Q _).out).end (by have:=k.2;simp only[lenC,List.length_nil]at this;show(run Q n (.stmts []) (z5p Q (inP Q s) [123])).2.1.length<=10000;omega) c2 _
   ·exact((h.inn Q).out).end c1 c2 _
  | stmts l=>
   simp only[lenC]at hn;rw[run];split
   ·have k1:=wk (c':=.stmt) rfl h;have k:=ih (.stmts (l++[(run Q n .stmt s).1])) _ (by simp only[lenC,List.length_append,List.length_cons,List.length_nil];omega) k1
    exact⟨k.1,yi9 k.2 (by simp only[lenC,List.length_append,List.length_cons,List.length_nil];omega)⟩
   ·exact⟨h,by simp only[lenC];omega⟩
  | top l=>
   simp only[lenC]at hn;rw[run];split
   ·have k1:=wk (c':=.stmt) rfl h;have k:=ih (.top (l++[(run Q n .stmt s).1])) _ (by simp only[lenC,List.length_append,List.length_cons,List.length_nil];omega) k1
    exact⟨k.1,yi9 k.2 (by simp only[lenC,List.length_append,List.length_cons,List.length_nil];omega)⟩
   ·exact⟨h,by simp only[lenC];omega⟩
  | fn p=>
   simp only[lenC]at hn;rw[run];exact(wk (c':=.block) rfl (h.params Q)).end c1 (by show(z5t Q s).length<=10000;have:=z79 Q s;omega) _
  | first=>
   simp only[lenC]at hn;rw[run];split
   ·exact h.step.end c1 c2 _
   split
   ·exact h.step.end c1 c2 _
   split
   ·exact h.step.end c1 c2 _
   split
   ·exact h.step.end c1 c2 _
   split
   ·exact h.step.end c1 (c3 _) _
   split
   ·exact h.step.end c1 (c3 _) _
   split
   ·split
    ·exact⟨((wk (c':=.level 0) rfl (h.inn Q).step).take Q _).out,yj9 _⟩
    ·exact⟨(h.inn Q).out,yj9 _⟩
   split
   ·split
    ·exact⟨(wk (c':=.fn _) rfl (h.inn Q).step).out,yj9 _⟩
    ·exact⟨(h.inn Q).out,yj9 _⟩
   ·exact⟨h.bad Q,yj9 _⟩
  | call=>
   simp only[lenC]at hn;rw[run];have k:=ih (.calls (run Q n .first s).1) _ (by simp only[lenC];omega) (wk (c':=.first) rfl h)
   exact⟨k.1,yi9 k.2 (by simp only[lenC];omega)⟩
  | calls x=>
   simp only[lenC]at hn;rw[run];split
   ·have k:=ih (.args []) (z5o s) (by simp only[lenC,List.length_nil];omega) h.step
    have k2:=ih (.calls (z5p Q (run Q n (.args []) (z5o s)).2.2 [41]).tree.length) (addP (z5p Q (run Q n (.args []) (z5o s)).2.2 [41]) ⟨12,x,0,0,(run Q n (.args []) (z5o s)).2.1,[],0,z5l Q s⟩) (by simp only[lenC];omega) ((k.1.take Q _).add (by have:=k.2;simp only[lenC,List.length_nil]at this;show(run Q n (.args []) (z5o s)).2.1.length<=10000;omega) c2)
    exact⟨k2.1,yi9 k2.2 (by simp only[lenC];omega)⟩
   ·exact⟨h,yj9 _⟩
  | args l=>
   simp only[lenC]at hn;rw[run];split
   ·have h1:LO (if 0<l.length then z5p Q s [44]else s):=by
     split
     ·exact h.take Q _
     ·exact h
    have h2:∀ t,LO t->LO (if l.length=6 then badP Q t else t):=fun t ht=>by
     split
     ·exact ht.bad Q
     ·exact ht
    have k1:=wk (c':=.level 0) rfl (h2 _ h1);have k:=ih (.args (l++[(run Q n (.level 0) (if l.length=6 then badP Q (if 0<l.length then z5p Q s [44]else s)else if 0<l.length then z5p Q s [44]else s)).1])) _ (by simp only[lenC,List.length_append,List.length_cons,List.length_nil];omega) k1
    exact⟨k.1,yi9 k.2 (by simp only[lenC,List.length_append,List.length_cons,List.length_nil];omega)⟩
   ·exact⟨h,by simp only[lenC];omega⟩
  | signed=>
   simp only[lenC]at hn;rw[run];split
   ·split
    ·exact(wk (c':=.signed) rfl (h.inn Q).step).out.end c1 c2 _
    ·exact((h.inn Q).out).end c1 c2 _
   ·have k:=ih .call s (by simp only[lenC];omega) h
    exact⟨k.1,yi9 k.2 (by simp only[lenC];omega)⟩
  | level k=>
   simp only[lenC]at hn;rw[run];split
   ·have k:=ih .signed s (by simp only[lenC];omega) h
    exact⟨k.1,yi9 k.2 (by simp only[lenC];omega)⟩
   ·have k:=ih (.more k (run Q n (.level (k+1)) s).1) _ (by simp only[lenC];omega) (wk (c':=.level (k+1)) rfl h)
    exact⟨k.1,yi9 k.2 (by simp only[lenC];omega)⟩
  | more k x=>
   simp only[lenC]at hn;rw[run];split
   ·have k:=ih (.more k (run Q n (.level (k+1)) (z5o s)).2.2.tree.length) (addP (run Q n (.level (k+1)) (z5o s)).2.2 ⟨if k=0 then 11 else if k=1 then 10 else 9,x,(run Q n (.level (k+1)) (z5o s)).1,opN (tokP Q s).text,[],[],0,z5l Q s⟩) (by simp only[lenC];omega) ((wk (c':=.level (k+1)) rfl h.step).add c1 c2)
    exact⟨k.1,yi9 k.2 (by simp only[lenC];omega)⟩
   ·exact⟨h,yj9 _⟩
  | plain k p=>
   simp only[lenC]at hn;rw[run];exact((wk (c':=.level 0) rfl h).take Q _).end c1 c2 _
  | stmt=>
   simp only[lenC]at hn;rw[run];split
   ·exact⟨(wk (c':=.inner _) rfl (h.inn Q)).out,yj9 _⟩
   ·exact⟨(h.inn Q).out,yj9 _⟩
  | inner p=>
   simp only[lenC]at hn;have ends:∀{c':Cmd} {s':PS},lenC c'=0->LO s'->LO (run Q n c' s').2.2/\(run Q n c' s').2.1.length<=lenC (.inner p)+(n+1):=fun{c' s'} e k=>by
    have q:=ih c' s' (by rw[e];omega) k
    exact⟨q.1,by have:=q.2;rw[e]at this;simp only[lenC];omega⟩
   rw[run];split
   ·exact ends (c':=.plain 22 p) rfl h.step
   split
   ·exact ends (c':=.plain 25 p) rfl h.step
   split
   ·exact ends (c':=.plain 26 p) rfl h.step
   split
   ·exact((wk (c':=.level 0) rfl ((h.step.name Q).take Q _)).take Q _).end c1 (c3 _) _
   split
   ·exact((wk (c':=.level 0) rfl ((h.name Q).take Q _)).take Q _).end c1 (c3 _) _
   split
   ·exact ends (c':=.cond p) rfl h
   split
   ·exact(wk (c':=.block) rfl ((wk (c':=.level 0) rfl (h.step.take Q _)).take Q _)).end c1 c2 _
   split
   ·exact(wk (c':=.block) rfl (((wk (c':=.block) rfl h.step).take Q _).name Q)).end c1 (c3 _) _
   split
   ·exact(wk (c':=.fn p) rfl (h.step.name Q)).end c1 (c3 _) _
   ·exact ends (c':=.plain 28 p) rfl h
  | cond p=>
   simp only[lenC]at hn;rw[run];have kb:=wk (c':=.block) rfl ((wk (c':=.level 0) rfl (h.step.take Q [40])).take Q [41]);simp only;split
   ·have ko:∀ b:Bool,LO (if b=true then run Q n .stmt (z5o (run Q n .block (z5p Q (run Q n (.level 0) (z5p Q (z5o s) [40])).2.2 [41])).2.2)else run Q n .block (z5o (run Q n .block (z5p Q (run Q n (.level 0) (z5p Q (z5o s) [40])).2.2 [41])).2.2)).2.2:=fun b=>by
     cases b
     ·exact wk (c':=.block) rfl kb.step
     ·exact wk (c':=.stmt) rfl kb.step
    exact(ko _).end c1 c2 _
   ·exact kb.end c1 c2 _
end Go.Proofs.YtggjeepbgpfcpaaGreat
