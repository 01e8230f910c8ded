/-
  Part 9 of the proof on drawn right trees.
-/
import Derived.Test.YtggjeepbgpfcpaaGreatPah
import Derived.Test.YtggjeepbgpfcpaaGreatPaa
set_option maxHeartbeats 16000000
set_option maxRecDepth 100000
set_option linter.unusedVariables false
namespace Go.Proofs.YtggjeepbgpfcpaaGreat
structure PS where
 i:Nat
 tree:List z5i
 depth:Nat
 fault:Int
structure PIn where
 T:List (Tok × Nat)
 e:Nat
 nums:∀ t,t∈T->z5k t.1.num
def z5l(Q:PIn)(s:PS):Int:=match Q.T[s.i]? with|some t=>(t.2:Int)|none=>(Q.e:Int)
def badP(Q:PIn)(s:PS):PS:=if s.fault<0 then { s with fault:=z5l Q s } else s
def isP(Q:PIn)(s:PS)(x:List UInt8):Bool:=decide (s.fault<0)&&(match Q.T[s.i]? with|some t=>(decide (t.1.kind=4)||decide (t.1.kind=5))&&decide (t.1.text=x)|none=>false)
def z5m(Q:PIn)(s:PS)(k:Int):Bool:=decide (s.fault<0)&&(match Q.T[s.i]? with|some t=>decide (t.1.kind=k)|none=>false)
def z5n(Q:PIn)(s:PS)(k:Int)(x:List UInt8):Bool:=match Q.T[s.i+1]? with|some t=>decide (t.1.kind=k)&&(decide (x=[])||decide (t.1.text=x))|none=>false
def tokP(Q:PIn)(s:PS):Tok:=match Q.T[s.i]? with|some t=>t.1|none=>⟨0,[],0⟩
def z5o(s:PS):PS:={ s with i:=s.i+1 }
def z5p(Q:PIn)(s:PS)(x:List UInt8):PS:=if isP Q s x=true then z5o s else badP Q s
def z5q(Q:PIn)(s:PS):ByteArray:=if z5m Q s 1=true then txt (tokP Q s).text else txt []
def z5r(Q:PIn)(s:PS):PS:=if z5m Q s 1=true then z5o s else badP Q s
def addP(s:PS)(n:z5i):PS:={ s with tree:=s.tree++[n] }
def inP(Q:PIn)(s:PS):PS:={ (if s.fault<0/\24<=s.depth then badP Q s else s)with depth:=s.depth+1 }
def outP(s:PS):PS:={ s with depth:=s.depth-1 }
def z5s:Nat->List (List UInt8)
 | 0=>[[124,124]]
 | 1=>[[38,38]]
 | 2=>[[61,61],[33,61]]
 | 3=>[[60],[60,61],[62],[62,61]]
 | 4=>[[43],[45]]
 | _=>[[42],[47],[37]]
def opsL:List (List UInt8):=[[43],[45],[42],[47],[37],[60],[60,61],[62],[62,61],[61,61],[33,61]]
def opAt(x:List UInt8):Nat->List (List UInt8)->Int
 | _,[]=>0
 | k,y::r=>if y=x then k else opAt x (k+1) r
def opN(x:List UInt8):Int:=opAt x 1 opsL
def parN(Q:PIn):Nat->List ByteArray->PS->List ByteArray × PS
 | 0,l,s=>(l,{ s with fault:=max s.fault 0 })
 | n+1,l,s=>
  if s.fault<0/\isP Q s [41]=false then
   let s1:=if 0<l.length then z5p Q s [44]else s
   let s2:=if l.length=4 then badP Q s1 else s1
   parN Q n (if (z5r Q s2).fault<0 then l++[z5q Q s2]else l) (z5r Q s2)
  else (l,s)
def z5t(Q:PIn)(s:PS):List ByteArray:=(parN Q 6 [] (z5p Q s [40])).1
def z5u(Q:PIn)(s:PS):PS:=z5p Q (parN Q 6 [] (z5p Q s [40])).2 [41]
inductive Cmd
 | block|stmts (l:List Int)|top (l:List Int)|fn (p:Int)|first|call|calls (x:Int)|args (l:List Int)
 | signed|level (k:Nat)|more (k:Nat) (x:Int)|plain (k p:Int)|stmt|inner (p:Int)|cond (p:Int)
def endN(s:PS)(n:z5i):Int × List Int × PS:=((s.tree.length:Int),[],addP s n)
def run(Q:PIn):Nat->Cmd->PS->Int × List Int × PS
 | 0,_,s=>(0,[],{ s with fault:=max s.fault 0 })
 | n+1,.block,s=>
  if (inP Q s).fault<0 then
   let r:=run Q n (.stmts []) (z5p Q (inP Q s) [123])
   endN (outP (z5p Q r.2.2 [125])) ⟨29,0,0,0,r.2.1,[],0,z5l Q s⟩
  else endN (outP (inP Q s)) ⟨29,0,0,0,[],[],0,z5l Q s⟩
 | n+1,.stmts l,s=>
  if s.fault<0/\isP Q s [125]=false then
   let r:=run Q n .stmt s
   run Q n (.stmts (l++[r.1])) r.2.2
  else (0,l,s)
 | n+1,.top l,s=>
  if s.fault<0/\s.i<Q.T.length then
   let r:=run Q n .stmt s
   run Q n (.top (l++[r.1])) r.2.2
  else (0,l,s)
 | n+1,.fn p,s=>
  let r:=run Q n .block (z5u Q s)
  endN r.2.2 ⟨13,r.1,0,0,[],z5t Q s,0,p⟩
 | n+1,.first,s=>
  if isP Q s [116,114,117,101]=true then endN (z5o s) ⟨3,0,0,0,[],[],0,z5l Q s⟩
  else if isP Q s [102,97,108,115,101]=true then endN (z5o s) ⟨4,0,0,0,[],[],0,z5l Q s⟩
  else if isP Q s [110,111,110,101]=true then endN (z5o s) ⟨5,0,0,0,[],[],0,z5l Q s⟩
  else if z5m Q s 2=true/\z12 (tokP Q s).num≠2 then endN (z5o s) ⟨1,0,0,0,[],[],(tokP Q s).num,z5l Q s⟩
  else if z5m Q s 3=true/\(tokP Q s).text.length<=40 then endN (z5o s) ⟨2,0,0,0,[],[txt (tokP Q s).text],0,z5l Q s⟩
  else if z5m Q s 1=true then endN (z5o s) ⟨6,0,0,0,[],[txt (tokP Q s).text],0,z5l Q s⟩
  else if isP Q s [40]=true then
   if (inP Q s).fault<0 then
    let r:=run Q n (.level 0) (z5o (inP Q s))
    (r.1,[],outP (z5p Q r.2.2 [41]))
   else (0,[],outP (inP Q s))
  else if isP Q s [102,117,110]=true then
   if (inP Q s).fault<0 then
    let r:=run Q n (.fn (z5l Q s)) (z5o (inP Q s))
    (r.1,[],outP r.2.2)
   else (0,[],outP (inP Q s))
  else (0,[],badP Q s)
 | n+1,.call,s=>
  let r:=run Q n .first s
  run Q n (.calls r.1) r.2.2
 | n+1,.calls x,s=>
  if isP Q s [40]=true then
   let r:=run Q n (.args []) (z5o s)
   let s2:=z5p Q r.2.2 [41]
   run Q n (.calls s2.tree.length) (addP s2 ⟨12,x,0,0,r.2.1,[],0,z5l Q s⟩)
  else (x,[],s)
 | n+1,.args l,s=>
  if s.fault<0/\isP Q s [41]=false then
   let s1:=if 0<l.length then z5p Q s [44]else s
   let s2:=if l.length=6 then badP Q s1 else s1
   let r:=run Q n (.level 0) s2
   run Q n (.args (l++[r.1])) r.2.2
  else (0,l,s)
 | n+1,.signed,s=>
  if isP Q s [45]=true\/isP Q s [33]=true then
   if (inP Q s).fault<0 then
    let r:=run Q n .signed (z5o (inP Q s))
    endN (outP r.2.2) ⟨if isP Q s [33]=true then 7 else 8,r.1,0,0,[],[],0,z5l Q s⟩
   else endN (outP (inP Q s)) ⟨if isP Q s [33]=true then 7 else 8,0,0,0,[],[],0,z5l Q s⟩
  else run Q n .call s
 | n+1,.level k,s=>
  if k=6 then run Q n .signed s
  else
   let r:=run Q n (.level (k+1)) s
   run Q n (.more k r.1) r.2.2
 | n+1,.more k x,s=>
  if z5m Q s 4=true/\(tokP Q s).text∈z5s k then
   let r:=run Q n (.level (k+1)) (z5o s)
   run Q n (.more k r.2.2.tree.length) (addP r.2.2 ⟨if k=0 then 11 else if k=1 then 10 else 9,x,r.1,opN (tokP Q s).text,[],[],0,z5l Q s⟩)
  else (x,[],s)
 | n+1,.plain k p,s=>
  let r:=run Q n (.level 0) s
  endN (z5p Q r.2.2 [59]) ⟨k,r.1,0,0,[],[],0,p⟩
 | n+1,.stmt,s=>
  if (inP Q s).fault<0 then
   let r:=run Q n (.inner (z5l Q (inP Q s))) (inP Q s)
   (r.1,[],outP r.2.2)
  else (0,[],outP (inP Q s))
 | n+1,.inner p,s=>
  if isP Q s [112,114,105,110,116]=true then run Q n (.plain 22 p) (z5o s)
  else if isP Q s [114,101,116,117,114,110]=true then run Q n (.plain 25 p) (z5o s)
  else if isP Q s [116,104,114,111,119]=true then run Q n (.plain 26 p) (z5o s)
  else if isP Q s [108,101,116]=true then
   let s1:=z5p Q (z5r Q (z5o s)) [61]
   let r:=run Q n (.level 0) s1
   endN (z5p Q r.2.2 [59]) ⟨20,r.1,0,0,[],[z5q Q (z5o s)],0,p⟩
  else if z5m Q s 1=true/\z5n Q s 4 [61]=true then
   let s1:=z5p Q (z5r Q s) [61]
   let r:=run Q n (.level 0) s1
   endN (z5p Q r.2.2 [59]) ⟨21,r.1,0,0,[],[z5q Q s],0,p⟩
  else if isP Q s [105,102]=true then run Q n (.cond p) s
  else if isP Q s [119,104,105,108,101]=true then
   let r:=run Q n (.level 0) (z5p Q (z5o s) [40])
   let b:=run Q n .block (z5p Q r.2.2 [41])
   endN b.2.2 ⟨24,r.1,b.1,0,[],[],0,p⟩
  else if isP Q s [116,114,121]=true then
   let a:=run Q n .block (z5o s)
   let s2:=z5p Q a.2.2 [99,97,116,99,104]
   let b:=run Q n .block (z5r Q s2)
   endN b.2.2 ⟨27,a.1,b.1,0,[],[z5q Q s2],0,p⟩
  else if isP Q s [102,117,110]=true/\z5n Q s 1 []=true then
   let a:=run Q n (.fn p) (z5r Q (z5o s))
   endN a.2.2 ⟨20,a.1,1,0,[],[z5q Q (z5o s)],0,p⟩
  else run Q n (.plain 28 p) s
 | n+1,.cond p,s=>
  let a:=run Q n (.level 0) (z5p Q (z5o s) [40])
  let b:=run Q n .block (z5p Q a.2.2 [41])
  if isP Q b.2.2 [101,108,115,101]=true then
   let s4:=z5o b.2.2
   let o:=if isP Q s4 [105,102]=true then run Q n .stmt s4 else run Q n .block s4
   endN o.2.2 ⟨23,a.1,b.1,o.1,[],[],0,p⟩
  else endN b.2.2 ⟨23,a.1,b.1,-1,[],[],0,p⟩
def z5v(Q:PIn):List z5i × Int:=
 let r:=run Q (30*(Q.T.length+2)) (.top []) ⟨0,[],0,-1⟩
 if 0<=r.2.2.fault then ([],r.2.2.fault)else (r.2.2.tree++[⟨29,0,0,0,r.2.1,[],0,0⟩],-1)
structure Le(Q:PIn)(s s':PS):Prop where
 i:s.i<=s'.i
 most:s.i<=Q.T.length->s'.i<=Q.T.length
 stays:0<=s.fault->s'.fault=s.fault/\s'.i=s.i
 tree:∃ l,s'.tree=s.tree++l
theorem Le.refl(Q:PIn)(s:PS):Le Q s s:=⟨yf9 _,id,fun _=>⟨rfl,rfl⟩,[],by simp⟩
theorem Le.trans{Q:PIn}{a b c:PS}(h:Le Q a b)(k:Le Q b c):Le Q a c:=by
 refine⟨yi9 h.i k.i,fun x=>k.most (h.most x),fun x=>?_,?_⟩
 ·obtain⟨e1,e2⟩:=h.stays x;obtain⟨e3,e4⟩:=k.stays (by rw[e1];exact x)
  exact⟨e3.trans e1,e4.trans e2⟩
 ·obtain⟨l,hl⟩:=h.tree;obtain⟨m,hm⟩:=k.tree;exact⟨l++m,by rw[hm,hl,List.append_assoc]⟩
theorem z5w(Q:PIn)(s:PS):0<=z5l Q s:=by
 unfold z5l;split<;>omega
theorem z5x(Q:PIn)(s:PS):0<=(badP Q s).fault:=by
 unfold badP;split
 ·exact z5w Q s
 ·omega
theorem z5y(Q:PIn)(s:PS):(badP Q s).i=s.i:=by unfold badP;split<;>rfl
theorem z5z(Q:PIn)(s:PS):(badP Q s).depth=s.depth:=by unfold badP;split<;>rfl
theorem z5A(Q:PIn)(s:PS):(badP Q s).tree=s.tree:=by unfold badP;split<;>rfl
theorem z5B(Q:PIn)(s:PS):Le Q s (badP Q s):=by
 refine⟨by rw[z5y];exact yf9 _,fun h=>by rw[z5y];exact h,fun h=>?_,[],by rw[z5A];simp⟩
 unfold badP;rw[if_neg (by omega)]
 exact⟨rfl,rfl⟩
theorem z5C{Q:PIn}{s:PS}{x:List UInt8}(h:isP Q s x=true):s.fault<0/\s.i<Q.T.length:=by
 unfold isP at h;simp only[Bool.and_eq_true,decide_eq_true_eq]at h;refine⟨h.1,?_⟩;rcases Nat.lt_or_ge s.i Q.T.length with k|k
 ·exact k
 ·rw[List.getElem?_eq_none k]at h;cases h.2
theorem z5D{Q:PIn}{s:PS}{x:Int}(h:z5m Q s x=true):s.fault<0/\s.i<Q.T.length:=by
 unfold z5m at h;simp only[Bool.and_eq_true,decide_eq_true_eq]at h;refine⟨h.1,?_⟩;rcases Nat.lt_or_ge s.i Q.T.length with k|k
 ·exact k
 ·rw[List.getElem?_eq_none k]at h;cases h.2
theorem z5E{Q:PIn}{s:PS}(h:s.fault<0/\s.i<Q.T.length):Le Q s (z5o s):=⟨Nat.le_succ _,fun _=>h.2,fun k=>by omega,[],by simp[z5o]⟩
theorem z5F(Q:PIn)(s:PS)(x:List UInt8):Le Q s (z5p Q s x):=by
 unfold z5p;split
 ·exact z5E (z5C ‹_›)
 ·exact z5B Q s
theorem z5G(Q:PIn)(s:PS)(x:List UInt8):(z5p Q s x).depth=s.depth:=by
 unfold z5p;split
 ·rfl
 ·exact z5z Q s
theorem z5H{Q:PIn}{s:PS}{x:List UInt8}(h:(z5p Q s x).fault<0):isP Q s x=true/\z5p Q s x=z5o s:=by
 unfold z5p at h ⊢;split at h
 ·rename_i k
  exact⟨k,by rw[if_pos k]⟩
 ·have:=z5x Q s;omega
theorem z5I(Q:PIn)(s:PS):Le Q s (z5r Q s):=by
 unfold z5r;split
 ·exact z5E (z5D ‹_›)
 ·exact z5B Q s
theorem z5J(Q:PIn)(s:PS):(z5r Q s).depth=s.depth:=by
 unfold z5r;split
 ·rfl
 ·exact z5z Q s
theorem z5K{Q:PIn}{s:PS}(h:(z5r Q s).fault<0):z5m Q s 1=true/\z5r Q s=z5o s:=by
 unfold z5r at h ⊢;split at h
 ·rename_i k
  exact⟨k,by rw[if_pos k]⟩
 ·have:=z5x Q s;omega
theorem z5L(Q:PIn)(s:PS)(n:z5i):Le Q s (addP s n):=⟨yf9 _,id,fun _=>⟨rfl,rfl⟩,[n],rfl⟩
theorem z5M(Q:PIn)(s:PS):(inP Q s).i=s.i:=by
 unfold inP;split
 ·exact z5y Q s
 ·rfl
theorem z5N(Q:PIn)(s:PS):(inP Q s).depth=s.depth+1:=rfl
theorem z5O(Q:PIn)(s:PS):Le Q s (inP Q s):=by
 have h:Le Q s (if s.fault<0/\24<=s.depth then badP Q s else s):=by
  split
  ·exact z5B Q s
  ·exact Le.refl Q s
 exact⟨h.i,h.most,h.stays,h.tree⟩
theorem z5P{Q:PIn}{s:PS}(h:(inP Q s).fault<0):s.fault<0/\s.depth<24/\inP Q s={ s with depth:=s.depth+1 }:=by
 unfold inP at h ⊢;by_cases k:s.fault<0/\24<=s.depth
 ·rw[if_pos k]at h;have:=z5x Q s;simp only at h;omega
 ·rw[if_neg k]at h ⊢;simp only at h;exact⟨h,by omega,rfl⟩
theorem z5Q(Q:PIn)(s:PS):Le Q s (outP s):=⟨yf9 _,id,fun _=>⟨rfl,rfl⟩,[],by simp[outP]⟩
theorem z5R(Q:PIn)(s:PS):Le Q s { s with fault:=max s.fault 0 }:=⟨yf9 _,id,fun h=>⟨by simp only;omega,rfl⟩,[],by simp⟩
theorem z5S(Q:PIn):∀(n:Nat) (l:List ByteArray) (s:PS),Le Q s (parN Q n l s).2
 | 0,l,s=>z5R Q s
 | n+1,l,s=>by
  rw[parN];split
  ·refine Le.trans ?_ (z5S Q n _ _);refine Le.trans ?_ (z5I Q _);have h1:Le Q s (if 0<l.length then z5p Q s [44]else s):=by
    split
    ·exact z5F Q s _
    ·exact Le.refl Q s
   have h2:∀ t,Le Q t (if l.length=4 then badP Q t else t):=fun t=>by
    split
    ·exact z5B Q t
    ·exact Le.refl Q t
   exact h1.trans (h2 _)
  ·exact Le.refl Q s
theorem z5T(Q:PIn):∀(n:Nat) (l:List ByteArray) (s:PS),(parN Q n l s).2.depth=s.depth
 | 0,l,s=>rfl
 | n+1,l,s=>by
  rw[parN];split
  ·rw[z5T Q n,z5J];split
   ·rw[z5z];split
    ·exact z5G Q s _
    ·rfl
   ·split
    ·exact z5G Q s _
    ·rfl
  ·rfl
theorem z5U(Q:PIn)(s:PS):Le Q s (z5u Q s):=((z5F Q s _).trans (z5S Q _ _ _)).trans (z5F Q _ _)
theorem z5V(Q:PIn)(s:PS):(z5u Q s).depth=s.depth:=by unfold z5u;rw[z5G,z5T,z5G]
theorem z5W(Q:PIn)(s:PS)(n:z5i):Le Q s (endN s n).2.2:=z5L Q s n
theorem z5X{Q:PIn}{s:PS}(h:(inP Q s).fault<0)(k:s.i<Q.T.length):Le Q s (z5o (inP Q s)):=(z5O Q s).trans (z5E ⟨h,by rw[z5M];exact k⟩)
theorem z5Y(Q:PIn):∀(n:Nat) (c:Cmd) (s:PS),(∀ p,c=.cond p->isP Q s [105,102]=true)->Le Q s (run Q n c s).2.2
 | 0,c,s,_=>by cases c<;>exact z5R Q s
 | n+1,c,s,hc=>by
  have ih:=z5Y Q n;cases c with
  | block=>
   rw[run];split
   ·exact(((z5O Q s).trans (z5F Q _ _)).trans (ih (.stmts []) _ (by intro p e;cases e))).trans (((z5F Q _ _).trans (z5Q Q _)).trans (z5W Q _ _))
   ·exact((z5O Q s).trans (z5Q Q _)).trans (z5W Q _ _)
  | stmts l=>
   rw[run];split
   ·exact(ih .stmt s (by intro p e;cases e)).trans (ih (.stmts _) _ (by intro p e;cases e))
   ·exact Le.refl Q s
  | top l=>
   rw[run];split
   ·exact(ih .stmt s (by intro p e;cases e)).trans (ih (.top _) _ (by intro p e;cases e))
   ·exact Le.refl Q s
  | fn p=>
   rw[run];exact((z5U Q s).trans (ih .block _ (by intro p e;cases e))).trans (z5W Q _ _)
  | first=>
   rw[run];split
   ·exact(z5E (z5C ‹_›)).trans (z5W Q _ _)
   split
   ·exact(z5E (z5C ‹_›)).trans (z5W Q _ _)
   split
   ·exact(z5E (z5C ‹_›)).trans (z5W Q _ _)
   split
   ·rename_i h
    exact(z5E (z5D h.1)).trans (z5W Q _ _)
   split
   ·rename_i h
    exact(z5E (z5D h.1)).trans (z5W Q _ _)
   split
   ·exact(z5E (z5D ‹_›)).trans (z5W Q _ _)
   split
   ·rename_i h
    split
    ·exact((z5X ‹_› (z5C h).2).trans (ih (.level 0) _ (by intro p e;cases e))).trans ((z5F Q _ _).trans (z5Q Q _))
    ·exact(z5O Q s).trans (z5Q Q _)
   split
   ·rename_i h
    split
    ·exact((z5X ‹_› (z5C h).2).trans (ih (.fn _) _ (by intro p e;cases e))).trans (z5Q Q _)
    ·exact(z5O Q s).trans (z5Q Q _)
   ·exact z5B Q s
  | call=>
   rw[run];exact(ih .first s (by intro p e;cases e)).trans (ih (.calls _) _ (by intro p e;cases e))
  | calls x=>
   rw[run];split
   ·exact(((z5E (z5C ‹_›)).trans (ih (.args []) _ (by intro p e;cases e))).trans ((z5F Q _ _).trans (z5L Q _ _))).trans (ih (.calls _) _ (by intro p e;cases e))
   ·exact Le.refl Q s
  | args l=>
   rw[run];split
   ·have h1:Le Q s (if 0<l.length then z5p Q s [44]else s):=by
     split
     ·exact z5F Q s _
     ·exact Le.refl Q s
    have h2:∀ t,Le Q t (if l.length=6 then badP Q t else t):=fun t=>by
     split
     ·exact z5B Q t
     ·exact Le.refl Q t
    exact((h1.trans (h2 _)).trans (ih (.level 0) _ (by intro p e;cases e))).trans (ih (.args _) _ (by intro p e;cases e))
   ·exact Le.refl Q s
  | signed=>
   rw[run];split
   ·rename_i h
    have hh:s.i<Q.T.length:=by rcases h with h|h<;>exact(z5C h).2
    split
    ·exact((z5X ‹_› hh).trans (ih .signed _ (by intro p e;cases e))).trans ((z5Q Q _).trans (z5W Q _ _))
    ·exact((z5O Q s).trans (z5Q Q _)).trans (z5W Q _ _)
   ·exact ih .call s (by intro p e;cases e)
  | level k=>
   rw[run];split
   ·exact ih .signed s (by intro p e;cases e)
   ·exact(ih (.level _) s (by intro p e;cases e)).trans (ih (.more _ _) _ (by intro p e;cases e))
  | more k x=>
   rw[run];split
   ·rename_i h
    exact(((z5E (z5D h.1)).trans (ih (.level _) _ (by intro p e;cases e))).trans (z5L Q _ _)).trans (ih (.more _ _) _ (by intro p e;cases e))
   ·exact Le.refl Q s
  | plain k p=>
   rw[run];exact(ih (.level 0) s (by intro p e;cases e)).trans ((z5F Q _ _).trans (z5W Q _ _))
  | stmt=>
   rw[run];split
   ·exact((z5O Q s).trans (ih (.inner _) _ (by intro p e;cases e))).trans (z5Q Q _)
   ·exact(z5O Q s).trans (z5Q Q _)
  | inner p=>
   rw[run];split
   ·exact(z5E (z5C ‹_›)).trans (ih (.plain _ _) _ (by intro p e;cases e))
   split
   ·exact(z5E (z5C ‹_›)).trans (ih (.plain _ _) _ (by intro p e;cases e))
   split
   ·exact(z5E (z5C ‹_›)).trans (ih (.plain _ _) _ (by intro p e;cases e))
   split
   ·exact((((z5E (z5C ‹_›)).trans (z5I Q _)).trans (z5F Q _ _)).trans (ih (.level 0) _ (by intro p e;cases e))).trans ((z5F Q _ _).trans (z5W Q _ _))
   split
   ·exact(((z5I Q _).trans (z5F Q _ _)).trans (ih (.level 0) _ (by intro p e;cases e))).trans ((z5F Q _ _).trans (z5W Q _ _))
   split
   ·rename_i h
    exact ih (.cond p) s (by intro p' e;exact h)
   split
   ·exact((((z5E (z5C ‹_›)).trans (z5F Q _ _)).trans (ih (.level 0) _ (by intro p e;cases e))).trans ((z5F Q _ _).trans (ih .block _ (by intro p e;cases e)))).trans (z5W Q _ _)
   split
   ·exact((((z5E (z5C ‹_›)).trans (ih .block _ (by intro p e;cases e))).trans ((z5F Q _ _).trans (z5I Q _))).trans (ih .block _ (by intro p e;cases e))).trans (z5W Q _ _)
   split
   ·rename_i h
    exact(((z5E (z5C h.1)).trans (z5I Q _)).trans (ih (.fn _) _ (by intro p e;cases e))).trans (z5W Q _ _)
   ·exact ih (.plain _ _) s (by intro p e;cases e)
  | cond p=>
   have h0:=z5C (hc p rfl);rw[run];have hb:Le Q s (run Q n .block (z5p Q (run Q n (.level 0) (z5p Q (z5o s) [40])).2.2 [41])).2.2:=
    ((((z5E h0).trans (z5F Q _ _)).trans (ih (.level 0) _ (by intro p e;cases e))).trans (z5F Q _ _)).trans (ih .block _ (by intro p e;cases e))
   simp only;split
   ·rename_i h
    refine(hb.trans (z5E (z5C h))).trans (Le.trans ?_ (z5W Q _ _));split
    ·exact ih .stmt _ (by intro p e;cases e)
    ·exact ih .block _ (by intro p e;cases e)
   ·exact hb.trans (z5W Q _ _)
theorem z5Z(Q:PIn):∀(n:Nat) (c:Cmd) (s:PS),(run Q n c s).2.2.depth=s.depth
 | 0,c,s=>by cases c<;>rfl
 | n+1,c,s=>by
  have ih:=z5Z Q n;have ho:∀ s:PS,(outP s).depth=s.depth-1:=fun _=>rfl;have hs:∀ s:PS,(z5o s).depth=s.depth:=fun _=>rfl;have ha:∀(s:PS) (n:z5i),(addP s n).depth=s.depth:=fun _ _=>rfl;have he:∀(s:PS) (n:z5i),(endN s n).2.2.depth=s.depth:=fun _ _=>rfl;cases c with
  | block=>
   rw[run];split
   ·simp only[he,ho,z5G,ih,z5N];omega
   ·simp only[he,ho,z5N];omega
  | stmts l=>
   rw[run];split
   ·simp only[ih]
   ·rfl
  | top l=>
   rw[run];split
   ·simp only[ih]
   ·rfl
  | fn p=>
   rw[run];simp only[he,ih,z5V]
  | first=>
   rw[run];split
   ·rfl
   split
   ·rfl
   split
   ·rfl
   split
   ·rfl
   split
   ·rfl
   split
   ·rfl
   split
   ·split
    ·simp only[ho,z5G,ih,hs,z5N];omega
    ·simp only[ho,z5N];omega
   split
   ·split
    ·simp only[ho,ih,hs,z5N];omega
    ·simp only[ho,z5N];omega
   ·exact z5z Q s
  | call=>
   rw[run];simp only[ih]
  | calls x=>
   rw[run];split
   ·simp only[ih,ha,z5G,hs]
   ·rfl
  | args l=>
   rw[run];split
   ·simp only[ih];have h1:(if 0<l.length then z5p Q s [44]else s).depth=s.depth:=by
     split
     ·exact z5G Q s _
     ·rfl
    have h2:∀ t:PS,(if l.length=6 then badP Q t else t).depth=t.depth:=fun t=>by
     split
     ·exact z5z Q t
     ·rfl
    rw[h2,h1]
   ·rfl
  | signed=>
   rw[run];split
   ·split
    ·simp only[he,ho,ih,hs,z5N];omega
    ·simp only[he,ho,z5N];omega
   ·simp only[ih]
  | level k=>
   rw[run];split
   ·simp only[ih]
   ·simp only[ih]
  | more k x=>
   rw[run];split
   ·simp only[ih,ha,hs]
   ·rfl
  | plain k p=>
   rw[run];simp only[he,z5G,ih]
  | stmt=>
   rw[run];split
   ·simp only[ho,ih,z5N];omega
   ·simp only[ho,z5N];omega
  | inner p=>
   rw[run];split
   ·simp only[ih,hs]
   split
   ·simp only[ih,hs]
   split
   ·simp only[ih,hs]
   split
   ·simp only[he,z5G,ih,z5J,hs]
   split
   ·simp only[he,z5G,ih,z5J]
   split
   ·simp only[ih]
   split
   ·simp only[he,z5G,ih,hs]
   split
   ·simp only[he,z5G,ih,z5J,hs]
   split
   ·simp only[he,ih,z5J,hs]
   ·simp only[ih]
  | cond p=>
   rw[run];simp only;split
   ·rw[he];split
    ·simp only[ih,z5G,hs]
    ·simp only[ih,z5G,hs]
   ·simp only[he,ih,z5G,hs]
def On(k:Int)(m:Nat)(s s':PS):Prop:=s'.fault<0->s.fault<0/\s.i+m<=s'.i/\(s'.tree.length:Int)+k+s.i<=s.tree.length+s'.i
theorem On.trans{k k':Int}{m m':Nat}{a b c:PS}(h:On k m a b)(g:On k' m' b c):On (k+k') (m+m') a c:=fun f=>by
 obtain⟨g1,g2,g3⟩:=g f;obtain⟨h1,h2,h3⟩:=h g1;exact⟨h1,by omega,by omega⟩
theorem On.weak{k k':Int}{m m':Nat}{a b:PS}(h:On k m a b)(hk:k'<=k)(hm:m'<=m):On k' m' a b:=fun f=>by
 obtain⟨h1,h2,h3⟩:=h f;exact⟨h1,by omega,by omega⟩
theorem On.refl(s:PS):On 0 0 s s:=fun f=>⟨f,by omega,by omega⟩
theorem z60{s:PS}(h:s.fault<0):On 1 1 s (z5o s):=fun f=>⟨h,yf9 _,by show(s.tree.length:Int)+1+s.i<=s.tree.length+(s.i+1:Nat);omega⟩
theorem z61(Q:PIn)(s t:PS)(k:Int)(m:Nat):On k m t (badP Q s):=fun f=>by have:=z5x Q s;omega
theorem z62(Q:PIn)(s:PS)(x:List UInt8):On 1 1 s (z5p Q s x):=fun f=>by
 obtain⟨h,e⟩:=z5H f;rw[e]at f ⊢;exact z60 (z5C h).1 f
theorem z63(Q:PIn)(s:PS):On 1 1 s (z5r Q s):=fun f=>by
 obtain⟨h,e⟩:=z5K f;rw[e]at f ⊢;exact z60 (z5D h).1 f
theorem z64(s:PS)(n:z5i):On (-1) 0 s (addP s n):=fun f=>⟨f,yf9 _,by show((s.tree++[n]).length:Int)+-1+s.i<=s.tree.length+s.i;simp only[List.length_append,List.length_cons,List.length_nil];omega⟩
theorem z65(s:PS)(n:z5i):On (-1) 0 s (endN s n).2.2:=z64 s n
theorem z66(Q:PIn)(s:PS):On 0 0 s (inP Q s):=fun f=>by
 obtain⟨h,_,e⟩:=z5P f;rw[e];exact⟨h,yf9 _,by simp⟩
theorem z67(s:PS):On 0 0 s (outP s):=fun f=>⟨f,yf9 _,by simp[outP]⟩
theorem z68(s:PS)(k:Int)(m:Nat):On k m s { s with fault:=max s.fault 0 }:=fun f=>by simp only at f;omega
theorem z69{Q:PIn}{s:PS}(h:(inP Q s).fault<0):On 1 1 s (z5o (inP Q s)):=((z66 Q s).trans (z60 h)).weak (by omega) (by first|omega|(simp only[eats];omega))
theorem z6a(Q:PIn):∀(n:Nat) (l:List ByteArray) (s:PS),On 0 0 s (parN Q n l s).2
 | 0,l,s=>z68 s _ _
 | n+1,l,s=>by
  rw[parN];split
  ·have h1:On 0 0 s (if 0<l.length then z5p Q s [44]else s):=by
    split
    ·exact(z62 Q s _).weak (by omega) (by first|omega|(simp only[eats];omega))
    ·exact On.refl s
   have h2:∀ t,On 0 0 t (if l.length=4 then badP Q t else t):=fun t=>by
    split
    ·exact z61 Q t t _ _
    ·exact On.refl t
   exact(((h1.trans (h2 _)).trans (z63 Q _)).trans (z6a Q n _ _)).weak (by omega) (by first|omega|(simp only[eats];omega))
  ·exact On.refl s
theorem z6b(Q:PIn)(s:PS):On 2 2 s (z5u Q s):=(((z62 Q s _).trans (z6a Q _ _ _)).trans (z62 Q _ _)).weak (by omega) (by first|omega|(simp only[eats];omega))
def eats:Cmd->Nat
 | .stmts _=>0
 | .top _=>0
 | .calls _=>0
 | .args _=>0
 | .more _ _=>0
 | _=>1
theorem z6c(Q:PIn):∀(n:Nat) (c:Cmd) (s:PS),(∀ p,c=.cond p->isP Q s [105,102]=true)->On 0 (eats c) s (run Q n c s).2.2
 | 0,c,s,_=>by cases c<;>exact z68 s _ _
 | n+1,c,s,hc=>by
  have ih:=z6c Q n;cases c with
  | block=>
   rw[run];split
   ·exact((((z66 Q s).trans (z62 Q _ _)).trans (ih (.stmts []) _ (by intro p e;cases e))).trans (((z62 Q _ _).trans (z67 _)).trans (z65 _ _))).weak (by omega) (by first|omega|(simp only[eats];omega))
   ·rename_i h
    intro f;exact absurd f h
  | stmts l=>
   rw[run];split
   ·exact((ih .stmt s (by intro p e;cases e)).trans (ih (.stmts _) _ (by intro p e;cases e))).weak (by omega) (by first|omega|(simp only[eats];omega))
   ·exact On.refl s
  | top l=>
   rw[run];split
   ·exact((ih .stmt s (by intro p e;cases e)).trans (ih (.top _) _ (by intro p e;cases e))).weak (by omega) (by first|omega|(simp only[eats];omega))
   ·exact On.refl s
  | fn p=>
   rw[run];exact(((z6b Q s).trans (ih .block _ (by intro p e;cases e))).trans (z65 _ _)).weak (by omega) (by first|omega|(simp only[eats];omega))
  | first=>
   rw[run];split
   ·exact((z60 (z5C ‹_›).1).trans (z65 _ _)).weak (by omega) (by first|omega|(simp only[eats];omega))
   split
   ·exact((z60 (z5C ‹_›).1).trans (z65 _ _)).weak (by omega) (by first|omega|(simp only[eats];omega))
   split
   ·exact((z60 (z5C ‹_›).1).trans (z65 _ _)).weak (by omega) (by first|omega|(simp only[eats];omega))
   split
   ·rename_i h
    exact((z60 (z5D h.1).1).trans (z65 _ _)).weak (by omega) (by first|omega|(simp only[eats];omega))
   split
   ·rename_i h
    exact((z60 (z5D h.1).1).trans (z65 _ _)).weak (by omega) (by first|omega|(simp only[eats];omega))
   split
   ·exact((z60 (z5D ‹_›).1).trans (z65 _ _)).weak (by omega) (by first|omega|(simp only[eats];omega))
   split
   ·split
    ·exact(((z69 ‹_›).trans (ih (.level 0) _ (by intro p e;cases e))).trans ((z62 Q _ _).trans (z67 _))).weak (by omega) (by first|omega|(simp only[eats];omega))
    ·rename_i h
     intro f;exact absurd f h
   split
   ·split
    ·exact(((z69 ‹_›).trans (ih (.fn _) _ (by intro p e;cases e))).trans (z67 _)).weak (by omega) (by first|omega|(simp only[eats];omega))
    ·rename_i h
     intro f;exact absurd f h
   ·exact z61 Q s s _ _
  | call=>
   rw[run];exact((ih .first s (by intro p e;cases e)).trans (ih (.calls _) _ (by intro p e;cases e))).weak (by omega) (by first|omega|(simp only[eats];omega))
  | calls x=>
   rw[run];split
   ·exact((((z60 (z5C ‹_›).1).trans (ih (.args []) _ (by intro p e;cases e))).trans ((z62 Q _ _).trans (z64 _ _))).trans (ih (.calls _) _ (by intro p e;cases e))).weak (by omega) (by first|omega|(simp only[eats];omega))
   ·exact On.refl s
  | args l=>
   rw[run];split
   ·have h1:On 0 0 s (if 0<l.length then z5p Q s [44]else s):=by
     split
     ·exact(z62 Q s _).weak (by omega) (by first|omega|(simp only[eats];omega))
     ·exact On.refl s
    have h2:∀ t,On 0 0 t (if l.length=6 then badP Q t else t):=fun t=>by
     split
     ·exact z61 Q t t _ _
     ·exact On.refl t
    exact(((h1.trans (h2 _)).trans (ih (.level 0) _ (by intro p e;cases e))).trans (ih (.args _) _ (by intro p e;cases e))).weak (by omega) (by first|omega|(simp only[eats];omega))
   ·exact On.refl s
  | signed=>
   rw[run];split
   ·split
    ·exact(((z69 ‹_›).trans (ih .signed _ (by intro p e;cases e))).trans ((z67 _).trans (z65 _ _))).weak (by omega) (by first|omega|(simp only[eats];omega))
    ·rename_i h
     intro f;exact absurd f h
   ·exact ih .call s (by intro p e;cases e)
  | level k=>
   rw[run];split
   ·exact ih .signed s (by intro p e;cases e)
   ·exact((ih (.level _) s (by intro p e;cases e)).trans (ih (.more _ _) _ (by intro p e;cases e))).weak (by omega) (by first|omega|(simp only[eats];omega))
  | more k x=>
   rw[run];split
   ·rename_i h
    exact((((z60 (z5D h.1).1).trans (ih (.level _) _ (by intro p e;cases e))).trans (z64 _ _)).trans (ih (.more _ _) _ (by intro p e;cases e))).weak (by omega) (by first|omega|(simp only[eats];omega))
   ·exact On.refl s
  | plain k p=>
   rw[run];exact((ih (.level 0) s (by intro p e;cases e)).trans ((z62 Q _ _).trans (z65 _ _))).weak (by omega) (by first|omega|(simp only[eats];omega))
  | stmt=>
   rw[run];split
   ·exact(((z66 Q s).trans (ih (.inner _) _ (by intro p e;cases e))).trans (z67 _)).weak (by omega) (by first|omega|(simp only[eats];omega))
   ·rename_i h
    intro f;exact absurd f h
  | inner p=>
   rw[run];split
   ·exact((z60 (z5C ‹_›).1).trans (ih (.plain _ _) _ (by intro p e;cases e))).weak (by omega) (by first|omega|(simp only[eats];omega))
   split
   ·exact((z60 (z5C ‹_›).1).trans (ih (.plain _ _) _ (by intro p e;cases e))).weak (by omega) (by first|omega|(simp only[eats];omega))
   split
   ·exact((z60 (z5C ‹_›).1).trans (ih (.plain _ _) _ (by intro p e;cases e))).weak (by omega) (by first|omega|(simp only[eats];omega))
   split
   ·exact(((((z60 (z5C ‹_›).1).trans (z63 Q _)).trans (z62 Q _ _)).trans (ih (.level 0) _ (by intro p e;cases e))).trans ((z62 Q _ _).trans (z65 _ _))).weak (by omega) (by first|omega|(simp only[eats];omega))
   split
   ·exact((((z63 Q _).trans (z62 Q _ _)).trans (ih (.level 0) _ (by intro p e;cases e))).trans ((z62 Q _ _).trans (z65 _ _))).weak (by omega) (by first|omega|(simp only[eats];omega))
   split
   ·rename_i h
    exact ih (.cond p) s (by intro p' e;exact h)
   split
   ·exact(((((z60 (z5C ‹_›).1).trans (z62 Q _ _)).trans (ih (.level 0) _ (by intro p e;cases e))).trans ((z62 Q _ _).trans (ih .block _ (by intro p e;cases e)))).trans (z65 _ _)).weak (by omega) (by first|omega|(simp only[eats];omega))
   split
   ·exact(((((z60 (z5C ‹_›).1).trans (ih .block _ (by intro p e;cases e))).trans ((z62 Q _ _).trans (z63 Q _))).trans (ih .block _ (by intro p e;cases e))).trans (z65 _ _)).weak (by omega) (by first|omega|(simp only[eats];omega))
   split
   ·rename_i h
    exact((((z60 (z5C h.1).1).trans (z63 Q _)).trans (ih (.fn _) _ (by intro p e;cases e))).trans (z65 _ _)).weak (by omega) (by first|omega|(simp only[eats];omega))
   ·exact ih (.plain _ _) s (by intro p e;cases e)
  | cond p=>
   have h0:=(z5C (hc p rfl)).1;rw[run];have hb:On 3 5 s (run Q n .block (z5p Q (run Q n (.level 0) (z5p Q (z5o s) [40])).2.2 [41])).2.2:=
    (((((z60 h0).trans (z62 Q _ _)).trans (ih (.level 0) _ (by intro p e;cases e))).trans (z62 Q _ _)).trans (ih .block _ (by intro p e;cases e))).weak (by omega) (by first|omega|(simp only[eats];omega))
   simp only;split
   ·rename_i h
    have ho:On 0 0 (z5o (run Q n .block (z5p Q (run Q n (.level 0) (z5p Q (z5o s) [40])).2.2 [41])).2.2) (if isP Q (z5o (run Q n .block (z5p Q (run Q n (.level 0) (z5p Q (z5o s) [40])).2.2 [41])).2.2) [105,102]=true then run Q n .stmt (z5o (run Q n .block (z5p Q (run Q n (.level 0) (z5p Q (z5o s) [40])).2.2 [41])).2.2)else run Q n .block (z5o (run Q n .block (z5p Q (run Q n (.level 0) (z5p Q (z5o s) [40])).2.2 [41])).2.2)).2.2:=by
     split
     ·exact(ih .stmt _ (by intro p e;cases e)).weak (by omega) (by first|omega|(simp only[eats];omega))
     ·exact(ih .block _ (by intro p e;cases e)).weak (by omega) (by first|omega|(simp only[eats];omega))
    exact(((hb.trans (z60 (z5C h).1)).trans ho).trans (z65 _ _)).weak (by omega) (by first|omega|(simp only[eats];omega))
   ·exact(hb.trans (z65 _ _)).weak (by omega) (by first|omega|(simp only[eats];omega))
def z6d(Q:PIn)(s:PS):Nat:=if s.fault<0 then Q.T.length+1-s.i else 0
theorem z6e{Q:PIn}{s s':PS}(h:Le Q s s'):z6d Q s'<=z6d Q s:=by
 have hi:=h.i;unfold z6d;by_cases k:s.fault<0
 ·rw[if_pos k];split<;>omega
 ·rw[if_neg k,if_neg (by rw[(h.stays (by omega)).1];exact k)]
  exact yf9 _
theorem z6f{Q:PIn}{s s':PS}{k:Int}{m:Nat}(h:Le Q s s')(g:On k m s s')(hm:1<=m)(hi:s.i<=Q.T.length)(hf:s.fault<0):z6d Q s'+1<=z6d Q s:=by
 have:=h.most hi;unfold z6d;rw[if_pos hf];split
 ·rename_i f
  have:=(g f).2.1;omega
 ·omega
def z6g:Cmd->Nat
 | .block=>1
 | .stmts _=>14
 | .top _=>14
 | .fn _=>2
 | .first=>1
 | .call=>2
 | .calls _=>1
 | .args _=>12
 | .signed=>3
 | .level k=>10-k
 | .more _ _=>1
 | .plain _ _=>11
 | .stmt=>13
 | .inner _=>12
 | .cond _=>1
def z6h(Q:PIn)(c:Cmd)(s:PS):Nat:=30*z6d Q s+z6g c
end Go.Proofs.YtggjeepbgpfcpaaGreat
