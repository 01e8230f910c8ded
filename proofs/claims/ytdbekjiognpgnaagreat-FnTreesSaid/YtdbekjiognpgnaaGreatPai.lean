/- Part 9. -/
import Derived.Test.YtdbekjiognpgnaaGreatPah
set_option maxHeartbeats 16000000
set_option maxRecDepth 100000
set_option linter.unusedVariables false
namespace Go.Proofs.YtdbekjiognpgnaaGreat
structure PS where
 i:Nat
 tree:List z4Q
 depth:Nat
 fault:Int
structure PIn where
 T:List (Tok × Nat)
 e:Nat
 nums:∀ t,t∈T->z4S t.1.num
def z4T(Q:PIn)(s:PS):Int:=match Q.T[s.i]? with|some t=>(t.2:Int)|none=>(Q.e:Int)
def badP(Q:PIn)(s:PS):PS:=if s.fault<0 then { s with fault:=z4T Q s } else s
def isP(Q:PIn)(s:PS)(x:List UInt8):Bool:=decide (s.fault<0)&&(match Q.T[s.i]? with|some t=>(decide (t.1.kind=4)||decide (t.1.kind=5))&&decide (t.1.text=x)|none=>false)
def z4U(Q:PIn)(s:PS)(k:Int):Bool:=decide (s.fault<0)&&(match Q.T[s.i]? with|some t=>decide (t.1.kind=k)|none=>false)
def z4V(Q:PIn)(s:PS)(k:Int)(x:List UInt8):Bool:=match Q.T[s.i+1]? with|some t=>decide (t.1.kind=k)&&(decide (x=[])||decide (t.1.text=x))|none=>false
def tokP(Q:PIn)(s:PS):Tok:=match Q.T[s.i]? with|some t=>t.1|none=>⟨0,[],0⟩
def z4W(s:PS):PS:={ s with i:=s.i+1 }
def z4X(Q:PIn)(s:PS)(x:List UInt8):PS:=if isP Q s x=true then z4W s else badP Q s
def z4Y(Q:PIn)(s:PS):ByteArray:=if z4U Q s 1=true then txt (tokP Q s).text else txt []
def z4Z(Q:PIn)(s:PS):PS:=if z4U Q s 1=true then z4W s else badP Q s
def addP(s:PS)(n:z4Q):PS:={ s with tree:=s.tree++[n] }
def inP(Q:PIn)(s:PS):PS:={ (if s.fault<0/\24<=s.depth then badP Q s else s)with depth:=s.depth+1 }
def outP(s:PS):PS:={ s with depth:=s.depth-1 }
def z50:Nat->List (List UInt8)
 | 0=>[[124,124]]
 | 1=>[[38,38]]
 | 2=>[[61,61],[33,61]]
 | 3=>[[60],[60,61],[62],[62,61]]
 | 4=>[[43],[45]]
 | _=>[[42],[47],[37]]
def opsL:List (List UInt8):=[[43],[45],[42],[47],[37],[60],[60,61],[62],[62,61],[61,61],[33,61]]
def opAt(x:List UInt8):Nat->List (List UInt8)->Int
 | _,[]=>0
 | k,y::r=>if y=x then k else opAt x (k+1) r
def opN(x:List UInt8):Int:=opAt x 1 opsL
def parN(Q:PIn):Nat->List ByteArray->PS->List ByteArray × PS
 | 0,l,s=>(l,{ s with fault:=max s.fault 0 })
 | n+1,l,s=>
  if s.fault<0/\isP Q s [41]=false then
   let s1:=if 0<l.length then z4X Q s [44]else s
   let s2:=if l.length=4 then badP Q s1 else s1
   parN Q n (if (z4Z Q s2).fault<0 then l++[z4Y Q s2]else l) (z4Z Q s2)
  else (l,s)
def z51(Q:PIn)(s:PS):List ByteArray:=(parN Q 6 [] (z4X Q s [40])).1
def z52(Q:PIn)(s:PS):PS:=z4X Q (parN Q 6 [] (z4X Q s [40])).2 [41]
abbrev Cmd:=Sum (Unit) (Sum (List Int) (Sum (List Int) (Sum (Int) (Sum (Unit) (Sum (Unit) (Sum (Int) (Sum (List Int) (Sum (Unit) (Sum (Nat) (Sum (Nat × Int) (Sum (Int × Int) (Sum (Unit) (Sum (Int) (Int))))))))))))))
@[reducible] def Cmd.block:Cmd:=(Sum.inl ())
@[reducible] def Cmd.stmts (l:List Int):Cmd:=(Sum.inr (Sum.inl l))
@[reducible] def Cmd.top (l:List Int):Cmd:=(Sum.inr (Sum.inr (Sum.inl l)))
@[reducible] def Cmd.fn (p:Int):Cmd:=(Sum.inr (Sum.inr (Sum.inr (Sum.inl p))))
@[reducible] def Cmd.first:Cmd:=(Sum.inr (Sum.inr (Sum.inr (Sum.inr (Sum.inl ())))))
@[reducible] def Cmd.call:Cmd:=(Sum.inr (Sum.inr (Sum.inr (Sum.inr (Sum.inr (Sum.inl ()))))))
@[reducible] def Cmd.calls (p:Int):Cmd:=(Sum.inr (Sum.inr (Sum.inr (Sum.inr (Sum.inr (Sum.inr (Sum.inl p)))))))
@[reducible] def Cmd.args (l:List Int):Cmd:=(Sum.inr (Sum.inr (Sum.inr (Sum.inr (Sum.inr (Sum.inr (Sum.inr (Sum.inl l))))))))
@[reducible] def Cmd.signed:Cmd:=(Sum.inr (Sum.inr (Sum.inr (Sum.inr (Sum.inr (Sum.inr (Sum.inr (Sum.inr (Sum.inl ())))))))))
@[reducible] def Cmd.level (k:Nat):Cmd:=(Sum.inr (Sum.inr (Sum.inr (Sum.inr (Sum.inr (Sum.inr (Sum.inr (Sum.inr (Sum.inr (Sum.inl k))))))))))
@[reducible] def Cmd.more (k:Nat) (x:Int):Cmd:=(Sum.inr (Sum.inr (Sum.inr (Sum.inr (Sum.inr (Sum.inr (Sum.inr (Sum.inr (Sum.inr (Sum.inr (Sum.inl (k,x))))))))))))
@[reducible] def Cmd.plain (k:Int) (p:Int):Cmd:=(Sum.inr (Sum.inr (Sum.inr (Sum.inr (Sum.inr (Sum.inr (Sum.inr (Sum.inr (Sum.inr (Sum.inr (Sum.inr (Sum.inl (k,p)))))))))))))
@[reducible] def Cmd.stmt:Cmd:=(Sum.inr (Sum.inr (Sum.inr (Sum.inr (Sum.inr (Sum.inr (Sum.inr (Sum.inr (Sum.inr (Sum.inr (Sum.inr (Sum.inr (Sum.inl ())))))))))))))
@[reducible] def Cmd.inner (p:Int):Cmd:=(Sum.inr (Sum.inr (Sum.inr (Sum.inr (Sum.inr (Sum.inr (Sum.inr (Sum.inr (Sum.inr (Sum.inr (Sum.inr (Sum.inr (Sum.inr (Sum.inl p))))))))))))))
@[reducible] def Cmd.cond (p:Int):Cmd:=(Sum.inr (Sum.inr (Sum.inr (Sum.inr (Sum.inr (Sum.inr (Sum.inr (Sum.inr (Sum.inr (Sum.inr (Sum.inr (Sum.inr (Sum.inr (Sum.inr p))))))))))))))
theorem z53{motive:Cmd->Prop}(block:motive (Cmd.block))(stmts:∀(l:List Int),motive (Cmd.stmts l))(top:∀(l:List Int),motive (Cmd.top l))(fn:∀(p:Int),motive (Cmd.fn p))(first:motive (Cmd.first))(call:motive (Cmd.call))(calls:∀(p:Int),motive (Cmd.calls p))(args:∀(l:List Int),motive (Cmd.args l))(signed:motive (Cmd.signed))(level:∀(k:Nat),motive (Cmd.level k))(more:∀(k:Nat) (x:Int),motive (Cmd.more k x))(plain:∀(k:Int) (p:Int),motive (Cmd.plain k p))(stmt:motive (Cmd.stmt))(inner:∀(p:Int),motive (Cmd.inner p))(cond:∀(p:Int),motive (Cmd.cond p))(c:Cmd):motive c:=by
 rcases c with ⟨⟩|l|l|l|⟨⟩|⟨⟩|l|l|⟨⟩|l|⟨k,x⟩|⟨k,x⟩|⟨⟩|l|l
 ·exact block
 ·exact stmts l
 ·exact top l
 ·exact fn l
 ·exact first
 ·exact call
 ·exact calls l
 ·exact args l
 ·exact signed
 ·exact level l
 ·exact more k x
 ·exact plain k x
 ·exact stmt
 ·exact inner l
 ·exact cond l
def endN(s:PS)(n:z4Q):Int × List Int × PS:=((s.tree.length:Int),[],addP s n)
def run(Q:PIn):Nat->Cmd->PS->Int × List Int × PS
 | 0,_,s=>(0,[],{ s with fault:=max s.fault 0 })
 | n+1,(Sum.inl ()),s=>
  if (inP Q s).fault<0 then
   let r:=run Q n (.stmts []) (z4X Q (inP Q s) [123])
   endN (outP (z4X Q r.2.2 [125])) ⟨29,0,0,0,r.2.1,[],0,z4T Q s⟩
  else endN (outP (inP Q s)) ⟨29,0,0,0,[],[],0,z4T Q s⟩
 | n+1,(Sum.inr (Sum.inl l)),s=>
  if s.fault<0/\isP Q s [125]=false then
   let r:=run Q n .stmt s
   run Q n (.stmts (l++[r.1])) r.2.2
  else (0,l,s)
 | n+1,(Sum.inr (Sum.inr (Sum.inl l))),s=>
  if s.fault<0/\s.i<Q.T.length then
   let r:=run Q n .stmt s
   run Q n (.top (l++[r.1])) r.2.2
  else (0,l,s)
 | n+1,(Sum.inr (Sum.inr (Sum.inr (Sum.inl p)))),s=>
  let r:=run Q n .block (z52 Q s)
  endN r.2.2 ⟨13,r.1,0,0,[],z51 Q s,0,p⟩
 | n+1,(Sum.inr (Sum.inr (Sum.inr (Sum.inr (Sum.inl ()))))),s=>
  if isP Q s [116,114,117,101]=true then endN (z4W s) ⟨3,0,0,0,[],[],0,z4T Q s⟩
  else if isP Q s [102,97,108,115,101]=true then endN (z4W s) ⟨4,0,0,0,[],[],0,z4T Q s⟩
  else if isP Q s [110,111,110,101]=true then endN (z4W s) ⟨5,0,0,0,[],[],0,z4T Q s⟩
  else if z4U Q s 2=true/\z12 (tokP Q s).num≠2 then endN (z4W s) ⟨1,0,0,0,[],[],(tokP Q s).num,z4T Q s⟩
  else if z4U Q s 3=true/\(tokP Q s).text.length<=40 then endN (z4W s) ⟨2,0,0,0,[],[txt (tokP Q s).text],0,z4T Q s⟩
  else if z4U Q s 1=true then endN (z4W s) ⟨6,0,0,0,[],[txt (tokP Q s).text],0,z4T Q s⟩
  else if isP Q s [40]=true then
   if (inP Q s).fault<0 then
    let r:=run Q n (.level 0) (z4W (inP Q s))
    (r.1,[],outP (z4X Q r.2.2 [41]))
   else (0,[],outP (inP Q s))
  else if isP Q s [102,117,110]=true then
   if (inP Q s).fault<0 then
    let r:=run Q n (.fn (z4T Q s)) (z4W (inP Q s))
    (r.1,[],outP r.2.2)
   else (0,[],outP (inP Q s))
  else (0,[],badP Q s)
 | n+1,(Sum.inr (Sum.inr (Sum.inr (Sum.inr (Sum.inr (Sum.inl ())))))),s=>
  let r:=run Q n .first s
  run Q n (.calls r.1) r.2.2
 | n+1,(Sum.inr (Sum.inr (Sum.inr (Sum.inr (Sum.inr (Sum.inr (Sum.inl x))))))),s=>
  if isP Q s [40]=true then
   let r:=run Q n (.args []) (z4W s)
   let s2:=z4X Q r.2.2 [41]
   run Q n (.calls s2.tree.length) (addP s2 ⟨12,x,0,0,r.2.1,[],0,z4T Q s⟩)
  else (x,[],s)
 | n+1,(Sum.inr (Sum.inr (Sum.inr (Sum.inr (Sum.inr (Sum.inr (Sum.inr (Sum.inl l)))))))),s=>
  if s.fault<0/\isP Q s [41]=false then
   let s1:=if 0<l.length then z4X Q s [44]else s
   let s2:=if l.length=6 then badP Q s1 else s1
   let r:=run Q n (.level 0) s2
   run Q n (.args (l++[r.1])) r.2.2
  else (0,l,s)
 | n+1,(Sum.inr (Sum.inr (Sum.inr (Sum.inr (Sum.inr (Sum.inr (Sum.inr (Sum.inr (Sum.inl ()))))))))),s=>
  if isP Q s [45]=true\/isP Q s [33]=true then
   if (inP Q s).fault<0 then
    let r:=run Q n .signed (z4W (inP Q s))
    endN (outP r.2.2) ⟨if isP Q s [33]=true then 7 else 8,r.1,0,0,[],[],0,z4T Q s⟩
   else endN (outP (inP Q s)) ⟨if isP Q s [33]=true then 7 else 8,0,0,0,[],[],0,z4T Q s⟩
  else run Q n .call s
 | n+1,(Sum.inr (Sum.inr (Sum.inr (Sum.inr (Sum.inr (Sum.inr (Sum.inr (Sum.inr (Sum.inr (Sum.inl k)))))))))),s=>
  if k=6 then run Q n .signed s
  else
   let r:=run Q n (.level (k+1)) s
   run Q n (.more k r.1) r.2.2
 | n+1,(Sum.inr (Sum.inr (Sum.inr (Sum.inr (Sum.inr (Sum.inr (Sum.inr (Sum.inr (Sum.inr (Sum.inr (Sum.inl (k,x)))))))))))),s=>
  if z4U Q s 4=true/\(tokP Q s).text∈z50 k then
   let r:=run Q n (.level (k+1)) (z4W s)
   run Q n (.more k r.2.2.tree.length) (addP r.2.2 ⟨if k=0 then 11 else if k=1 then 10 else 9,x,r.1,opN (tokP Q s).text,[],[],0,z4T Q s⟩)
  else (x,[],s)
 | n+1,(Sum.inr (Sum.inr (Sum.inr (Sum.inr (Sum.inr (Sum.inr (Sum.inr (Sum.inr (Sum.inr (Sum.inr (Sum.inr (Sum.inl (k,p))))))))))))),s=>
  let r:=run Q n (.level 0) s
  endN (z4X Q r.2.2 [59]) ⟨k,r.1,0,0,[],[],0,p⟩
 | n+1,(Sum.inr (Sum.inr (Sum.inr (Sum.inr (Sum.inr (Sum.inr (Sum.inr (Sum.inr (Sum.inr (Sum.inr (Sum.inr (Sum.inr (Sum.inl ()))))))))))))),s=>
  if (inP Q s).fault<0 then
   let r:=run Q n (.inner (z4T Q (inP Q s))) (inP Q s)
   (r.1,[],outP r.2.2)
  else (0,[],outP (inP Q s))
 | n+1,(Sum.inr (Sum.inr (Sum.inr (Sum.inr (Sum.inr (Sum.inr (Sum.inr (Sum.inr (Sum.inr (Sum.inr (Sum.inr (Sum.inr (Sum.inr (Sum.inl p)))))))))))))),s=>
  if isP Q s [112,114,105,110,116]=true then run Q n (.plain 22 p) (z4W s)
  else if isP Q s [114,101,116,117,114,110]=true then run Q n (.plain 25 p) (z4W s)
  else if isP Q s [116,104,114,111,119]=true then run Q n (.plain 26 p) (z4W s)
  else if isP Q s [108,101,116]=true then
   let s1:=z4X Q (z4Z Q (z4W s)) [61]
   let r:=run Q n (.level 0) s1
   endN (z4X Q r.2.2 [59]) ⟨20,r.1,0,0,[],[z4Y Q (z4W s)],0,p⟩
  else if z4U Q s 1=true/\z4V Q s 4 [61]=true then
   let s1:=z4X Q (z4Z Q s) [61]
   let r:=run Q n (.level 0) s1
   endN (z4X Q r.2.2 [59]) ⟨21,r.1,0,0,[],[z4Y Q s],0,p⟩
  else if isP Q s [105,102]=true then run Q n (.cond p) s
  else if isP Q s [119,104,105,108,101]=true then
   let r:=run Q n (.level 0) (z4X Q (z4W s) [40])
   let b:=run Q n .block (z4X Q r.2.2 [41])
   endN b.2.2 ⟨24,r.1,b.1,0,[],[],0,p⟩
  else if isP Q s [116,114,121]=true then
   let a:=run Q n .block (z4W s)
   let s2:=z4X Q a.2.2 [99,97,116,99,104]
   let b:=run Q n .block (z4Z Q s2)
   endN b.2.2 ⟨27,a.1,b.1,0,[],[z4Y Q s2],0,p⟩
  else if isP Q s [102,117,110]=true/\z4V Q s 1 []=true then
   let a:=run Q n (.fn p) (z4Z Q (z4W s))
   endN a.2.2 ⟨20,a.1,1,0,[],[z4Y Q (z4W s)],0,p⟩
  else run Q n (.plain 28 p) s
 | n+1,(Sum.inr (Sum.inr (Sum.inr (Sum.inr (Sum.inr (Sum.inr (Sum.inr (Sum.inr (Sum.inr (Sum.inr (Sum.inr (Sum.inr (Sum.inr (Sum.inr p)))))))))))))),s=>
  let a:=run Q n (.level 0) (z4X Q (z4W s) [40])
  let b:=run Q n .block (z4X Q a.2.2 [41])
  if isP Q b.2.2 [101,108,115,101]=true then
   let s4:=z4W b.2.2
   let o:=if isP Q s4 [105,102]=true then run Q n .stmt s4 else run Q n .block s4
   endN o.2.2 ⟨23,a.1,b.1,o.1,[],[],0,p⟩
  else endN b.2.2 ⟨23,a.1,b.1,-1,[],[],0,p⟩
def z54(Q:PIn):List z4Q × Int:=
 let r:=run Q (30*(Q.T.length+2)) (.top []) ⟨0,[],0,-1⟩
 if 0<=r.2.2.fault then ([],r.2.2.fault)else (r.2.2.tree++[⟨29,0,0,0,r.2.1,[],0,0⟩],-1)
structure Le(Q:PIn)(s s':PS):Prop where
 i:s.i<=s'.i
 most:s.i<=Q.T.length->s'.i<=Q.T.length
 stays:0<=s.fault->s'.fault=s.fault/\s'.i=s.i
 tree:∃ l,s'.tree=s.tree++l
theorem Le.refl(Q:PIn)(s:PS):Le Q s s:=⟨yf9 _,id,fun _=>⟨rfl,rfl⟩,[],by simp⟩
theorem Le.trans{Q:PIn}{a b c:PS}(h:Le Q a b)(k:Le Q b c):Le Q a c:=by
 refine⟨yi9 h.i k.i,fun x=>k.most (h.most x),fun x=>?_,?_⟩
 ·obtain⟨e1,e2⟩:=h.stays x;obtain⟨e3,e4⟩:=k.stays (by rw[e1];exact x)
  exact⟨e3.trans e1,e4.trans e2⟩
 ·obtain⟨l,hl⟩:=h.tree;obtain⟨m,hm⟩:=k.tree;exact⟨l++m,by rw[hm,hl,List.append_assoc]⟩
theorem z55(Q:PIn)(s:PS):0<=z4T Q s:=by
 unfold z4T;split<;>omega
theorem z56(Q:PIn)(s:PS):0<=(badP Q s).fault:=by
 unfold badP;split
 ·exact z55 Q s
 ·omega
theorem z57(Q:PIn)(s:PS):(badP Q s).i=s.i:=by unfold badP;split<;>rfl
theorem z58(Q:PIn)(s:PS):(badP Q s).depth=s.depth:=by unfold badP;split<;>rfl
theorem z59(Q:PIn)(s:PS):(badP Q s).tree=s.tree:=by unfold badP;split<;>rfl
theorem z5a(Q:PIn)(s:PS):Le Q s (badP Q s):=by
 refine⟨by rw[z57];exact yf9 _,fun h=>by rw[z57];exact h,fun h=>?_,[],by rw[z59];simp⟩
 unfold badP;rw[if_neg (by omega)]
 exact⟨rfl,rfl⟩
theorem z5b{Q:PIn}{s:PS}{x:List UInt8}(h:isP Q s x=true):s.fault<0/\s.i<Q.T.length:=by
 unfold isP at h;simp only[Bool.and_eq_true,decide_eq_true_eq]at h;refine⟨h.1,?_⟩;rcases Nat.lt_or_ge s.i Q.T.length with k|k
 ·exact k
 ·rw[List.getElem?_eq_none k]at h;cases h.2
theorem z5c{Q:PIn}{s:PS}{x:Int}(h:z4U Q s x=true):s.fault<0/\s.i<Q.T.length:=by
 unfold z4U at h;simp only[Bool.and_eq_true,decide_eq_true_eq]at h;refine⟨h.1,?_⟩;rcases Nat.lt_or_ge s.i Q.T.length with k|k
 ·exact k
 ·rw[List.getElem?_eq_none k]at h;cases h.2
theorem z5d{Q:PIn}{s:PS}(h:s.fault<0/\s.i<Q.T.length):Le Q s (z4W s):=⟨Nat.le_succ _,fun _=>h.2,fun k=>by omega,[],by simp[z4W]⟩
theorem z5e(Q:PIn)(s:PS)(x:List UInt8):Le Q s (z4X Q s x):=by
 unfold z4X;split
 ·exact z5d (z5b ‹_›)
 ·exact z5a Q s
theorem z5f(Q:PIn)(s:PS)(x:List UInt8):(z4X Q s x).depth=s.depth:=by
 unfold z4X;split
 ·rfl
 ·exact z58 Q s
theorem z5g{Q:PIn}{s:PS}{x:List UInt8}(h:(z4X Q s x).fault<0):isP Q s x=true/\z4X Q s x=z4W s:=by
 unfold z4X at h ⊢;split at h
 ·rename_i k
  exact⟨k,by rw[if_pos k]⟩
 ·have:=z56 Q s;omega
theorem z5h(Q:PIn)(s:PS):Le Q s (z4Z Q s):=by
 unfold z4Z;split
 ·exact z5d (z5c ‹_›)
 ·exact z5a Q s
theorem z5i(Q:PIn)(s:PS):(z4Z Q s).depth=s.depth:=by
 unfold z4Z;split
 ·rfl
 ·exact z58 Q s
theorem z5j{Q:PIn}{s:PS}(h:(z4Z Q s).fault<0):z4U Q s 1=true/\z4Z Q s=z4W s:=by
 unfold z4Z at h ⊢;split at h
 ·rename_i k
  exact⟨k,by rw[if_pos k]⟩
 ·have:=z56 Q s;omega
theorem z5k(Q:PIn)(s:PS)(n:z4Q):Le Q s (addP s n):=⟨yf9 _,id,fun _=>⟨rfl,rfl⟩,[n],rfl⟩
theorem z5l(Q:PIn)(s:PS):(inP Q s).i=s.i:=by
 unfold inP;split
 ·exact z57 Q s
 ·rfl
theorem z5m(Q:PIn)(s:PS):(inP Q s).depth=s.depth+1:=rfl
theorem z5n(Q:PIn)(s:PS):Le Q s (inP Q s):=by
 have h:Le Q s (if s.fault<0/\24<=s.depth then badP Q s else s):=by
  split
  ·exact z5a Q s
  ·exact Le.refl Q s
 exact⟨h.i,h.most,h.stays,h.tree⟩
theorem z5o{Q:PIn}{s:PS}(h:(inP Q s).fault<0):s.fault<0/\s.depth<24/\inP Q s={ s with depth:=s.depth+1 }:=by
 unfold inP at h ⊢;by_cases k:s.fault<0/\24<=s.depth
 ·rw[if_pos k]at h;have:=z56 Q s;simp only at h;omega
 ·rw[if_neg k]at h ⊢;simp only at h;exact⟨h,by omega,rfl⟩
theorem z5p(Q:PIn)(s:PS):Le Q s (outP s):=⟨yf9 _,id,fun _=>⟨rfl,rfl⟩,[],by simp[outP]⟩
theorem z5q(Q:PIn)(s:PS):Le Q s { s with fault:=max s.fault 0 }:=⟨yf9 _,id,fun h=>⟨by simp only;omega,rfl⟩,[],by simp⟩
theorem z5r(Q:PIn):∀(n:Nat) (l:List ByteArray) (s:PS),Le Q s (parN Q n l s).2
 | 0,l,s=>z5q Q s
 | n+1,l,s=>by
  rw[parN];split
  ·refine Le.trans ?_ (z5r Q n _ _);refine Le.trans ?_ (z5h Q _);have h1:Le Q s (if 0<l.length then z4X Q s [44]else s):=by
    split
    ·exact z5e Q s _
    ·exact Le.refl Q s
   have h2:∀ t,Le Q t (if l.length=4 then badP Q t else t):=fun t=>by
    split
    ·exact z5a Q t
    ·exact Le.refl Q t
   exact h1.trans (h2 _)
  ·exact Le.refl Q s
theorem z5s(Q:PIn):∀(n:Nat) (l:List ByteArray) (s:PS),(parN Q n l s).2.depth=s.depth
 | 0,l,s=>rfl
 | n+1,l,s=>by
  rw[parN];split
  ·rw[z5s Q n,z5i];split
   ·rw[z58];split
    ·exact z5f Q s _
    ·rfl
   ·split
    ·exact z5f Q s _
    ·rfl
  ·rfl
theorem z5t(Q:PIn)(s:PS):Le Q s (z52 Q s):=((z5e Q s _).trans (z5r Q _ _ _)).trans (z5e Q _ _)
theorem z5u(Q:PIn)(s:PS):(z52 Q s).depth=s.depth:=by unfold z52;rw[z5f,z5s,z5f]
theorem z5v(Q:PIn)(s:PS)(n:z4Q):Le Q s (endN s n).2.2:=z5k Q s n
theorem z5w{Q:PIn}{s:PS}(h:(inP Q s).fault<0)(k:s.i<Q.T.length):Le Q s (z4W (inP Q s)):=(z5n Q s).trans (z5d ⟨h,by rw[z5l];exact k⟩)
theorem z5x(Q:PIn):∀(n:Nat) (c:Cmd) (s:PS),(∀ p,c=.cond p->isP Q s [105,102]=true)->Le Q s (run Q n c s).2.2
 | 0,c,s,_=>by cases c using z53<;>exact z5q Q s
 | n+1,c,s,hc=>by
  have ih:=z5x Q n;cases c using z53 with
  | block=>
   rw[run];split
   ·exact(((z5n Q s).trans (z5e Q _ _)).trans (ih (.stmts []) _ (by intro p e;cases e))).trans (((z5e Q _ _).trans (z5p Q _)).trans (z5v Q _ _))
   ·exact((z5n Q s).trans (z5p Q _)).trans (z5v Q _ _)
  | stmts l=>
   rw[run];split
   ·exact(ih .stmt s (by intro p e;cases e)).trans (ih (.stmts _) _ (by intro p e;cases e))
   ·exact Le.refl Q s
  | top l=>
   rw[run];split
   ·exact(ih .stmt s (by intro p e;cases e)).trans (ih (.top _) _ (by intro p e;cases e))
   ·exact Le.refl Q s
  | fn p=>
   rw[run];exact((z5t Q s).trans (ih .block _ (by intro p e;cases e))).trans (z5v Q _ _)
  | first=>
   rw[run];split
   ·exact(z5d (z5b ‹_›)).trans (z5v Q _ _)
   split
   ·exact(z5d (z5b ‹_›)).trans (z5v Q _ _)
   split
   ·exact(z5d (z5b ‹_›)).trans (z5v Q _ _)
   split
   ·rename_i h
    exact(z5d (z5c h.1)).trans (z5v Q _ _)
   split
   ·rename_i h
    exact(z5d (z5c h.1)).trans (z5v Q _ _)
   split
   ·exact(z5d (z5c ‹_›)).trans (z5v Q _ _)
   split
   ·rename_i h
    split
    ·exact((z5w ‹_› (z5b h).2).trans (ih (.level 0) _ (by intro p e;cases e))).trans ((z5e Q _ _).trans (z5p Q _))
    ·exact(z5n Q s).trans (z5p Q _)
   split
   ·rename_i h
    split
    ·exact((z5w ‹_› (z5b h).2).trans (ih (.fn _) _ (by intro p e;cases e))).trans (z5p Q _)
    ·exact(z5n Q s).trans (z5p Q _)
   ·exact z5a Q s
  | call=>
   rw[run];exact(ih .first s (by intro p e;cases e)).trans (ih (.calls _) _ (by intro p e;cases e))
  | calls x=>
   rw[run];split
   ·exact(((z5d (z5b ‹_›)).trans (ih (.args []) _ (by intro p e;cases e))).trans ((z5e Q _ _).trans (z5k Q _ _))).trans (ih (.calls _) _ (by intro p e;cases e))
   ·exact Le.refl Q s
  | args l=>
   rw[run];split
   ·have h1:Le Q s (if 0<l.length then z4X Q s [44]else s):=by
     split
     ·exact z5e Q s _
     ·exact Le.refl Q s
    have h2:∀ t,Le Q t (if l.length=6 then badP Q t else t):=fun t=>by
     split
     ·exact z5a Q t
     ·exact Le.refl Q t
    exact((h1.trans (h2 _)).trans (ih (.level 0) _ (by intro p e;cases e))).trans (ih (.args _) _ (by intro p e;cases e))
   ·exact Le.refl Q s
  | signed=>
   rw[run];split
   ·rename_i h
    have hh:s.i<Q.T.length:=by rcases h with h|h<;>exact(z5b h).2
    split
    ·exact((z5w ‹_› hh).trans (ih .signed _ (by intro p e;cases e))).trans ((z5p Q _).trans (z5v Q _ _))
    ·exact((z5n Q s).trans (z5p Q _)).trans (z5v Q _ _)
   ·exact ih .call s (by intro p e;cases e)
  | level k=>
   rw[run];split
   ·exact ih .signed s (by intro p e;cases e)
   ·exact(ih (.level _) s (by intro p e;cases e)).trans (ih (.more _ _) _ (by intro p e;cases e))
  | more k x=>
   rw[run];split
   ·rename_i h
    exact(((z5d (z5c h.1)).trans (ih (.level _) _ (by intro p e;cases e))).trans (z5k Q _ _)).trans (ih (.more _ _) _ (by intro p e;cases e))
   ·exact Le.refl Q s
  | plain k p=>
   rw[run];exact(ih (.level 0) s (by intro p e;cases e)).trans ((z5e Q _ _).trans (z5v Q _ _))
  | stmt=>
   rw[run];split
   ·exact((z5n Q s).trans (ih (.inner _) _ (by intro p e;cases e))).trans (z5p Q _)
   ·exact(z5n Q s).trans (z5p Q _)
  | inner p=>
   rw[run];split
   ·exact(z5d (z5b ‹_›)).trans (ih (.plain _ _) _ (by intro p e;cases e))
   split
   ·exact(z5d (z5b ‹_›)).trans (ih (.plain _ _) _ (by intro p e;cases e))
   split
   ·exact(z5d (z5b ‹_›)).trans (ih (.plain _ _) _ (by intro p e;cases e))
   split
   ·exact((((z5d (z5b ‹_›)).trans (z5h Q _)).trans (z5e Q _ _)).trans (ih (.level 0) _ (by intro p e;cases e))).trans ((z5e Q _ _).trans (z5v Q _ _))
   split
   ·exact(((z5h Q _).trans (z5e Q _ _)).trans (ih (.level 0) _ (by intro p e;cases e))).trans ((z5e Q _ _).trans (z5v Q _ _))
   split
   ·rename_i h
    exact ih (.cond p) s (by intro p' e;exact h)
   split
   ·exact((((z5d (z5b ‹_›)).trans (z5e Q _ _)).trans (ih (.level 0) _ (by intro p e;cases e))).trans ((z5e Q _ _).trans (ih .block _ (by intro p e;cases e)))).trans (z5v Q _ _)
   split
   ·exact((((z5d (z5b ‹_›)).trans (ih .block _ (by intro p e;cases e))).trans ((z5e Q _ _).trans (z5h Q _))).trans (ih .block _ (by intro p e;cases e))).trans (z5v Q _ _)
   split
   ·rename_i h
    exact(((z5d (z5b h.1)).trans (z5h Q _)).trans (ih (.fn _) _ (by intro p e;cases e))).trans (z5v Q _ _)
   ·exact ih (.plain _ _) s (by intro p e;cases e)
  | cond p=>
   have h0:=z5b (hc p rfl);rw[run];have hb:Le Q s (run Q n .block (z4X Q (run Q n (.level 0) (z4X Q (z4W s) [40])).2.2 [41])).2.2:=
    ((((z5d h0).trans (z5e Q _ _)).trans (ih (.level 0) _ (by intro p e;cases e))).trans (z5e Q _ _)).trans (ih .block _ (by intro p e;cases e))
   simp only;split
   ·rename_i h
    refine(hb.trans (z5d (z5b h))).trans (Le.trans ?_ (z5v Q _ _));split
    ·exact ih .stmt _ (by intro p e;cases e)
    ·exact ih .block _ (by intro p e;cases e)
   ·exact hb.trans (z5v Q _ _)
theorem z5y(Q:PIn):∀(n:Nat) (c:Cmd) (s:PS),(run Q n c s).2.2.depth=s.depth
 | 0,c,s=>by cases c using z53<;>rfl
 | n+1,c,s=>by
  have ih:=z5y Q n;have ho:∀ s:PS,(outP s).depth=s.depth-1:=fun _=>rfl;have hs:∀ s:PS,(z4W s).depth=s.depth:=fun _=>rfl;have ha:∀(s:PS) (n:z4Q),(addP s n).depth=s.depth:=fun _ _=>rfl;have he:∀(s:PS) (n:z4Q),(endN s n).2.2.depth=s.depth:=fun _ _=>rfl;cases c using z53 with
  | block=>
   rw[run];split
   ·simp only[he,ho,z5f,ih,z5m];omega
   ·simp only[he,ho,z5m];omega
  | stmts l=>
   rw[run];split
   ·simp only[ih]
   ·rfl
  | top l=>
   rw[run];split
   ·simp only[ih]
   ·rfl
  | fn p=>
   rw[run];simp only[he,ih,z5u]
  | first=>
   rw[run];split
   ·rfl
   split
   ·rfl
   split
   ·rfl
   split
   ·rfl
   split
   ·rfl
   split
   ·rfl
   split
   ·split
    ·simp only[ho,z5f,ih,hs,z5m];omega
    ·simp only[ho,z5m];omega
   split
   ·split
    ·simp only[ho,ih,hs,z5m];omega
    ·simp only[ho,z5m];omega
   ·exact z58 Q s
  | call=>
   rw[run];simp only[ih]
  | calls x=>
   rw[run];split
   ·simp only[ih,ha,z5f,hs]
   ·rfl
  | args l=>
   rw[run];split
   ·simp only[ih];have h1:(if 0<l.length then z4X Q s [44]else s).depth=s.depth:=by
     split
     ·exact z5f Q s _
     ·rfl
    have h2:∀ t:PS,(if l.length=6 then badP Q t else t).depth=t.depth:=fun t=>by
     split
     ·exact z58 Q t
     ·rfl
    rw[h2,h1]
   ·rfl
  | signed=>
   rw[run];split
   ·split
    ·simp only[he,ho,ih,hs,z5m];omega
    ·simp only[he,ho,z5m];omega
   ·simp only[ih]
  | level k=>
   rw[run];split
   ·simp only[ih]
   ·simp only[ih]
  | more k x=>
   rw[run];split
   ·simp only[ih,ha,hs]
   ·rfl
  | plain k p=>
   rw[run];simp only[he,z5f,ih]
  | stmt=>
   rw[run];split
   ·simp only[ho,ih,z5m];omega
   ·simp only[ho,z5m];omega
  | inner p=>
   rw[run];split
   ·simp only[ih,hs]
   split
   ·simp only[ih,hs]
   split
   ·simp only[ih,hs]
   split
   ·simp only[he,z5f,ih,z5i,hs]
   split
   ·simp only[he,z5f,ih,z5i]
   split
   ·simp only[ih]
   split
   ·simp only[he,z5f,ih,hs]
   split
   ·simp only[he,z5f,ih,z5i,hs]
   split
   ·simp only[he,ih,z5i,hs]
   ·simp only[ih]
  | cond p=>
   rw[run];simp only;split
   ·rw[he];split
    ·simp only[ih,z5f,hs]
    ·simp only[ih,z5f,hs]
   ·simp only[he,ih,z5f,hs]
def On(k:Int)(m:Nat)(s s':PS):Prop:=s'.fault<0->s.fault<0/\s.i+m<=s'.i/\(s'.tree.length:Int)+k+s.i<=s.tree.length+s'.i
theorem On.trans{k k':Int}{m m':Nat}{a b c:PS}(h:On k m a b)(g:On k' m' b c):On (k+k') (m+m') a c:=fun f=>by
 obtain⟨g1,g2,g3⟩:=g f;obtain⟨h1,h2,h3⟩:=h g1;exact⟨h1,by omega,by omega⟩
theorem On.weak{k k':Int}{m m':Nat}{a b:PS}(h:On k m a b)(hk:k'<=k)(hm:m'<=m):On k' m' a b:=fun f=>by
 obtain⟨h1,h2,h3⟩:=h f;exact⟨h1,by omega,by omega⟩
theorem On.refl(s:PS):On 0 0 s s:=fun f=>⟨f,by omega,by omega⟩
theorem z5z{s:PS}(h:s.fault<0):On 1 1 s (z4W s):=fun f=>⟨h,yf9 _,by show(s.tree.length:Int)+1+s.i<=s.tree.length+(s.i+1:Nat);omega⟩
theorem z5A(Q:PIn)(s t:PS)(k:Int)(m:Nat):On k m t (badP Q s):=fun f=>by have:=z56 Q s;omega
theorem z5B(Q:PIn)(s:PS)(x:List UInt8):On 1 1 s (z4X Q s x):=fun f=>by
 obtain⟨h,e⟩:=z5g f;rw[e]at f ⊢;exact z5z (z5b h).1 f
theorem z5C(Q:PIn)(s:PS):On 1 1 s (z4Z Q s):=fun f=>by
 obtain⟨h,e⟩:=z5j f;rw[e]at f ⊢;exact z5z (z5c h).1 f
theorem z5D(s:PS)(n:z4Q):On (-1) 0 s (addP s n):=fun f=>⟨f,yf9 _,by show((s.tree++[n]).length:Int)+-1+s.i<=s.tree.length+s.i;simp only[List.length_append,List.length_cons,List.length_nil];omega⟩
theorem z5E(s:PS)(n:z4Q):On (-1) 0 s (endN s n).2.2:=z5D s n
theorem z5F(Q:PIn)(s:PS):On 0 0 s (inP Q s):=fun f=>by
 obtain⟨h,_,e⟩:=z5o f;rw[e];exact⟨h,yf9 _,by simp⟩
theorem z5G(s:PS):On 0 0 s (outP s):=fun f=>⟨f,yf9 _,by simp[outP]⟩
theorem z5H(s:PS)(k:Int)(m:Nat):On k m s { s with fault:=max s.fault 0 }:=fun f=>by simp only at f;omega
theorem z5I{Q:PIn}{s:PS}(h:(inP Q s).fault<0):On 1 1 s (z4W (inP Q s)):=((z5F Q s).trans (z5z h)).weak (by omega) (by first|omega|(simp only[eats];omega))
theorem z5J(Q:PIn):∀(n:Nat) (l:List ByteArray) (s:PS),On 0 0 s (parN Q n l s).2
 | 0,l,s=>z5H s _ _
 | n+1,l,s=>by
  rw[parN];split
  ·have h1:On 0 0 s (if 0<l.length then z4X Q s [44]else s):=by
    split
    ·exact(z5B Q s _).weak (by omega) (by first|omega|(simp only[eats];omega))
    ·exact On.refl s
   have h2:∀ t,On 0 0 t (if l.length=4 then badP Q t else t):=fun t=>by
    split
    ·exact z5A Q t t _ _
    ·exact On.refl t
   exact(((h1.trans (h2 _)).trans (z5C Q _)).trans (z5J Q n _ _)).weak (by omega) (by first|omega|(simp only[eats];omega))
  ·exact On.refl s
theorem z5K(Q:PIn)(s:PS):On 2 2 s (z52 Q s):=(((z5B Q s _).trans (z5J Q _ _ _)).trans (z5B Q _ _)).weak (by omega) (by first|omega|(simp only[eats];omega))
def eats:Cmd->Nat
 | (Sum.inr (Sum.inl _))=>0
 | (Sum.inr (Sum.inr (Sum.inl _)))=>0
 | (Sum.inr (Sum.inr (Sum.inr (Sum.inr (Sum.inr (Sum.inr (Sum.inl _)))))))=>0
 | (Sum.inr (Sum.inr (Sum.inr (Sum.inr (Sum.inr (Sum.inr (Sum.inr (Sum.inl _))))))))=>0
 | (Sum.inr (Sum.inr (Sum.inr (Sum.inr (Sum.inr (Sum.inr (Sum.inr (Sum.inr (Sum.inr (Sum.inr (Sum.inl (_,_))))))))))))=>0
 | _=>1
theorem z5L(Q:PIn):∀(n:Nat) (c:Cmd) (s:PS),(∀ p,c=.cond p->isP Q s [105,102]=true)->On 0 (eats c) s (run Q n c s).2.2
 | 0,c,s,_=>by cases c using z53<;>exact z5H s _ _
 | n+1,c,s,hc=>by
  have ih:=z5L Q n;cases c using z53 with
  | block=>
   rw[run];split
   ·exact((((z5F Q s).trans (z5B Q _ _)).trans (ih (.stmts []) _ (by intro p e;cases e))).trans (((z5B Q _ _).trans (z5G _)).trans (z5E _ _))).weak (by omega) (by first|omega|(simp only[eats];omega))
   ·rename_i h
    intro f;exact absurd f h
  | stmts l=>
   rw[run];split
   ·exact((ih .stmt s (by intro p e;cases e)).trans (ih (.stmts _) _ (by intro p e;cases e))).weak (by omega) (by first|omega|(simp only[eats];omega))
   ·exact On.refl s
  | top l=>
   rw[run];split
   ·exact((ih .stmt s (by intro p e;cases e)).trans (ih (.top _) _ (by intro p e;cases e))).weak (by omega) (by first|omega|(simp only[eats];omega))
   ·exact On.refl s
  | fn p=>
   rw[run];exact(((z5K Q s).trans (ih .block _ (by intro p e;cases e))).trans (z5E _ _)).weak (by omega) (by first|omega|(simp only[eats];omega))
  | first=>
   rw[run];split
   ·exact((z5z (z5b ‹_›).1).trans (z5E _ _)).weak (by omega) (by first|omega|(simp only[eats];omega))
   split
   ·exact((z5z (z5b ‹_›).1).trans (z5E _ _)).weak (by omega) (by first|omega|(simp only[eats];omega))
   split
   ·exact((z5z (z5b ‹_›).1).trans (z5E _ _)).weak (by omega) (by first|omega|(simp only[eats];omega))
   split
   ·rename_i h
    exact((z5z (z5c h.1).1).trans (z5E _ _)).weak (by omega) (by first|omega|(simp only[eats];omega))
   split
   ·rename_i h
    exact((z5z (z5c h.1).1).trans (z5E _ _)).weak (by omega) (by first|omega|(simp only[eats];omega))
   split
   ·exact((z5z (z5c ‹_›).1).trans (z5E _ _)).weak (by omega) (by first|omega|(simp only[eats];omega))
   split
   ·split
    ·exact(((z5I ‹_›).trans (ih (.level 0) _ (by intro p e;cases e))).trans ((z5B Q _ _).trans (z5G _))).weak (by omega) (by first|omega|(simp only[eats];omega))
    ·rename_i h
     intro f;exact absurd f h
   split
   ·split
    ·exact(((z5I ‹_›).trans (ih (.fn _) _ (by intro p e;cases e))).trans (z5G _)).weak (by omega) (by first|omega|(simp only[eats];omega))
    ·rename_i h
     intro f;exact absurd f h
   ·exact z5A Q s s _ _
  | call=>
   rw[run];exact((ih .first s (by intro p e;cases e)).trans (ih (.calls _) _ (by intro p e;cases e))).weak (by omega) (by first|omega|(simp only[eats];omega))
  | calls x=>
   rw[run];split
   ·exact((((z5z (z5b ‹_›).1).trans (ih (.args []) _ (by intro p e;cases e))).trans ((z5B Q _ _).trans (z5D _ _))).trans (ih (.calls _) _ (by intro p e;cases e))).weak (by omega) (by first|omega|(simp only[eats];omega))
   ·exact On.refl s
  | args l=>
   rw[run];split
   ·have h1:On 0 0 s (if 0<l.length then z4X Q s [44]else s):=by
     split
     ·exact(z5B Q s _).weak (by omega) (by first|omega|(simp only[eats];omega))
     ·exact On.refl s
    have h2:∀ t,On 0 0 t (if l.length=6 then badP Q t else t):=fun t=>by
     split
     ·exact z5A Q t t _ _
     ·exact On.refl t
    exact(((h1.trans (h2 _)).trans (ih (.level 0) _ (by intro p e;cases e))).trans (ih (.args _) _ (by intro p e;cases e))).weak (by omega) (by first|omega|(simp only[eats];omega))
   ·exact On.refl s
  | signed=>
   rw[run];split
   ·split
    ·exact(((z5I ‹_›).trans (ih .signed _ (by intro p e;cases e))).trans ((z5G _).trans (z5E _ _))).weak (by omega) (by first|omega|(simp only[eats];omega))
    ·rename_i h
     intro f;exact absurd f h
   ·exact ih .call s (by intro p e;cases e)
  | level k=>
   rw[run];split
   ·exact ih .signed s (by intro p e;cases e)
   ·exact((ih (.level _) s (by intro p e;cases e)).trans (ih (.more _ _) _ (by intro p e;cases e))).weak (by omega) (by first|omega|(simp only[eats];omega))
  | more k x=>
   rw[run];split
   ·rename_i h
    exact((((z5z (z5c h.1).1).trans (ih (.level _) _ (by intro p e;cases e))).trans (z5D _ _)).trans (ih (.more _ _) _ (by intro p e;cases e))).weak (by omega) (by first|omega|(simp only[eats];omega))
   ·exact On.refl s
  | plain k p=>
   rw[run];exact((ih (.level 0) s (by intro p e;cases e)).trans ((z5B Q _ _).trans (z5E _ _))).weak (by omega) (by first|omega|(simp only[eats];omega))
  | stmt=>
   rw[run];split
   ·exact(((z5F Q s).trans (ih (.inner _) _ (by intro p e;cases e))).trans (z5G _)).weak (by omega) (by first|omega|(simp only[eats];omega))
   ·rename_i h
    intro f;exact absurd f h
  | inner p=>
   rw[run];split
   ·exact((z5z (z5b ‹_›).1).trans (ih (.plain _ _) _ (by intro p e;cases e))).weak (by omega) (by first|omega|(simp only[eats];omega))
   split
   ·exact((z5z (z5b ‹_›).1).trans (ih (.plain _ _) _ (by intro p e;cases e))).weak (by omega) (by first|omega|(simp only[eats];omega))
   split
   ·exact((z5z (z5b ‹_›).1).trans (ih (.plain _ _) _ (by intro p e;cases e))).weak (by omega) (by first|omega|(simp only[eats];omega))
   split
   ·exact(((((z5z (z5b ‹_›).1).trans (z5C Q _)).trans (z5B Q _ _)).trans (ih (.level 0) _ (by intro p e;cases e))).trans ((z5B Q _ _).trans (z5E _ _))).weak (by omega) (by first|omega|(simp only[eats];omega))
   split
   ·exact((((z5C Q _).trans (z5B Q _ _)).trans (ih (.level 0) _ (by intro p e;cases e))).trans ((z5B Q _ _).trans (z5E _ _))).weak (by omega) (by first|omega|(simp only[eats];omega))
   split
   ·rename_i h
    exact ih (.cond p) s (by intro p' e;exact h)
   split
   ·exact(((((z5z (z5b ‹_›).1).trans (z5B Q _ _)).trans (ih (.level 0) _ (by intro p e;cases e))).trans ((z5B Q _ _).trans (ih .block _ (by intro p e;cases e)))).trans (z5E _ _)).weak (by omega) (by first|omega|(simp only[eats];omega))
   split
   ·exact(((((z5z (z5b ‹_›).1).trans (ih .block _ (by intro p e;cases e))).trans ((z5B Q _ _).trans (z5C Q _))).trans (ih .block _ (by intro p e;cases e))).trans (z5E _ _)).weak (by omega) (by first|omega|(simp only[eats];omega))
   split
   ·rename_i h
    exact((((z5z (z5b h.1).1).trans (z5C Q _)).trans (ih (.fn _) _ (by intro p e;cases e))).trans (z5E _ _)).weak (by omega) (by first|omega|(simp only[eats];omega))
   ·exact ih (.plain _ _) s (by intro p e;cases e)
  | cond p=>
   have h0:=(z5b (hc p rfl)).1;rw[run];have hb:On 3 5 s (run Q n .block (z4X Q (run Q n (.level 0) (z4X Q (z4W s) [40])).2.2 [41])).2.2:=
    (((((z5z h0).trans (z5B Q _ _)).trans (ih (.level 0) _ (by intro p e;cases e))).trans (z5B Q _ _)).trans (ih .block _ (by intro p e;cases e))).weak (by omega) (by first|omega|(simp only[eats];omega))
   simp only;split
   ·rename_i h
    have ho:On 0 0 (z4W (run Q n .block (z4X Q (run Q n (.level 0) (z4X Q (z4W s) [40])).2.2 [41])).2.2) (if isP Q (z4W (run Q n .block (z4X Q (run Q n (.level 0) (z4X Q (z4W s) [40])).2.2 [41])).2.2) [105,102]=true then run Q n .stmt (z4W (run Q n .block (z4X Q (run Q n (.level 0) (z4X Q (z4W s) [40])).2.2 [41])).2.2)else run Q n .block (z4W (run Q n .block (z4X Q (run Q n (.level 0) (z4X Q (z4W s) [40])).2.2 [41])).2.2)).2.2:=by
     split
     ·exact(ih .stmt _ (by intro p e;cases e)).weak (by omega) (by first|omega|(simp only[eats];omega))
     ·exact(ih .block _ (by intro p e;cases e)).weak (by omega) (by first|omega|(simp only[eats];omega))
    exact(((hb.trans (z5z (z5b h).1)).trans ho).trans (z5E _ _)).weak (by omega) (by first|omega|(simp only[eats];omega))
   ·exact(hb.trans (z5E _ _)).weak (by omega) (by first|omega|(simp only[eats];omega))
def z5M(Q:PIn)(s:PS):Nat:=if s.fault<0 then Q.T.length+1-s.i else 0
theorem z5N{Q:PIn}{s s':PS}(h:Le Q s s'):z5M Q s'<=z5M Q s:=by
 have hi:=h.i;unfold z5M;by_cases k:s.fault<0
 ·rw[if_pos k];split<;>omega
 ·rw[if_neg k,if_neg (by rw[(h.stays (by omega)).1];exact k)]
  exact yf9 _
theorem z5O{Q:PIn}{s s':PS}{k:Int}{m:Nat}(h:Le Q s s')(g:On k m s s')(hm:1<=m)(hi:s.i<=Q.T.length)(hf:s.fault<0):z5M Q s'+1<=z5M Q s:=by
 have:=h.most hi;unfold z5M;rw[if_pos hf];split
 ·rename_i f
  have:=(g f).2.1;omega
 ·omega
def z5P:Cmd->Nat
 | (Sum.inl ())=>1
 | (Sum.inr (Sum.inl _))=>14
 | (Sum.inr (Sum.inr (Sum.inl _)))=>14
 | (Sum.inr (Sum.inr (Sum.inr (Sum.inl _))))=>2
 | (Sum.inr (Sum.inr (Sum.inr (Sum.inr (Sum.inl ())))))=>1
 | (Sum.inr (Sum.inr (Sum.inr (Sum.inr (Sum.inr (Sum.inl ()))))))=>2
 | (Sum.inr (Sum.inr (Sum.inr (Sum.inr (Sum.inr (Sum.inr (Sum.inl _)))))))=>1
 | (Sum.inr (Sum.inr (Sum.inr (Sum.inr (Sum.inr (Sum.inr (Sum.inr (Sum.inl _))))))))=>12
 | (Sum.inr (Sum.inr (Sum.inr (Sum.inr (Sum.inr (Sum.inr (Sum.inr (Sum.inr (Sum.inl ())))))))))=>3
 | (Sum.inr (Sum.inr (Sum.inr (Sum.inr (Sum.inr (Sum.inr (Sum.inr (Sum.inr (Sum.inr (Sum.inl k))))))))))=>10-k
 | (Sum.inr (Sum.inr (Sum.inr (Sum.inr (Sum.inr (Sum.inr (Sum.inr (Sum.inr (Sum.inr (Sum.inr (Sum.inl (_,_))))))))))))=>1
 | (Sum.inr (Sum.inr (Sum.inr (Sum.inr (Sum.inr (Sum.inr (Sum.inr (Sum.inr (Sum.inr (Sum.inr (Sum.inr (Sum.inl (_,_)))))))))))))=>11
 | (Sum.inr (Sum.inr (Sum.inr (Sum.inr (Sum.inr (Sum.inr (Sum.inr (Sum.inr (Sum.inr (Sum.inr (Sum.inr (Sum.inr (Sum.inl ())))))))))))))=>13
 | (Sum.inr (Sum.inr (Sum.inr (Sum.inr (Sum.inr (Sum.inr (Sum.inr (Sum.inr (Sum.inr (Sum.inr (Sum.inr (Sum.inr (Sum.inr (Sum.inl _))))))))))))))=>12
 | (Sum.inr (Sum.inr (Sum.inr (Sum.inr (Sum.inr (Sum.inr (Sum.inr (Sum.inr (Sum.inr (Sum.inr (Sum.inr (Sum.inr (Sum.inr (Sum.inr _))))))))))))))=>1
def z5Q(Q:PIn)(c:Cmd)(s:PS):Nat:=30*z5M Q s+z5P c
