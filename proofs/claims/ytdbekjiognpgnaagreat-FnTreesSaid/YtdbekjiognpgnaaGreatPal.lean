/- Part 12. -/
import Derived.Test.YtdbekjiognpgnaaGreatPak
set_option maxHeartbeats 16000000
set_option maxRecDepth 100000
set_option linter.unusedVariables false
namespace Go.Proofs.YtdbekjiognpgnaaGreat
theorem z7L{p:Int}(l:List Int)(hp:0<=p/\p<=600):z5Y ⟨29,0,0,0,l,[],0,p⟩/\z5V ⟨29,0,0,0,l,[],0,p⟩=l.map (fun x=>(x,4)):=⟨⟨hp.1,hp.2,by simp⟩,by simp[z5V]⟩
theorem z7M{a p:Int}{l:List Int}(hl:l.length<=6)(hp:0<=p/\p<=600):z5Y ⟨12,a,0,0,l,[],0,p⟩/\z5V ⟨12,a,0,0,l,[],0,p⟩=(a,1)::l.map (fun x=>(x,1)):=⟨⟨hp.1,hp.2,by simp[hl]⟩,by simp[z5V]⟩
theorem z7N{a p:Int}{l:List ByteArray}(hl:l.length<=4/\∀ x∈l,z5S x)(hp:0<=p/\p<=600):z5Y ⟨13,a,0,0,[],l,0,p⟩/\z5V ⟨13,a,0,0,[],l,0,p⟩=[(a,2)]:=by
 refine⟨⟨hp.1,hp.2,?_⟩,by simp[z5V]⟩
 right;right;right;right;right;right;right;right;left
 exact⟨rfl,rfl,rfl,rfl,rfl,hl⟩
theorem z7O{a b p:Int}{x:ByteArray}(hb:b=0\/b=1)(hx:z5S x)(hp:0<=p/\p<=600):z5Y ⟨20,a,b,0,[],[x],0,p⟩/\z5V ⟨20,a,b,0,[],[x],0,p⟩=[(a,1)]:=by
 refine⟨⟨hp.1,hp.2,?_⟩,by simp[z5V]⟩
 right;right;right;right;right;right;right;right;right;left
 exact⟨rfl,hb,rfl,rfl,rfl,x,rfl,hx⟩
theorem z7P{a p:Int}{x:ByteArray}(hx:z5S x)(hp:0<=p/\p<=600):z5Y ⟨21,a,0,0,[],[x],0,p⟩/\z5V ⟨21,a,0,0,[],[x],0,p⟩=[(a,1)]:=by
 refine⟨⟨hp.1,hp.2,?_⟩,by simp[z5V]⟩
 right;right;right;right;right;right;right;right;right;right;left
 exact⟨rfl,rfl,rfl,rfl,rfl,x,rfl,hx⟩
theorem z7Q{a b c p:Int}(hp:0<=p/\p<=600):z5Y ⟨23,a,b,c,[],[],0,p⟩/\z5V ⟨23,a,b,c,[],[],0,p⟩=(a,1)::(b,2)::(if c=-1 then []else [(c,3)]):=⟨⟨hp.1,hp.2,by simp⟩,by simp[z5V]⟩
theorem z7R{a b p:Int}(hp:0<=p/\p<=600):z5Y ⟨24,a,b,0,[],[],0,p⟩/\z5V ⟨24,a,b,0,[],[],0,p⟩=[(a,1),(b,2)]:=⟨⟨hp.1,hp.2,by simp⟩,by simp[z5V]⟩
theorem z7S{a b p:Int}{x:ByteArray}(hx:z5S x)(hp:0<=p/\p<=600):z5Y ⟨27,a,b,0,[],[x],0,p⟩/\z5V ⟨27,a,b,0,[],[x],0,p⟩=[(a,2),(b,2)]:=by
 refine⟨⟨hp.1,hp.2,?_⟩,by simp[z5V]⟩
 right;right;right;right;right;right;right;right;right;right;right;right;right;left
 exact⟨rfl,rfl,rfl,rfl,x,rfl,hx⟩
theorem z7T{k a b c p:Int}(hk:(k=9/\1<=c/\c<=11)\/((k=10\/k=11)/\c=0))(hp:0<=p/\p<=600):z5Y ⟨k,a,b,c,[],[],0,p⟩/\z5V ⟨k,a,b,c,[],[],0,p⟩=[(a,1),(b,1)]:=by
 rcases hk with ⟨rfl,h1,h2⟩|⟨rfl|rfl,rfl⟩
 ·exact⟨⟨hp.1,hp.2,by simp[h1,h2]⟩,by simp[z5V]⟩
 ·exact⟨⟨hp.1,hp.2,by simp⟩,by simp[z5V]⟩
 ·exact⟨⟨hp.1,hp.2,by simp⟩,by simp[z5V]⟩
theorem z7U{p:Int}{x:Nat}(hx:x<9218868437227405312)(hp:0<=p/\p<=600):z5Y ⟨1,0,0,0,[],[],x,p⟩/\z5V ⟨1,0,0,0,[],[],x,p⟩=[]:=by
 refine⟨⟨hp.1,hp.2,?_⟩,by simp[z5V]⟩
 left
 exact⟨rfl,rfl,rfl,rfl,rfl,rfl,hx⟩
theorem z7V{p:Int}{x:ByteArray}(h1:x.size<=40)(hx:z5T x.data.toList)(hp:0<=p/\p<=600):z5Y ⟨2,0,0,0,[],[x],0,p⟩/\z5V ⟨2,0,0,0,[],[x],0,p⟩=[]:=by
 refine⟨⟨hp.1,hp.2,?_⟩,by simp[z5V]⟩
 right;left
 exact⟨rfl,rfl,rfl,rfl,rfl,rfl,x,rfl,h1,hx⟩
theorem z7W{p:Int}{x:ByteArray}(hx:z5S x)(hp:0<=p/\p<=600):z5Y ⟨6,0,0,0,[],[x],0,p⟩/\z5V ⟨6,0,0,0,[],[x],0,p⟩=[]:=by
 refine⟨⟨hp.1,hp.2,?_⟩,by simp[z5V]⟩
 right;right;right;left
 exact⟨rfl,rfl,rfl,rfl,rfl,rfl,x,rfl,hx⟩
theorem Out.pass{c c':Cmd}{xs:List Int}{r r':Int × List Int × PS}(h:Out c xs r)(e:outL c r=[r.1])(e':outL c' r'=[r.1])(et:r'.2.2.tree=r.2.2.tree)(hk:∀ k,z6h c k->z6h c' k)(hc:∀ l,c'≠.args l):Out c' xs r':=by
 obtain⟨h1,h2⟩:=h.seg1 e;refine⟨by rw[e',et];exact h1,fun x hx=>?_,fun l q=>absurd q (hc l)⟩
 rw[e',List.mem_singleton]at hx;subst hx;rw[et];exact hk _ h2
theorem z7X{Q:PIn}{s:PS}{x y:List UInt8}(h:isP Q s x=true)(hxy:x≠y):isP Q s y=false:=by
 unfold isP at h ⊢;cases e:Q.T[s.i]? with
 | none=>simp
 | some t=>
  rw[e]at h;simp only[Bool.and_eq_true,decide_eq_true_eq]at h;have:decide (t.1.text=y)=false:=ya9 (fun q=>hxy (h.2.2.symm.trans q));simp[this]
theorem z7Y{Q:PIn}{s:PS}{x:List UInt8}{k:Int}(h:isP Q s x=true)(h4:k≠4)(h5:k≠5):z4U Q s k=false:=by
 cases e:z4U Q s k with
 | false=>rfl
 | true=>
  exfalso
  obtain⟨t,ht,hk,_⟩:=z69 e;unfold isP at h;rw[ht]at h;simp only[Bool.and_eq_true,Bool.or_eq_true,decide_eq_true_eq]at h;rcases h.2.1 with q|q
  ·exact h4 (hk.symm.trans q)
  ·exact h5 (hk.symm.trans q)
theorem z7Z{Q:PIn}{s:PS}{x:List UInt8}(hin:(inP Q s).fault<0):isP Q (inP Q s) x=isP Q s x:=by
 rw[(z5o hin).2.2];rfl
def Good(Q:PIn)(n:Nat)(c:Cmd)(s:PS)(xs:List Int):Prop:=Out c xs (run Q n c s)/\(isP Q s [105,102]=true->(c=.stmt\/∃ p,c=.inner p)->z5X (run Q n c s).2.2.tree (run Q n c s).1=23)
theorem z80{Q:PIn}{n:Nat}{c:Cmd}{s:PS}{xs:List Int}(h:Out c xs (run Q n c s))(h1:c≠.stmt)(h2:∀ p,c≠.inner p):Good Q n c s xs:=⟨h,fun _ k=>by
 rcases k with k|⟨p,k⟩
 ·exact absurd k h1
 ·exact absurd k (h2 p)⟩
theorem z81{Q:PIn}(hQ:z5U Q):∀(n:Nat) (c:Cmd) (s:PS) (xs:List Int),z6i c->z6j c->(∀ p,c=.cond p->isP Q s [105,102]=true)->Seg s.tree (xs++inL c)->(∀ x∈inL c,z6h c (z5X s.tree x))->(run Q n c s).2.2.fault<0->Good Q n c s xs
 | 0,c,s,xs,_,_,_,_,_,f=>by
  exfalso
  have k:max s.fault 0<0:=by cases c using z53<;>exact f
  omega
 | n+1,c,s,xs,hpl,hpo,hc,hs,hk,f=>by
  have ih:=z81 hQ n;have go2:∀{c':Cmd} {s':PS} {ys:List Int},inL c'=[]->z6i c'->z6j c'->(∀ p,c'≠.cond p)->Seg s'.tree ys->(run Q n c' s').2.2.fault<0->Good Q n c' s' ys:=fun{c' s' ys} e0 h1 h2 h3 h4 h5=>ih c' s' ys h1 h2 (fun p e=>absurd e (h3 p)) (by rw[e0,List.append_nil];exact h4) (by rw[e0];intro x hx;cases hx) h5
  have go:∀{c':Cmd} {s':PS} {ys:List Int},inL c'=[]->z6i c'->z6j c'->(∀ p,c'≠.cond p)->Seg s'.tree ys->(run Q n c' s').2.2.fault<0->Out c' ys (run Q n c' s'):=fun e0 h1 h2 h3 h4 h5=>(go2 e0 h1 h2 h3 h4 h5).1;have bk:∀{c':Cmd} {s':PS},(∀ p,c'≠.cond p)->(run Q n c' s').2.2.fault<0->s'.fault<0:=fun{c' s'} h3 h5=>(z5L Q n c' s' (fun p e=>absurd e (h3 p)) h5).1;have gr:∀{c':Cmd} {s':PS},(∀ p,c'≠.cond p)->∃ l,(run Q n c' s').2.2.tree=s'.tree++l:=fun{c' s'} h3=>(z5x Q n c' s' (fun p e=>absurd e (h3 p))).tree;cases c using z53 with
  | block=>
   refine z80 ?_ (by intro e;cases e) (by intro p e;cases e)
   replace hs:Seg s.tree xs:=by simpa [inL] using hs
   rw[run]at f ⊢;by_cases hin:(inP Q s).fault<0
   ·rw[if_pos hin]at f ⊢;simp only at f ⊢;have f2:=(z5B Q _ _ (f:(z4X Q (run Q n (.stmts []) (z4X Q (inP Q s) [123])).2.2 [125]).fault<0)).1;have o:=(ih (.stmts []) (z4X Q (inP Q s) [123]) xs trivial trivial (by intro p e;cases e) (by rw[z63,z65,inL,List.append_nil];exact hs) (by intro x hx;cases hx) f2).1
    obtain⟨hh,hp⟩:=z7L (run Q n (.stmts []) (z4X Q (inP Q s) [123])).2.1 (z7B hQ s);have et:(outP (z4X Q (run Q n (.stmts []) (z4X Q (inP Q s) [123])).2.2 [125])).tree=(run Q n (.stmts []) (z4X Q (inP Q s) [123])).2.2.tree:=z63 Q _ _;refine z6k (ps:=(run Q n (.stmts []) (z4X Q (inP Q s) [123])).2.1) (by rw[et];exact o.seg) hh (by rw[hp,List.map_map];exact List.map_id' _) ?_ (fun q=>absurd (show(29:Int)=20 from q) (by decide)) rfl rfl (by intro l e;cases e)
    rw[hp,et];intro p hp';obtain⟨x,hx,rfl⟩:=List.mem_map.1 hp';exact z7D (o.kind x hx)
   ·rw[if_neg hin]at f;exact absurd f hin
  | stmts l=>
   refine z80 ?_ (by intro e;cases e) (by intro p e;cases e)
   rw[run]at f ⊢;split at f
   ·rename_i hg
    rw[if_pos hg];simp only at f ⊢;have f1:=bk (by intro p e;cases e) f
    have o:=go (c':=.stmt) rfl trivial trivial (by intro p e;cases e) hs f1
    obtain⟨o1,o2⟩:=o.seg1 rfl;have o3:=(ih (.stmts (l++[(run Q n .stmt s).1])) (run Q n .stmt s).2.2 xs trivial trivial (by intro p e;cases e) (by rw[inL,←List.append_assoc];exact o1) (by
     intro x hx;rcases List.mem_append.1 hx with k|k
     ·rw[hs.keep (gr (by intro p e;cases e)) (List.mem_append.2 (.inr k))]
      exact hk x k
     ·rw[List.mem_singleton]at k;subst k;exact o2) f).1
    exact⟨o3.seg,o3.kind,fun l' e=>by cases e⟩
   ·rename_i hg
    rw[if_neg hg];exact⟨hs,hk,fun l' e=>by cases e⟩
  | top l=>
   refine z80 ?_ (by intro e;cases e) (by intro p e;cases e)
   rw[run]at f ⊢;split at f
   ·rename_i hg
    rw[if_pos hg];simp only at f ⊢;have f1:=bk (by intro p e;cases e) f
    have o:=go (c':=.stmt) rfl trivial trivial (by intro p e;cases e) hs f1
    obtain⟨o1,o2⟩:=o.seg1 rfl;have o3:=(ih (.top (l++[(run Q n .stmt s).1])) (run Q n .stmt s).2.2 xs trivial trivial (by intro p e;cases e) (by rw[inL,←List.append_assoc];exact o1) (by
     intro x hx;rcases List.mem_append.1 hx with k|k
     ·rw[hs.keep (gr (by intro p e;cases e)) (List.mem_append.2 (.inr k))]
      exact hk x k
     ·rw[List.mem_singleton]at k;subst k;exact o2) f).1
    exact⟨o3.seg,o3.kind,fun l' e=>by cases e⟩
   ·rename_i hg
    rw[if_neg hg];exact⟨hs,hk,fun l' e=>by cases e⟩
  | fn p=>
   refine z80 ?_ (by intro e;cases e) (by intro p e;cases e)
   replace hs:Seg s.tree xs:=by simpa [inL] using hs
   rw[run]at f ⊢;have o:=go (c':=.block) (s':=z52 Q s) rfl trivial trivial (by intro p e;cases e) (hs.same (z67 Q s)) f
   obtain⟨o1,o2⟩:=o.seg1 rfl;obtain⟨hh,hp⟩:=z7N (a:=(run Q n .block (z52 Q s)).1) (z6e hQ s) hpo;exact z6k o1 hh (by rw[hp];rfl) (by rw[hp];exact z7E (.inr (.inl ⟨rfl,o2⟩))) (fun q=>absurd (show(13:Int)=20 from q) (by decide)) rfl rfl (by intro l e;cases e)
  | first=>
   refine z80 ?_ (by intro e;cases e) (by intro p e;cases e)
   replace hs:Seg s.tree xs:=by simpa [inL] using hs
   have hpo:=z7B hQ s;rw[run]at f ⊢;split
   ·obtain⟨hh,hp⟩:=z7H (k:=3) (.inl rfl) hpo;exact z7I hs rfl hh hp (by show(3:Int)≠20;decide) rfl (by show(1:Int)<=3/\(3:Int)<=13;decide) (by intro l e;cases e)
   rename_i h0
   rw[if_neg h0]at f;split
   ·obtain⟨hh,hp⟩:=z7H (k:=4) (.inr (.inl rfl)) hpo;exact z7I hs rfl hh hp (by show(4:Int)≠20;decide) rfl (by show(1:Int)<=4/\(4:Int)<=13;decide) (by intro l e;cases e)
   rename_i h1
   rw[if_neg h1]at f;split
   ·obtain⟨hh,hp⟩:=z7H (k:=5) (.inr (.inr rfl)) hpo;exact z7I hs rfl hh hp (by show(5:Int)≠20;decide) rfl (by show(1:Int)<=5/\(5:Int)<=13;decide) (by intro l e;cases e)
   rename_i h2
   rw[if_neg h2]at f;split
   ·rename_i h3
    obtain⟨hh,hp⟩:=z7U (z7J hQ h3.1 h3.2) hpo;exact z7I hs rfl hh hp (by show(1:Int)≠20;decide) rfl (by show(1:Int)<=1/\(1:Int)<=13;decide) (by intro l e;cases e)
   rename_i h3
   rw[if_neg h3]at f;split
   ·rename_i h4
    obtain⟨hh,hp⟩:=z7V (x:=txt (tokP Q s).text) (by rw[←z1x,z6a];exact h4.2) (by rw[z6a];exact z7K hQ h4.1) hpo
    exact z7I hs rfl hh hp (by show(2:Int)≠20;decide) rfl (by show(1:Int)<=2/\(2:Int)<=13;decide) (by intro l e;cases e)
   rename_i h4
   rw[if_neg h4]at f;split
   ·rename_i h5
    obtain⟨hh,hp⟩:=z7W (z6b hQ h5) hpo;exact z7I hs rfl hh hp (by show(6:Int)≠20;decide) rfl (by show(1:Int)<=6/\(6:Int)<=13;decide) (by intro l e;cases e)
   rename_i h5
   rw[if_neg h5]at f;split
   ·rename_i h6
    rw[if_pos h6]at f;split
    ·rename_i hin
     rw[if_pos hin]at f;have f2:=(z5B Q _ _ (f:(z4X Q (run Q n (.level 0) (z4W (inP Q s))).2.2 [41]).fault<0)).1;have o:=go (c':=.level 0) (s':=z4W (inP Q s)) rfl trivial trivial (by intro p e;cases e) (hs.same (z65 Q s)) f2
     exact o.pass rfl rfl (z63 Q _ _) (fun k h=>h) (by intro l e;cases e)
    ·rename_i hin
     rw[if_neg hin]at f;exact absurd f hin
   rename_i h6
   rw[if_neg h6]at f;split
   ·rename_i h7
    rw[if_pos h7]at f;split
    ·rename_i hin
     rw[if_pos hin]at f;have o:=go (c':=.fn (z4T Q s)) (s':=z4W (inP Q s)) rfl trivial hpo (by intro p e;cases e) (hs.same (z65 Q s)) f
     exact o.pass rfl rfl rfl (fun k h=>by have h':k=13:=h;show 1<=k/\k<=13;omega) (by intro l e;cases e)
    ·rename_i hin
     rw[if_neg hin]at f;exact absurd f hin
   ·rename_i h7
    rw[if_neg h7]at f;have k:=z56 Q s;have f':(badP Q s).fault<0:=f;omega
  | call=>
   refine z80 ?_ (by intro e;cases e) (by intro p e;cases e)
   replace hs:Seg s.tree xs:=by simpa [inL] using hs
   rw[run]at f ⊢;try simp only at f ⊢
   have f1:=bk (by intro p e;cases e) f
   obtain⟨o1,o2⟩:=(go (c':=.first) rfl trivial trivial (by intro p e;cases e) hs f1).seg1 rfl
   have o:=(ih (.calls (run Q n .first s).1) (run Q n .first s).2.2 xs trivial trivial (by intro p e;cases e) o1 (by intro x hx;rw[inL,List.mem_singleton]at hx;subst hx;exact o2) f).1
   exact o.pass rfl rfl rfl (fun k h=>h) (by intro l e;cases e)
  | calls x=>
   refine z80 ?_ (by intro e;cases e) (by intro p e;cases e)
   have kx:=hk x (by simp[inL])
   rw[run]at f ⊢;split at f
   ·rename_i hg
    rw[if_pos hg];simp only at f ⊢;have f1:=bk (by intro p e;cases e) f
    have f2:=(z5B Q _ _ (f1:(z4X Q (run Q n (.args []) (z4W s)).2.2 [41]).fault<0)).1;have o:=(ih (.args []) (z4W s) (xs++[x]) (yj9 _) trivial (by intro p e;cases e) (by rw[inL,List.append_nil];exact hs) (by intro y hy;cases hy) f2).1
    have hseg:Seg (run Q n (.args []) (z4W s)).2.2.tree ((xs++[x])++(run Q n (.args []) (z4W s)).2.1):=o.seg;have et:=z63 Q (run Q n (.args []) (z4W s)).2.2 [41];have hx2:z5X (run Q n (.args []) (z4W s)).2.2.tree x=z5X s.tree x:=hs.keep (gr (c':=.args []) (s':=z4W s) (by intro p e;cases e)) (by simp[inL])
    obtain⟨hh,hp⟩:=z7M (a:=x) (o.few [] rfl) (z7B hQ s);have hadd:=Seg.add (n:=⟨12,x,0,0,(run Q n (.args []) (z4W s)).2.1,[],0,z4T Q s⟩) (xs:=xs) (ps:=x::(run Q n (.args []) (z4W s)).2.1) (t:=(z4X Q (run Q n (.args []) (z4W s)).2.2 [41]).tree) (by rw[et];rw[List.append_assoc]at hseg;exact hseg) hh (by rw[hp,List.map_cons,List.map_map];congr 1;exact List.map_id' _) (by
     rw[hp,et];intro p hp';rcases List.mem_cons.1 hp' with rfl|hp'
     ·rw[hx2];exact z7C kx
     ·obtain⟨y,hy,rfl⟩:=List.mem_map.1 hp';exact z7C (o.kind y hy)) (fun q=>absurd (show(12:Int)=20 from q) (by decide))
    have o3:=(ih (.calls ((z4X Q (run Q n (.args []) (z4W s)).2.2 [41]).tree.length:Int)) (addP (z4X Q (run Q n (.args []) (z4W s)).2.2 [41]) ⟨12,x,0,0,(run Q n (.args []) (z4W s)).2.1,[],0,z4T Q s⟩) xs trivial trivial (by intro p e;cases e) hadd (by
     intro y hy;rw[inL,List.mem_singleton]at hy;subst hy;show 1<=z5X (_++[_]) _/\z5X (_++[_]) _<=13;rw[z61];show(1:Int)<=12/\(12:Int)<=13;decide) f).1
    exact o3.pass rfl rfl rfl (fun k h=>h) (by intro l e;cases e)
   ·rename_i hg
    rw[if_neg hg];exact⟨hs,hk,fun l' e=>by cases e⟩
  | args l=>
   refine z80 ?_ (by intro e;cases e) (by intro p e;cases e)
   have hl6:l.length<=6:=hpl;rw[run]at f ⊢;split at f
   ·rename_i hg
    rw[if_pos hg];simp only at f ⊢;have f1:=bk (by intro p e;cases e) f
    have f0:=bk (by intro p e;cases e) f1
    have e1:(if 0<l.length then z4X Q s [44]else s).tree=s.tree:=by
     split
     ·exact z63 Q s _
     ·rfl
    have e2:(if l.length=6 then badP Q (if 0<l.length then z4X Q s [44]else s)else if 0<l.length then z4X Q s [44]else s).tree=s.tree:=by
     split
     ·rw[z59];exact e1
     ·exact e1
    have hl5:l.length≠6:=fun e=>by
     rw[if_pos e]at f0;have:=z56 Q (if 0<l.length then z4X Q s [44]else s)
     omega
    generalize (if l.length=6 then badP Q (if 0<l.length then z4X Q s [44]else s)else if 0<l.length then z4X Q s [44]else s)=s2 at f f1 f0 e2 ⊢
    have hs2:Seg s2.tree (xs++l):=by rw[e2];exact hs
    obtain⟨o1,o2⟩:=(go (c':=.level 0) (s':=s2) rfl trivial trivial (by intro p e;cases e) hs2 f1).seg1 rfl
    have o3:=(ih (.args (l++[(run Q n (.level 0) s2).1])) (run Q n (.level 0) s2).2.2 xs (by show(l++[_]).length<=6;simp;omega) trivial (by intro p e;cases e) (by rw[inL,←List.append_assoc];exact o1) (by
     intro x hx;rcases List.mem_append.1 hx with k|k
     ·rw[hs2.keep (gr (by intro p e;cases e)) (List.mem_append.2 (.inr k)),e2]
      exact hk x k
     ·rw[List.mem_singleton]at k;subst k;exact o2) f).1
    exact⟨o3.seg,o3.kind,fun l' e=>o3.few _ rfl⟩
   ·rename_i hg
    rw[if_neg hg];exact⟨hs,hk,fun l' e=>hl6⟩
  | signed=>
   refine z80 ?_ (by intro e;cases e) (by intro p e;cases e)
   replace hs:Seg s.tree xs:=by simpa [inL] using hs
   rw[run]at f ⊢;split at f
   ·rename_i hg
    rw[if_pos hg];split at f
    ·rename_i hin
     rw[if_pos hin];simp only at f ⊢;have f1:(run Q n .signed (z4W (inP Q s))).2.2.fault<0:=f;obtain⟨o1,o2⟩:=(go (c':=.signed) (s':=z4W (inP Q s)) rfl trivial trivial (by intro p e;cases e) (hs.same (z65 Q s)) f1).seg1 rfl
     obtain⟨kk,hkk⟩:∃ k:Int,(if isP Q s [33]=true then (7:Int)else 8)=k:=⟨_,rfl⟩
     have hk78:kk=7\/kk=8:=by rw[←hkk];split<;>simp
     rw[hkk];obtain⟨hh,hp⟩:=z7G (k:=kk) (a:=(run Q n .signed (z4W (inP Q s))).1) (by omega) (z7B hQ s)
     exact z6k o1 hh (by rw[hp];rfl) (by rw[hp];exact z7E (z7C o2)) (fun q=>absurd (show kk=20 from q) (by omega)) rfl (by show 1<=kk/\kk<=13;omega) (by intro l e;cases e)
    ·rename_i hin
     exact absurd f hin
   ·rename_i hg
    rw[if_neg hg];have o:=go (c':=.call) rfl trivial trivial (by intro p e;cases e) hs f
    exact o.pass rfl rfl rfl (fun k h=>h) (by intro l e;cases e)
  | level k=>
   refine z80 ?_ (by intro e;cases e) (by intro p e;cases e)
   replace hs:Seg s.tree xs:=by simpa [inL] using hs
   rw[run]at f ⊢;split at f
   ·rename_i hg
    rw[if_pos hg];have o:=go (c':=.signed) rfl trivial trivial (by intro p e;cases e) hs f
    exact o.pass rfl rfl rfl (fun k h=>h) (by intro l e;cases e)
   ·rename_i hg
    rw[if_neg hg];try simp only at f ⊢
    have f1:=bk (by intro p e;cases e) f
    obtain⟨o1,o2⟩:=(go (c':=.level (k+1)) rfl trivial trivial (by intro p e;cases e) hs f1).seg1 rfl
    have o:=(ih (.more k (run Q n (.level (k+1)) s).1) (run Q n (.level (k+1)) s).2.2 xs trivial trivial (by intro p e;cases e) o1 (by intro x hx;rw[inL,List.mem_singleton]at hx;subst hx;exact o2) f).1
    exact o.pass rfl rfl rfl (fun k h=>h) (by intro l e;cases e)
  | more k x=>
   refine z80 ?_ (by intro e;cases e) (by intro p e;cases e)
   have kx:=hk x (by simp[inL])
   rw[run]at f ⊢;split at f
   ·rename_i hg
    rw[if_pos hg];simp only at f ⊢;have f1:(run Q n (.level (k+1)) (z4W s)).2.2.fault<0:=bk (c':=.more k _) (s':=addP (run Q n (.level (k+1)) (z4W s)).2.2 _) (by intro p e;cases e) f
    obtain⟨o1,o2⟩:=(go (c':=.level (k+1)) (s':=z4W s) (ys:=xs++[x]) rfl trivial trivial (by intro p e;cases e) hs f1).seg1 rfl
    have hx2:z5X (run Q n (.level (k+1)) (z4W s)).2.2.tree x=z5X s.tree x:=hs.keep (gr (c':=.level (k+1)) (s':=z4W s) (by intro p e;cases e)) (by simp[inL])
    obtain⟨kk,hkk⟩:∃ q:Int,(if k=0 then (11:Int)else if k=1 then 10 else 9)=q:=⟨_,rfl⟩
    have hkb:(kk=9/\1<=opN (tokP Q s).text/\opN (tokP Q s).text<=11)\/((kk=10\/kk=11)/\opN (tokP Q s).text=0):=by
     rw[←hkk];by_cases k0:k=0
     ·rw[if_pos k0];exact .inr ⟨.inr rfl,z6g hg.2 (.inl k0)⟩
     ·rw[if_neg k0];by_cases k1:k=1
      ·rw[if_pos k1];exact .inr ⟨.inl rfl,z6g hg.2 (.inr k1)⟩
      ·rw[if_neg k1];exact .inl ⟨rfl,z6f hg.2 k0 k1⟩
    rw[hkk]at f ⊢;obtain⟨hh,hp⟩:=z7T (a:=x) (b:=(run Q n (.level (k+1)) (z4W s)).1) hkb (z7B hQ s);have hadd:=Seg.add (n:=⟨kk,x,(run Q n (.level (k+1)) (z4W s)).1,opN (tokP Q s).text,[],[],0,z4T Q s⟩) (xs:=xs) (ps:=[x,(run Q n (.level (k+1)) (z4W s)).1]) (t:=(run Q n (.level (k+1)) (z4W s)).2.2.tree) (by rw[List.append_assoc]at o1;exact o1) hh (by rw[hp];rfl) (by rw[hp];exact z7F (by rw[hx2];exact z7C kx) (z7C o2)) (fun q=>absurd (show kk=20 from q) (by omega))
    have o3:=(ih (.more k ((run Q n (.level (k+1)) (z4W s)).2.2.tree.length:Int)) (addP (run Q n (.level (k+1)) (z4W s)).2.2 ⟨kk,x,(run Q n (.level (k+1)) (z4W s)).1,opN (tokP Q s).text,[],[],0,z4T Q s⟩) xs trivial trivial (by intro p e;cases e) hadd (by
     intro y hy;rw[inL,List.mem_singleton]at hy;subst hy;show 1<=z5X (_++[_]) _/\z5X (_++[_]) _<=13;rw[z61];show 1<=kk/\kk<=13;omega) f).1
    exact o3.pass rfl rfl rfl (fun k h=>h) (by intro l e;cases e)
   ·rename_i hg
    rw[if_neg hg];exact⟨hs,hk,fun l' e=>by cases e⟩
  | plain k p=>
   refine z80 ?_ (by intro e;cases e) (by intro p e;cases e)
   replace hs:Seg s.tree xs:=by simpa [inL] using hs
   have hpl':k=22\/k=25\/k=26\/k=28:=hpl;rw[run]at f ⊢;try simp only at f ⊢
   have f1:=(z5B Q _ _ (f:(z4X Q (run Q n (.level 0) s).2.2 [59]).fault<0)).1;obtain⟨o1,o2⟩:=(go (c':=.level 0) rfl trivial trivial (by intro p e;cases e) hs f1).seg1 rfl
   obtain⟨hh,hp⟩:=z7G (k:=k) (a:=(run Q n (.level 0) s).1) (by omega) hpo
   have et:=z63 Q (run Q n (.level 0) s).2.2 [59];exact z6k (ps:=[(run Q n (.level 0) s).1]) (by rw[et];exact o1) hh (by rw[hp];rfl) (by rw[hp,et];exact z7E (z7C o2)) (fun q=>absurd (show k=20 from q) (by omega)) rfl rfl (by intro l e;cases e)
  | stmt=>
   replace hs:Seg s.tree xs:=by simpa [inL] using hs
   unfold Good;rw[run]at f ⊢;split at f
   ·rename_i hin
    rw[if_pos hin];simp only at f ⊢;have o:=go2 (c':=.inner (z4T Q (inP Q s))) (s':=inP Q s) rfl trivial (z7B hQ _) (by intro p e;cases e) (hs.same (z65 Q s)) f
    exact⟨o.1.pass rfl rfl rfl (fun k h=>h) (by intro l e;cases e),fun hi _=>o.2 (by rw[z7Z hin];exact hi) (.inr ⟨_,rfl⟩)⟩
   ·rename_i hin
    exact absurd f hin
  | inner p=>
   replace hs:Seg s.tree xs:=by simpa [inL] using hs
   have hpp:0<=p/\p<=600:=hpo;have stm:∀ k:Int,(k=22\/k=25\/k=26\/k=28)->20<=k/\k<=28:=fun k h=>by omega
   have nif:∀{w:List UInt8},isP Q s w=true->[105,102]≠w->isP Q s [105,102]=true->False:=fun{w} h1 h2 h3=>by
    rw[z7X h3 h2]at h1;cases h1
   unfold Good;rw[run]at f ⊢;split at f
   ·rename_i hg
    rw[if_pos hg];have o:=go (c':=.plain 22 p) (s':=z4W s) rfl (.inl rfl) hpp (by intro p e;cases e) hs f
    exact⟨o.pass rfl rfl rfl (fun k h=>by have h':k=22:=h;show 20<=k/\k<=28;omega) (by intro l e;cases e),fun hi _=>(nif hg (by decide) hi).elim⟩
   rename_i h0
   rw[if_neg h0];split at f
   ·rename_i hg
    rw[if_pos hg];have o:=go (c':=.plain 25 p) (s':=z4W s) rfl (.inr (.inl rfl)) hpp (by intro p e;cases e) hs f
    exact⟨o.pass rfl rfl rfl (fun k h=>by have h':k=25:=h;show 20<=k/\k<=28;omega) (by intro l e;cases e),fun hi _=>(nif hg (by decide) hi).elim⟩
   rename_i h1
   rw[if_neg h1];split at f
   ·rename_i hg
    rw[if_pos hg];have o:=go (c':=.plain 26 p) (s':=z4W s) rfl (.inr (.inr (.inl rfl))) hpp (by intro p e;cases e) hs f
    exact⟨o.pass rfl rfl rfl (fun k h=>by have h':k=26:=h;show 20<=k/\k<=28;omega) (by intro l e;cases e),fun hi _=>(nif hg (by decide) hi).elim⟩
   rename_i h2
   rw[if_neg h2];split at f
   ·rename_i hg
    rw[if_pos hg];try simp only at f ⊢
    refine⟨?_,fun hi _=>(nif hg (by decide) hi).elim⟩
    have f1:=(z5B Q _ _ (f:(z4X Q (run Q n (.level 0) (z4X Q (z4Z Q (z4W s)) [61])).2.2 [59]).fault<0)).1;have f2:=(z5B Q _ _ (bk (by intro p e;cases e) f1)).1
    have et0:(z4X Q (z4Z Q (z4W s)) [61]).tree=s.tree:=by rw[z63,z64];rfl
    obtain⟨o1,o2⟩:=(go (c':=.level 0) (s':=z4X Q (z4Z Q (z4W s)) [61]) rfl trivial trivial (by intro p e;cases e) (hs.same et0) f1).seg1 rfl
    obtain⟨hh,hp⟩:=z7O (a:=(run Q n (.level 0) (z4X Q (z4Z Q (z4W s)) [61])).1) (b:=0) (.inl rfl) (z6c hQ f2) hpp;have et:=z63 Q (run Q n (.level 0) (z4X Q (z4Z Q (z4W s)) [61])).2.2 [59];exact z6k (ps:=[(run Q n (.level 0) (z4X Q (z4Z Q (z4W s)) [61])).1]) (by rw[et];exact o1) hh (by rw[hp];rfl) (by rw[hp,et];exact z7E (z7C o2)) (fun _ q=>absurd (show(0:Int)=1 from q) (by decide)) rfl (by show(20:Int)<=20/\(20:Int)<=28;decide) (by intro l e;cases e)
   rename_i h3
   rw[if_neg h3];split at f
   ·rename_i hg
    rw[if_pos hg];try simp only at f ⊢
    refine⟨?_,fun hi _=>?_⟩
    ·have f1:=(z5B Q _ _ (f:(z4X Q (run Q n (.level 0) (z4X Q (z4Z Q s) [61])).2.2 [59]).fault<0)).1;have f2:=(z5B Q _ _ (bk (by intro p e;cases e) f1)).1
     have et0:(z4X Q (z4Z Q s) [61]).tree=s.tree:=by rw[z63,z64]
     obtain⟨o1,o2⟩:=(go (c':=.level 0) (s':=z4X Q (z4Z Q s) [61]) rfl trivial trivial (by intro p e;cases e) (hs.same et0) f1).seg1 rfl
     obtain⟨hh,hp⟩:=z7P (a:=(run Q n (.level 0) (z4X Q (z4Z Q s) [61])).1) (z6c hQ f2) hpp;have et:=z63 Q (run Q n (.level 0) (z4X Q (z4Z Q s) [61])).2.2 [59];exact z6k (ps:=[(run Q n (.level 0) (z4X Q (z4Z Q s) [61])).1]) (by rw[et];exact o1) hh (by rw[hp];rfl) (by rw[hp,et];exact z7E (z7C o2)) (fun q=>absurd (show(21:Int)=20 from q) (by decide)) rfl (by show(20:Int)<=21/\(21:Int)<=28;decide) (by intro l e;cases e)
    ·have:=z7Y (k:=1) hi (by decide) (by decide)
     rw[this]at hg;cases hg.1
   rename_i h4
   rw[if_neg h4];split at f
   ·rename_i hg
    rw[if_pos hg];have o:=(ih (.cond p) s xs trivial hpp (fun _ _=>hg) (by simpa [inL] using hs) (by intro x hx;cases hx) f).1
    refine⟨o.pass rfl rfl rfl (fun k h=>by have h':k=23:=h;show 20<=k/\k<=28;omega) (by intro l e;cases e),fun _ _=>(o.seg1 rfl).2⟩
   rename_i h5
   rw[if_neg h5];split at f
   ·rename_i hg
    rw[if_pos hg];try simp only at f ⊢
    refine⟨?_,fun hi _=>absurd hi h5⟩;have f1:(run Q n .block (z4X Q (run Q n (.level 0) (z4X Q (z4W s) [40])).2.2 [41])).2.2.fault<0:=f;have f2:=(z5B Q _ _ (bk (by intro p e;cases e) f1)).1
    obtain⟨o1,o2⟩:=(go (c':=.level 0) (s':=z4X Q (z4W s) [40]) rfl trivial trivial (by intro p e;cases e) (hs.same (z63 Q (z4W s) [40])) f2).seg1 rfl
    obtain⟨q1,q2⟩:=(go (c':=.block) (s':=z4X Q (run Q n (.level 0) (z4X Q (z4W s) [40])).2.2 [41]) rfl trivial trivial (by intro p e;cases e) (o1.same (z63 Q _ _)) f1).seg1 rfl
    have ka:=(o1.same (z63 Q (run Q n (.level 0) (z4X Q (z4W s) [40])).2.2 [41])).keep (gr (c':=.block) (by intro p e;cases e)) (x:=(run Q n (.level 0) (z4X Q (z4W s) [40])).1) (by simp)
    rw[z63]at ka;obtain⟨hh,hp⟩:=z7R (a:=(run Q n (.level 0) (z4X Q (z4W s) [40])).1) (b:=(run Q n .block (z4X Q (run Q n (.level 0) (z4X Q (z4W s) [40])).2.2 [41])).1) hpp;exact z6k (ps:=[(run Q n (.level 0) (z4X Q (z4W s) [40])).1,(run Q n .block (z4X Q (run Q n (.level 0) (z4X Q (z4W s) [40])).2.2 [41])).1]) (by rw[List.append_assoc]at q1;exact q1) hh (by rw[hp];rfl) (by rw[hp];exact z7F (by rw[ka];exact z7C o2) (.inr (.inl ⟨rfl,q2⟩))) (fun q=>absurd (show(24:Int)=20 from q) (by decide)) rfl (by show(20:Int)<=24/\(24:Int)<=28;decide) (by intro l e;cases e)
   rename_i h6
   rw[if_neg h6];split at f
   ·rename_i hg
    rw[if_pos hg];try simp only at f ⊢
    refine⟨?_,fun hi _=>absurd hi h5⟩;have f1:(run Q n .block (z4Z Q (z4X Q (run Q n .block (z4W s)).2.2 [99,97,116,99,104]))).2.2.fault<0:=f;have f2:=bk (by intro p e;cases e) f1
    have f3:=(z5B Q _ _ (z5C Q _ f2).1).1;obtain⟨o1,o2⟩:=(go (c':=.block) (s':=z4W s) rfl trivial trivial (by intro p e;cases e) hs f3).seg1 rfl
    have et:(z4Z Q (z4X Q (run Q n .block (z4W s)).2.2 [99,97,116,99,104])).tree=(run Q n .block (z4W s)).2.2.tree:=by rw[z64,z63]
    obtain⟨q1,q2⟩:=(go (c':=.block) (s':=z4Z Q (z4X Q (run Q n .block (z4W s)).2.2 [99,97,116,99,104])) rfl trivial trivial (by intro p e;cases e) (o1.same et) f1).seg1 rfl
    have ka:=(o1.same et).keep (gr (c':=.block) (by intro p e;cases e)) (x:=(run Q n .block (z4W s)).1) (by simp)
    rw[et]at ka;obtain⟨hh,hp⟩:=z7S (a:=(run Q n .block (z4W s)).1) (b:=(run Q n .block (z4Z Q (z4X Q (run Q n .block (z4W s)).2.2 [99,97,116,99,104]))).1) (z6c hQ f2) hpp;exact z6k (ps:=[(run Q n .block (z4W s)).1,(run Q n .block (z4Z Q (z4X Q (run Q n .block (z4W s)).2.2 [99,97,116,99,104]))).1]) (by rw[List.append_assoc]at q1;exact q1) hh (by rw[hp];rfl) (by rw[hp];exact z7F (by rw[ka];exact .inr (.inl ⟨rfl,o2⟩)) (.inr (.inl ⟨rfl,q2⟩))) (fun q=>absurd (show(27:Int)=20 from q) (by decide)) rfl (by show(20:Int)<=27/\(27:Int)<=28;decide) (by intro l e;cases e)
   rename_i h7
   rw[if_neg h7];split at f
   ·rename_i hg
    rw[if_pos hg];try simp only at f ⊢
    refine⟨?_,fun hi _=>absurd hi h5⟩;have f1:(run Q n (.fn p) (z4Z Q (z4W s))).2.2.fault<0:=f;have f2:=bk (by intro p e;cases e) f1
    obtain⟨o1,o2⟩:=(go (c':=.fn p) (s':=z4Z Q (z4W s)) rfl trivial hpp (by intro p e;cases e) (hs.same (z64 Q (z4W s))) f1).seg1 rfl
    have o2':z5X (run Q n (.fn p) (z4Z Q (z4W s))).2.2.tree (run Q n (.fn p) (z4Z Q (z4W s))).1=13:=o2;obtain⟨hh,hp⟩:=z7O (a:=(run Q n (.fn p) (z4Z Q (z4W s))).1) (b:=1) (.inr rfl) (z6c hQ f2) hpp;exact z6k (ps:=[(run Q n (.fn p) (z4Z Q (z4W s))).1]) o1 hh (by rw[hp];rfl) (by rw[hp];exact z7E (z7C (by rw[o2'];decide))) (fun _ _=>o2') rfl (by show(20:Int)<=20/\(20:Int)<=28;decide) (by intro l e;cases e)
   ·rename_i hg
    rw[if_neg hg];have o:=go (c':=.plain 28 p) (s':=s) rfl (.inr (.inr (.inr rfl))) hpp (by intro p e;cases e) hs f
    exact⟨o.pass rfl rfl rfl (fun k h=>by have h':k=28:=h;show 20<=k/\k<=28;omega) (by intro l e;cases e),fun hi _=>absurd hi h5⟩
  | cond p=>
   refine z80 ?_ (by intro e;cases e) (by intro p e;cases e)
   replace hs:Seg s.tree xs:=by simpa [inL] using hs
   have hpp:0<=p/\p<=600:=hpo;rw[run]at f ⊢;simp only at f ⊢;have pre:(run Q n .block (z4X Q (run Q n (.level 0) (z4X Q (z4W s) [40])).2.2 [41])).2.2.fault<0->Seg (run Q n .block (z4X Q (run Q n (.level 0) (z4X Q (z4W s) [40])).2.2 [41])).2.2.tree (xs++[(run Q n (.level 0) (z4X Q (z4W s) [40])).1,(run Q n .block (z4X Q (run Q n (.level 0) (z4X Q (z4W s) [40])).2.2 [41])).1])/\(1<=z5X (run Q n .block (z4X Q (run Q n (.level 0) (z4X Q (z4W s) [40])).2.2 [41])).2.2.tree (run Q n (.level 0) (z4X Q (z4W s) [40])).1/\z5X (run Q n .block (z4X Q (run Q n (.level 0) (z4X Q (z4W s) [40])).2.2 [41])).2.2.tree (run Q n (.level 0) (z4X Q (z4W s) [40])).1<=13)/\z5X (run Q n .block (z4X Q (run Q n (.level 0) (z4X Q (z4W s) [40])).2.2 [41])).2.2.tree (run Q n .block (z4X Q (run Q n (.level 0) (z4X Q (z4W s) [40])).2.2 [41])).1=29:=fun f1=>by
    have f2:=(z5B Q _ _ (bk (by intro p e;cases e) f1)).1
    obtain⟨o1,o2⟩:=(go (c':=.level 0) (s':=z4X Q (z4W s) [40]) rfl trivial trivial (by intro p e;cases e) (hs.same (z63 Q (z4W s) [40])) f2).seg1 rfl
    obtain⟨q1,q2⟩:=(go (c':=.block) (s':=z4X Q (run Q n (.level 0) (z4X Q (z4W s) [40])).2.2 [41]) rfl trivial trivial (by intro p e;cases e) (o1.same (z63 Q _ _)) f1).seg1 rfl
    have ka:=(o1.same (z63 Q (run Q n (.level 0) (z4X Q (z4W s) [40])).2.2 [41])).keep (gr (c':=.block) (by intro p e;cases e)) (x:=(run Q n (.level 0) (z4X Q (z4W s) [40])).1) (by simp)
    rw[z63]at ka;rw[List.append_assoc]at q1;exact⟨q1,by rw[ka];exact o2,q2⟩
   generalize (run Q n (.level 0) (z4X Q (z4W s) [40]))=a at f pre ⊢;generalize (run Q n .block (z4X Q a.2.2 [41]))=b at f pre ⊢;split at f
   ·rename_i hel
    rw[if_pos hel];have step:∀(c':Cmd),(∀ p,c'≠.cond p)->inL c'=[]->z6i c'->z6j c'->(∀ r,outL c' r=[r.1])->(run Q n c' (z4W b.2.2)).2.2.fault<0->(∀(ys:List Int),Good Q n c' (z4W b.2.2) ys->z5W 3 (z5X (run Q n c' (z4W b.2.2)).2.2.tree (run Q n c' (z4W b.2.2)).1))->Out (.cond p) xs (endN (run Q n c' (z4W b.2.2)).2.2 ⟨23,a.1,b.1,(run Q n c' (z4W b.2.2)).1,[],[],0,p⟩):=fun c' hcc e0 e1 e2 e3 f1 hfit=>by
     have fb:b.2.2.fault<0:=bk (s':=z4W b.2.2) hcc f1;obtain⟨s1,k1,k2⟩:=pre fb;have g:=go2 (c':=c') (s':=z4W b.2.2) (ys:=xs++[a.1,b.1]) e0 e1 e2 hcc s1 f1;obtain⟨t1,t2⟩:=g.1.seg1 (e3 _);have hx1:=s1.keep (gr (c':=c') (s':=z4W b.2.2) hcc) (x:=a.1) (by simp)
     have hx2:=s1.keep (gr (c':=c') (s':=z4W b.2.2) hcc) (x:=b.1) (by simp)
     obtain⟨hh,hp⟩:=z7Q (a:=a.1) (b:=b.1) (c:=(run Q n c' (z4W b.2.2)).1) hpp;have h0:(run Q n c' (z4W b.2.2)).1≠-1:=fun e=>by
      have:=t1.roots (run Q n c' (z4W b.2.2)).1 (by simp)
      omega
     rw[if_neg h0]at hp;refine z6k (ps:=[a.1,b.1,(run Q n c' (z4W b.2.2)).1]) (by rw[List.append_assoc]at t1;exact t1) hh (by rw[hp];rfl) ?_ (fun q=>absurd (show(23:Int)=20 from q) (by decide)) rfl rfl (by intro l e;cases e)
     rw[hp];intro q hq;simp only[List.mem_cons,List.not_mem_nil,or_false]at hq;rcases hq with rfl|rfl|rfl
     ·show z5W 1 (z5X _ a.1);rw[hx1];exact z7C k1
     ·show z5W 2 (z5X _ b.1);rw[hx2];exact .inr (.inl ⟨rfl,k2⟩)
     ·exact hfit _ g
    by_cases hif:isP Q (z4W b.2.2) [105,102]=true
    ·rw[if_pos hif]at f ⊢;exact step .stmt (by intro p e;cases e) rfl trivial trivial (fun _=>rfl) f (fun ys g=>.inr (.inr (.inl ⟨rfl,.inr (g.2 hif (.inl rfl))⟩)))
    ·rw[if_neg hif]at f ⊢;exact step .block (by intro p e;cases e) rfl trivial trivial (fun _=>rfl) f (fun ys g=>.inr (.inr (.inl ⟨rfl,.inl (g.1.seg1 rfl).2⟩)))
   ·rename_i hel
    rw[if_neg hel];obtain⟨s1,k1,k2⟩:=pre f;obtain⟨hh,hp⟩:=z7Q (a:=a.1) (b:=b.1) (c:=-1) hpp;rw[if_pos rfl]at hp;exact z6k (ps:=[a.1,b.1]) s1 hh (by rw[hp];rfl) (by rw[hp];exact z7F (z7C k1) (.inr (.inl ⟨rfl,k2⟩))) (fun q=>absurd (show(23:Int)=20 from q) (by decide)) rfl rfl (by intro l e;cases e)
theorem z82:∀{r:List UInt8} {i:Nat},z3D r=some i->z5T (r.take i)
 | [],i,h=>by cases h
 | c::r,i,h=>by
  rw[z3D]at h;split at h
  ·cases h
   intro x hx;cases hx
  ·rename_i h34
   split at h
   ·cases h
   ·rename_i hb
    cases e:z3D r with
    | none=>rw[e]at h;cases h
    | some j=>
     rw[e]at h;cases h
     intro x hx;have hx:x∈(c::r).take (j+1):=hx;rw[List.take_succ_cons]at hx;rcases List.mem_cons.1 hx with rfl|hx
     ·omega
     ·exact z82 e x hx
structure z83(t:Tok):Prop where
 name:t.kind=1->z5R t.text
 text:t.kind=3->z5T t.text
 num:t.kind=2->t.num<=9218868437227405312
theorem z84(t:List UInt8):z3t t<=9218868437227405312:=by
 unfold z3t;split
 ·exact yj9 _
 ·unfold z3s;split
  ·exact yj9 _
  ·split
   ·exact yf9 _
   ·split
    ·exact yj9 _
    ·unfold z33;split
     ·exact z0X _ _ _
     ·exact yj9 _
theorem z85(c:UInt8)(r:List UInt8)(hz:¬ (tokN (c::r)).2<0):z83 (tokN (c::r)).1:=by
 unfold tokN at hz ⊢;split
 ·rename_i hl
  rw[if_pos hl]at hz;have hl':z3x c=true:=hl;obtain⟨k1,k2⟩:=z7g (q:=[]) (r:=r) hl' (by unfold EndQ;simp)
  rw[List.append_nil]at k1;have h1:1<=z3y (c::r):=by rw[z7f hl'];omega
  refine⟨fun hk=>⟨by show 1<=(List.take _ _).length;omega,?_,by show z3y (List.take _ _)=(List.take _ _).length;omega,?_⟩,fun hk=>?_,fun hk=>?_⟩
  ·show(List.take _ _).length<=12;rw[k2];simp only at hz;split at hz
   ·exact absurd (by decide) hz
   ·omega
  ·intro hw;have hk':(if (c::r).take (z3y (c::r))∈z4J then (5:Int)else 1)=1:=hk
   rw[if_pos hw]at hk';exact absurd hk' (by decide)
  ·have hk':(if (c::r).take (z3y (c::r))∈z4J then (5:Int)else 1)=3:=hk
   split at hk'<;>exact absurd hk' (by decide)
  ·exact yj9 _
 split
 ·exact⟨fun hk=>absurd (show(2:Int)=1 from hk) (by decide),fun hk=>absurd (show(2:Int)=3 from hk) (by decide),fun _=>z84 _⟩
 split
 ·rename_i h1 h2 h3
  rw[if_neg h1,if_neg h2,if_pos h3]at hz;have hz':¬ z3X ((c::r).drop 1)<0:=hz;refine⟨fun hk=>absurd (show(3:Int)=1 from hk) (by decide),fun hk=>?_,fun _=>yj9 _⟩
  show z5T (if 0<z3X ((c::r).drop 1)then ((c::r).drop 1).take (z3X ((c::r).drop 1)-2).toNat else [])
  unfold z3X at hz' ⊢;cases e:z3D ((c::r).drop 1)with
  | none=>rw[e]at hz';exact absurd (by decide) hz'
  | some i=>
   simp only;rw[if_pos (by omega)]
   have e2:((i:Int)+2-2).toNat=i:=by omega
   rw[e2];exact z82 e
 ·exact⟨fun hk=>absurd (show(4:Int)=1 from hk) (by decide),fun hk=>absurd (show(4:Int)=3 from hk) (by decide),fun _=>yj9 _⟩
theorem z86:∀(n:Nat) (l:List UInt8) (a:Nat) (acc:List (Tok × Nat)),(l=[]\/a+l.length<=600)->(∀ t,t∈acc->z83 t.1/\t.2<=600)->∀ t,t∈(z7a tokN n l a acc).1->z83 t.1/\t.2<=600
 | 0,l,a,acc,h1,h2=>by
  rw[z7a];exact h2
 | n+1,[],a,acc,h1,h2=>by
  rw[z7a];exact h2
 | n+1,c::r,a,acc,h1,h2=>by
  have hl:a+(r.length+1)<=600:=by
   rcases h1 with e|e
   ·cases e
   ·exact e
  rw[z7a];split
  ·exact z86 n r (a+1) acc (.inr (by omega)) h2
  split
  ·intro t ht;cases ht
  ·rename_i hf
   refine z86 n _ _ _ ?_ ?_
   ·rcases Nat.lt_or_ge (tokN (c::r)).2.toNat (r.length+1)with k|k
    ·right
     rw[List.length_drop,List.length_cons];omega
    ·left
     exact List.drop_eq_nil_of_le k
   ·intro t ht;rcases List.mem_append.1 ht with k|k
    ·exact h2 t k
    ·have e:t=((tokN (c::r)).1,a):=by simpa using k
     rw[e];exact⟨z85 c r (fun q=>hf (.inl q)),by show a<=600;omega⟩
theorem z87{l:List UInt8}(h:¬ 0<=(z7b tokN l).2):z5U (z7y l):=by
 have h6:l.length<=600:=by
  rcases Nat.lt_or_ge 600 l.length with k|k
  ·unfold z7b at h;rw[if_pos k]at h;exact absurd (by decide) h
  ·exact k
 have hg:∀ t,t∈(z7b tokN l).1->z83 t.1/\t.2<=600:=by
  unfold z7b;rw[if_neg (by omega)]
  exact z86 _ _ _ _ (.inr (by omega)) (fun t ht=>by cases ht)
 exact⟨fun t ht=>(hg t ht).1.name,fun t ht=>(hg t ht).1.text,fun t ht=>(hg t ht).1.num,fun t ht=>(hg t ht).2,h6⟩
structure z88(ns:List z4Q):Prop where
 seg:Seg ns [(ns.length:Int)-1]
 last:z5X ns ((ns.length:Int)-1)=29
 few:1<=ns.length/\ns.length<=201
theorem z89{l:List UInt8}(h:(z7z l).2<0):z88 (z7z l).1:=by
 unfold z7z at h ⊢;split at h
 ·omega
 ·rename_i hF
  rw[if_neg hF];have hQ:=z87 hF;have hT:=(z7x l).1;have hT':(z7y l).T.length<=200:=hT;generalize z7y l=Q at h hQ hT' ⊢;unfold z54 at h ⊢;simp only at h ⊢;split at h
  ·omega
  ·rename_i hf
   rw[if_neg hf];have f:(run Q (30*(Q.T.length+2)) (.top []) ⟨0,[],0,-1⟩).2.2.fault<0:=by omega
   have o:=(z81 hQ (30*(Q.T.length+2)) (.top []) ⟨0,[],0,-1⟩ [] trivial trivial (by intro p e;cases e) ⟨fun j n hj=>by simp at hj,fun j n hj=>by simp at hj,fun j n hj=>by simp at hj,fun i hi=>by simp at hi,fun x hx=>by cases hx⟩ (by intro x hx;cases hx) f).1
   have on:=z5L Q (30*(Q.T.length+2)) (.top []) ⟨0,[],0,-1⟩ (by intro p e;cases e) f
   have li:=(z5x Q (30*(Q.T.length+2)) (.top []) ⟨0,[],0,-1⟩ (by intro p e;cases e)).most (yj9 _)
   generalize run Q (30*(Q.T.length+2)) (.top []) ⟨0,[],0,-1⟩=R at f o on li ⊢;have hlen:R.2.2.tree.length<=200:=by
    have h3:=on.2.2;simp only[List.length_nil]at h3;omega
   obtain⟨hh,hp⟩:=z7L R.2.1 (p:=0) (by decide)
   have hs:Seg R.2.2.tree ([]++R.2.1):=o.seg;have hadd:=hs.add hh (by rw[hp,List.map_map];exact List.map_id' _) (by
    rw[hp];intro p hp';obtain⟨x,hx,rfl⟩:=List.mem_map.1 hp';exact z7D (o.kind x hx)) (fun q=>absurd (show(29:Int)=20 from q) (by decide))
   have el:((R.2.2.tree++[(⟨29,0,0,0,R.2.1,[],0,0⟩:z4Q)]).length:Int)-1=(R.2.2.tree.length:Int):=by simp
   refine⟨by rw[el];exact hadd,by rw[el,z61],by simp;omega⟩
