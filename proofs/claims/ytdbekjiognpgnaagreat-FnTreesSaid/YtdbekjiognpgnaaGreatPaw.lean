/- Part 23. -/
import Derived.Test.YtdbekjiognpgnaaGreatPav
import Derived.Deep.RegionHeld3
import Derived.Deep.RegionHeldLaw
import Derived.Deep.AppendLies
set_option maxHeartbeats 16000000
set_option maxRecDepth 100000
set_option linter.unusedVariables false
namespace Go.Proofs.YtdbekjiognpgnaaGreat
open Go.RowKit
def za2(a b:Value):Prop:=∀ g,a.ownBlock=some g->b.ownBlock≠some g
theorem za2.symm{a b:Value}(h:za2 a b):za2 b a:=fun g hg ha=>h g ha hg
theorem za2.ne{a b:Value}(h:za2 a b):a.ownBlock=none\/a.ownBlock≠b.ownBlock:=by
 cases e:a.ownBlock with
 | none=>exact .inl rfl
 | some g=>exact .inr fun k=>h g e k.symm
def za3(xs:List Value)(K P:Nat):Prop:=∀ i,i<K->∃(s:ByteArray) (p:Nat) (f b:Int),xs[i*4]?=some (.string s)/\xs[i*4+1]?=some (.int .i64 (p:Int))/\xs[i*4+2]?=some (.int .i64 f)/\xs[i*4+3]?=some (.int .i64 b)/\p<P
def za4(H b:Nat)(w:World)(r:Value):Prop:=∃ ms:List Int,ms.length<=b/\w.ownsRow H 3 1 r ms.length (ms.map (Value.int .i64))
structure RS where
 P:Nat
 K:Nat
 pv:Value
 ov:Value
 qv:Value
 av:Value
 sv:Value
 cv:Value
 rows:List Value
structure za5(w0:World)(F:Nat->Prop)(n b:Nat)(s:RS)(w:World):Prop where
 low:Below w0.heap.size w0 w
 places:∃ xs,w.ownsRow w0.heap.size 166 4 s.pv s.P xs/\∀ x∈xs,x.oneCell'=true
 opens:∃ xs,w.ownsRow w0.heap.size 164 4 s.qv s.K xs/\za3 xs s.K s.P
 ofs:∃ xs,w.ownsRow w0.heap.size 3 1 s.ov n xs
 around:∃ ms:List Int,ms.length=s.rows.length/\w.ownsRow w0.heap.size 3 1 s.av s.rows.length (ms.map (Value.int .i64))
 seen:w.ownsRow w0.heap.size 29 1 s.sv s.rows.length s.rows
 caps:∃ xs,w.ownsRow w0.heap.size 29 1 s.cv n xs
 rows:∀ r∈s.rows,za4 w0.heap.size b w r
 apart:(s.ov::s.av::s.rows).Pairwise za2
 apart2:za2 s.sv s.cv
 some1:1<=s.rows.length
 n1:1<=n
 hn:n<=10000
 hP:s.P<=b
 hK:s.K<=b
 hM:s.rows.length<=b
 hb:b<=10000
 free:∀ r∈s.ov::s.av::s.rows,∀ g,r.ownBlock=some g->¬ F g
 flt:∀ g,F g->g<w.heap.size
variable {F:Nat->Prop} {w0 w w':World} {n b:Nat} {s:RS}
theorem za5.kept{row:Option Nat}(h:za5 w0 F n b s w)(hg:w.grownBy w' row)(hlow:∀ k,row=some k->w0.heap.size<=k)
  (k1:s.pv.ownBlock=none\/s.pv.ownBlock≠row) (k2:s.qv.ownBlock=none\/s.qv.ownBlock≠row) (k3:∀ r∈s.ov::s.av::s.rows,r.ownBlock=none\/r.ownBlock≠row) (k4:s.sv.ownBlock=none\/s.sv.ownBlock≠row) (k5:s.cv.ownBlock=none\/s.cv.ownBlock≠row):za5 w0 F n b s w':=by
 have hs:=h.low.size;obtain⟨xs1,a1,a2⟩:=h.places;obtain⟨xs2,b1,b2⟩:=h.opens;obtain⟨xs3,c1⟩:=h.ofs;obtain⟨ms,d1,d2⟩:=h.around;obtain⟨xs4,e1⟩:=h.caps;refine⟨h.low.grown hg hs hlow,⟨xs1,a1.kept hg k1,a2⟩,⟨xs2,b1.kept hg k2,b2⟩,⟨xs3,c1.kept hg (k3 _ (by simp))⟩,⟨ms,d1,d2.kept hg (k3 _ (by simp))⟩,h.seen.kept hg k4,⟨xs4,e1.kept hg k5⟩,fun r hr=>?_,h.apart,h.apart2,h.some1,h.n1,h.hn,h.hP,h.hK,h.hM,h.hb,h.free,fun g hF=>Nat.lt_of_lt_of_le (h.flt g hF) hg.size⟩
 obtain⟨ms',f1,f2⟩:=h.rows r hr;exact⟨ms',f1,f2.kept hg (k3 r (List.mem_cons_of_mem _ (List.mem_cons_of_mem _ hr)))⟩
theorem za5.below(h:za5 w0 F n b s w)(hb:Below w.heap.size w w'):za5 w0 F n b s w':=by
 have hn:∀ v:Value,v.ownBlock=none\/v.ownBlock≠none:=fun v=>by cases v.ownBlock<;>simp
 exact h.kept (row:=none) ⟨hb.os,hb.tape,hb.output,hb.size,fun k hk _=>hb.block k hk⟩ (fun k e=>by cases e) (hn _) (hn _) (fun r _=>hn r) (hn _) (hn _)
theorem za5.more{b':Nat}(h:za5 w0 F n b s w)(hb:b<=b')(hb':b'<=10000):za5 w0 F n b' s w:=
 ⟨h.low,h.places,h.opens,h.ofs,h.around,h.seen,h.caps,fun r hr=>by obtain⟨ms,f1,f2⟩:=h.rows r hr;exact⟨ms,by omega,f2⟩,h.apart,h.apart2,h.some1,h.n1,h.hn,yi9 h.hP hb,yi9 h.hK hb,yi9 h.hM hb,hb',h.free,h.flt⟩
theorem za6{B:Nat}{e e':TypeId}{size g:Nat}{v:Value}{m:Nat}{xs:List Value}{cs:Array Value}{fz:Nat × Nat}(h:w.ownsRow B e size v m xs)(hg:w.heap[g]?=some (.cells cs e' fz))(he:e≠e'):v.ownBlock=none\/v.ownBlock≠some g:=by
 cases hv:v.ownBlock with
 | none=>exact .inl rfl
 | some k=>
  refine .inr fun e1=>he ?_;obtain⟨cs',h1⟩:=z9g h k hv;injection e1 with e1;subst e1;rw[hg]at h1;injection h1 with h2;injection h2 with _ h3 _;exact h3.symm
theorem za5.ints(h:za5 w0 F n b s w):∀ r∈s.ov::s.av::s.rows,∃ m xs,w.ownsRow w0.heap.size 3 1 r m xs:=by
 intro r hr;rcases List.mem_cons.1 hr with rfl|hr
 ·obtain⟨xs,k⟩:=h.ofs;exact⟨_,xs,k⟩
 rcases List.mem_cons.1 hr with rfl|hr
 ·obtain⟨ms,_,k⟩:=h.around;exact⟨_,_,k⟩
 ·obtain⟨ms,_,k⟩:=h.rows r hr;exact⟨_,_,k⟩
theorem za5.other{g:Nat}{cs:Array Value}{T:TypeId}{fz:Nat × Nat}(h:za5 w0 F n b s w)(hg:w.grownBy w' (some g))(hlow:w0.heap.size<=g)(hT:w.heap[g]?=some (.cells cs T fz))(t1:166≠T)(t2:164≠T)(t3:3≠T)(t4:29≠T):za5 w0 F n b s w':=by
 obtain⟨xs1,a1,a2⟩:=h.places;obtain⟨xs2,b1,b2⟩:=h.opens;obtain⟨xs4,e1⟩:=h.caps;exact h.kept hg (fun k e=>by injection e with e;omega) (za6 a1 hT t1) (za6 b1 hT t2) (fun r hr=>by obtain⟨m,xs,k⟩:=h.ints r hr;exact za6 k hT t3) (za6 h.seen hT t4) (za6 e1 hT t4)
theorem za7{B B':Nat}{e e':TypeId}{size size':Nat}{v v':Value}{m m':Nat}{xs xs':List Value}(h:w.ownsRow B e size v m xs)(h':w.ownsRow B' e' size' v' m' xs')(he:e≠e'):v.ownBlock=none\/v.ownBlock≠v'.ownBlock:=z9h h h' he
theorem za5.place{pv':Value}{xs news:List Value}(h:za5 w0 F n b s w)(ho:w.ownsRow w0.heap.size 166 4 s.pv s.P xs)(hone:∀ x∈xs,x.oneCell'=true)(hg:w.grownBy w' s.pv.ownBlock)(ho':w'.ownsRow w0.heap.size 166 4 pv' (s.P+1) (xs++news))(hnew:∀ x∈news,x.oneCell'=true)(hb:b+1<=10000):za5 w0 F n (b+1) { s with P:=s.P+1,pv:=pv' } w':=by
 have hs:=h.low.size;obtain⟨xs2,b1,b2⟩:=h.opens;obtain⟨xs3,c1⟩:=h.ofs;obtain⟨ms,d1,d2⟩:=h.around;obtain⟨xs4,e1⟩:=h.caps;have hP:=h.hP;have hK:=h.hK;have hM:=h.hM;have ki:∀ r∈s.ov::s.av::s.rows,r.ownBlock=none\/r.ownBlock≠s.pv.ownBlock:=fun r hr=>by
  obtain⟨m,ys,k⟩:=h.ints r hr;exact za7 k ho (by decide)
 refine⟨h.low.grown hg hs (fun k e=>(ho.lt k e).1),⟨xs++news,ho',fun x hx=>?_⟩,⟨xs2,b1.kept hg (za7 b1 ho (by decide)),fun i hi=>?_⟩,⟨xs3,c1.kept hg (ki _ (by simp))⟩,⟨ms,d1,d2.kept hg (ki _ (by simp))⟩,h.seen.kept hg (za7 h.seen ho (by decide)),⟨xs4,e1.kept hg (za7 e1 ho (by decide))⟩,fun r hr=>?_,h.apart,h.apart2,h.some1,h.n1,h.hn,by show s.P+1<=b+1;omega,by show s.K<=b+1;omega,by show s.rows.length<=b+1;omega,hb,h.free,fun g hF=>Nat.lt_of_lt_of_le (h.flt g hF) hg.size⟩
 ·rcases List.mem_append.1 hx with k|k
  ·exact hone x k
  ·exact hnew x k
 ·obtain⟨t,p,f,c,q1,q2,q3,q4,q5⟩:=b2 i hi;exact⟨t,p,f,c,q1,q2,q3,q4,by show p<s.P+1;omega⟩
 ·obtain⟨ms',f1,f2⟩:=h.rows r hr;exact⟨ms',by omega,f2.kept hg (ki r (List.mem_cons_of_mem _ (List.mem_cons_of_mem _ hr)))⟩
theorem za5.reopen{qv':Value}{K':Nat}{xs:List Value}(h:za5 w0 F n b s w)(ho:w.ownsRow w0.heap.size 164 4 qv' K' xs)(hk:za3 xs K' s.P)(hK:K'<=b):za5 w0 F n b { s with K:=K',qv:=qv' } w:=
 ⟨h.low,h.places,⟨xs,ho,hk⟩,h.ofs,h.around,h.seen,h.caps,h.rows,h.apart,h.apart2,h.some1,h.n1,h.hn,h.hP,hK,h.hM,h.hb,h.free,h.flt⟩
theorem za5.ofSet{g oc j:Nat}{x:Int}(h:za5 w0 F n b s w)(hov:s.ov=.slice (some ⟨g,0,none⟩) n oc):za5 w0 F n b s (w.setCell ⟨g,j,none⟩ (.int .i64 x)):=by
 have hs:=h.low.size;obtain⟨xs1,a1,a2⟩:=h.places;obtain⟨xs2,b1,b2⟩:=h.opens;obtain⟨xs3,c1⟩:=h.ofs;obtain⟨ms,d1,d2⟩:=h.around;obtain⟨xs4,e1⟩:=h.caps;have c1':=c1;rw[hov]at c1';obtain⟨s1,hg⟩:=c1'.stored j (.int .i64 x);have eg:s.ov.ownBlock=some g:=by rw[hov];rfl
 rw[←eg]at hg;have hap:=h.apart;rw[List.pairwise_cons]at hap;have ka:∀ r∈s.av::s.rows,r.ownBlock=none\/r.ownBlock≠s.ov.ownBlock:=fun r hr=>(hap.1 r hr).symm.ne;refine⟨h.low.grown hg hs (fun k e=>(c1.lt k e).1),⟨xs1,a1.kept hg (za7 a1 c1 (by decide)),a2⟩,⟨xs2,b1.kept hg (za7 b1 c1 (by decide)),b2⟩,⟨_,by rw[hov];exact s1⟩,⟨ms,d1,d2.kept hg (ka _ (by simp))⟩,h.seen.kept hg (za7 h.seen c1 (by decide)),⟨xs4,e1.kept hg (za7 e1 c1 (by decide))⟩,fun r hr=>?_,h.apart,h.apart2,h.some1,h.n1,h.hn,h.hP,h.hK,h.hM,h.hb,h.free,fun g hF=>Nat.lt_of_lt_of_le (h.flt g hF) hg.size⟩
 obtain⟨ms',f1,f2⟩:=h.rows r hr;exact⟨ms',f1,f2.kept hg (ka r (List.mem_cons_of_mem _ hr))⟩
theorem za5.share{g pc j:Nat}{x:Value}(h:za5 w0 F n b s w)(hpv:s.pv=.slice (some ⟨g,0,none⟩) s.P pc)(hx:x.oneCell'=true):za5 w0 F n b s (w.setCell ⟨g,j,none⟩ x):=by
 have hs:=h.low.size;obtain⟨xs1,a1,a2⟩:=h.places;obtain⟨xs2,b1,b2⟩:=h.opens;obtain⟨xs4,e1⟩:=h.caps;have a1':=a1;rw[hpv]at a1';obtain⟨s1,hg⟩:=a1'.stored j x;have eg:s.pv.ownBlock=some g:=by rw[hpv];rfl
 rw[←eg]at hg;have ki:∀ r∈s.ov::s.av::s.rows,r.ownBlock=none\/r.ownBlock≠s.pv.ownBlock:=fun r hr=>by
  obtain⟨m,ys,k⟩:=h.ints r hr;exact za7 k a1 (by decide)
 obtain⟨xs3,c1⟩:=h.ofs;obtain⟨ms,d1,d2⟩:=h.around;refine⟨h.low.grown hg hs (fun k e=>(a1.lt k e).1),⟨_,by rw[hpv];exact s1,fun y hy=>?_⟩,⟨xs2,b1.kept hg (za7 b1 a1 (by decide)),b2⟩,⟨xs3,c1.kept hg (ki _ (by simp))⟩,⟨ms,d1,d2.kept hg (ki _ (by simp))⟩,h.seen.kept hg (za7 h.seen a1 (by decide)),⟨xs4,e1.kept hg (za7 e1 a1 (by decide))⟩,fun r hr=>?_,h.apart,h.apart2,h.some1,h.n1,h.hn,h.hP,h.hK,h.hM,h.hb,h.free,fun g hF=>Nat.lt_of_lt_of_le (h.flt g hF) hg.size⟩
 ·rcases List.mem_or_eq_of_mem_set hy with k|k
  ·exact a2 y k
  ·rw[k];exact hx
 ·obtain⟨ms',f1,f2⟩:=h.rows r hr;exact⟨ms',f1,f2.kept hg (ki r (List.mem_cons_of_mem _ (List.mem_cons_of_mem _ hr)))⟩
theorem za5.mono{F':Nat->Prop}(h:za5 w0 F' n b s w)(hF:∀ g,F g->F' g):za5 w0 F n b s w:=
 ⟨h.low,h.places,h.opens,h.ofs,h.around,h.seen,h.caps,h.rows,h.apart,h.apart2,h.some1,h.n1,h.hn,h.hP,h.hK,h.hM,h.hb,fun r hr g e k=>h.free r hr g e (hF g k),fun g k=>h.flt g (hF g k)⟩
theorem za5.also{F':Nat->Prop}(h:za5 w0 F n b s w)(hb:Below w.heap.size w w')(hF:∀ g,F' g->F g\/(w.heap.size<=g/\g<w'.heap.size)):za5 w0 F' n b s w':=by
 have h':=h.below hb;refine⟨h'.low,h'.places,h'.opens,h'.ofs,h'.around,h'.seen,h'.caps,h'.rows,h'.apart,h'.apart2,h'.some1,h'.n1,h'.hn,h'.hP,h'.hK,h'.hM,h'.hb,fun r hr g e k=>?_,fun g k=>?_⟩
 ·rcases hF g k with k|k
  ·exact h.free r hr g e k
  ·obtain⟨m,xs,ho⟩:=h.ints r hr;have:=(ho.lt g e).2;omega
 ·rcases hF g k with k|k
  ·exact h'.flt g k
  ·exact k.2
end Go.Proofs.YtdbekjiognpgnaaGreat
namespace Go.Proofs.YtdbekjiognpgnaaGreat
open Go.RowKit
structure RK where
 block:Int
 blocks:Int
 fn:Int
 fault:Int
 pos:Int
def runC(tv:Value)(s:RS)(k:RK):Array Value:=#[tv,s.pv,s.ov,s.qv,.int .i64 k.block,.int .i64 k.blocks,.int .i64 k.fn,.int .i64 k.fault,.int .i64 k.pos,s.av,s.sv,s.cv]
structure za8(w0:World)(F:Nat->Prop)(n c:Nat)(tv:Value)(b:Nat)(s:RS)(k:RK)(w:World):Prop where
 blk:w.heap[c]?=some (.cells (runC tv s k) 81)
 hc:w0.heap.size<=c
 rows:za5 w0 F n b s w
structure za9(H:Nat)(F:Nat->Prop)(w w':World):Prop where
 low:Below H w w'
 stay:∀(k:Nat) (cs:Array Value) (T:TypeId),(T=164\/T=34\/(T=3/\F k))->w.heap[k]?=some (.cells cs T (0,0))->w'.heap[k]?=some (.cells cs T (0,0))
theorem za9.names{F:Nat->Prop}{H:Nat}{w w':World}(h:za9 H F w w')(k:Nat)(cs:Array Value)(e:w.heap[k]?=some (.cells cs 164 (0,0))):w'.heap[k]?=some (.cells cs 164 (0,0)):=h.stay k cs _ (.inl rfl) e
theorem za9.nodes{F:Nat->Prop}{H:Nat}{w w':World}(h:za9 H F w w')(k:Nat)(cs:Array Value)(e:w.heap[k]?=some (.cells cs 34 (0,0))):w'.heap[k]?=some (.cells cs 34 (0,0)):=h.stay k cs _ (.inr (.inl rfl)) e
theorem za9.refl(H:Nat)(F:Nat->Prop)(w:World):za9 H F w w:=⟨yg9 _ _,fun _ _ _ _ h=>h⟩
theorem za9.trans{F:Nat->Prop}{H:Nat}{a b d:World}(h:za9 H F a b)(k:za9 H F b d):za9 H F a d:=⟨h.low.trans k.low,fun j cs T hT e=>k.stay j cs T hT (h.stay j cs T hT e)⟩
theorem za9.of_below{F:Nat->Prop}{H:Nat}{w w':World}(hb:Below w.heap.size w w')(hH:H<=w.heap.size):za9 H F w w':=⟨hb.mono hH,fun k cs T _ e=>(hb.block k (lt_of_block e)).trans e⟩
theorem za9.of_grown{F:Nat->Prop}{H:Nat}{w w':World}{row:Option Nat}(hg:w.grownBy w' row)(hH:H<=w.heap.size)(hlow:∀ k,row=some k->H<=k)(hT:∀ k,row=some k->∀(cs:Array Value) (T:TypeId),(T=164\/T=34\/(T=3/\F k))->w.heap[k]?≠some (.cells cs T (0,0))):za9 H F w w':=
 ⟨(yg9 H w).grown hg hH hlow,fun k cs T hT' e=>(hg.block k (lt_of_block e) (fun e'=>hT k e'.symm cs T hT' e)).trans e⟩
theorem za9.row{F:Nat->Prop}{H B:Nat}{w w':World}{e:TypeId}{size:Nat}{v:Value}{m:Nat}{xs:List Value}(ho:w.ownsRow H e size v m xs)(hg:w.grownBy w' v.ownBlock)(hH:H<=w.heap.size)(he:e≠164/\e≠34/\e≠3):za9 H F w w':=
 .of_grown hg hH (fun k hk=>(ho.lt k hk).1) (fun k hk cs T hT e'=>by
  obtain⟨cs',h1⟩:=z9g ho k hk;rw[h1]at e';injection e' with h2;injection h2 with _ h3 _;rcases hT with h|h|⟨h,_⟩
  ·exact he.1 (h3.trans h)
  ·exact he.2.1 (h3.trans h)
  ·exact he.2.2 (h3.trans h))
theorem za9.rowI{F:Nat->Prop}{H B:Nat}{w w':World}{e:TypeId}{size:Nat}{v:Value}{m:Nat}{xs:List Value}(ho:w.ownsRow H e size v m xs)(hg:w.grownBy w' v.ownBlock)(hH:H<=w.heap.size)(he:e≠164/\e≠34)(hf:∀ k,v.ownBlock=some k->¬ F k):za9 H F w w':=
 .of_grown hg hH (fun k hk=>(ho.lt k hk).1) (fun k hk cs T hT e'=>by
  obtain⟨cs',h1⟩:=z9g ho k hk;rw[h1]at e';injection e' with h2;injection h2 with _ h3 _;rcases hT with h|h|⟨_,h⟩
  ·exact he.1 (h3.trans h)
  ·exact he.2 (h3.trans h)
  ·exact hf k hk h)
theorem za9.mono{F F':Nat->Prop}{H:Nat}{w w':World}(h:za9 H F' w w')(hF:∀ g,F g->F' g):za9 H F w w':=⟨h.low,fun k cs T hT e=>h.stay k cs T (hT.imp id (fun u=>u.imp id (fun v=>⟨v.1,hF k v.2⟩))) e⟩
variable {F:Nat->Prop} {w0 w w':World} {n c b:Nat} {tv:Value} {s s':RS} {k k':RK}
theorem za8.lt(h:za8 w0 F n c tv b s k w):c<w.heap.size:=lt_of_block h.blk
theorem za8.size(h:za8 w0 F n c tv b s k w):w0.heap.size<=w.heap.size:=h.rows.low.size
theorem za8.below(h:za8 w0 F n c tv b s k w)(hb:Below w.heap.size w w'):za8 w0 F n c tv b s k w':=⟨(hb.block c h.lt).trans h.blk,h.hc,h.rows.below hb⟩
theorem za8.step(h:za8 w0 F n c tv b s k w)(hb:Below w.heap.size w w'):za9 w0.heap.size F w w':=.of_below hb h.size
theorem za8.more{b':Nat}(h:za8 w0 F n c tv b s k w)(hb:b<=b')(hb':b'<=10000):za8 w0 F n c tv b' s k w:=⟨h.blk,h.hc,h.rows.more hb hb'⟩
theorem zaa{cs:Array Value}{j:Nat}{v:Value}(hblk:w.heap[c]?=some (.cells cs 81))(hc:w0.heap.size<=c)(hR:za5 w0 F n b s' w)(hcs:cs.setIfInBounds j v=runC tv s' k'):za8 w0 F n c tv b s' k' (w.setCell ⟨c,j,none⟩ v)/\za9 w0.heap.size F w (w.setCell ⟨c,j,none⟩ v):=by
 refine⟨⟨?_,hc,hR.other (z09 w c j v) hc hblk (by decide) (by decide) (by decide) (by decide)⟩,.of_grown (z09 w c j v) hR.low.size (fun k e=>by injection e with e;omega) (fun k e cs' T hT e'=>?_)⟩
 ·rw[heap_setCell_same w c j _ _ v hblk,hcs]
 ·injection e with e;subst e;rw[hblk]at e';injection e' with h2;injection h2 with _ h3 _;rcases hT with h|h|⟨h,_⟩<;>rw[h]at h3<;>exact absurd h3 (by decide)
theorem za8.cells(h:za8 w0 F n c tv b s k w):w.cell? ⟨c,0,none⟩=some tv/\w.cell? ⟨c,1,none⟩=some s.pv/\w.cell? ⟨c,2,none⟩=some s.ov/\w.cell? ⟨c,3,none⟩=some s.qv/\w.cell? ⟨c,4,none⟩=some (.int .i64 k.block)/\w.cell? ⟨c,5,none⟩=some (.int .i64 k.blocks)/\w.cell? ⟨c,6,none⟩=some (.int .i64 k.fn)/\w.cell? ⟨c,7,none⟩=some (.int .i64 k.fault)/\w.cell? ⟨c,8,none⟩=some (.int .i64 k.pos)/\w.cell? ⟨c,9,none⟩=some s.av/\w.cell? ⟨c,10,none⟩=some s.sv/\w.cell? ⟨c,11,none⟩=some s.cv/\∀ j,w.frozen? ⟨c,j,none⟩=false:=by
 have e:=h.blk;unfold runC at e;refine⟨?_,?_,?_,?_,?_,?_,?_,?_,?_,?_,?_,?_,fun j=>z9v h.blk⟩<;>(rw[cell_of_row _ _ _ _ _ _ e];rfl)
theorem za5.shapes(h:za5 w0 F n b s w):(∃ pa pc,s.pv=.slice pa s.P pc)/\(∃ g oc,s.ov=.slice (some ⟨g,0,none⟩) n oc)/\(∃ qa qc,s.qv=.slice qa s.K qc)/\(∃ g ac,s.av=.slice (some ⟨g,0,none⟩) s.rows.length ac)/\(∃ g sc,s.sv=.slice (some ⟨g,0,none⟩) s.rows.length sc)/\(∃ g cc,s.cv=.slice (some ⟨g,0,none⟩) n cc):=by
 obtain⟨xs1,a1,a2⟩:=h.places;obtain⟨xs2,b1,b2⟩:=h.opens;obtain⟨xs3,c1⟩:=h.ofs;obtain⟨ms,d1,d2⟩:=h.around;obtain⟨xs4,e1⟩:=h.caps;have some_row:∀{e:TypeId} {v:Value} {m:Nat} {xs:List Value},w.ownsRow w0.heap.size e 1 v m xs->1<=m->∃ g oc,v=.slice (some ⟨g,0,none⟩) m oc:=fun ho hm=>by
  rcases ho.2 with ⟨_,e⟩|⟨g,cap,cur,e,_⟩
  ·omega
  ·exact⟨g,cap,e⟩
 exact⟨z8A a1,some_row c1 h.n1,z8A b1,some_row d2 h.some1,some_row h.seen h.some1,some_row e1 h.n1⟩
theorem zab{B:Nat}{e:TypeId}{size m:Nat}{a:Option Addr}{cap:Nat}{xs:List Value}{j:Nat}{u:Value}(h:w.ownsRow B e size (.slice a m cap) m xs)(hj:xs[j]?=some u):∃ g,a=some ⟨g,0,none⟩/\w.cell? ⟨g,j,none⟩=some u:=by
 rcases h.2 with ⟨e1,e2⟩|⟨g,cap',cur,e1,_⟩
 ·have:xs=[]:=List.eq_nil_of_length_eq_zero (by rw[h.1,e2];simp)
  rw[this]at hj;simp at hj
 ·injection e1 with e1 e2 e3;subst e1;subst e3;exact⟨g,rfl,z9I h hj⟩
theorem zac{H b:Nat}{r:Value}{w:World}(h:za4 H b w r)(hb:b<=10000)(x:Int):Calls Tryz.prog 119 #[r,.int .i64 x] w fun e w'=>∃ bb,e=.returned (.bool bb)/\w=w':=by
 obtain⟨ms,hm,ho⟩:=h;obtain⟨ra,rc,rfl⟩:=z8A ho;obtain⟨m,hm0⟩:∃ m,ms.length=m:=⟨_,rfl⟩;have HO:Hid (∀(j:Nat) (z:Int),ms[j]?=some z->∃ g,ra=some ⟨g,0,none⟩/\w.cell? ⟨g,j,none⟩=some (.int .i64 z)):=fun j z hj=>zab ho (by rw[List.getElem?_map,hj];rfl)
 have HM:Hid (ms.length=m):=hm0;rw[hm0]at hm ⊢;clear ho hm0;go_enter Tryz.func119,Tryz.ntmps119;go_upto_region 2 with fail;go_loop [4,5] (fun _ i=>∃ j:Nat,i=.int .i64 (j:Int)/\j<=m) (fun _ i=>m-(intOf i).toNat)
 case atStart=>exact⟨0,rfl,yj9 _⟩
 case round=>
  obtain⟨j,rfl,hj⟩:=hrel;by_cases hlt:j<m
  ·obtain⟨z,hz⟩:∃ z,ms[j]?=some z:=⟨_,yd9 (by have:=HM.out;omega)⟩
   obtain⟨g,rfl,hcell⟩:=HO.out j z hz;have hji:(j:Int)<(m:Int):=by omega
   have hj0:(0:Int)<=(j:Int):=by omega
   clear hz;by_cases hzx:z=x
   ·have hzb:(z==x)=true:=by rw[beq_iff_eq];exact hzx
    subst hzx;go_wp2;go_ret;first|exact⟨.inr rfl,rfl⟩|exact⟨.inl rfl,rfl⟩
   ·have hzb:(z==x)=false:=by rw[yc9];exact hzx
    go_wp2;go_round
    case rel=>exact⟨j+1,by go_num,by omega⟩
    case measure=>simp[intOf];omega
  ·have hge:decide ((j:Int)<(m:Int))=false:=ya9 (by omega)
   have hge':decide (j<m)=false:=ya9 (by omega)
   go_wp2;go_ret;first|exact⟨.inr rfl,rfl⟩|exact⟨.inl rfl,rfl⟩
end Go.Proofs.YtdbekjiognpgnaaGreat
namespace Go.Proofs.YtdbekjiognpgnaaGreat
open Go
section
variable {P:Program} {ops:Array Oper} {Q:Exit->Act->World->Prop} {md:Region.Mode} {S:World->Prop} {L:Nat}
def zad(P:Program)(md:Region.Mode)(ops:Array Oper)(Q:Exit->Act->World->Prop)(S:World->Prop)(L:Nat):Nat->Array Bool->Act->World->Prop
 | 0,listed,a,w=>Region.ready md ops listed=[]/\Q .normal a w
 | fuel+1,listed,a,w=>
  (Region.ready md ops listed=[]->Q .normal a w)/\
  ∀ i∈Region.ready md ops listed,wpOp P ops Q i (fun a' w'=>(i≠L->S w')/\zad P md ops Q S L fuel (listed.setIfInBounds i true) a' w') a w
theorem zae:∀(fuel:Nat) (listed:Array Bool) (a:Act) (w:World),zad P md ops Q S L fuel listed a w->wpAny P md ops Q fuel listed a w
 | 0,_,_,_,h=>h
 | fuel+1,_,_,_,h=>⟨h.1,fun i hi=>wpOp_mono (fun a' w' h'=>zae fuel _ a' w' h'.2) (h.2 i hi)⟩
theorem zaf{i:Nat}{oi oL:Oper}{v:Value}(hi:ops[i]?=some oi)(hsel:∀(j:Nat) (o:Oper) cs b,ops[j]?=some o->o.op≠.select cs b)
  (hQ:∀ c a w,Q (.panic c) (a.put oi.dst v) w->Q (.panic c) a w) (hoL:ops[L]?=some oL) (hL:∃ e∈oL.after,Region.binds md e=true/\e.on=i):
  ∀(fuel:Nat) (listed:Array Bool) (a:Act) (w:World),
   (∀ j oj,ops[j]?=some oj->j≠i->listed.getD j true=false->(∀ e∈oj.after,Region.binds md e=true->e.on≠i)->oi.apart ops oj=true)->
   i∈Region.ready md ops listed->YieldsIf P ops S oi v a->S w->
   zad P md ops Q S L fuel (listed.setIfInBounds i true) (a.put oi.dst v) w->zad P md ops Q S L (fuel+1) listed a w:=by
 intro fuel;induction fuel with
 | zero=>
  intro listed a w _ hr hy hS H;refine⟨fun h=>(by rw[h]at hr;cases hr),fun j hj=>?_⟩
  by_cases hji:j=i
  ·subst hji;exact hy.wpOp hi hS ⟨fun _=>hS,H⟩
  ·have:=ready_mono hj hji;rw[H.1]at this;cases this
 | succ fuel ih=>
  intro listed a w hfree hr hy hS H;refine⟨fun h=>(by rw[h]at hr;cases hr),fun j hj=>?_⟩
  by_cases hji:j=i
  ·subst hji;exact hy.wpOp hi hS ⟨fun _=>hS,H⟩
  ·have h1:=H.2 j (ready_mono hj hji);obtain⟨hjun,oj,hoj,hall⟩:=mem_ready.1 hj;have hnot:∀ e∈oj.after,Region.binds md e=true->e.on≠i:=fun e he hb heq=>by
    have h1:=hall e he hb;have h0:=(mem_ready.1 hr).1;rw[heq]at h1;rcases Nat.lt_or_ge i listed.size with h'|h'
    ·simp[h']at h0 h1;rw[h0]at h1;cases h1
    ·simp[Array.getElem?_eq_none h']at h1
   have hjL:j≠L:=fun e=>by
    subst e;rw[hoL]at hoj;injection hoj with hoj;subst hoj;obtain⟨e,he,hb,hon⟩:=hL;exact hnot e he hb hon
   have h2:=wpOp_putIf hoj (hfree j oj hoj hji hjun hnot) (fun cs b=>hsel i oi cs b hi) (fun cs b=>hsel j oj cs b hoj) hQ hy h1;have hfree':∀ k ok,ops[k]?=some ok->k≠i->(listed.setIfInBounds j true).getD k true=false->
     (∀ e∈ok.after,Region.binds md e=true->e.on≠i)->oi.apart ops ok=true:=fun k ok hk hki hun hno=>by
    refine hfree k ok hk hki ?_ hno;by_cases hjk:j=k
    ·subst hjk;exact hjun
    ·rw[getD_set_ne true hjk]at hun;exact hun
   refine wpOp_mono (fun a' w' h3=>⟨h3.2.1,ih (listed.setIfInBounds j true) a' w' hfree' (ready_mono hr (Ne.symm hji)) h3.1 (h3.2.1 hjL) ?_⟩) h2;rw[Array.setIfInBounds_comm _ _ hji];exact h3.2.2
def zag(md:Region.Mode)(ops:Array Oper)(L i:Nat):Bool:=match ops[L]? with
 | some o=>o.after.any fun e=>Region.binds md e&&e.on==i
 | none=>false
theorem zah{i:Nat}(h:zag md ops L i=true):∃ oL,ops[L]?=some oL/\∃ e∈oL.after,Region.binds md e=true/\e.on=i:=by
 unfold zag at h;cases ho:ops[L]? with
 | none=>rw[ho]at h;cases h
 | some o=>
  rw[ho]at h;obtain⟨e,he,hb⟩:=Array.any_eq_true'.1 h;rw[Bool.and_eq_true,beq_iff_eq]at hb;exact⟨o,rfl,e,he,hb.1,hb.2⟩
theorem zai(i:Nat){oi:Oper}{v:Value}{fuel:Nat}{listed:Array Bool}{a:Act}{w:World}(hi:ops[i]?=some oi)
  (hs:Region.noSelect ops=true) (hf:Region.free md ops listed i=true) (hr:(Region.ready md ops listed).contains i=true) (hw:zag md ops L i=true)
  (hQ:∀ c a w,Q (.panic c) (a.put oi.dst v) w->Q (.panic c) a w) (hy:YieldsIf P ops S oi v a) (hS:S w)
  (h:zad P md ops Q S L fuel (listed.setIfInBounds i true) (a.put oi.dst v) w):zad P md ops Q S L (fuel+1) listed a w:=by
 obtain⟨oL,h1,h2⟩:=zah hw;exact zaf hi (Region.noSelect_spec hs) hQ h1 h2 fuel listed a w (Region.free_spec hi hf) (by simpa using hr) hy hS h
def zaj(P:Program)(md:Region.Mode)(ops:Array Oper)(Q:Exit->Act->World->Prop)(S:World->Prop)(L fuel:Nat)(listed:Array Bool)(a:Act)(w:World)(rs:List Nat):Prop:=
 ∀ i∈rs,wpOp P ops Q i (fun a' w'=>(i≠L->S w')/\zad P md ops Q S L fuel (listed.setIfInBounds i true) a' w') a w
theorem zaj.nil{fuel:Nat}{listed:Array Bool}{a:Act}{w:World}:zaj P md ops Q S L fuel listed a w []:=fun _ h=>by cases h
theorem zaj.cons{fuel:Nat}{listed:Array Bool}{a:Act}{w:World}{i:Nat}{o:Oper}{rs:List Nat}(ho:ops[i]?=some o)
  (h:∀ K':Act->World->Prop,Shut (∀ a w,(i≠L->S w)->((i≠L->S w)->zad P md ops Q S L fuel (listed.setIfInBounds i true) a w)->K' a w)->if Region.wanted o (yielded ops a.tmps)=true then Oper.wp P o a w K' Q else K' (a.put o.dst undef) w)
  (hs:zaj P md ops Q S L fuel listed a w rs):zaj P md ops Q S L fuel listed a w (i::rs):=fun j hj=>by
 rcases List.mem_cons.1 hj with rfl|hj
 ·exact wpOp_step ho (fun K' hK=>h K' (fun a w hS hW=>hK a w ⟨hS,hW hS⟩))
 ·exact hs j hj
theorem zak{rs:List Nat}{fuel:Nat}{listed:Array Bool}{a:Act}{w:World}(hr:Region.ready md ops listed=rs)(hne:rs≠[])
  (h:zaj P md ops Q S L fuel listed a w rs):zad P md ops Q S L (fuel+1) listed a w:=⟨fun h0=>absurd (hr ▸ h0) hne,hr ▸ h⟩
theorem zal{listed:Array Bool}{a:Act}{w:World}(hr:Region.ready md ops listed=[])(h:Q .normal a w):∀ fuel,zad P md ops Q S L fuel listed a w
 | 0=>⟨hr,h⟩
 | _+1=>⟨fun _=>h,by rw[hr];simp⟩
theorem zam{id:Nat}{a:Act}{w:World}(S:World->Prop)(L:Nat)(hm:P.follows .mixedOrders=true)(hS:S w.drew)
  (h:S w.drew->zad P .any ops Q S L ops.size (Array.replicate ops.size false) a w.drew):(Code.region id ops true).wp P Q a w:=
 wp_region_any hm (zae _ _ _ _ (h hS))
end
end Go.Proofs.YtdbekjiognpgnaaGreat
namespace Go.Proofs.YtdbekjiognpgnaaGreat
open Go.RowKit Go.Sort
theorem zan{P:Program}{w:World}{ops:Array Oper}{o:Oper}{a:Act}{K:Act->World->Prop}{Q:Exit->Act->World->Prop}{E:Prop}(hgd:o.guard=none)(s x:Operand)(t:TypeId)
  (ho:o.op=.call { callee:=.builtin .append,args:=#[s,x],argTypes:=#[t,t] })
  (base:Nat) (e:TypeId) (i:TypeInfo) (size:Nat) (ht:P.underlying t=some (.slice e)) (hi:P.info? e=some i)
  (v:Value) (n:Nat) (xs:List Value) (hs:a.eval s=v) (hown:w.ownsRow base e size v n xs) (hx:a.eval x=.slice none 0 0)
  (h:K (a.put o.dst v) w):if Region.wanted o (yielded ops a.tmps)=true then Oper.wp P o a w K Q else E:=by
 have hw:Region.wanted o (yielded ops a.tmps)=true:=by simp[Region.wanted,hgd]
 rw[if_pos hw];have hrun:=run_append_owned_none (P:=P) (w:=w) base t o.type e i size ht hi v n xs hown;unfold Oper.wp;simp[execOp,ho,resolve,invoke,builtin,hs,hx,hrun,Result.andThen];exact h
theorem zao{P:Program}{w:World}{ops:Array Oper}{o:Oper}{a:Act}{K:Act->World->Prop}{Q:Exit->Act->World->Prop}{E:Prop}(hgd:o.guard=none)(s x:Operand)(t:TypeId)
  (ho:o.op=.call { callee:=.builtin .append,args:=#[s,x],argTypes:=#[t,t] })
  (base:Nat) (e:TypeId) (i:TypeInfo) (z:Value) (size bytes:Nat) (ht:P.underlying t=some (.slice e)) (hi:P.info? e=some i) (hz:i.zero=some z)
  (hsize:i.size=size) (hby:i.bytes=bytes) (hzs:z.cells.size=size) (hsz:0<size)
  (v0:Value) (hs:a.eval s=v0) (hown:w.ownsRow base e size v0 0 []) (src:Value) (hx:a.eval x=src) (B m:Nat) (news:List Value) (hsrc:w.ownsRow B e size src m news) (h1:∀ u∈news,u.oneCell'=true)
  (h63:m<=maxLen) (hbytes:m*bytes<=140737488355328) (hbase:base<=w.heap.size)
  (h:∀ v' w',w'.ownsRow base e size v' m news->w.grownBy w' v0.ownBlock->K (a.put o.dst v') w'):
  if Region.wanted o (yielded ops a.tmps)=true then Oper.wp P o a w K Q else E:=by
 have hl:=hsrc.1;rcases hsrc.2 with ⟨e1,e2⟩|⟨g,cap,cur,e1,_⟩
 ·subst e2;have en:news=[]:=List.eq_nil_of_length_eq_zero (by omega)
  subst en;exact zan hgd s x t ho base e i size ht hi v0 0 [] hs hown (hx.trans e1) (h v0 w hown ⟨rfl,rfl,rfl,yf9 _,fun _ _ _=>rfl⟩)
 ·refine z9e hgd s x t ho base e i z size bytes ht hi hz hsize hby hzs hsz v0 0 [] hs hown ⟨g,0,none⟩ m cap news (hx.trans e1) hl (hsrc.cells (g:=g) (by rw[e1];rfl)) h1 (by omega) (by rw[Nat.zero_add];exact hbytes) hbase fun v' w' k1 k2=>h v' w' ?_ k2
  rw[Nat.zero_add,List.nil_append]at k1;exact k1
theorem zap{x:Int}(h0:0<=x)(h1:x<9223372036854775808):IntKind.i64.wrap x=x:=by
 rw[IntKind.wrap_i64];omega
theorem zaq{W w2:World}{G m c:Nat}(h:W.grownBy w2 (Value.ownBlock (.slice (some ⟨G,0,none⟩) m c))):W.grownBy w2 (some G):=h
theorem zar{w:World}{e:TypeId}{size G base:Nat}(hG:w.heap.size=G)(hb:base<=G):(w.alloc (.cells #[] e)).ownsRow base e size (.slice (some ⟨G,0,none⟩) 0 0) 0 []:=by
 subst hG;exact⟨by simp,.inr ⟨w.heap.size,0,#[],rfl,hb,heap_alloc_new w _,yf9 _,yj9 _,by simp,by simp⟩⟩
theorem zas{w:World}{a0 a1 a2 a3:Value}{t:TypeId}{G:Nat}(hG:w.heap.size=G):∀ j u,[a0,a1,a2,a3][j]?=some u->(w.alloc (.cells #[a0,a1,a2,a3] t)).cell? ((⟨G,0,none⟩:Addr).add j)=some u:=by
 subst hG;intro j u hj;have hp:(⟨w.heap.size,0,none⟩:Addr).add j=⟨w.heap.size,j,none⟩:=by unfold Addr.add;split<;>simp_all
 rw[hp,cell_of_row _ _ j _ _ _ (heap_alloc_new w (.cells #[a0,a1,a2,a3] t))];simpa using hj
theorem zat{w:World}{a0 a1 a2 a3:Value}{t:TypeId}{G:Nat}{o:Obj}(hG:w.heap.size=G):∀ j u,[a0,a1,a2,a3][j]?=some u->((w.alloc (.cells #[a0,a1,a2,a3] t)).alloc o).cell? ((⟨G,0,none⟩:Addr).add j)=some u:=by
 intro j u hj;have h:=zas (a0:=a0) (a1:=a1) (a2:=a2) (a3:=a3) (t:=t) hG j u hj;have hp:(⟨G,0,none⟩:Addr).add j=⟨G,j,none⟩:=by unfold Addr.add;split<;>simp_all
 rw[hp]at h ⊢;exact(((yg9 _ _).alloc (yf9 _) o).cell (p:=⟨G,j,none⟩) (World.block_lt_of_cell? _ _ h)).trans h
theorem zau{W w3:World}{news:List Value}{G G0:Nat}(h:∀ j u,news[j]?=some u->W.cell? ((⟨G,0,none⟩:Addr).add j)=some u)(hg:W.grownBy w3 (some G0))(hne:G≠G0)(hlt:G<W.heap.size):∀ j u,news[j]?=some u->w3.cell? ((⟨G,0,none⟩:Addr).add j)=some u:=by
 intro j u hj;have hp:(⟨G,0,none⟩:Addr).add j=⟨G,j,none⟩:=by unfold Addr.add;split<;>simp_all
 have:=h j u hj;rw[hp]at this ⊢;have e:w3.heap[G]?=W.heap[G]?:=hg.block G hlt (fun e=>hne (Option.some.inj e));rw[World.cell?_of_block (a:=⟨G,j,none⟩) e];exact this
theorem zav{xs:List Value}{K P:Nat}(h:za3 xs K P)(hl:xs.length=K*4):∀ x∈xs,x.oneCell'=true:=by
 intro x hx;obtain⟨i,hi⟩:=List.mem_iff_getElem?.1 hx;have hlt:i<xs.length:=(List.getElem?_eq_some_iff.1 hi).1;obtain⟨s,p,f,b,q1,q2,q3,q4,_⟩:=h (i/4) (by omega)
 rcases (by omega:i=i/4*4\/i=i/4*4+1\/i=i/4*4+2\/i=i/4*4+3)with e|e|e|e<;>rw[e]at hi
 ·rw[q1]at hi;cases hi;rfl
 ·rw[q2]at hi;cases hi;rfl
 ·rw[q3]at hi;cases hi;rfl
 ·rw[q4]at hi;cases hi;rfl
theorem zaw{xs:List Value}{K P:Nat}{s:ByteArray}{p:Nat}{f b:Int}(h:za3 xs K P)(hl:xs.length=K*4)(hp:p<P):za3 (xs++[.string s,.int .i64 (p:Int),.int .i64 f,.int .i64 b]) (K+1) P:=by
 intro i hi;rcases Nat.lt_or_ge i K with k|k
 ·obtain⟨s',p',f',b',q1,q2,q3,q4,q5⟩:=h i k;exact⟨s',p',f',b',by rw[List.getElem?_append_left (by omega)];exact q1,by rw[List.getElem?_append_left (by omega)];exact q2,by rw[List.getElem?_append_left (by omega)];exact q3,by rw[List.getElem?_append_left (by omega)];exact q4,q5⟩
 ·have e:i=K:=by omega
  subst e;refine⟨s,p,f,b,?_,?_,?_,?_,hp⟩
  ·rw[List.getElem?_append_right (by omega),show i*4-xs.length=0 by omega];rfl
  ·rw[List.getElem?_append_right (by omega),show i*4+1-xs.length=1 by omega];rfl
  ·rw[List.getElem?_append_right (by omega),show i*4+2-xs.length=2 by omega];rfl
  ·rw[List.getElem?_append_right (by omega),show i*4+3-xs.length=3 by omega];rfl
theorem za8.ofSet{F:Nat->Prop}{w0 w:World}{n c b g oc j:Nat}{tv:Value}{s:RS}{k:RK}{x:Int}(h:za8 w0 F n c tv b s k w)(hov:s.ov=.slice (some ⟨g,0,none⟩) n oc):za8 w0 F n c tv b s k (w.setCell ⟨g,j,none⟩ (.int .i64 x))/\za9 w0.heap.size F w (w.setCell ⟨g,j,none⟩ (.int .i64 x)):=by
 obtain⟨xs,ho⟩:=h.rows.ofs;have hne:c≠g:=fun e=>by
  rcases za6 ho h.blk (by decide)with k|k
  ·rw[hov]at k;cases k
  ·rw[hov,e]at k;exact k rfl
 have ho':=ho;rw[hov]at ho';refine⟨⟨(heap_setCell_other w ⟨g,j,none⟩ c _ hne).trans h.blk,h.hc,h.rows.ofSet hov⟩,za9.rowI (B:=0) (v:=s.ov) ho ?_ h.size (by decide) (h.rows.free _ (by simp))⟩
 rw[hov];exact(ho'.stored j (.int .i64 x)).2
