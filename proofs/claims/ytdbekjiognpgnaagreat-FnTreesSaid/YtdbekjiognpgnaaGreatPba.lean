/- Part 27. -/
import Derived.Test.YtdbekjiognpgnaaGreatPaz
set_option maxHeartbeats 16000000
set_option maxRecDepth 100000
set_option linter.unusedVariables false
namespace Go.Proofs.YtdbekjiognpgnaaGreat
open Go.RowKit Go.Sort
theorem zaM{P:Program}{w:World}{ops:Array Oper}{rest:List Oper}{o:Oper}{a:Act}{Q:Exit->Act->World->Prop}(hgd:o.guard=none)(s x:Operand)(t:TypeId)
  (ho:o.op=.call { callee:=.builtin .append,args:=#[s,x],argTypes:=#[t,t] })
  (base:Nat) (e:TypeId) (i:TypeInfo) (z:Value) (bytes:Nat) (ht:P.underlying t=some (.slice e)) (hi:P.info? e=some i) (hz:i.zero=some z)
  (hsize:i.size=1) (hby:i.bytes=bytes) (hzs:z.cells.size=1)
  (v0:Value) (n:Nat) (xs:List Value) (hs:a.eval s=v0) (hown:w.ownsRow base e 1 v0 n xs) (src:Value) (hx:a.eval x=src) (B m:Nat) (news:List Value) (hsrc:w.ownsRow B e 1 src m news) (h1:∀ u∈news,u.oneCell'=true)
  (h63:n+m<=maxLen) (hbytes:(n+m)*bytes<=140737488355328) (hbase:base<=w.heap.size)
  (h:∀ v' w',w'.ownsRow base e 1 v' (n+m) (xs++news)->w.grownBy w' v0.ownBlock->wpList P ops Q rest (a.put o.dst v') w'):
  wpList P ops Q (o::rest) a w:=by
 have hl:=hsrc.1;rcases hsrc.2 with ⟨e1,e2⟩|⟨g,cap,cur,e1,_⟩
 ·subst e2;have en:news=[]:=List.eq_nil_of_length_eq_zero (by omega)
  subst en;exact wpList_append_own_none hgd s x t ho base e i 1 ht hi v0 n xs hs hown (hx.trans e1) (h v0 w (by rw[List.append_nil];exact hown) ⟨rfl,rfl,rfl,yf9 _,fun _ _ _=>rfl⟩)
 ·exact wpList_append_own_at w hgd s x t ho base e i z 1 bytes ht hi hz hsize hby hzs (by decide) v0 n xs hs hown ⟨g,0,none⟩ m cap news (hx.trans e1) hl (hsrc.cells (g:=g) (by rw[e1];rfl)) h1 h63 hbytes hbase fun v' w' k1 k2 _ _=>h v' w' k1 k2
theorem zaN(k:Int)(hk:(1<=k/\k<=13)\/(20<=k/\k<=29)):(useP k).1≠4/\(useP k).2.1≠4/\(useP k).2.2.1≠1/\(useP k).2.2.1≠2:=by
 rcases (by omega:k=1\/k=2\/k=3\/k=4\/k=5\/k=6\/k=7\/k=8\/k=9\/k=10\/k=11\/k=12\/k=13\/k=20\/k=21\/k=22\/k=23\/k=24\/k=25\/k=26\/k=27\/k=28\/k=29)with rfl|rfl|rfl|rfl|rfl|rfl|rfl|rfl|rfl|rfl|rfl|rfl|rfl|rfl|rfl|rfl|rfl|rfl|rfl|rfl|rfl|rfl|rfl
 all_goals decide
def Took(d:Bool)(k:List Int)(x:Int):Prop:=(d=true/\k=[x])\/(d=false/\k=[])
structure zaO(w0:World)(X E:Nat)(cs us:Array Value)(v:Value)(ks:List Int)(w:World):Prop where
 node:w.heap[X]?=some (.cells cs 34)
 use:w.heap[E]?=some (.cells us 109)
 row:w.ownsRow w0.heap.size 3 1 v ks.length (ks.map (Value.int .i64))
 low:Below w0.heap.size w0 w
variable {w0 w w':World} {X E:Nat} {cs us:Array Value} {v v':Value} {ks:List Int}
theorem zaO.below(h:zaO w0 X E cs us v ks w)(hb:Below w.heap.size w w'):zaO w0 X E cs us v ks w':=⟨(hb.block X (lt_of_block h.node)).trans h.node,(hb.block E (lt_of_block h.use)).trans h.use,z8B h.row hb,h.low.trans (hb.mono h.low.size)⟩
theorem zaO.push{l:List Int}(h:zaO w0 X E cs us v ks w)(hg:w.grownBy w' v.ownBlock)(ho:w'.ownsRow w0.heap.size 3 1 v' (ks.length+l.length) (ks.map (Value.int .i64)++l.map (Value.int .i64))):zaO w0 X E cs us v' (ks++l) w':=by
 have ff:∀(g1:Nat) (ds:Array Value) (T:TypeId) (fz:Nat × Nat),w.heap[g1]?=some (.cells ds T fz)->3≠T->w'.heap[g1]?=w.heap[g1]?:=fun g1 ds T fz h1 hT=>hg.block g1 (lt_of_block h1) (fun e=>by
  rcases za6 h.row h1 hT with k|k
  ·rw[k]at e;cases e
  ·exact k e.symm)
 exact⟨(ff X _ _ _ h.node (by decide)).trans h.node,(ff E _ _ _ h.use (by decide)).trans h.use,by rw[List.length_append,List.map_append];exact ho,h.low.grown hg h.low.size (fun k e=>(h.row.lt k e).1)⟩
theorem zaP{w:World}{B n a:Nat}{ns:List z4Q}{p:z4Q}{lv nv:Value}(hR:z88 ns)(ha:ns[a]?=some p)(hl:w.ownsRow B 3 1 lv p.list.length (p.list.map (Value.int .i64)))(hn:∃ na nc,nv=.slice na p.names.length nc)(hll:p.list.length<=10000):
  Calls Tryz.prog 101 #[.agg #[.int .i64 p.kind,.int .i64 p.a,.int .i64 p.b,.int .i64 p.c,lv,nv,.int .u64 (p.num:Int),.int .i64 p.pos]] w fun e w'=>∃ v,e=.returned v/\w'.ownsRow w.heap.size 3 1 v (z8o p).length ((z8o p).map (Value.int .i64))/\Below w.heap.size w w':=by
 obtain⟨na,nc,rfl⟩:=hn;obtain⟨la,lc,rfl⟩:=z8A hl;obtain⟨ua,ub,uu,ul,un,um,kA,kB,kC,hF⟩:=z9H hR ha;have hkr:(1<=p.kind/\p.kind<=13)\/(20<=p.kind/\p.kind<=29):=by rcases hF.form with h|h|h|h|h|h<;>omega
 have hur:=zaN p.kind hkr;rw[hF.use]at hur;have hA:(kA=[]/\ua≠1/\ua≠2)\/(kA=[p.a]/\(ua=1\/ua=2)):=by
  rcases hF.partA with ⟨e,h⟩|⟨e,_,_,h⟩
  ·exact .inl ⟨e,by omega,by omega⟩
  ·exact .inr ⟨e,by have:=hur.1;simp only at this;omega⟩
 have hB:(kB=[]/\ub≠1/\ub≠2)\/(kB=[p.b]/\(ub=1\/ub=2)):=by
  rcases hF.partB with ⟨e,h⟩|⟨e,_,_,h⟩
  ·exact .inl ⟨e,by omega,by omega⟩
  ·exact .inr ⟨e,by have:=hur.2.1;simp only at this;omega⟩
 have hC:(kC=[]/\(uu≠4\/p.c<0))\/(kC=[p.c]/\uu=4/\0<=p.c):=by
  rcases hF.partC with ⟨e,h⟩|⟨e,h0,_,h⟩
  ·exact .inl ⟨e,by omega⟩
  ·exact .inr ⟨e,by have:=hur.2.2;simp only at this;omega,h0⟩
 have cU:∀ W,Calls Tryz.prog 40 #[.int .i64 p.kind] W fun e w'=>e=.returned (.agg #[.int .i64 ua,.int .i64 ub,.int .i64 uu,.int .i64 ul,.int .i64 un,.bool um])/\Below W.heap.size W w':=fun W=>by
  have:=z8k p.kind W hkr;rw[hF.use]at this;exact this
 have HKI:Hid (z8o p=kA++kB++kC++p.list):=hF.kids;have HL:Hid (w.ownsRow B 3 1 (.slice la p.list.length lc) p.list.length (p.list.map (Value.int .i64))):=hl;obtain⟨i0,hi,hz0,hz1,hz2⟩:=z8y Tryz.infoInt;obtain⟨m,hm⟩:∃ m,p.list.length=m:=⟨_,rfl⟩;obtain⟨q,hq⟩:∃ q,p.names.length=q:=⟨_,rfl⟩;have HM:Hid (p.list.length=m):=hm;rw[hm,hq];rw[hm]at hll;obtain⟨z,hz⟩:∃ z:Int,(p.num:Int)=z:=⟨_,rfl⟩;rw[hz];have hB0:=heap_alloc_new w (.cells #[.int .i64 p.kind,.int .i64 p.a,.int .i64 p.b,.int .i64 p.c,.slice la m lc,.slice na q nc,.int .u64 z,.int .i64 p.pos] 34);have b0:Below w.heap.size w (w.alloc (.cells #[.int .i64 p.kind,.int .i64 p.a,.int .i64 p.b,.int .i64 p.c,.slice la m lc,.slice na q nc,.int .u64 z,.int .i64 p.pos] 34)):=(yg9 _ _).alloc (yf9 _) _;obtain⟨X,hX⟩:∃ X,w.heap.size=X:=⟨_,rfl⟩;obtain⟨W0,hW0⟩:∃ W,w.alloc (.cells #[.int .i64 p.kind,.int .i64 p.a,.int .i64 p.b,.int .i64 p.c,.slice la m lc,.slice na q nc,.int .u64 z,.int .i64 p.pos] 34)=W:=⟨_,rfl⟩;rw[hW0]at hB0 b0;rw[hX]at hB0;obtain⟨x0,x1,x2,x3,x4,x5,x6,x7⟩:=z8C hB0;have H0:Hid (W0.heap[X]?=some (.cells #[.int .i64 p.kind,.int .i64 p.a,.int .i64 p.b,.int .i64 p.c,.slice la m lc,.slice na q nc,.int .u64 z,.int .i64 p.pos] 34)/\Below w.heap.size w W0):=⟨hB0,b0⟩;clear hF hur hR ha hl hm hq hz hB0 b0 x1 x2 x3 x4 x5 x6 x7;go_enter Tryz.func101,Tryz.ntmps101;go_wp2_with fail;try simp only[hW0,hX]
 clear hW0 hX;refine(cU _).mono ?_;rintro e w1 ⟨rfl,b1⟩;have HK0:zaO w X w1.heap.size #[.int .i64 p.kind,.int .i64 p.a,.int .i64 p.b,.int .i64 p.c,.slice la m lc,.slice na q nc,.int .u64 z,.int .i64 p.pos] #[.int .i64 ua,.int .i64 ub,.int .i64 uu,.int .i64 ul,.int .i64 un,.bool um] (.slice (some ⟨w1.heap.size+1,0,none⟩) 0 0) [] ((w1.alloc (.cells #[.int .i64 ua,.int .i64 ub,.int .i64 uu,.int .i64 ul,.int .i64 un,.bool um] 109)).alloc (.cells #[] 3)):=by
  have e1:=(b1.block X (lt_of_block H0.out.1)).trans H0.out.1;have s1:=yi9 H0.out.2.size b1.size;refine⟨?_,?_,zar (by simp) (by omega),((H0.out.2.trans (b1.mono H0.out.2.size)).alloc s1 _).alloc (by simp;omega) _⟩
  ·rw[heap_alloc_old _ _ (by simp;have:=lt_of_block e1;omega),heap_alloc_old _ _ (lt_of_block e1)]
   exact e1
  ·rw[heap_alloc_old _ _ (by simp)]
   exact heap_alloc_new _ _
 obtain⟨E,hE⟩:∃ E,w1.heap.size=E:=⟨_,rfl⟩;rw[hE]at HK0;go_upto_region 3 with fail;obtain⟨W2,hW2⟩:∃ W,(w1.alloc (.cells #[.int .i64 ua,.int .i64 ub,.int .i64 uu,.int .i64 ul,.int .i64 un,.bool um] 109)).alloc (.cells #[] 3)=W:=⟨_,rfl⟩;rw[hW2]at HK0;try simp only[hW2]
 try simp only[hE]
 clear hW2 hE b1 x0 cU;have hAl:kA.length<=1:=by rcases hA with ⟨e,_⟩|⟨e,_⟩<;>rw[e]<;>simp
 have hBl:kB.length<=1:=by rcases hB with ⟨e,_⟩|⟨e,_⟩<;>rw[e]<;>simp
 have hCl:kC.length<=1:=by rcases hC with ⟨e,_⟩|⟨e,_⟩<;>rw[e]<;>simp
 go_upto_region 3 with fail;go_cut [16] (fun x wx=>∃ d:Bool,x=.bool d/\wx=W2/\Hid (Took d kA p.a))
 case first=>
  obtain⟨x0,x1,x2,x3,x4,x5,x6,x7⟩:=z8C HK0.node;obtain⟨y0,y1,y2,y3,y4,y5⟩:=z8W HK0.use;rcases hA with ⟨e,h1,h2⟩|⟨e,h⟩
  ·have g1:(ua==1)=false:=by rw[yc9];exact h1
   have g2:(ua==2)=false:=by rw[yc9];exact h2
   have HE:Hid (Took false kA p.a):=.inr ⟨rfl,e⟩;clear e;go_wp2_with fail;go_meet
   case rel=>exact⟨false,rfl,rfl,HE⟩
  ·have HE:Hid (Took true kA p.a):=.inl ⟨rfl,e⟩;clear e;rcases h with h|h
   ·rw[h]at y0;clear h;go_wp2_with fail;go_meet
    case rel=>exact⟨true,rfl,rfl,HE⟩
   ·rw[h]at y0;clear h;go_wp2_with fail;go_meet
    case rel=>exact⟨true,rfl,rfl,HE⟩
 case rest=>
  obtain⟨d,hd,hwc,HD⟩:=hcut;subst hd;subst hwc;go_upto_if 16 with fail;go_cut [4] (fun v wx=>∃ va vc,v=.slice va (kA).length vc/\zaO w X E #[.int .i64 p.kind,.int .i64 p.a,.int .i64 p.b,.int .i64 p.c,.slice la m lc,.slice na q nc,.int .u64 z,.int .i64 p.pos] #[.int .i64 ua,.int .i64 ub,.int .i64 uu,.int .i64 ul,.int .i64 un,.bool um] (.slice va (kA).length vc) (kA) wx)
  case first=>
   obtain⟨x0,x1,x2,x3,x4,x5,x6,x7⟩:=z8C HK0.node;rcases HD.out with ⟨hd,e⟩|⟨hd,e⟩
   ·subst hd;go_wp2_with (first|(at_builtin;refine wpList_append_own_at _ rfl _ _ 29 rfl w.heap.size 3 i0 (.int .i64 0) 1 8 Tryz.underlying29 hi hz0 hz1 hz2 rfl (by decide) (.slice (some ⟨E+1,0,none⟩) 0 0) (0) ([]) rfl (HK0.row.alloc _) ⟨wc.heap.size,0,none⟩ 1 1 [.int .i64 p.a] rfl rfl (cell_one_new _ _ _) (fun u hu=>by rw[List.mem_singleton.1 hu];rfl) (by unfold maxLen;omega) (by omega) (yi9 HK0.low.size (by simp)) ?_;intro v' w3 ho3 hg3 _ _;obtain⟨va',vc',rfl⟩:=z8A ho3;have K3:=zaO.push (l:=[p.a]) (HK0.below ((yg9 _ _).alloc (yf9 _) _)) hg3 ho3;have HK3:Hid _:=K3;clear K3 ho3 hg3))
    go_meet
    case rel=>first|(rw[e];exact⟨_,_,rfl,HK3.out⟩)|(rw[e,List.length_append];exact⟨_,_,rfl,HK3.out⟩)|(rw[e,List.length_append];exact⟨_,_,by rw[List.length_append];rfl,HK3.out⟩)
   ·subst hd;have HK3:Hid _:=HK0;go_wp2_with fail;go_meet
    case rel=>first|(rw[e];exact⟨_,_,rfl,HK3.out⟩)|(rw[e,List.append_nil];exact⟨_,_,rfl,HK3.out⟩)
  case rest=>
   obtain⟨va,vc,hv,KA⟩:=hcut;subst hv;go_upto_region 5 with fail;go_cut [29] (fun x wx=>∃ d:Bool,x=.bool d/\wx=wc/\Hid (Took d kB p.b))
   case first=>
    obtain⟨x0,x1,x2,x3,x4,x5,x6,x7⟩:=z8C KA.node;obtain⟨y0,y1,y2,y3,y4,y5⟩:=z8W KA.use;rcases hB with ⟨e,h1,h2⟩|⟨e,h⟩
    ·have g1:(ub==1)=false:=by rw[yc9];exact h1
     have g2:(ub==2)=false:=by rw[yc9];exact h2
     have HE:Hid (Took false kB p.b):=.inr ⟨rfl,e⟩;clear e;go_wp2_with fail;go_meet
     case rel=>exact⟨false,rfl,rfl,HE⟩
    ·have HE:Hid (Took true kB p.b):=.inl ⟨rfl,e⟩;clear e;rcases h with h|h
     ·rw[h]at y1;clear h;go_wp2_with fail;go_meet
      case rel=>exact⟨true,rfl,rfl,HE⟩
     ·rw[h]at y1;clear h;go_wp2_with fail;go_meet
      case rel=>exact⟨true,rfl,rfl,HE⟩
   case rest=>
    obtain⟨d,hd,hwc,HD⟩:=hcut;subst hd;subst hwc;go_upto_if 29 with fail;go_cut [4] (fun v wx=>∃ va vc,v=.slice va (kA++kB).length vc/\zaO w X E #[.int .i64 p.kind,.int .i64 p.a,.int .i64 p.b,.int .i64 p.c,.slice la m lc,.slice na q nc,.int .u64 z,.int .i64 p.pos] #[.int .i64 ua,.int .i64 ub,.int .i64 uu,.int .i64 ul,.int .i64 un,.bool um] (.slice va (kA++kB).length vc) (kA++kB) wx)
    case first=>
     obtain⟨x0,x1,x2,x3,x4,x5,x6,x7⟩:=z8C KA.node;rcases HD.out with ⟨hd,e⟩|⟨hd,e⟩
     ·subst hd;go_wp2_with (first|(at_builtin;refine wpList_append_own_at _ rfl _ _ 29 rfl w.heap.size 3 i0 (.int .i64 0) 1 8 Tryz.underlying29 hi hz0 hz1 hz2 rfl (by decide) (.slice va kA.length vc) (kA.length) (kA.map (Value.int .i64)) rfl (KA.row.alloc _) ⟨wc.heap.size,0,none⟩ 1 1 [.int .i64 p.b] rfl rfl (cell_one_new _ _ _) (fun u hu=>by rw[List.mem_singleton.1 hu];rfl) (by unfold maxLen;omega) (by omega) (yi9 KA.low.size (by simp)) ?_;intro v' w3 ho3 hg3 _ _;obtain⟨va',vc',rfl⟩:=z8A ho3;have K3:=zaO.push (l:=[p.b]) (KA.below ((yg9 _ _).alloc (yf9 _) _)) hg3 ho3;have HK3:Hid _:=K3;clear K3 ho3 hg3))
      go_meet
      case rel=>first|(rw[e];exact⟨_,_,rfl,HK3.out⟩)|(rw[e,List.length_append];exact⟨_,_,rfl,HK3.out⟩)|(rw[e,List.length_append];exact⟨_,_,by rw[List.length_append];rfl,HK3.out⟩)
     ·subst hd;have HK3:Hid _:=KA;go_wp2_with fail;go_meet
      case rel=>first|(rw[e];exact⟨_,_,rfl,HK3.out⟩)|(rw[e,List.append_nil];exact⟨_,_,rfl,HK3.out⟩)
    case rest=>
     obtain⟨va,vc,hv,KB⟩:=hcut;subst hv;have hABl:(kA++kB).length<=2:=by rw[List.length_append];omega
     go_upto_region 7 with fail;go_cut [42] (fun x wx=>∃ d:Bool,x=.bool d/\wx=wc/\Hid (Took d kC p.c))
     case first=>
      obtain⟨x0,x1,x2,x3,x4,x5,x6,x7⟩:=z8C KB.node;obtain⟨y0,y1,y2,y3,y4,y5⟩:=z8W KB.use;rcases hC with ⟨e,h⟩|⟨e,h1,h2⟩
      ·have HE:Hid (Took false kC p.c):=.inr ⟨rfl,e⟩;clear e;by_cases h4:uu=4
       ·have hd:decide ((0:Int)<=p.c)=false:=ya9 (by omega)
        rw[h4]at y2;clear h4 h;go_wp2_with fail;go_meet
        case rel=>exact⟨false,rfl,rfl,HE⟩
       ·have g4:(uu==4)=false:=by rw[yc9];exact h4
        go_wp2_with fail;go_meet
        case rel=>exact⟨false,rfl,rfl,HE⟩
      ·have HE:Hid (Took true kC p.c):=.inl ⟨rfl,e⟩;have hd:decide ((0:Int)<=p.c)=true:=yb9 h2;rw[h1]at y2;clear e h1;go_wp2_with fail;go_meet
       case rel=>exact⟨true,rfl,rfl,HE⟩
     case rest=>
      obtain⟨d,hd,hwc,HD⟩:=hcut;subst hd;subst hwc;go_upto_if 42 with fail;go_cut [4] (fun v wx=>∃ va vc,v=.slice va (kA++kB++kC).length vc/\zaO w X E #[.int .i64 p.kind,.int .i64 p.a,.int .i64 p.b,.int .i64 p.c,.slice la m lc,.slice na q nc,.int .u64 z,.int .i64 p.pos] #[.int .i64 ua,.int .i64 ub,.int .i64 uu,.int .i64 ul,.int .i64 un,.bool um] (.slice va (kA++kB++kC).length vc) (kA++kB++kC) wx)
      case first=>
       obtain⟨x0,x1,x2,x3,x4,x5,x6,x7⟩:=z8C KB.node;rcases HD.out with ⟨hd,e⟩|⟨hd,e⟩
       ·subst hd;go_wp2_with (first|(at_builtin;refine wpList_append_own_at _ rfl _ _ 29 rfl w.heap.size 3 i0 (.int .i64 0) 1 8 Tryz.underlying29 hi hz0 hz1 hz2 rfl (by decide) (.slice va (kA++kB).length vc) ((kA++kB).length) ((kA++kB).map (Value.int .i64)) rfl (KB.row.alloc _) ⟨wc.heap.size,0,none⟩ 1 1 [.int .i64 p.c] rfl rfl (cell_one_new _ _ _) (fun u hu=>by rw[List.mem_singleton.1 hu];rfl) (by unfold maxLen;omega) (by omega) (yi9 KB.low.size (by simp)) ?_;intro v' w3 ho3 hg3 _ _;obtain⟨va',vc',rfl⟩:=z8A ho3;have K3:=zaO.push (l:=[p.c]) (KB.below ((yg9 _ _).alloc (yf9 _) _)) hg3 ho3;have HK3:Hid _:=K3;clear K3 ho3 hg3))
        go_meet
        case rel=>first|(rw[e];exact⟨_,_,rfl,HK3.out⟩)|(rw[e,List.length_append];exact⟨_,_,rfl,HK3.out⟩)|(rw[e,List.length_append];exact⟨_,_,by rw[List.length_append];rfl,HK3.out⟩)
       ·subst hd;have HK3:Hid _:=KB;go_wp2_with fail;go_meet
        case rel=>first|(rw[e];exact⟨_,_,rfl,HK3.out⟩)|(rw[e,List.append_nil];exact⟨_,_,rfl,HK3.out⟩)
      case rest=>
       obtain⟨va,vc,hv,KC⟩:=hcut;subst hv;have hABC:(kA++kB++kC).length<=3:=by rw[List.length_append,List.length_append];omega
       have hLw:=z8B HL.out KC.low;rw[HM.out]at hLw;obtain⟨x0,x1,x2,x3,x4,x5,x6,x7⟩:=z8C KC.node;go_wp2_with (first|(at_builtin;refine zaM rfl _ _ 29 rfl w.heap.size 3 i0 (.int .i64 0) 8 Tryz.underlying29 hi hz0 hz1 hz2 rfl (.slice va (kA++kB++kC).length vc) (kA++kB++kC).length ((kA++kB++kC).map (Value.int .i64)) rfl KC.row (.slice la m lc) rfl B m (p.list.map (Value.int .i64)) hLw (z9w _) (by unfold maxLen;omega) (by omega) KC.low.size ?_;intro v' w3 ho3 hg3;have KE:=zaO.push (l:=p.list) KC hg3 (by rw[HM.out];exact ho3);have HKE:Hid _:=KE;clear KE ho3 hg3))
       go_ret;refine⟨_,rfl,?_,HKE.out.low⟩;rw[HKI.out];exact HKE.out.row
end Go.Proofs.YtdbekjiognpgnaaGreat
namespace Go.Proofs.YtdbekjiognpgnaaGreat
open Go.RowKit Go.Sort
theorem zax.lift{F:Nat->Prop}{w0 w W1 w':World}{n c b b':Nat}{tv:Value}{s s1:RS}(h:zax w0 F n c tv b s1 W1 w')(t:za9 w0.heap.size F w W1)(hl:s1.rows.length=s.rows.length)(hP:s.P<=s1.P)(hb:b<=b')(hb':b'<=10000):zax w0 F n c tv b' s w w':=by
 obtain⟨s',k',r,u,e1,e2⟩:=h;exact⟨s',k',r.more hb hb',t.trans u,e1.trans hl,yi9 hP e2⟩
theorem za8.moved{F:Nat->Prop}{w0 w:World}{n c b b':Nat}{tv:Value}{s:RS}{k:RK}(h:za8 w0 F n c tv b s k w)(hb:b<=b')(hb':b'<=10000):zax w0 F n c tv b' s w w:=⟨s,k,h.more hb hb',za9.refl _ _ _,rfl,yf9 _⟩
theorem zaQ{ns:List z4Q}(hR:z88 ns){j:Nat}{p:z4Q}(h:ns[j]?=some p):1<=sz ns (j:Int):=by
 have:=hR.sz_eq h;omega
theorem zaR{p:z4Q}(h:z5Y p)(hk:p.kind≠29):p.list.length<=6:=by
 obtain⟨_,_,h⟩:=h;rcases h with h|h|h|h|h|h|h|h|h|h|h|h|h|h|h;all_goals first
  | omega
  | exact h.2.2.2.1
  | (have e:p.list=[]:=(by first|exact h.2.2.2.2.1|exact h.2.2.2.1|exact h.2.2.1|exact h.2.1);rw[e];simp)
theorem za8.also{F F':Nat->Prop}{w0 w w':World}{n c b:Nat}{tv:Value}{s:RS}{k:RK}(h:za8 w0 F n c tv b s k w)(hb:Below w.heap.size w w')(hF:∀ g,F' g->F g\/(w.heap.size<=g/\g<w'.heap.size)):za8 w0 F' n c tv b s k w':=⟨(hb.block c h.lt).trans h.blk,h.hc,h.rows.also hb hF⟩
theorem za8.mono{F F':Nat->Prop}{w0 w:World}{n c b:Nat}{tv:Value}{s:RS}{k:RK}(h:za8 w0 F' n c tv b s k w)(hF:∀ g,F g->F' g):za8 w0 F n c tv b s k w:=⟨h.blk,h.hc,h.rows.mono hF⟩
theorem zaS{F:Nat->Prop}{H B:Nat}{w w':World}{v:Value}{m:Nat}{xs:List Value}(h:w.ownsRow B 3 1 v m xs)(t:za9 H F w w')(hF:∀ g,v.ownBlock=some g->F g):w'.ownsRow B 3 1 v m xs:=by
 refine⟨h.1,?_⟩;rcases h.2 with k|⟨g,cap,cur,e,hb,hg,rest⟩
 ·exact .inl k
 ·exact .inr ⟨g,cap,cur,e,hb,t.stay g cur _ (.inr (.inr ⟨rfl,hF g (by rw[e];rfl)⟩)) hg,rest⟩
theorem zaT{w0:World}{n c g tc Bt x:Nat}{ns:List z4Q}{p:z4Q}(hR:z88 ns)(hT:z8G w0 Bt (.slice (some ⟨g,0,none⟩) n tc) ns)(hn:ns.length=n)(hx:ns[x]?=some p)(hk:p.kind=6)(hIH:∀ y:Int,0<=y->y<(x:Int)->zaF w0 n c (.slice (some ⟨g,0,none⟩) n tc) ns y)(HNAME:∃ t,p.names=[t]):zaF w0 n c (.slice (some ⟨g,0,none⟩) n tc) ns (x:Int):=by
 intro F b s k w h hb;have hsz:=hR.sz_eq hx;have hxn:x<n:=by have:=(List.getElem?_eq_some_iff.1 hx).1;omega
 obtain⟨lv,nv,NA0⟩:=z9L hT hx;obtain⟨la,lc,rfl⟩:=z8A NA0.list;obtain⟨na,nc,rfl⟩:=z8A NA0.names;have NA:=NA0.below h.rows.low;have hnn:=h.rows.hn;have HNM:Hid (∀ W,Below w0.heap.size w0 W->∀(i:Nat) (t:ByteArray),p.names[i]?=some t->∃ gl,na=some ⟨gl,0,none⟩/\W.cell? ⟨gl,i,none⟩=some (.string t)):=fun W hW i t hi=>z9N NA0.names hW (by rw[List.getElem?_map,hi];rfl)
 obtain⟨m,hm⟩:∃ m,p.list.length=m:=⟨_,rfl⟩;obtain⟨q,hq⟩:∃ q,p.names.length=q:=⟨_,rfl⟩;obtain⟨z,hz⟩:∃ z:Int,(p.num:Int)=z:=⟨_,rfl⟩;have n0:=NA.c0;have n1:=NA.c1;have n2:=NA.c2;have n3:=NA.c3;have n4:=NA.c4;have n5:=NA.c5;have n6:=NA.c6;have n7:=NA.c7;rw[hk]at n0;rw[hm]at n4;rw[hq]at n5;rw[hz]at n6;have HT:Hid (z8G w0 Bt (.slice (some ⟨g,0,none⟩) n tc) ns/\ns.length=n/\ns[x]?=some p/\z88 ns/\p.names.length=q/\p.list.length=m):=⟨hT,hn,hx,hR,hq,hm⟩;obtain⟨tv,htv⟩:∃ tv,Value.slice (some ⟨g,0,none⟩) n tc=tv:=⟨_,rfl⟩;have HTV:Hid (Value.slice (some ⟨g,0,none⟩) n tc=tv):=htv;rw[htv]at h hIH ⊢;have HIH:Hid (∀ y:Int,0<=y->y<(x:Int)->zaF w0 n c tv ns y):=hIH;obtain⟨S,hS⟩:∃ S,sz ns (x:Int)=S:=⟨_,rfl⟩;have HSZ:Hid (S=1+sumZ (sz ns) (z8o p)):=by rw[←hS];exact hsz
 rw[hS]at hb ⊢;have hS1:1<=S:=by have:=HSZ.out;omega
 have H0:Hid (za8 w0 F n c tv b s k w):=h;obtain⟨x0,x1,x2,x3,x4,x5,x6,x7,x8,x9,x10,x11,xf⟩:=h.cells;rw[←HTV.out]at x0;obtain⟨fa,hfa⟩:∃ y,k.fault=y:=⟨_,rfl⟩;rw[hfa]at x7;have hxi:(x:Int)<(n:Int):=by omega
 have hx00:(0:Int)<=(x:Int):=by omega
 have b1:Below w.heap.size w (w.alloc (.cells #[.int .i64 6,.int .i64 p.a,.int .i64 p.b,.int .i64 p.c,.slice la m lc,.slice na q nc,.int .u64 z,.int .i64 p.pos] 34)):=(yg9 _ _).alloc (yf9 _) _;have hB:=heap_alloc_new w (.cells #[.int .i64 6,.int .i64 p.a,.int .i64 p.b,.int .i64 p.c,.slice la m lc,.slice na q nc,.int .u64 z,.int .i64 p.pos] 34);obtain⟨X,hX⟩:∃ X,w.heap.size=X:=⟨_,rfl⟩;obtain⟨W1,hW1⟩:∃ W,w.alloc (.cells #[.int .i64 6,.int .i64 p.a,.int .i64 p.b,.int .i64 p.c,.slice la m lc,.slice na q nc,.int .u64 z,.int .i64 p.pos] 34)=W:=⟨_,rfl⟩;rw[hW1]at b1 hB;rw[hX]at hB;have r1:=h.below b1;have t1:=h.step b1;clear h hT hn hx hR hIH NA NA0 hm hq hz htv hS hsz hfa xf x1 x2 x3 x4 x5 x6 x8 x9 x10 x11 b1;by_cases hf0:fa=0
 ·have hf0':(fa==0)=true:=by rw[beq_iff_eq];exact hf0
  subst hf0;go_enter Tryz.func86,Tryz.ntmps86;go_upto_region 2 with fail;try simp only[hW1,hX]
  clear hW1 hX n0 n1 n2 n3 n4 n5 n6 n7 x0 x7;obtain⟨y0,y1,y2,y3,y4,y5,y6,y7⟩:=z8C hB;have HB:Hid (W1.heap[X]?=some (.cells #[.int .i64 6,.int .i64 p.a,.int .i64 p.b,.int .i64 p.c,.slice la m lc,.slice na q nc,.int .u64 z,.int .i64 p.pos] 34)/\za9 w0.heap.size F w W1/\za8 w0 F n c tv b s k W1):=⟨hB,t1,r1⟩;obtain⟨t,ht⟩:∃ t,p.names=[t]:=HNAME;have hq1:q=1:=by rw[←HT.out.2.2.2.2.1,ht];rfl
  obtain⟨gl,hgl,hct⟩:=HNM.out W1 r1.rows.low 0 t (by rw[ht];rfl)
  subst hgl;subst hq1;have cU:=zaD t r1 hxn (by omega)
  clear hB r1 t1;go_wp2_with fail;refine cU.mono ?_;rintro e w5 ⟨rfl,hm5⟩;have HE:Hid (zax w0 F n c tv (b+4*S) s w w5):=hm5.lift HB.out.2.1 rfl (yf9 _) (by omega) hb
  clear hm5 cU;go_wp2;go_returns;exact⟨rfl,HE.out⟩
 ·have hf0':(fa==0)=false:=by rw[yc9];exact hf0
  have HE:Hid (zax w0 F n c tv (b+4*S) s w w):=H0.out.moved (by omega) hb
  clear r1 t1 hB hW1 hX;go_enter Tryz.func86,Tryz.ntmps86;go_wp2;go_returns;exact⟨rfl,HE.out⟩
theorem zaU{w0:World}{n c g tc Bt x:Nat}{ns:List z4Q}{p:z4Q}(hR:z88 ns)(hT:z8G w0 Bt (.slice (some ⟨g,0,none⟩) n tc) ns)(hn:ns.length=n)(hx:ns[x]?=some p)(hk:p.kind=21)(hIH:∀ y:Int,0<=y->y<(x:Int)->zaF w0 n c (.slice (some ⟨g,0,none⟩) n tc) ns y)(HNAME:∃ t,p.names=[t]):zaF w0 n c (.slice (some ⟨g,0,none⟩) n tc) ns (x:Int):=by
 intro F b s k w h hb;have hsz:=hR.sz_eq hx;have hxn:x<n:=by have:=(List.getElem?_eq_some_iff.1 hx).1;omega
 obtain⟨lv,nv,NA0⟩:=z9L hT hx;obtain⟨la,lc,rfl⟩:=z8A NA0.list;obtain⟨na,nc,rfl⟩:=z8A NA0.names;have NA:=NA0.below h.rows.low;have hnn:=h.rows.hn;have HNM:Hid (∀ W,Below w0.heap.size w0 W->∀(i:Nat) (t:ByteArray),p.names[i]?=some t->∃ gl,na=some ⟨gl,0,none⟩/\W.cell? ⟨gl,i,none⟩=some (.string t)):=fun W hW i t hi=>z9N NA0.names hW (by rw[List.getElem?_map,hi];rfl)
 obtain⟨m,hm⟩:∃ m,p.list.length=m:=⟨_,rfl⟩;obtain⟨q,hq⟩:∃ q,p.names.length=q:=⟨_,rfl⟩;obtain⟨z,hz⟩:∃ z:Int,(p.num:Int)=z:=⟨_,rfl⟩;have n0:=NA.c0;have n1:=NA.c1;have n2:=NA.c2;have n3:=NA.c3;have n4:=NA.c4;have n5:=NA.c5;have n6:=NA.c6;have n7:=NA.c7;rw[hk]at n0;rw[hm]at n4;rw[hq]at n5;rw[hz]at n6;have HT:Hid (z8G w0 Bt (.slice (some ⟨g,0,none⟩) n tc) ns/\ns.length=n/\ns[x]?=some p/\z88 ns/\p.names.length=q/\p.list.length=m):=⟨hT,hn,hx,hR,hq,hm⟩;obtain⟨tv,htv⟩:∃ tv,Value.slice (some ⟨g,0,none⟩) n tc=tv:=⟨_,rfl⟩;have HTV:Hid (Value.slice (some ⟨g,0,none⟩) n tc=tv):=htv;rw[htv]at h hIH ⊢;have HIH:Hid (∀ y:Int,0<=y->y<(x:Int)->zaF w0 n c tv ns y):=hIH;obtain⟨S,hS⟩:∃ S,sz ns (x:Int)=S:=⟨_,rfl⟩;have HSZ:Hid (S=1+sumZ (sz ns) (z8o p)):=by rw[←hS];exact hsz
 rw[hS]at hb ⊢;have hS1:1<=S:=by have:=HSZ.out;omega
 have H0:Hid (za8 w0 F n c tv b s k w):=h;obtain⟨x0,x1,x2,x3,x4,x5,x6,x7,x8,x9,x10,x11,xf⟩:=h.cells;rw[←HTV.out]at x0;obtain⟨fa,hfa⟩:∃ y,k.fault=y:=⟨_,rfl⟩;rw[hfa]at x7;have hxi:(x:Int)<(n:Int):=by omega
 have hx00:(0:Int)<=(x:Int):=by omega
 have b1:Below w.heap.size w (w.alloc (.cells #[.int .i64 21,.int .i64 p.a,.int .i64 p.b,.int .i64 p.c,.slice la m lc,.slice na q nc,.int .u64 z,.int .i64 p.pos] 34)):=(yg9 _ _).alloc (yf9 _) _;have hB:=heap_alloc_new w (.cells #[.int .i64 21,.int .i64 p.a,.int .i64 p.b,.int .i64 p.c,.slice la m lc,.slice na q nc,.int .u64 z,.int .i64 p.pos] 34);obtain⟨X,hX⟩:∃ X,w.heap.size=X:=⟨_,rfl⟩;obtain⟨W1,hW1⟩:∃ W,w.alloc (.cells #[.int .i64 21,.int .i64 p.a,.int .i64 p.b,.int .i64 p.c,.slice la m lc,.slice na q nc,.int .u64 z,.int .i64 p.pos] 34)=W:=⟨_,rfl⟩;rw[hW1]at b1 hB;rw[hX]at hB;have r1:=h.below b1;have t1:=h.step b1;clear h hT hn hx hR hIH NA NA0 hm hq hz htv hS hsz hfa xf x1 x2 x3 x4 x5 x6 x8 x9 x10 x11 b1;by_cases hf0:fa=0
 ·have hf0':(fa==0)=true:=by rw[beq_iff_eq];exact hf0
  subst hf0;go_enter Tryz.func86,Tryz.ntmps86;go_upto_region 2 with fail;try simp only[hW1,hX]
  clear hW1 hX n0 n1 n2 n3 n4 n5 n6 n7 x0 x7;obtain⟨y0,y1,y2,y3,y4,y5,y6,y7⟩:=z8C hB;have HB:Hid (W1.heap[X]?=some (.cells #[.int .i64 21,.int .i64 p.a,.int .i64 p.b,.int .i64 p.c,.slice la m lc,.slice na q nc,.int .u64 z,.int .i64 p.pos] 34)/\za9 w0.heap.size F w W1/\za8 w0 F n c tv b s k W1):=⟨hB,t1,r1⟩;obtain⟨t,ht⟩:∃ t,p.names=[t]:=HNAME;have hq1:q=1:=by rw[←HT.out.2.2.2.2.1,ht];rfl
  obtain⟨gl,hgl,hct⟩:=HNM.out W1 r1.rows.low 0 t (by rw[ht];rfl)
  subst hgl;subst hq1;have hkA:p.a∈z8o p:=by unfold z8o z5V;rw[if_pos (by omega)];simp
  have hsA:sz ns p.a<=sumZ (sz ns) (z8o p):=by have:=z8w (f:=sz ns) hkA;omega
  have hSS:=HSZ.out;have cA:=HIH.out p.a (HT.out.2.2.2.1.early x p HT.out.2.2.1 _ hkA).1 (HT.out.2.2.2.1.early x p HT.out.2.2.1 _ hkA).2 _ b s k W1 r1 (by omega)
  clear hB r1 t1;go_wp2_with fail;refine cA.mono ?_;rintro e w5 ⟨rfl,s5,k5,r5,t5,l5,P5⟩;have hB5:=t5.nodes X _ HB.out.1;have cU:=zaD t r5 hxn (by omega)
  obtain⟨gl',hgl',hct5⟩:=HNM.out w5 r5.rows.low 0 t (by rw[ht];rfl)
  injection hgl' with hgl';injection hgl' with hgl';subst hgl';have HT5:Hid (za9 w0.heap.size F w w5/\s5.rows.length=s.rows.length/\s.P<=s5.P):=⟨HB.out.2.1.trans t5,l5,P5⟩;clear y0 y1 y2 y3 y4 y5 y6 y7 hct r5 t5 l5 P5 cA;obtain⟨y0,y1,y2,y3,y4,y5,y6,y7⟩:=z8C hB5;clear hB5;go_wp2_with fail;refine cU.mono ?_;rintro e w6 ⟨rfl,hm6⟩;have HE:Hid (zax w0 F n c tv (b+4*S) s w w6):=hm6.lift HT5.out.1 HT5.out.2.1 HT5.out.2.2 (by omega) hb
  clear hm6 cU;go_wp2;go_returns;exact⟨rfl,HE.out⟩
 ·have hf0':(fa==0)=false:=by rw[yc9];exact hf0
  have HE:Hid (zax w0 F n c tv (b+4*S) s w w):=H0.out.moved (by omega) hb
  clear r1 t1 hB hW1 hX;go_enter Tryz.func86,Tryz.ntmps86;go_wp2;go_returns;exact⟨rfl,HE.out⟩
theorem zaV{w0:World}{n c g tc Bt x:Nat}{ns:List z4Q}{p:z4Q}(hR:z88 ns)(hT:z8G w0 Bt (.slice (some ⟨g,0,none⟩) n tc) ns)(hn:ns.length=n)(hx:ns[x]?=some p)(hk:p.kind=20)(hIH:∀ y:Int,0<=y->y<(x:Int)->zaF w0 n c (.slice (some ⟨g,0,none⟩) n tc) ns y)(HNAME:∃ t,p.names=[t])(hB:p.b=0):zaF w0 n c (.slice (some ⟨g,0,none⟩) n tc) ns (x:Int):=by
 intro F b s k w h hb;have hsz:=hR.sz_eq hx;have hxn:x<n:=by have:=(List.getElem?_eq_some_iff.1 hx).1;omega
 obtain⟨lv,nv,NA0⟩:=z9L hT hx;obtain⟨la,lc,rfl⟩:=z8A NA0.list;obtain⟨na,nc,rfl⟩:=z8A NA0.names;have NA:=NA0.below h.rows.low;have hnn:=h.rows.hn;have HNM:Hid (∀ W,Below w0.heap.size w0 W->∀(i:Nat) (t:ByteArray),p.names[i]?=some t->∃ gl,na=some ⟨gl,0,none⟩/\W.cell? ⟨gl,i,none⟩=some (.string t)):=fun W hW i t hi=>z9N NA0.names hW (by rw[List.getElem?_map,hi];rfl)
 obtain⟨m,hm⟩:∃ m,p.list.length=m:=⟨_,rfl⟩;obtain⟨q,hq⟩:∃ q,p.names.length=q:=⟨_,rfl⟩;obtain⟨z,hz⟩:∃ z:Int,(p.num:Int)=z:=⟨_,rfl⟩;have n0:=NA.c0;have n1:=NA.c1;have n2:=NA.c2;have n3:=NA.c3;have n4:=NA.c4;have n5:=NA.c5;have n6:=NA.c6;have n7:=NA.c7;rw[hk]at n0;rw[hB]at n2;rw[hm]at n4;rw[hq]at n5;rw[hz]at n6;have HT:Hid (z8G w0 Bt (.slice (some ⟨g,0,none⟩) n tc) ns/\ns.length=n/\ns[x]?=some p/\z88 ns/\p.names.length=q/\p.list.length=m):=⟨hT,hn,hx,hR,hq,hm⟩;obtain⟨tv,htv⟩:∃ tv,Value.slice (some ⟨g,0,none⟩) n tc=tv:=⟨_,rfl⟩;have HTV:Hid (Value.slice (some ⟨g,0,none⟩) n tc=tv):=htv;rw[htv]at h hIH ⊢;have HIH:Hid (∀ y:Int,0<=y->y<(x:Int)->zaF w0 n c tv ns y):=hIH;obtain⟨S,hS⟩:∃ S,sz ns (x:Int)=S:=⟨_,rfl⟩;have HSZ:Hid (S=1+sumZ (sz ns) (z8o p)):=by rw[←hS];exact hsz
 rw[hS]at hb ⊢;have hS1:1<=S:=by have:=HSZ.out;omega
 have H0:Hid (za8 w0 F n c tv b s k w):=h;obtain⟨x0,x1,x2,x3,x4,x5,x6,x7,x8,x9,x10,x11,xf⟩:=h.cells;rw[←HTV.out]at x0;obtain⟨fa,hfa⟩:∃ y,k.fault=y:=⟨_,rfl⟩;rw[hfa]at x7;have hxi:(x:Int)<(n:Int):=by omega
 have hx00:(0:Int)<=(x:Int):=by omega
 have b1:Below w.heap.size w (w.alloc (.cells #[.int .i64 20,.int .i64 p.a,.int .i64 0,.int .i64 p.c,.slice la m lc,.slice na q nc,.int .u64 z,.int .i64 p.pos] 34)):=(yg9 _ _).alloc (yf9 _) _;clear hB;have hB:=heap_alloc_new w (.cells #[.int .i64 20,.int .i64 p.a,.int .i64 0,.int .i64 p.c,.slice la m lc,.slice na q nc,.int .u64 z,.int .i64 p.pos] 34);obtain⟨X,hX⟩:∃ X,w.heap.size=X:=⟨_,rfl⟩;obtain⟨W1,hW1⟩:∃ W,w.alloc (.cells #[.int .i64 20,.int .i64 p.a,.int .i64 0,.int .i64 p.c,.slice la m lc,.slice na q nc,.int .u64 z,.int .i64 p.pos] 34)=W:=⟨_,rfl⟩;rw[hW1]at b1 hB;rw[hX]at hB;have r1:=h.below b1;have t1:=h.step b1;clear h hT hn hx hR hIH NA NA0 hm hq hz htv hS hsz hfa xf x1 x2 x3 x4 x5 x6 x8 x9 x10 x11 b1;by_cases hf0:fa=0
 ·have hf0':(fa==0)=true:=by rw[beq_iff_eq];exact hf0
  subst hf0;go_enter Tryz.func86,Tryz.ntmps86;go_upto_region 2 with fail;try simp only[hW1,hX]
  clear hW1 hX n0 n1 n2 n3 n4 n5 n6 n7 x0 x7;obtain⟨y0,y1,y2,y3,y4,y5,y6,y7⟩:=z8C hB;have HB:Hid (W1.heap[X]?=some (.cells #[.int .i64 20,.int .i64 p.a,.int .i64 0,.int .i64 p.c,.slice la m lc,.slice na q nc,.int .u64 z,.int .i64 p.pos] 34)/\za9 w0.heap.size F w W1/\za8 w0 F n c tv b s k W1):=⟨hB,t1,r1⟩;obtain⟨t,ht⟩:∃ t,p.names=[t]:=HNAME;have hq1:q=1:=by rw[←HT.out.2.2.2.2.1,ht];rfl
  obtain⟨gl,hgl,hct⟩:=HNM.out W1 r1.rows.low 0 t (by rw[ht];rfl)
  subst hgl;subst hq1;have hkA:p.a∈z8o p:=by unfold z8o z5V;rw[if_pos (by omega)];simp
  have hsA:sz ns p.a<=sumZ (sz ns) (z8o p):=by have:=z8w (f:=sz ns) hkA;omega
  have hSS:=HSZ.out;obtain⟨e0,e1⟩:=HT.out.2.2.2.1.early x p HT.out.2.2.1 _ hkA;have cA:=HIH.out p.a e0 e1 _ b s k W1 r1 (by omega)
  clear hB r1 t1;go_wp2_with fail;refine cA.mono ?_;rintro e w5 ⟨rfl,s5,k5,r5,t5,l5,P5⟩;have hB5:=t5.nodes X _ HB.out.1;obtain⟨gl',hgl',hct5⟩:=HNM.out w5 r5.rows.low 0 t (by rw[ht];rfl)
  injection hgl' with hgl';injection hgl' with hgl';subst hgl';have HT5:Hid (za9 w0.heap.size F w w5/\s5.rows.length=s.rows.length/\s.P<=s5.P):=⟨HB.out.2.1.trans t5,l5,P5⟩;have cT:Calls Tryz.prog 85 #[.pointer (some ⟨c,0,none⟩),.string t,.int .i64 (x:Int)] w5 fun e w'=>e=.returned (.tuple #[])/\zax w0 F n c tv (b+4*sz ns p.a+1) s5 w5 w':=by
   have hr:=r5;rw[←HTV.out]at hr ⊢;exact zaz t HT.out.1 HT.out.2.1 hr hxn (by omega)
  clear y0 y1 y2 y3 y4 y5 y6 y7 hct r5 t5 l5 P5;obtain⟨y0,y1,y2,y3,y4,y5,y6,y7⟩:=z8C hB5;have HB5:Hid _:=hB5;clear hB5;clear cA;go_wp2_with fail;refine cT.mono ?_;rintro e w6 ⟨rfl,hm6⟩;have HE:Hid (zax w0 F n c tv (b+4*S) s w w6):=hm6.lift HT5.out.1 HT5.out.2.1 HT5.out.2.2 (by omega) hb
  clear hm6 cT;go_wp2;go_returns;exact⟨rfl,HE.out⟩
 ·have hf0':(fa==0)=false:=by rw[yc9];exact hf0
  have HE:Hid (zax w0 F n c tv (b+4*S) s w w):=H0.out.moved (by omega) hb
  clear r1 t1 hB hW1 hX;go_enter Tryz.func86,Tryz.ntmps86;go_wp2;go_returns;exact⟨rfl,HE.out⟩
theorem zaW{w0:World}{n c g tc Bt x:Nat}{ns:List z4Q}{p:z4Q}(hR:z88 ns)(hT:z8G w0 Bt (.slice (some ⟨g,0,none⟩) n tc) ns)(hn:ns.length=n)(hx:ns[x]?=some p)(hk:p.kind=20)(hIH:∀ y:Int,0<=y->y<(x:Int)->zaF w0 n c (.slice (some ⟨g,0,none⟩) n tc) ns y)(HNAME:∃ t,p.names=[t])(hB:p.b=1):zaF w0 n c (.slice (some ⟨g,0,none⟩) n tc) ns (x:Int):=by
 intro F b s k w h hb;have hsz:=hR.sz_eq hx;have hxn:x<n:=by have:=(List.getElem?_eq_some_iff.1 hx).1;omega
 obtain⟨lv,nv,NA0⟩:=z9L hT hx;obtain⟨la,lc,rfl⟩:=z8A NA0.list;obtain⟨na,nc,rfl⟩:=z8A NA0.names;have NA:=NA0.below h.rows.low;have hnn:=h.rows.hn;have HNM:Hid (∀ W,Below w0.heap.size w0 W->∀(i:Nat) (t:ByteArray),p.names[i]?=some t->∃ gl,na=some ⟨gl,0,none⟩/\W.cell? ⟨gl,i,none⟩=some (.string t)):=fun W hW i t hi=>z9N NA0.names hW (by rw[List.getElem?_map,hi];rfl)
 obtain⟨m,hm⟩:∃ m,p.list.length=m:=⟨_,rfl⟩;obtain⟨q,hq⟩:∃ q,p.names.length=q:=⟨_,rfl⟩;obtain⟨z,hz⟩:∃ z:Int,(p.num:Int)=z:=⟨_,rfl⟩;have n0:=NA.c0;have n1:=NA.c1;have n2:=NA.c2;have n3:=NA.c3;have n4:=NA.c4;have n5:=NA.c5;have n6:=NA.c6;have n7:=NA.c7;rw[hk]at n0;rw[hB]at n2;rw[hm]at n4;rw[hq]at n5;rw[hz]at n6;have HT:Hid (z8G w0 Bt (.slice (some ⟨g,0,none⟩) n tc) ns/\ns.length=n/\ns[x]?=some p/\z88 ns/\p.names.length=q/\p.list.length=m):=⟨hT,hn,hx,hR,hq,hm⟩;obtain⟨tv,htv⟩:∃ tv,Value.slice (some ⟨g,0,none⟩) n tc=tv:=⟨_,rfl⟩;have HTV:Hid (Value.slice (some ⟨g,0,none⟩) n tc=tv):=htv;rw[htv]at h hIH ⊢;have HIH:Hid (∀ y:Int,0<=y->y<(x:Int)->zaF w0 n c tv ns y):=hIH;obtain⟨S,hS⟩:∃ S,sz ns (x:Int)=S:=⟨_,rfl⟩;have HSZ:Hid (S=1+sumZ (sz ns) (z8o p)):=by rw[←hS];exact hsz
 rw[hS]at hb ⊢;have hS1:1<=S:=by have:=HSZ.out;omega
 have H0:Hid (za8 w0 F n c tv b s k w):=h;obtain⟨x0,x1,x2,x3,x4,x5,x6,x7,x8,x9,x10,x11,xf⟩:=h.cells;rw[←HTV.out]at x0;obtain⟨fa,hfa⟩:∃ y,k.fault=y:=⟨_,rfl⟩;rw[hfa]at x7;have hxi:(x:Int)<(n:Int):=by omega
 have hx00:(0:Int)<=(x:Int):=by omega
 have b1:Below w.heap.size w (w.alloc (.cells #[.int .i64 20,.int .i64 p.a,.int .i64 1,.int .i64 p.c,.slice la m lc,.slice na q nc,.int .u64 z,.int .i64 p.pos] 34)):=(yg9 _ _).alloc (yf9 _) _;clear hB;have hB:=heap_alloc_new w (.cells #[.int .i64 20,.int .i64 p.a,.int .i64 1,.int .i64 p.c,.slice la m lc,.slice na q nc,.int .u64 z,.int .i64 p.pos] 34);obtain⟨X,hX⟩:∃ X,w.heap.size=X:=⟨_,rfl⟩;obtain⟨W1,hW1⟩:∃ W,w.alloc (.cells #[.int .i64 20,.int .i64 p.a,.int .i64 1,.int .i64 p.c,.slice la m lc,.slice na q nc,.int .u64 z,.int .i64 p.pos] 34)=W:=⟨_,rfl⟩;rw[hW1]at b1 hB;rw[hX]at hB;have r1:=h.below b1;have t1:=h.step b1;clear h hT hn hx hR hIH NA NA0 hm hq hz htv hS hsz hfa xf x1 x2 x3 x4 x5 x6 x8 x9 x10 x11 b1;by_cases hf0:fa=0
 ·have hf0':(fa==0)=true:=by rw[beq_iff_eq];exact hf0
  subst hf0;go_enter Tryz.func86,Tryz.ntmps86;go_upto_region 2 with fail;try simp only[hW1,hX]
  clear hW1 hX n0 n1 n2 n3 n4 n5 n6 n7 x0 x7;obtain⟨y0,y1,y2,y3,y4,y5,y6,y7⟩:=z8C hB;have HB:Hid (W1.heap[X]?=some (.cells #[.int .i64 20,.int .i64 p.a,.int .i64 1,.int .i64 p.c,.slice la m lc,.slice na q nc,.int .u64 z,.int .i64 p.pos] 34)/\za9 w0.heap.size F w W1/\za8 w0 F n c tv b s k W1):=⟨hB,t1,r1⟩;obtain⟨t,ht⟩:∃ t,p.names=[t]:=HNAME;have hq1:q=1:=by rw[←HT.out.2.2.2.2.1,ht];rfl
  obtain⟨gl,hgl,hct⟩:=HNM.out W1 r1.rows.low 0 t (by rw[ht];rfl)
  subst hgl;subst hq1;have hkA:p.a∈z8o p:=by unfold z8o z5V;rw[if_pos (by omega)];simp
  have hsA:sz ns p.a<=sumZ (sz ns) (z8o p):=by have:=z8w (f:=sz ns) hkA;omega
  have hSS:=HSZ.out;obtain⟨e0,e1⟩:=HT.out.2.2.2.1.early x p HT.out.2.2.1 _ hkA;have cT:Calls Tryz.prog 85 #[.pointer (some ⟨c,0,none⟩),.string t,.int .i64 (x:Int)] W1 fun e w'=>e=.returned (.tuple #[])/\zax w0 F n c tv (b+1) s W1 w':=by
   have hr:=r1;rw[←HTV.out]at hr ⊢;exact zaz t HT.out.1 HT.out.2.1 hr hxn (by omega)
  clear hB r1 t1;go_wp2_with fail;refine cT.mono ?_;rintro e w5 ⟨rfl,s5,k5,r5,t5,l5,P5⟩;have hB5:=t5.nodes X _ HB.out.1;obtain⟨gl',hgl',hct5⟩:=HNM.out w5 r5.rows.low 0 t (by rw[ht];rfl)
  injection hgl' with hgl';injection hgl' with hgl';subst hgl';have HT5:Hid (za9 w0.heap.size F w w5/\s5.rows.length=s.rows.length/\s.P<=s5.P):=⟨HB.out.2.1.trans t5,l5,P5⟩;have cA:=HIH.out p.a e0 e1 _ _ s5 k5 w5 r5 (by omega)
  clear y0 y1 y2 y3 y4 y5 y6 y7 hct r5 t5 l5 P5;obtain⟨y0,y1,y2,y3,y4,y5,y6,y7⟩:=z8C hB5;have HB5:Hid _:=hB5;clear hB5;clear cT;go_wp2_with fail;refine cA.mono ?_;rintro e w6 ⟨rfl,hm6⟩;have hB6:w6.heap[X]?=_:=(Exists.choose_spec (Exists.choose_spec hm6)).2.1.nodes X _ HB5.out;obtain⟨z0,z1,z2,z3,z4,z5,z6,z7⟩:=z8C hB6;have HE:Hid (zax w0 F n c tv (b+4*S) s w w6):=hm6.lift HT5.out.1 HT5.out.2.1 HT5.out.2.2 (by omega) hb
  clear hm6 cA hB6;go_wp2;go_returns;exact⟨rfl,HE.out⟩
 ·have hf0':(fa==0)=false:=by rw[yc9];exact hf0
  have HE:Hid (zax w0 F n c tv (b+4*S) s w w):=H0.out.moved (by omega) hb
  clear r1 t1 hB hW1 hX;go_enter Tryz.func86,Tryz.ntmps86;go_wp2;go_returns;exact⟨rfl,HE.out⟩
