/- Part 24. -/
import Derived.Test.YtdbekjiognpgnaaGreatPaw
set_option maxHeartbeats 16000000
set_option maxRecDepth 100000
set_option linter.unusedVariables false
namespace Go.Proofs.YtdbekjiognpgnaaGreat
open Go.RowKit Go.Sort
theorem Tryz.infoPlace:(Tryz.prog.info? 166).map (fun i=>(i.zero,i.size,i.bytes))=some (some (.agg #[.int .i64 0,.string ⟨#[]⟩,.bool false,.int .i64 0]),4,40):=by kernel_rfl
theorem Tryz.infoName12:(Tryz.prog.info? 164).map (fun i=>(i.zero,i.size,i.bytes))=some (some (.agg #[.string ⟨#[]⟩,.int .i64 0,.int .i64 0,.int .i64 0]),4,40):=by kernel_rfl
def zax(w0:World)(F:Nat->Prop)(n c:Nat)(tv:Value)(b:Nat)(s:RS)(w w':World):Prop:=∃ s' k',za8 w0 F n c tv b s' k' w'/\za9 w0.heap.size F w w'/\s'.rows.length=s.rows.length/\s.P<=s'.P
theorem zay{a0 a1 a2 a3:Value}(h0:a0.oneCell'=true)(h1:a1.oneCell'=true)(h2:a2.oneCell'=true)(h3:a3.oneCell'=true):∀ u∈[a0,a1,a2,a3],u.oneCell'=true:=by
 intro u hu;simp only[List.mem_cons,List.not_mem_nil,or_false]at hu;rcases hu with rfl|rfl|rfl|rfl<;>assumption
theorem zaz{F:Nat->Prop}{w0 w:World}{n c b g tc Bt j:Nat}{ns:List z4Q}{s:RS}{k:RK}(name:ByteArray)(hT:z8G w0 Bt (.slice (some ⟨g,0,none⟩) n tc) ns)(hn:ns.length=n)(h:za8 w0 F n c (.slice (some ⟨g,0,none⟩) n tc) b s k w)(hj:j<n)(hb:b+1<=10000):
  Calls Tryz.prog 85 #[.pointer (some ⟨c,0,none⟩),.string name,.int .i64 (j:Int)] w fun e w'=>e=.returned (.tuple #[])/\zax w0 F n c (.slice (some ⟨g,0,none⟩) n tc) (b+1) s w w':=by
 obtain⟨tv,htv⟩:∃ tv,Value.slice (some ⟨g,0,none⟩) n tc=tv:=⟨_,rfl⟩;have HTV:Hid (Value.slice (some ⟨g,0,none⟩) n tc=tv):=htv;obtain⟨p,hp⟩:∃ p,ns[j]?=some p:=⟨_,yd9 (by omega)⟩
 have HKJ:Hid (∀ W,Below w0.heap.size w0 W->W.cell? ⟨g,j*8,none⟩=some (.int .i64 p.kind)):=fun W hW=>by
  obtain⟨_,_,NQ⟩:=z9L hT hp;exact(NQ.below hW).c0
 rw[htv]at h ⊢;have hK:=h.rows.hK;have hP:=h.rows.hP;have hnn:=h.rows.hn;obtain⟨⟨pa,pc,hpv⟩,⟨og,oc,hov⟩,⟨qa,qc,hqv⟩,_,_,_⟩:=h.rows.shapes;have H0:Hid (za8 w0 F n c tv b s k w):=h;have HQ:Hid (∀ W,za5 w0 F n b s W->∀ i,i<s.K->∃(gq:Nat) (t:ByteArray) (pp:Nat) (f bl:Int),qa=some ⟨gq,0,none⟩/\W.cell? ⟨gq,i*4,none⟩=some (.string t)/\W.cell? ⟨gq,i*4+3,none⟩=some (.int .i64 bl)):=fun W hW i hi=>by
  obtain⟨xs,a1,a2⟩:=hW.opens;rw[hqv]at a1;obtain⟨t,pp,f,bl,q1,q2,q3,q4,q5⟩:=a2 i hi;obtain⟨gq,e1,c1⟩:=zab a1 q1;obtain⟨gq',e2,c2⟩:=zab a1 q4;rw[e1]at e2;injection e2 with e2;injection e2 with e2;subst e2;exact⟨gq,t,pp,f,bl,e1,c1,c2⟩
 obtain⟨K,hKK⟩:∃ K,s.K=K:=⟨_,rfl⟩;have HKK:Hid (s.K=K):=hKK;have HQV:Hid (s.qv=.slice qa K qc):=by rw[←hKK];exact hqv
 rw[hKK]at hK;clear h hpv hov hqv hp hT htv hKK;go_enter Tryz.func85,Tryz.ntmps85;go_upto_region 1 with fail;go_loopw [6] (fun i wr=>∃(q:Nat) (k':RK),i=.int .i64 (q:Int)/\q<=K/\za8 w0 F n c tv b s k' wr/\za9 w0.heap.size F w wr) (fun i _=>K-(intOf i).toNat)
 case atStart=>exact⟨0,k,rfl,yj9 _,H0.out,za9.refl _ _ _⟩
 case round=>
  clear H0;obtain⟨q,k',rfl,hq,hrun,hstep⟩:=hrel;have HR:Hid (za8 w0 F n c tv b s k' wr/\za9 w0.heap.size F w wr):=⟨hrun,hstep⟩;obtain⟨x0,x1,x2,x3,x4,x5,x6,x7,x8,x9,x10,x11,xf⟩:=hrun.cells;rw[HQV.out]at x3;obtain⟨fa,hfa⟩:∃ x,k'.fault=x:=⟨_,rfl⟩;obtain⟨bk,hbk⟩:∃ x,k'.block=x:=⟨_,rfl⟩;have HFA:Hid (k'.fault=fa/\k'.block=bk):=⟨hfa,hbk⟩;rw[hfa]at x7;rw[hbk]at x4;clear hstep hfa hbk;by_cases hlt:q<K
  ·obtain⟨gq,t,pp,f,bl,rfl,y0,y3⟩:=HQ.out wr hrun.rows q (by have:=HKK.out;omega)
   have hqi:(q:Int)<(K:Int):=by omega
   have hq0:(0:Int)<=(q:Int):=by omega
   have hf7:=xf 7;have hf8:=xf 8;clear hrun xf;by_cases hf0:fa=0
   ·have hf0':(fa==0)=true:=by rw[beq_iff_eq];exact hf0
    clear hf0;by_cases hnm:t=name
    ·subst hnm;have hnm':(t.toList==t.toList)=true:=by rw[beq_iff_eq]
     by_cases hbl:bl=bk
     ·have hbl':(bl==bk)=true:=by rw[beq_iff_eq];exact hbl
      have HS:Hid (∀ m,za8 w0 F n c tv b s { k' with fault:=2,pos:=(j:Int) } (((wr.drewN m).setCell ⟨c,7,none⟩ (.int .i64 2)).setCell ⟨c,8,none⟩ (.int .i64 (j:Int)))/\za9 w0.heap.size F w (((wr.drewN m).setCell ⟨c,7,none⟩ (.int .i64 2)).setCell ⟨c,8,none⟩ (.int .i64 (j:Int)))):=fun m=>by
       have r0:=HR.out.1.below (below_drewN (yg9 _ _) m);have t0:=HR.out.2.trans (HR.out.1.step (below_drewN (yg9 _ _) m));obtain⟨r1,t1⟩:=zaa (j:=7) (v:=.int .i64 2) (s':=s) (k':={ k' with fault:=2 }) r0.blk r0.hc r0.rows rfl;obtain⟨r2,t2⟩:=zaa (j:=8) (v:=.int .i64 (j:Int)) (s':=s) (k':={ k' with fault:=2,pos:=(j:Int) }) r1.blk r1.hc r1.rows rfl;exact⟨r2,(t0.trans t1).trans t2⟩
      clear hbl;go_wp2;go_quiet (fail)
      go_wp2_with fail;go_roundw
      case rel=>exact⟨q+1,{ k' with fault:=2,pos:=(j:Int) },by go_num,by omega,(HS.out _).1,(HS.out _).2⟩
      case measure=>simp[intOf];omega
     ·have hbl':(bl==bk)=false:=by rw[yc9];exact hbl
      clear hbl;go_wp2;go_quiet (fail)
      go_wp2_with fail;go_roundw
      case rel=>exact⟨q+1,k',by go_num,by omega,HR.out.1.below (below_drewN (yg9 _ _) _),HR.out.2.trans (HR.out.1.step (below_drewN (yg9 _ _) _))⟩
      case measure=>simp[intOf];omega
    ·have hnm':(t.toList==name.toList)=false:=by
      rw[yc9,ByteArray.toList_eq,ByteArray.toList_eq];exact fun e=>hnm (z93 e)
     clear hnm;go_wp2;go_quiet (fail)
     go_wp2_with fail;go_roundw
     case rel=>exact⟨q+1,k',by go_num,by omega,HR.out.1.below (below_drewN (yg9 _ _) _),HR.out.2.trans (HR.out.1.step (below_drewN (yg9 _ _) _))⟩
     case measure=>simp[intOf];omega
   ·have hf0':(fa==0)=false:=by rw[yc9];exact hf0
    clear hf0;go_wp2;go_quiet (fail)
    go_wp2_with fail;go_roundw
    case rel=>exact⟨q+1,k',by go_num,by omega,HR.out.1.below (below_drewN (yg9 _ _) _),HR.out.2.trans (HR.out.1.step (below_drewN (yg9 _ _) _))⟩
    case measure=>simp[intOf];omega
  ·have hge:decide ((q:Int)<(K:Int))=false:=ya9 (by omega)
   have hge':decide (q<K)=false:=ya9 (by omega)
   by_cases hf0:fa=0
   ·have hf0':(fa==0)=true:=by rw[beq_iff_eq];exact hf0
    subst hf0;obtain⟨xs,ho1,ho2⟩:=hrun.rows.places;obtain⟨i0,hi,hz0,hz1,hz2⟩:=z8y Tryz.infoPlace;obtain⟨fn,hfn⟩:∃ x,k'.fn=x:=⟨_,rfl⟩;rw[hfn]at x6;have hsz:=hrun.size;obtain⟨P,hPP⟩:∃ P,s.P=P:=⟨_,rfl⟩;rw[hPP]at ho1 hP;have h63:P+1<=maxLen:=by unfold maxLen;omega
    have hby:(P+1)*40<=140737488355328:=by omega
    have hone:=zay (a0:=.int .i64 fn) (a1:=.string name) (a2:=.bool false) (a3:=.int .i64 (j:Int)) rfl rfl rfl rfl;have HC1:Hid (∀(X w5:World),X.grownBy w5 s.pv.ownBlock->Below wr.heap.size wr X->w5.cell? ⟨c,1,none⟩=some s.pv/\w5.frozen? ⟨c,1,none⟩=false):=fun X w5 hg hbX=>by
     have r:=HR.out.1.below hbX;obtain⟨ys,hoX,_⟩:=r.rows.places;have e:w5.heap[c]?=X.heap[c]?:=hg.block c r.lt (fun e=>by
      rcases za6 hoX r.blk (by decide)with k|k
      ·rw[k]at e;cases e
      ·exact k e.symm)
     have e2:=e.trans r.blk;refine⟨?_,z9v e2⟩;unfold runC at e2;rw[cell_of_row _ _ _ _ _ _ e2];rfl
    have c1a:∀ o,(wr.alloc o).cell? ⟨c,1,none⟩=some s.pv:=fun o=>(((yg9 wr.heap.size wr).alloc (yf9 _) o).cell (p:=⟨c,1,none⟩) hrun.lt).trans x1;clear hrun;go_upto_region 7 with fail;go_cut [] (fun wx=>∃ v',za8 w0 F n c tv (b+1) { s with P:=s.P+1,pv:=v' } k' wx/\za9 w0.heap.size F w wx)
    case first=>
     have HPL:Hid (∀(X w5:World) (v':Value),X.grownBy w5 s.pv.ownBlock->Below wr.heap.size wr X->w5.ownsRow w0.heap.size 166 4 v' (P+1) (xs++[.int .i64 fn,.string name,.bool false,.int .i64 (j:Int)])->za8 w0 F n c tv (b+1) { s with P:=s.P+1,pv:=v' } k' (w5.setCell ⟨c,1,none⟩ v')/\za9 w0.heap.size F w (w5.setCell ⟨c,1,none⟩ v')):=fun X w5 v' hg hbX ho5=>by
      have r:=HR.out.1.below hbX;have hoX:=z8B ho1 hbX;rw[←hPP]at hoX ho5;have rw5:=r.rows.place hoX ho2 hg ho5 hone hb;have e:w5.heap[c]?=X.heap[c]?:=hg.block c r.lt (fun e=>by
       rcases za6 hoX r.blk (by decide)with k|k
       ·rw[k]at e;cases e
       ·exact k e.symm)
      obtain⟨r6,t6⟩:=zaa (j:=1) (v:=v') (s':={ s with P:=s.P+1,pv:=v' }) (k':=k') (e.trans r.blk) r.hc rw5 rfl;exact⟨r6,((HR.out.2.trans (HR.out.1.step hbX)).trans (za9.row (B:=0) hoX hg r.size (by decide))).trans t6⟩
     go_region_law (refine z9e rfl _ _ 40 rfl w0.heap.size 166 i0 _ 4 40 Tryz.underlying40 hi hz0 hz1 hz2 rfl (by decide) _ P xs rfl (by first|exact ho1.alloc _|exact ho1.drew.alloc _|exact(ho1.alloc _).drew) _ 1 1 [.int .i64 fn,.string name,.bool false,.int .i64 (j:Int)] rfl rfl (by first|exact zas rfl|(intro j u hj;exact zas (w:=wr.drew) rfl j u hj)) hone h63 hby (by simp;omega) ?_;intro v' w5 ho5 hg5;obtain⟨va,vc,rfl⟩:=z8A ho5;have HP5:=HPL.out _ w5 _ hg5 (by first|exact Below.alloc (yg9 _ _) (yf9 _) _|exact((yg9 _ _).alloc (yf9 _) _).drew|exact(yg9 _ _).drew.alloc (yf9 _) _) ho5;have HP6:Hid _:=HP5;have hcc:=HC1.out _ _ hg5 (by first|exact Below.alloc (yg9 _ _) (yf9 _) _|exact((yg9 _ _).alloc (yf9 _) _).drew|exact(yg9 _ _).drew.alloc (yf9 _) _);obtain⟨cc3,ccf⟩:=hcc;clear HP5)
     all_goals (clear ho1 ho2 hg5 ho5 cc3 ccf HPL HC1;go_wp2_with fail;go_meet;case rel=>exact⟨_,HP6.out.1,HP6.out.2⟩)
    case rest=>
     obtain⟨v',hrun,hstep⟩:=hcut;clear HR HQ ho1 ho2 x0 x1 x2 x3 x4 x5 x6 x7 x8 x9 x10 x11 xf c1a HC1 hone h63 hby hge hge';have HR:Hid (za8 w0 F n c tv (b+1) { s with P:=s.P+1,pv:=v' } k' wc/\za9 w0.heap.size F w wc):=⟨hrun,hstep⟩;obtain⟨x0,x1,x2,x3,x4,x5,x6,x7,x8,x9,x10,x11,xf⟩:=hrun.cells;obtain⟨⟨pa',pc',hpv'⟩,⟨og',oc',hov'⟩,_,_,_,_⟩:=hrun.rows.shapes;obtain⟨xsq,hoq,hokq⟩:=hrun.rows.opens;have x3':wc.cell? ⟨c,3,none⟩=some s.qv:=x3;have x1':wc.cell? ⟨c,1,none⟩=some v':=x1;have hoq':wc.ownsRow w0.heap.size 164 4 s.qv s.K xsq:=hoq;have hpv2:v'=.slice pa' (s.P+1) pc':=hpv';rw[HQV.out]at x3';rw[HQV.out,HKK.out]at hoq';rw[hpv2,hPP]at x1';rw[hfn]at x6;rw[HFA.out.2]at x4;have hsz':=hrun.size;have hclt:=hrun.lt;obtain⟨i1,hj1,hj2,hj3,hj4⟩:=z8y Tryz.infoName12;have hlq:xsq.length=K*4:=hoq'.1;have hokq':za3 xsq K (s.P+1):=by have:=hokq;rw[←HKK.out];exact this
     have honeq:=zav hokq' hlq;have hone:=zay (a0:=.string name) (a1:=.int .i64 (P:Int)) (a2:=.int .i64 fn) (a3:=.int .i64 bk) rfl rfl rfl rfl;have h63:K<=maxLen:=by unfold maxLen;omega
     have hby:K*40<=140737488355328:=by omega
     have h63':K+1<=maxLen:=by unfold maxLen;omega
     have hby':(K+1)*40<=140737488355328:=by omega
     have hPm:((P+1:Nat):Int)-1=(P:Int):=by omega
     have hPi:(P:Int)<=10000:=by omega
     have hPz:(0:Int)<=(P:Int):=by omega
     have hPw:IntKind.i64.wrap (P:Int)=(P:Int):=zap hPz (by omega)
     have c3a:∀ o,(wc.alloc o).cell? ⟨c,3,none⟩=some (.slice qa K qc):=fun o=>(((yg9 wc.heap.size wc).alloc (yf9 _) o).cell (p:=⟨c,3,none⟩) hclt).trans x3';have c1a:∀ o,(wc.alloc o).cell? ⟨c,1,none⟩=some (.slice pa' (P+1) pc'):=fun o=>(((yg9 wc.heap.size wc).alloc (yf9 _) o).cell (p:=⟨c,1,none⟩) hclt).trans x1';have c6a:∀ o,(wc.alloc o).cell? ⟨c,6,none⟩=some (.int .i64 fn):=fun o=>(((yg9 wc.heap.size wc).alloc (yf9 _) o).cell (p:=⟨c,6,none⟩) hclt).trans x6;have c4a:∀ o,(wc.alloc o).cell? ⟨c,4,none⟩=some (.int .i64 bk):=fun o=>(((yg9 wc.heap.size wc).alloc (yf9 _) o).cell (p:=⟨c,4,none⟩) hclt).trans x4;have bA:∀ o,Below wc.heap.size wc (wc.drew.alloc o):=fun o=>(yg9 _ _).drew.alloc (yf9 _) o;have bB:∀ o o',Below wc.heap.size wc ((wc.drew.alloc o).alloc o'):=fun o o'=>(bA o).alloc (by simp) o'
     clear hrun hoq hokq xf x0 x2 x5 x7 x8 x9 x10 x11 hstep x3 x1;go_upto_region 8 with fail;go_cut [] (fun wx=>∃ v2,za8 w0 F n c tv (b+1) { s with P:=s.P+1,pv:=v',K:=s.K+1,qv:=v2 } k' wx/\za9 w0.heap.size F w wx)
     case first=>
      have HKEEP:Hid (∀ W,Below wc.heap.size wc W->W.cell? ⟨c,1,none⟩=some (.slice pa' (P+1) pc')/\W.cell? ⟨c,6,none⟩=some (.int .i64 fn)/\W.cell? ⟨c,4,none⟩=some (.int .i64 bk)/\W.cell? ⟨c,3,none⟩=some (.slice qa K qc)):=fun W hW=>⟨(hW.cell (p:=⟨c,1,none⟩) hclt).trans x1',(hW.cell (p:=⟨c,6,none⟩) hclt).trans x6,(hW.cell (p:=⟨c,4,none⟩) hclt).trans x4,(hW.cell (p:=⟨c,3,none⟩) hclt).trans x3'⟩;have HC3:Hid (∀ W,Below wc.heap.size wc W->W.cell? ⟨c,3,none⟩=some (.slice qa K qc)/\W.frozen? ⟨c,3,none⟩=false):=fun W hW=>⟨(hW.cell (p:=⟨c,3,none⟩) hclt).trans x3',z9v ((hW.block c hclt).trans HR.out.1.blk)⟩;have HPL:Hid (∀(w5:World) (v2:Value),Below wc.heap.size wc w5->w5.ownsRow wc.heap.size 164 4 v2 (K+1) (xsq++[.string name,.int .i64 (P:Int),.int .i64 fn,.int .i64 bk])->za8 w0 F n c tv (b+1) { s with P:=s.P+1,pv:=v',K:=s.K+1,qv:=v2 } k' (w5.setCell ⟨c,3,none⟩ v2)/\za9 w0.heap.size F w (w5.setCell ⟨c,3,none⟩ v2)):=fun w5 v2 hb5 ho5=>by
       have r:=HR.out.1.below hb5;have hk:=HKK.out;have rw5:=r.rows.reopen (qv':=v2) (K':=s.K+1) (xs:=xsq++[.string name,.int .i64 (P:Int),.int .i64 fn,.int .i64 bk]) (z8E ho5 hsz' |> fun h=>by rw[hk];exact h) (by rw[hk];exact zaw hokq' hlq (by show P<s.P+1;omega)) (by omega)
       obtain⟨r6,t6⟩:=zaa (j:=3) (v:=v2) (s':={ s with P:=s.P+1,pv:=v',K:=s.K+1,qv:=v2 }) (k':=k') r.blk r.hc rw5 rfl;exact⟨r6,(HR.out.2.trans (HR.out.1.step hb5)).trans t6⟩
      refine zam (fun W=>W.cell? ⟨c,1,none⟩=some (.slice pa' (P+1) pc')/\W.cell? ⟨c,6,none⟩=some (.int .i64 fn)/\W.cell? ⟨c,4,none⟩=some (.int .i64 bk)/\W.cell? ⟨c,3,none⟩=some (.slice qa K qc)) 27 (by kernel_rfl) (HKEEP.out _ (yg9 _ _).drew) (fun hS=>?_)
      refine zai 0 (v:=?_) rfl (by kernel_rfl) (by kernel_rfl) (by kernel_rfl) (by kernel_rfl) (fun _ _ _ h=>h) (Or.inl ⟨by rfl,?_⟩) (by assumption) ?_
      rotate_left 1
      ·(intro w hSw;obtain⟨s1,s2,s3,s4⟩:=hSw;go_simp;try with_reducible rfl)
      try simp only[Act.put]
      refine zai 2 (v:=?_) rfl (by kernel_rfl) (by kernel_rfl) (by kernel_rfl) (by kernel_rfl) (fun _ _ _ h=>h) (Or.inl ⟨by rfl,?_⟩) (by assumption) ?_
      rotate_left 1
      ·(intro w hSw;obtain⟨s1,s2,s3,s4⟩:=hSw;go_simp;try with_reducible rfl)
      try simp only[Act.put]
      refine zai 3 (v:=?_) rfl (by kernel_rfl) (by kernel_rfl) (by kernel_rfl) (by kernel_rfl) (fun _ _ _ h=>h) (Or.inl ⟨by rfl,?_⟩) (by assumption) ?_
      rotate_left 1
      ·(intro w hSw;obtain⟨s1,s2,s3,s4⟩:=hSw;go_simp;try with_reducible rfl)
      try simp only[Act.put]
      refine zai 4 (v:=?_) rfl (by kernel_rfl) (by kernel_rfl) (by kernel_rfl) (by kernel_rfl) (fun _ _ _ h=>h) (Or.inl ⟨by rfl,?_⟩) (by assumption) ?_
      rotate_left 1
      ·(intro w hSw;obtain⟨s1,s2,s3,s4⟩:=hSw;go_simp;try with_reducible rfl)
      try simp only[Act.put]
      refine zai 5 (v:=?_) rfl (by kernel_rfl) (by kernel_rfl) (by kernel_rfl) (by kernel_rfl) (fun _ _ _ h=>h) (Or.inl ⟨by rfl,?_⟩) (by assumption) ?_
      rotate_left 1
      ·(intro w hSw;obtain⟨s1,s2,s3,s4⟩:=hSw;go_simp;try with_reducible rfl)
      try simp only[Act.put]
      refine zai 7 (v:=?_) rfl (by kernel_rfl) (by kernel_rfl) (by kernel_rfl) (by kernel_rfl) (fun _ _ _ h=>h) (Or.inl ⟨by rfl,?_⟩) (by assumption) ?_
      rotate_left 1
      ·(intro w hSw;obtain⟨s1,s2,s3,s4⟩:=hSw;go_simp;try with_reducible rfl)
      try simp only[Act.put]
      refine zai 8 (v:=?_) rfl (by kernel_rfl) (by kernel_rfl) (by kernel_rfl) (by kernel_rfl) (fun _ _ _ h=>h) (Or.inl ⟨by rfl,?_⟩) (by assumption) ?_
      rotate_left 1
      ·(intro w hSw;obtain⟨s1,s2,s3,s4⟩:=hSw;go_simp;try with_reducible rfl)
      try simp only[Act.put]
      refine zai 9 (v:=?_) rfl (by kernel_rfl) (by kernel_rfl) (by kernel_rfl) (by kernel_rfl) (fun _ _ _ h=>h) (Or.inl ⟨by rfl,?_⟩) (by assumption) ?_
      rotate_left 1
      ·(intro w hSw;obtain⟨s1,s2,s3,s4⟩:=hSw;go_simp;try with_reducible rfl)
      try simp only[Act.put]
      refine zai 10 (v:=?_) rfl (by kernel_rfl) (by kernel_rfl) (by kernel_rfl) (by kernel_rfl) (fun _ _ _ h=>h) (Or.inl ⟨by rfl,?_⟩) (by assumption) ?_
      rotate_left 1
      ·(intro w hSw;obtain⟨s1,s2,s3,s4⟩:=hSw;go_simp;try with_reducible rfl)
      try simp only[Act.put]
      refine zai 11 (v:=?_) rfl (by kernel_rfl) (by kernel_rfl) (by kernel_rfl) (by kernel_rfl) (fun _ _ _ h=>h) (Or.inl ⟨by rfl,?_⟩) (by assumption) ?_
      rotate_left 1
      ·(intro w hSw;obtain⟨s1,s2,s3,s4⟩:=hSw;go_simp;try with_reducible rfl)
      try simp only[Act.put]
      refine zai 12 (v:=?_) rfl (by kernel_rfl) (by kernel_rfl) (by kernel_rfl) (by kernel_rfl) (fun _ _ _ h=>h) (Or.inl ⟨by rfl,?_⟩) (by assumption) ?_
      rotate_left 1
      ·(intro w hSw;obtain⟨s1,s2,s3,s4⟩:=hSw;go_simp;try with_reducible rfl)
      try simp only[Act.put]
      refine zai 13 (v:=?_) rfl (by kernel_rfl) (by kernel_rfl) (by kernel_rfl) (by kernel_rfl) (fun _ _ _ h=>h) (Or.inl ⟨by rfl,?_⟩) (by assumption) ?_
      rotate_left 1
      ·(intro w hSw;obtain⟨s1,s2,s3,s4⟩:=hSw;go_simp;try with_reducible rfl)
      try simp only[Act.put]
      refine zai 14 (v:=?_) rfl (by kernel_rfl) (by kernel_rfl) (by kernel_rfl) (by kernel_rfl) (fun _ _ _ h=>h) (Or.inl ⟨by rfl,?_⟩) (by assumption) ?_
      rotate_left 1
      ·(intro w hSw;obtain⟨s1,s2,s3,s4⟩:=hSw;go_simp;try with_reducible rfl)
      try simp only[Act.put]
      refine zai 15 (v:=?_) rfl (by kernel_rfl) (by kernel_rfl) (by kernel_rfl) (by kernel_rfl) (fun _ _ _ h=>h) (Or.inl ⟨by rfl,?_⟩) (by assumption) ?_
      rotate_left 1
      ·(intro w hSw;obtain⟨s1,s2,s3,s4⟩:=hSw;go_simp;try with_reducible rfl)
      try simp only[Act.put]
      refine zai 16 (v:=?_) rfl (by kernel_rfl) (by kernel_rfl) (by kernel_rfl) (by kernel_rfl) (fun _ _ _ h=>h) (Or.inl ⟨by rfl,?_⟩) (by assumption) ?_
      rotate_left 1
      ·(intro w hSw;obtain⟨s1,s2,s3,s4⟩:=hSw;go_simp;try with_reducible rfl)
      try simp only[Act.put]
      refine zai 17 (v:=?_) rfl (by kernel_rfl) (by kernel_rfl) (by kernel_rfl) (by kernel_rfl) (fun _ _ _ h=>h) (Or.inl ⟨by rfl,?_⟩) (by assumption) ?_
      rotate_left 1
      ·(intro w hSw;obtain⟨s1,s2,s3,s4⟩:=hSw;go_simp;try with_reducible rfl)
      try simp only[Act.put]
      refine zai 18 (v:=?_) rfl (by kernel_rfl) (by kernel_rfl) (by kernel_rfl) (by kernel_rfl) (fun _ _ _ h=>h) (Or.inl ⟨by rfl,?_⟩) (by assumption) ?_
      rotate_left 1
      ·(intro w hSw;obtain⟨s1,s2,s3,s4⟩:=hSw;go_simp;try with_reducible rfl)
      try simp only[Act.put]
      refine zai 19 (v:=?_) rfl (by kernel_rfl) (by kernel_rfl) (by kernel_rfl) (by kernel_rfl) (fun _ _ _ h=>h) (Or.inl ⟨by rfl,?_⟩) (by assumption) ?_
      rotate_left 1
      ·(intro w hSw;obtain⟨s1,s2,s3,s4⟩:=hSw;go_simp;try with_reducible rfl)
      try simp only[Act.put]
      refine zai 20 (v:=?_) rfl (by kernel_rfl) (by kernel_rfl) (by kernel_rfl) (by kernel_rfl) (fun _ _ _ h=>h) (Or.inl ⟨by rfl,?_⟩) (by assumption) ?_
      rotate_left 1
      ·(intro w hSw;obtain⟨s1,s2,s3,s4⟩:=hSw;go_simp;try with_reducible rfl)
      try simp only[Act.put]
      refine zai 21 (v:=?_) rfl (by kernel_rfl) (by kernel_rfl) (by kernel_rfl) (by kernel_rfl) (fun _ _ _ h=>h) (Or.inl ⟨by rfl,?_⟩) (by assumption) ?_
      rotate_left 1
      ·(intro w hSw;obtain⟨s1,s2,s3,s4⟩:=hSw;go_simp;try with_reducible rfl)
      try simp only[Act.put]
      refine zai 22 (v:=?_) rfl (by kernel_rfl) (by kernel_rfl) (by kernel_rfl) (by kernel_rfl) (fun _ _ _ h=>h) (Or.inl ⟨by rfl,?_⟩) (by assumption) ?_
      rotate_left 1
      ·(intro w hSw;obtain⟨s1,s2,s3,s4⟩:=hSw;go_simp;try with_reducible rfl)
      try simp only[Act.put]
      refine zak (rs:=[1,23]) (by kernel_rfl) (by simp) ?_
      refine zaj.cons rfl (fun K9 hK=>?_) (zaj.cons rfl (fun K9 hK=>?_) zaj.nil)
      ·go_simp
       refine hK.out _ _ (fun _=>HKEEP.out _ (bA _)) (fun hS'=>?_);clear hK K9;have hS:=hS' (by decide)
       clear hS';refine zak (rs:=[6,23]) (by kernel_rfl) (by simp) ?_
       refine zaj.cons rfl (fun K9 hK=>?_) (zaj.cons rfl (fun K9 hK=>?_) zaj.nil)
       ·refine zao rfl _ _ 78 rfl wc.heap.size 164 i1 _ 4 40 Tryz.underlying78 hj1 hj2 hj3 hj4 rfl (by decide) (.slice (some ⟨wc.heap.size,0,none⟩) 0 0) rfl (zar (w:=wc.drew) rfl (yf9 _)) _ rfl w0.heap.size K xsq (z8B hoq' (bA _)) honeq h63 hby (bA _).size ?_
        intro v1 w2 ho2 hg2;obtain⟨va,vc,rfl⟩:=z8A ho2;have hG2:=zaq hg2;have bW:Below wc.heap.size wc w2:=Below.grown (bA _) hG2 (bA _).size (fun k e=>by injection e with e;omega)
        clear hg2;refine hK.out _ _ (fun _=>HKEEP.out _ bW) (fun hS'=>?_);clear hK K9;have hS:=hS' (by decide)
        clear hS';try simp only[Act.put]
        refine zak (rs:=[23]) (by kernel_rfl) (by simp) ?_
        refine zaj.cons rfl (fun K9 hK=>?_) zaj.nil;go_simp
        refine hK.out _ _ (fun _=>HKEEP.out _ (bW.alloc bW.size _)) (fun hS'=>?_);clear hK K9;have hS:=hS' (by decide)
        clear hS';refine zak (rs:=[24]) (by kernel_rfl) (by simp) ?_
        refine zaj.cons rfl (fun K9 hK=>?_) zaj.nil;refine z9e rfl _ _ 78 rfl wc.heap.size 164 i1 _ 4 40 Tryz.underlying78 hj1 hj2 hj3 hj4 rfl (by decide) _ K xsq rfl (ho2.alloc _) _ 1 1 [.string name,.int .i64 (P:Int),.int .i64 fn,.int .i64 bk] rfl rfl (zas rfl) hone h63' hby' (bW.alloc bW.size _).size ?_
        intro v2 w5 ho5 hg5;obtain⟨ya,yc,rfl⟩:=z8A ho5;have b5:Below wc.heap.size wc w5:=Below.grown (bW.alloc bW.size _) hg5 (bW.alloc bW.size _).size (fun k e=>(ho2.lt k e).1);have HP6:Hid _:=HPL.out w5 _ b5 ho5;obtain⟨cc3,ccf⟩:=HC3.out w5 b5;refine hK.out _ _ (fun _=>HKEEP.out _ b5) (fun hS'=>?_);clear hK K9;have hS:=hS' (by decide)
        clear hS';try simp only[Act.put]
        refine zak (rs:=[25]) (by kernel_rfl) (by simp) ?_
        refine zaj.cons rfl (fun K9 hK=>?_) zaj.nil;go_simp
        refine hK.out _ _ (fun _=>HKEEP.out _ b5) (fun hS'=>?_);clear hK K9 hS';try simp only[Act.put]
        refine zak (rs:=[26]) (by kernel_rfl) (by simp) ?_
        refine zaj.cons rfl (fun K9 hK=>?_) zaj.nil;go_simp
        refine hK.out _ _ (fun _=>HKEEP.out _ b5) (fun hS'=>?_);clear hK K9 hS';try simp only[Act.put]
        refine zak (rs:=[27]) (by kernel_rfl) (by simp) ?_
        refine zaj.cons rfl (fun K9 hK=>?_) zaj.nil;go_simp
        refine hK.out _ _ (fun h=>absurd rfl h) (fun _=>?_);clear hK K9;refine zal (by kernel_rfl) ?_ _
        clear cc3 ccf hS ho5 hg5 HPL HC3;go_wp2_with fail;go_meet
        case rel=>exact⟨_,HP6.out.1,HP6.out.2⟩
       ·go_simp
        refine hK.out _ _ (fun _=>HKEEP.out _ (bB _ _)) (fun hS'=>?_);clear hK K9;have hS:=hS' (by decide)
        clear hS';refine zak (rs:=[6]) (by kernel_rfl) (by simp) ?_
        refine zaj.cons rfl (fun K9 hK=>?_) zaj.nil;refine zao rfl _ _ 78 rfl wc.heap.size 164 i1 _ 4 40 Tryz.underlying78 hj1 hj2 hj3 hj4 rfl (by decide) (.slice (some ⟨wc.heap.size,0,none⟩) 0 0) rfl ((zar (w:=wc.drew) rfl (yf9 _)).alloc _) _ rfl w0.heap.size K xsq (z8B hoq' (bB _ _)) honeq h63 hby (bB _ _).size ?_
        intro v1 w2 ho2 hg2;obtain⟨va,vc,rfl⟩:=z8A ho2;have hG2:=zaq hg2;have bW:Below wc.heap.size wc w2:=Below.grown (bB _ _) hG2 (bB _ _).size (fun k e=>by injection e with e;omega)
        clear hg2;refine hK.out _ _ (fun _=>HKEEP.out _ bW) (fun hS'=>?_);clear hK K9;have hS:=hS' (by decide)
        clear hS';try simp only[Act.put]
        refine zak (rs:=[24]) (by kernel_rfl) (by simp) ?_
        refine zaj.cons rfl (fun K9 hK=>?_) zaj.nil;refine z9e rfl _ _ 78 rfl wc.heap.size 164 i1 _ 4 40 Tryz.underlying78 hj1 hj2 hj3 hj4 rfl (by decide) _ K xsq rfl (ho2) _ 1 1 [.string name,.int .i64 (P:Int),.int .i64 fn,.int .i64 bk] rfl rfl (zau (zas (w:=wc.drew.alloc _) (G:=wc.heap.size+1) (by simp)) hG2 (by simp) (by simp)) hone h63' hby' (bW).size ?_
        intro v2 w5 ho5 hg5;obtain⟨ya,yc,rfl⟩:=z8A ho5;have b5:Below wc.heap.size wc w5:=Below.grown (bW) hg5 (bW).size (fun k e=>(ho2.lt k e).1);have HP6:Hid _:=HPL.out w5 _ b5 ho5;obtain⟨cc3,ccf⟩:=HC3.out w5 b5;refine hK.out _ _ (fun _=>HKEEP.out _ b5) (fun hS'=>?_);clear hK K9;have hS:=hS' (by decide)
        clear hS';try simp only[Act.put]
        refine zak (rs:=[25]) (by kernel_rfl) (by simp) ?_
        refine zaj.cons rfl (fun K9 hK=>?_) zaj.nil;go_simp
        refine hK.out _ _ (fun _=>HKEEP.out _ b5) (fun hS'=>?_);clear hK K9 hS';try simp only[Act.put]
        refine zak (rs:=[26]) (by kernel_rfl) (by simp) ?_
        refine zaj.cons rfl (fun K9 hK=>?_) zaj.nil;go_simp
        refine hK.out _ _ (fun _=>HKEEP.out _ b5) (fun hS'=>?_);clear hK K9 hS';try simp only[Act.put]
        refine zak (rs:=[27]) (by kernel_rfl) (by simp) ?_
        refine zaj.cons rfl (fun K9 hK=>?_) zaj.nil;go_simp
        refine hK.out _ _ (fun h=>absurd rfl h) (fun _=>?_);clear hK K9;refine zal (by kernel_rfl) ?_ _
        clear cc3 ccf hS ho5 hg5 HPL HC3;go_wp2_with fail;go_meet
        case rel=>exact⟨_,HP6.out.1,HP6.out.2⟩
      ·go_simp
       refine hK.out _ _ (fun _=>HKEEP.out _ (bA _)) (fun hS'=>?_);clear hK K9;have hS:=hS' (by decide)
       clear hS';refine zak (rs:=[1]) (by kernel_rfl) (by simp) ?_
       refine zaj.cons rfl (fun K9 hK=>?_) zaj.nil;go_simp
       refine hK.out _ _ (fun _=>HKEEP.out _ (bB _ _)) (fun hS'=>?_);clear hK K9;have hS:=hS' (by decide)
       clear hS';refine zak (rs:=[6]) (by kernel_rfl) (by simp) ?_
       refine zaj.cons rfl (fun K9 hK=>?_) zaj.nil;refine zao rfl _ _ 78 rfl wc.heap.size 164 i1 _ 4 40 Tryz.underlying78 hj1 hj2 hj3 hj4 rfl (by decide) (.slice (some ⟨wc.heap.size+1,0,none⟩) 0 0) rfl (zar (w:=wc.drew.alloc _) (by simp) (Nat.le_succ _)) _ rfl w0.heap.size K xsq (z8B hoq' (bB _ _)) honeq h63 hby (bB _ _).size ?_
       intro v1 w2 ho2 hg2;obtain⟨va,vc,rfl⟩:=z8A ho2;have hG2:=zaq hg2;have bW:Below wc.heap.size wc w2:=Below.grown (bB _ _) hG2 (bB _ _).size (fun k e=>by injection e with e;omega)
       clear hg2;refine hK.out _ _ (fun _=>HKEEP.out _ bW) (fun hS'=>?_);clear hK K9;have hS:=hS' (by decide)
       clear hS';try simp only[Act.put]
       refine zak (rs:=[24]) (by kernel_rfl) (by simp) ?_
       refine zaj.cons rfl (fun K9 hK=>?_) zaj.nil;refine z9e rfl _ _ 78 rfl wc.heap.size 164 i1 _ 4 40 Tryz.underlying78 hj1 hj2 hj3 hj4 rfl (by decide) _ K xsq rfl (ho2) _ 1 1 [.string name,.int .i64 (P:Int),.int .i64 fn,.int .i64 bk] rfl rfl (zau (zat (w:=wc.drew) rfl) hG2 (by simp) (by simp;omega)) hone h63' hby' (bW).size ?_
       intro v2 w5 ho5 hg5;obtain⟨ya,yc,rfl⟩:=z8A ho5;have b5:Below wc.heap.size wc w5:=Below.grown (bW) hg5 (bW).size (fun k e=>(ho2.lt k e).1);have HP6:Hid _:=HPL.out w5 _ b5 ho5;obtain⟨cc3,ccf⟩:=HC3.out w5 b5;refine hK.out _ _ (fun _=>HKEEP.out _ b5) (fun hS'=>?_);clear hK K9;have hS:=hS' (by decide)
       clear hS';try simp only[Act.put]
       refine zak (rs:=[25]) (by kernel_rfl) (by simp) ?_
       refine zaj.cons rfl (fun K9 hK=>?_) zaj.nil;go_simp
       refine hK.out _ _ (fun _=>HKEEP.out _ b5) (fun hS'=>?_);clear hK K9 hS';try simp only[Act.put]
       refine zak (rs:=[26]) (by kernel_rfl) (by simp) ?_
       refine zaj.cons rfl (fun K9 hK=>?_) zaj.nil;go_simp
       refine hK.out _ _ (fun _=>HKEEP.out _ b5) (fun hS'=>?_);clear hK K9 hS';try simp only[Act.put]
       refine zak (rs:=[27]) (by kernel_rfl) (by simp) ?_
       refine zaj.cons rfl (fun K9 hK=>?_) zaj.nil;go_simp
       refine hK.out _ _ (fun h=>absurd rfl h) (fun _=>?_);clear hK K9;refine zal (by kernel_rfl) ?_ _
       clear cc3 ccf hS ho5 hg5 HPL HC3;go_wp2_with fail;go_meet
       case rel=>exact⟨_,HP6.out.1,HP6.out.2⟩
     case rest=>
      obtain⟨v2,hrun2,hstep2⟩:=hcut;have HM:Hid (za8 w0 F n c tv (b+1) { s with P:=s.P+1,pv:=v',K:=s.K+1,qv:=v2 } k' wc/\za9 w0.heap.size F w wc):=⟨hrun2,hstep2⟩;clear x1' x3' x4 x6 c3a c1a c6a c4a bA bB hoq' HR hone honeq;obtain⟨x0,x1,x2,x3,x4,x5,x6,x7,x8,x9,x10,x11,xf⟩:=hrun2.cells;have y0:wc.cell? ⟨c,0,none⟩=some (.slice (some ⟨g,0,none⟩) n tc):=by rw[HTV.out];exact x0
      have y1:wc.cell? ⟨c,1,none⟩=some (.slice pa' (P+1) pc'):=by rw[←hPP,←hpv2];exact x1
      have y2:wc.cell? ⟨c,2,none⟩=some (.slice (some ⟨og',0,none⟩) n oc'):=by rw[←hov'];exact x2
      have yk:=HKJ.out wc hrun2.rows.low;have hji:(j:Int)<(n:Int):=by omega
      have hj0:(0:Int)<=(j:Int):=by omega
      obtain⟨ys,hof⟩:=hrun2.rows.ofs;have hof':wc.ownsRow w0.heap.size 3 1 (.slice (some ⟨og',0,none⟩) n oc') n ys:=by
       have hov2:s.ov=.slice (some ⟨og',0,none⟩) n oc':=hov';rw[←hov2];exact hof
      obtain⟨⟨uo,hco⟩,hfo⟩:=z8z hof' j (by omega)
      have HS:Hid (∀ m,za8 w0 F n c tv (b+1) { s with P:=s.P+1,pv:=v',K:=s.K+1,qv:=v2 } k' ((wc.drewN m).setCell ⟨og',j,none⟩ (.int .i64 (P:Int)))/\za9 w0.heap.size F w ((wc.drewN m).setCell ⟨og',j,none⟩ (.int .i64 (P:Int)))):=fun m=>by
       have bm:=below_drewN (yg9 wc.heap.size wc) m;obtain⟨r1,t1⟩:=(HM.out.1.below bm).ofSet (j:=j) (x:=(P:Int)) hov';exact⟨r1,(HM.out.2.trans (HM.out.1.step bm)).trans t1⟩
      clear hrun2 hstep2 x0 x1 x2 x3 x4 x5 x6 x7 x8 x9 x10 x11 xf hof hof';obtain⟨pk,hpk⟩:∃ x,p.kind=x:=⟨_,rfl⟩;rw[hpk]at yk;clear hpk;by_cases hk13:pk=13
      ·subst hk13;go_wp2;go_returns;exact⟨rfl,_,k',HM.out.1,HM.out.2,rfl,Nat.le_succ _⟩
      ·have hkb:(pk==(13:Int))=false:=by rw[yc9];exact hk13
       go_upto_region 10 with fail;go_region
       all_goals
        go_wp2;go_returns;exact⟨rfl,_,k',(HS.out 1).1,(HS.out 1).2,rfl,Nat.le_succ _⟩
   ·have hf0':(fa==0)=false:=by rw[yc9];exact hf0
    have HE:Hid (zax w0 F n c tv (b+1) s w wr):=⟨s,k',HR.out.1.more (by omega) hb,HR.out.2,rfl,yf9 _⟩
    clear hf0;go_wp2;go_returns;exact⟨rfl,HE.out⟩
theorem zaA{α:Type}{R:α->α->Prop}(hs:∀ a b,R a b->R b a){l:List α}{i:Nat}{v:α}(h:l.Pairwise R)(hv:∀(j:Nat) (x:α),j≠i->l[j]?=some x->R x v):(l.set i v).Pairwise R:=by
 rw[List.pairwise_iff_getElem]at h ⊢;intro p q hp hq hpq;rw[List.length_set]at hp hq;rw[List.getElem_set,List.getElem_set];split
 ·rename_i e
  rw[if_neg (by omega)]
  exact hs _ _ (hv q _ (by omega) (yd9 hq))
 ·split
  ·rename_i e2
   exact hv p _ (by omega) (yd9 hp)
  ·exact h p q hp hq hpq
theorem za5.rowPut{F:Nat->Prop}{w0 w w1:World}{n b i gs sc:Nat}{s:RS}{r r':Value}{ms:List Int}{p:Int}(h:za5 w0 F n (b+1) s w)(hi:s.rows[i]?=some r)(ho:w.ownsRow w0.heap.size 3 1 r ms.length (ms.map (Value.int .i64)))(hm:ms.length<=b)(hg:w.grownBy w1 r.ownBlock)(ho':w1.ownsRow w0.heap.size 3 1 r' (ms.length+1) (ms.map (Value.int .i64)++[.int .i64 p]))(hat:r'.ownBlock=r.ownBlock\/r'.ownBlock=some w.heap.size)(hsv:s.sv=.slice (some ⟨gs,0,none⟩) s.rows.length sc):
  za5 w0 F n (b+1) { s with rows:=s.rows.set i r' } (w1.setCell ⟨gs,i,none⟩ r'):=by
 have hs:=h.low.size;obtain⟨xs1,a1,a2⟩:=h.places;obtain⟨xs2,b1,b2⟩:=h.opens;obtain⟨xs3,c1⟩:=h.ofs;obtain⟨ms',d1,d2⟩:=h.around;obtain⟨xs4,e1⟩:=h.caps;have hil:i<s.rows.length:=(List.getElem?_eq_some_iff.1 hi).1;have hmem:r∈s.rows:=List.mem_iff_getElem?.2 ⟨i,hi⟩;have hap:=h.apart;have hget:(s.ov::s.av::s.rows)[i+2]?=some r:=by simpa using hi
 have far:∀(j:Nat) (x:Value),j≠i+2->(s.ov::s.av::s.rows)[j]?=some x->za2 x r:=fun j x hj hx=>by
  rw[List.pairwise_iff_getElem]at hap;obtain⟨hjl,ejx⟩:=List.getElem?_eq_some_iff.1 hx;obtain⟨hil',eir⟩:=List.getElem?_eq_some_iff.1 hget;rcases Nat.lt_or_ge j (i+2)with k|k
  ·have:=hap j (i+2) hjl hil' k;rw[ejx,eir]at this;exact this
  ·have:=hap (i+2) j hil' hjl (by omega)
   rw[ejx,eir]at this;exact this.symm
 have oF:za2 s.ov r:=far 0 _ (by omega) rfl
 have aF:za2 s.av r:=far 1 _ (by omega) rfl
 have seen1:=h.seen.kept hg (za7 h.seen ho (by decide))
 have seen1':=seen1;rw[hsv]at seen1';obtain⟨st1,st2⟩:=seen1'.stored i r';have esv:s.sv.ownBlock=some gs:=by rw[hsv];rfl
 have hgs:w1.heap[gs]?=_:=(z9g seen1 gs esv).choose_spec;have keep:∀{e:TypeId} {size:Nat} {v:Value} {m:Nat} {xs:List Value},w1.ownsRow w0.heap.size e size v m xs->e≠29->(w1.setCell ⟨gs,i,none⟩ r').ownsRow w0.heap.size e size v m xs:=fun ho he=>ho.kept st2 (za6 ho hgs he);have low1:Below w0.heap.size w0 w1:=h.low.grown hg hs (fun k e=>(ho.lt k e).1);have low2:Below w0.heap.size w0 (w1.setCell ⟨gs,i,none⟩ r'):=low1.grown st2 low1.size (fun k e=>by injection e with e;have:=(seen1.lt gs esv).1;omega)
 have len:(s.rows.set i r').length=s.rows.length:=List.length_set;refine⟨low2,⟨xs1,keep (a1.kept hg (za7 a1 ho (by decide))) (by decide),a2⟩,⟨xs2,keep (b1.kept hg (za7 b1 ho (by decide))) (by decide),b2⟩,⟨xs3,keep (c1.kept hg oF.ne) (by decide)⟩,⟨ms',by show ms'.length=(s.rows.set i r').length;rw[len];exact d1,?_⟩,?_,⟨xs4,?_⟩,fun x hx=>?_,?_,h.apart2,by show 1<=(s.rows.set i r').length;rw[len];exact h.some1,h.n1,h.hn,h.hP,h.hK,by show(s.rows.set i r').length<=b+1;rw[len];exact h.hM,h.hb,fun x hx g e=>?_,fun g hF=>Nat.lt_of_lt_of_le (h.flt g hF) (yi9 hg.size st2.size)⟩
 ·show(w1.setCell ⟨gs,i,none⟩ r').ownsRow w0.heap.size 3 1 s.av (s.rows.set i r').length _;rw[len];exact keep (d2.kept hg aF.ne) (by decide)
 ·show(w1.setCell ⟨gs,i,none⟩ r').ownsRow w0.heap.size 29 1 s.sv (s.rows.set i r').length (s.rows.set i r');rw[len,hsv];exact st1
 ·have e2:=e1.kept hg (za7 e1 ho (by decide))
  have hne:s.cv.ownBlock=none\/s.cv.ownBlock≠some gs:=by
   have:=h.apart2.symm.ne;rw[esv]at this;exact this
  exact e2.kept st2 hne
 ·have hx':x∈s.rows.set i r':=hx;obtain⟨j,hj⟩:=List.mem_iff_getElem?.1 hx';rcases Nat.decEq j i with e|e
  ·rw[List.getElem?_set_ne (Ne.symm e)]at hj;obtain⟨mx,f1,f2⟩:=h.rows x (List.mem_iff_getElem?.2 ⟨j,hj⟩);exact⟨mx,f1,keep (f2.kept hg (far (j+2) x (by omega) (by simpa using hj)).ne) (by decide)⟩
  ·subst e;rw[List.getElem?_set_self hil]at hj;injection hj with hj;subst hj;refine⟨ms++[p],by simp;omega,?_⟩
   have:=keep ho' (by decide)
   simpa using this
 ·show(s.ov::s.av::s.rows.set i r').Pairwise za2;have e:s.ov::s.av::s.rows.set i r'=(s.ov::s.av::s.rows).set (i+2) r':=rfl;rw[e];refine zaA (fun a b=>za2.symm) hap fun j x hj hx g hxg hr=>?_;rcases hat with hat|hat
  ·rw[hat]at hr;exact far j x hj hx g hxg hr
  ·rw[hat]at hr;injection hr with hr;obtain⟨m,ys,hown⟩:=h.ints x (List.mem_iff_getElem?.2 ⟨j,hx⟩);have:=(hown.lt g hxg).2;omega
 ·have hx':x∈(s.ov::s.av::s.rows).set (i+2) r':=hx;rcases List.mem_or_eq_of_mem_set hx' with k|k
  ·exact h.free x k g e
  ·rw[k]at e;intro hF;rcases hat with hat|hat
   ·rw[hat]at e;exact h.free r (List.mem_cons_of_mem _ (List.mem_cons_of_mem _ hmem)) g e hF
   ·rw[hat]at e;injection e with e;have:=h.flt g hF;omega
