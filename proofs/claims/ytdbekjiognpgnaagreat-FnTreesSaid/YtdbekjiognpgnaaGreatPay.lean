/- Part 25. -/
import Derived.Test.YtdbekjiognpgnaaGreatPax
set_option maxHeartbeats 16000000
set_option maxRecDepth 100000
set_option linter.unusedVariables false
namespace Go.Proofs.YtdbekjiognpgnaaGreat
open Go.RowKit Go.Sort
theorem zaB{w:World}{x:Value}{t:TypeId}{G:Nat}(hG:w.heap.size=G):∀ j u,[x][j]?=some u->(w.alloc (.cells #[x] t)).cell? ((⟨G,0,none⟩:Addr).add j)=some u:=by
 subst hG;exact cell_one_new w x t
theorem za8.rowPut{F:Nat->Prop}{w0 w w1:World}{n c b i gs sc:Nat}{tv:Value}{s:RS}{k:RK}{r r':Value}{ms:List Int}{p:Int}(h:za8 w0 F n c tv (b+1) s k w)(hi:s.rows[i]?=some r)(ho:w.ownsRow w0.heap.size 3 1 r ms.length (ms.map (Value.int .i64)))(hm:ms.length<=b)(hg:w.grownBy w1 r.ownBlock)(ho':w1.ownsRow w0.heap.size 3 1 r' (ms.length+1) (ms.map (Value.int .i64)++[.int .i64 p]))(hat:r'.ownBlock=r.ownBlock\/r'.ownBlock=some w.heap.size)(hsv:s.sv=.slice (some ⟨gs,0,none⟩) s.rows.length sc):
  za8 w0 F n c tv (b+1) { s with rows:=s.rows.set i r' } k (w1.setCell ⟨gs,i,none⟩ r')/\za9 w0.heap.size F w (w1.setCell ⟨gs,i,none⟩ r'):=by
 have e1:w1.heap[c]?=w.heap[c]?:=hg.block c h.lt (fun e=>by
  rcases za6 ho h.blk (by decide)with k|k
  ·rw[k]at e;cases e
  ·exact k e.symm)
 have seen1:=h.rows.seen.kept hg (za7 h.rows.seen ho (by decide))
 have hne:c≠gs:=fun e=>by
  rcases za6 h.rows.seen h.blk (by decide)with k|k
  ·rw[hsv]at k;cases k
  ·rw[hsv,e]at k;exact k rfl
 have seen1':=seen1;rw[hsv]at seen1';refine⟨⟨(heap_setCell_other w1 ⟨gs,i,none⟩ c _ hne).trans (e1.trans h.blk),h.hc,h.rows.rowPut hi ho hm hg ho' hat hsv⟩,(za9.rowI (B:=0) ho hg h.size (by decide) (h.rows.free r (List.mem_cons_of_mem _ (List.mem_cons_of_mem _ (List.mem_iff_getElem?.2 ⟨i,hi⟩))))).trans (za9.row (B:=0) seen1 ?_ (yi9 h.size hg.size) (by decide))⟩
 rw[hsv];exact(seen1'.stored i r').2
theorem zaC{F:Nat->Prop}{w0 w:World}{n c b:Nat}{tv:Value}{s:RS}{k:RK}(t:ByteArray)(p f bl:Int)(h:za8 w0 F n c tv b s k w)(hb:b+1<=10000):
  Calls Tryz.prog 111 #[.pointer (some ⟨c,0,none⟩),.agg #[.string t,.int .i64 p,.int .i64 f,.int .i64 bl]] w fun e w'=>e=.returned (.tuple #[])/\zax w0 F n c tv (b+1) s w w':=by
 obtain⟨M,hM⟩:∃ M,s.rows.length=M:=⟨_,rfl⟩;have h1:=h.rows.some1;have h2:=h.rows.hM;have h0:=h.below ((yg9 _ _).alloc (yf9 _) (.cells #[.string t,.int .i64 p,.int .i64 f,.int .i64 bl] 164));have hst:=h.step ((yg9 _ _).alloc (yf9 _) (.cells #[.string t,.int .i64 p,.int .i64 f,.int .i64 bl] 164));obtain⟨X,hX⟩:∃ X,w.heap.size=X:=⟨_,rfl⟩;have hB:=heap_alloc_new w (.cells #[.string t,.int .i64 p,.int .i64 f,.int .i64 bl] 164);obtain⟨W0,hW0⟩:∃ W,w.alloc (.cells #[.string t,.int .i64 p,.int .i64 f,.int .i64 bl] 164)=W:=⟨_,rfl⟩;rw[hW0,hX]at hB;rw[hW0]at h0 hst;obtain⟨_,_,_,⟨ga,ac,hav⟩,⟨gs,sc,hsv⟩,_⟩:=h.rows.shapes;have HAV:Hid (s.av=.slice (some ⟨ga,0,none⟩) M ac/\s.sv=.slice (some ⟨gs,0,none⟩) M sc):=by rw[←hM];exact⟨hav,hsv⟩
 have HM:Hid (s.rows.length=M):=hM;have H0:Hid (za8 w0 F n c tv b s k W0/\za9 w0.heap.size F w W0/\W0.heap[X]?=some (.cells #[.string t,.int .i64 p,.int .i64 f,.int .i64 bl] 164)):=⟨h0,hst,hB⟩;obtain⟨_,_,_,_,_,_,_,_,_,x9,_,_,_⟩:=h0.cells;rw[HAV.out.1]at x9;rw[hM]at h1 h2;have hMi:((M:Int)-1)=((M-1:Nat):Int):=by omega
 clear h h0 hst hB hav hsv hM;go_enter Tryz.func111,Tryz.ntmps111;go_upto_region 1 with fail;try simp only[hW0,hX]
 clear hW0 hX;go_upto_region 2 with fail;go_loopw [4] (fun i wr=>∃(q:Nat) (s':RS),i=.int .i64 ((q:Int)-1)/\q<=M/\za8 w0 F n c tv (b+1) s' k wr/\za9 w0.heap.size F W0 wr/\s'.rows.length=M/\s'.P=s.P/\s'.av=s.av/\s'.sv=s.sv/\Hid (∀(i:Nat) (r:Value),i<q->s'.rows[i]?=some r->za4 w0.heap.size b wr r)) (fun i _=>(intOf i+1).toNat)
 case atStart=>exact⟨M,s,by first|rfl|(rw[hMi]),yf9 _,H0.out.1.more (by omega) hb,za9.refl _ _ _,HM.out,rfl,rfl,rfl,fun i r _ hr=>H0.out.1.rows.rows r (List.mem_iff_getElem?.2 ⟨i,hr⟩)⟩
 case round=>
  obtain⟨q,s',rfl,hq,hrun,hstep,r1,r2,r3,r4,HI⟩:=hrel;have hbox:=hstep.names X _ H0.out.2.2;obtain⟨x0,x1,x2,x3,x4,x5,x6,x7,x8,x9',x10,x11,xf⟩:=hrun.cells;rw[r3,HAV.out.1]at x9';rw[r4,HAV.out.2]at x10;obtain⟨y0,y1,y2,y3⟩:=z2u hbox;have HR:Hid (za8 w0 F n c tv (b+1) s' k wr/\za9 w0.heap.size F W0 wr/\s'.rows.length=M/\s'.P=s.P/\s'.av=s.av/\s'.sv=s.sv):=⟨hrun,hstep,r1,r2,r3,r4⟩;have HEND:Hid (∀ m,zax w0 F n c tv (b+1) s w (wr.drewN m)):=fun m=>⟨s',k,HR.out.1.below (below_drewN (yg9 _ _) m),H0.out.2.1.trans (HR.out.2.1.trans (HR.out.1.step (below_drewN (yg9 _ _) m))),by rw[HR.out.2.2.1,HM.out],by rw[HR.out.2.2.2.1];exact yf9 _⟩
  clear x0 x1 x2 x3 x4 x5 x6 x7 x8 x11 xf x9 hstep r1 r2 r3 r4;rcases Nat.eq_zero_or_pos q with hq0|hq0
  ·subst hq0;have e0:(((0:Nat):Int)-1)=-1:=rfl;rw[e0];clear hrun;go_wp2;go_quiet (fail)
   go_wp2;go_returns;exact⟨rfl,HEND.out _⟩
  ·obtain⟨j,rfl⟩:∃ j,q=j+1:=⟨q-1,by omega⟩
   have e0:(((j+1:Nat):Int)-1)=(j:Int):=by omega
   rw[e0];obtain⟨ms,hml,hoa⟩:=hrun.rows.around;obtain⟨z,hz⟩:∃ z,ms[j]?=some z:=⟨_,yd9 (by have:=HR.out.2.2.1;omega)⟩
   have hcz:wr.cell? ⟨ga,j,none⟩=some (.int .i64 z):=by
    have ho2:=hoa;rw[HR.out.2.2.2.2.1,HAV.out.1,HR.out.2.2.1]at ho2;exact z9I ho2 (by rw[List.getElem?_map,hz];rfl)
   obtain⟨r,hr⟩:∃ r,s'.rows[j]?=some r:=⟨_,yd9 (by have:=HR.out.2.2.1;omega)⟩
   have hcr:wr.cell? ⟨gs,j,none⟩=some r:=by
    have ho2:=hrun.rows.seen;rw[HR.out.2.2.2.2.2,HAV.out.2,HR.out.2.2.1]at ho2;exact z9I ho2 hr
   have hfs:wr.frozen? ⟨gs,j,none⟩=false:=by
    have ho2:=hrun.rows.seen;rw[HR.out.2.2.2.2.2,HAV.out.2,HR.out.2.2.1]at ho2;exact ho2.frozenAt j
   have hir:=HI.out j r (by omega) hr
   obtain⟨mr,hmr,hor⟩:=hir;obtain⟨ra,rc,rfl⟩:=z8A hor;have cIn:∀ W,Below wr.heap.size wr W->Calls Tryz.prog 119 #[.slice ra mr.length rc,.int .i64 p] W fun e w'=>∃ bb,e=.returned (.bool bb)/\W=w':=fun W hW=>zac (H:=w0.heap.size) (b:=b) ⟨mr,hmr,z8B hor hW⟩ (by omega) p
   have HOR:Hid (wr.ownsRow w0.heap.size 3 1 (.slice ra mr.length rc) mr.length (mr.map (Value.int .i64))):=hor;have HRR:Hid (s'.rows[j]?=some (.slice ra mr.length rc)):=hr;have hclt:=hrun.lt;obtain⟨lr,hlr⟩:∃ l,mr.length=l:=⟨_,rfl⟩;have HLR:Hid (mr.length=lr):=hlr;rw[hlr]at hcr cIn hmr;have hji:(j:Int)<(M:Int):=by omega
   have hj0:(0:Int)<=(j:Int):=by omega
   have hjd:decide ((0:Int)<=(j:Int))=true:=yb9 hj0;have HK4:Hid (∀ W,Below wr.heap.size wr W->W.cell? ⟨c,10,none⟩=some (.slice (some ⟨gs,0,none⟩) M sc)/\W.cell? ⟨gs,j,none⟩=some (.slice ra lr rc)/\W.cell? ⟨X,1,none⟩=some (.int .i64 p)):=fun W hW=>⟨(hW.cell (p:=⟨c,10,none⟩) hclt).trans x10,(hW.cell (p:=⟨gs,j,none⟩) (World.block_lt_of_cell? wr _ hcr)).trans hcr,(hW.cell (p:=⟨X,1,none⟩) (World.block_lt_of_cell? wr _ y1)).trans y1⟩;have HI2:Hid (∀(i:Nat) (r:Value),i<j->s'.rows[i]?=some r->za4 w0.heap.size b wr r):=fun i r hi=>HI.out i r (by omega)
   clear hrun hoa hz hr hor HI hlr hbox;by_cases hzf:z=f
   ·subst hzf;go_wp2;go_quiet (fail)
    go_wp2;go_returns;exact⟨rfl,HEND.out _⟩
   ·have hzb:(z==f)=false:=by rw[yc9];exact hzf
    go_wp2;go_quiet (fail)
    go_upto_region 4 with fail;go_region_held3 (fun W=>W.cell? ⟨c,10,none⟩=some (.slice (some ⟨gs,0,none⟩) M sc)/\W.cell? ⟨gs,j,none⟩=some (.slice ra lr rc)/\W.cell? ⟨X,1,none⟩=some (.int .i64 p)) (first|exact HK4.out _ (by first|exact below_drewN (yg9 _ _) _|exact(below_drewN (yg9 _ _) _).drew)|go_keep) (first|(go_at_call 119;with_reducible refine(cIn _ (by first|exact below_drewN (yg9 _ _) _|exact(below_drewN (yg9 _ _) _).drew)).mono ?_;rintro e W ⟨bb,rfl,rfl⟩))
    cases bb
    ·have bD:∀ m o,Below wr.heap.size wr ((wr.drewN m).alloc o):=fun m o=>(below_drewN (yg9 _ _) m).alloc (by simp) o
     obtain⟨i0,hi,hz0,hz1,hz2⟩:=z8y Tryz.infoInt;have h63:lr+1<=maxLen:=by unfold maxLen;omega
     have hby:(lr+1)*8<=140737488355328:=by omega
     have HOW:Hid (∀ W,Below wr.heap.size wr W->W.ownsRow w0.heap.size 3 1 (.slice ra lr rc) lr (mr.map (Value.int .i64))):=fun W hW=>by have:=z8B HOR.out hW;rw[HLR.out]at this;exact this
     have HKA:Hid (∀(Wa w5:World),Below wr.heap.size wr Wa->Wa.grownBy w5 (Value.ownBlock (.slice ra lr rc))->(w5.cell? ⟨c,10,none⟩=some (.slice (some ⟨gs,0,none⟩) M sc)/\w5.cell? ⟨gs,j,none⟩=some (.slice ra lr rc)/\w5.cell? ⟨X,1,none⟩=some (.int .i64 p))/\w5.frozen? ⟨gs,j,none⟩=false):=fun Wa w5 hWa hg=>by
      have r:=HR.out.1.below hWa;have hoW:=HOW.out Wa hWa;obtain⟨k1,k2,k3⟩:=HK4.out Wa hWa;have hbx:=(HR.out.2.1.trans (HR.out.1.step hWa)).names X _ H0.out.2.2;have sn:=r.rows.seen;have sn5:=sn.kept hg (za7 sn hoW (by decide))
      have ff:∀(g1:Nat) (cs:Array Value) (T:TypeId) (fz:Nat × Nat),Wa.heap[g1]?=some (.cells cs T fz)->3≠T->w5.heap[g1]?=Wa.heap[g1]?:=fun g1 cs T fz h1 hT=>hg.block g1 (lt_of_block h1) (fun e=>by
       rcases za6 hoW h1 hT with k|k
       ·rw[k]at e;cases e
       ·exact k e.symm)
      have e1:=ff c _ _ _ r.blk (by decide)
      have e3:=ff X _ _ _ hbx (by decide)
      rw[HR.out.2.2.2.2.2,HAV.out.2,HR.out.2.2.1]at sn sn5;obtain⟨csn,hsn⟩:=z9g sn gs rfl;have e2:=ff gs _ _ _ hsn (by decide)
      exact⟨⟨(World.cell?_of_block (a:=⟨c,10,none⟩) e1).trans k1,(World.cell?_of_block (a:=⟨gs,j,none⟩) e2).trans k2,(World.cell?_of_block (a:=⟨X,1,none⟩) e3).trans k3⟩,sn5.frozenAt j⟩
     have HPUT:Hid (∀(Wa w5:World) (g5 cap5:Nat),Below wr.heap.size wr Wa->Wa.grownBy w5 (Value.ownBlock (.slice ra lr rc))->w5.ownsRow w0.heap.size 3 1 (.slice (some ⟨g5,0,none⟩) (lr+1) cap5) (lr+1) (mr.map (Value.int .i64)++[.int .i64 p])->(Value.ownBlock (.slice ra lr rc)=some g5\/g5=Wa.heap.size)->za8 w0 F n c tv (b+1) { s' with rows:=s'.rows.set j (.slice (some ⟨g5,0,none⟩) (lr+1) cap5) } k (w5.setCell ⟨gs,j,none⟩ (.slice (some ⟨g5,0,none⟩) (lr+1) cap5))/\za9 w0.heap.size F W0 (w5.setCell ⟨gs,j,none⟩ (.slice (some ⟨g5,0,none⟩) (lr+1) cap5))/\∀(i:Nat) (r:Value),i<j->(s'.rows.set j (.slice (some ⟨g5,0,none⟩) (lr+1) cap5))[i]?=some r->za4 w0.heap.size b (w5.setCell ⟨gs,j,none⟩ (.slice (some ⟨g5,0,none⟩) (lr+1) cap5)) r):=fun Wa w5 g5 cap5 hWa hg ho5 hat=>by
      have r:=HR.out.1.below hWa;have hl:=HLR.out;have hoW:=z8B HOR.out hWa;have hg':Wa.grownBy w5 (Value.ownBlock (.slice ra mr.length rc)):=by rw[hl];exact hg
      have hrr:=HRR.out;have hsv:s'.sv=.slice (some ⟨gs,0,none⟩) s'.rows.length sc:=by rw[HR.out.2.2.2.2.2,HAV.out.2,HR.out.2.2.1]
      obtain⟨q1,q2⟩:=r.rowPut (r':=.slice (some ⟨g5,0,none⟩) (lr+1) cap5) (p:=p) hrr hoW (by omega) hg' (by rw[hl];exact ho5) (by
       rcases hat with e|e
       ·left;rw[hl,e];rfl
       ·right;rw[e];rfl) hsv
      refine⟨q1,(HR.out.2.1.trans (HR.out.1.step hWa)).trans q2,fun i x hi hx=>?_⟩;have hx0:=hx;rw[List.getElem?_set_ne (by omega)]at hx
      obtain⟨mx,f1,f2⟩:=HI2.out i x hi hx;obtain⟨mx',f1',f2'⟩:=q1.rows.rows x (List.mem_iff_getElem?.2 ⟨i,hx0⟩);refine⟨mx',?_,f2'⟩;obtain⟨_,_,e1⟩:=z8A f2;obtain⟨_,_,e2⟩:=z8A f2';rw[e1]at e2;injection e2 with _ e2 _;omega
     go_upto_region 5 with fail;refine zam (fun W=>W.cell? ⟨c,10,none⟩=some (.slice (some ⟨gs,0,none⟩) M sc)/\W.cell? ⟨gs,j,none⟩=some (.slice ra lr rc)/\W.cell? ⟨X,1,none⟩=some (.int .i64 p)) 17 (by kernel_rfl) (HK4.out _ (below_drewN (yg9 _ _) _).drew) (fun hS=>?_)
     refine zai 0 (v:=?_) rfl (by kernel_rfl) (by kernel_rfl) (by kernel_rfl) (by kernel_rfl) (fun _ _ _ h=>h) (Or.inl ⟨by rfl,?_⟩) (by assumption) ?_
     rotate_left 1
     ·(intro w hSw;obtain⟨s1,s2,s3⟩:=hSw;go_simp;try with_reducible rfl)
     try simp only[Act.put]
     refine zai 1 (v:=?_) rfl (by kernel_rfl) (by kernel_rfl) (by kernel_rfl) (by kernel_rfl) (fun _ _ _ h=>h) (Or.inl ⟨by rfl,?_⟩) (by assumption) ?_
     rotate_left 1
     ·(intro w hSw;obtain⟨s1,s2,s3⟩:=hSw;go_simp;try with_reducible rfl)
     try simp only[Act.put]
     refine zai 2 (v:=?_) rfl (by kernel_rfl) (by kernel_rfl) (by kernel_rfl) (by kernel_rfl) (fun _ _ _ h=>h) (Or.inl ⟨by rfl,?_⟩) (by assumption) ?_
     rotate_left 1
     ·(intro w hSw;obtain⟨s1,s2,s3⟩:=hSw;go_simp;try with_reducible rfl)
     try simp only[Act.put]
     refine zai 3 (v:=?_) rfl (by kernel_rfl) (by kernel_rfl) (by kernel_rfl) (by kernel_rfl) (fun _ _ _ h=>h) (Or.inl ⟨by rfl,?_⟩) (by assumption) ?_
     rotate_left 1
     ·(intro w hSw;obtain⟨s1,s2,s3⟩:=hSw;go_simp;try with_reducible rfl)
     try simp only[Act.put]
     refine zai 4 (v:=?_) rfl (by kernel_rfl) (by kernel_rfl) (by kernel_rfl) (by kernel_rfl) (fun _ _ _ h=>h) (Or.inl ⟨by rfl,?_⟩) (by assumption) ?_
     rotate_left 1
     ·(intro w hSw;obtain⟨s1,s2,s3⟩:=hSw;go_simp;try with_reducible rfl)
     try simp only[Act.put]
     refine zai 5 (v:=?_) rfl (by kernel_rfl) (by kernel_rfl) (by kernel_rfl) (by kernel_rfl) (fun _ _ _ h=>h) (Or.inl ⟨by rfl,?_⟩) (by assumption) ?_
     rotate_left 1
     ·(intro w hSw;obtain⟨s1,s2,s3⟩:=hSw;go_simp;try with_reducible rfl)
     try simp only[Act.put]
     refine zai 6 (v:=?_) rfl (by kernel_rfl) (by kernel_rfl) (by kernel_rfl) (by kernel_rfl) (fun _ _ _ h=>h) (Or.inl ⟨by rfl,?_⟩) (by assumption) ?_
     rotate_left 1
     ·(intro w hSw;obtain⟨s1,s2,s3⟩:=hSw;go_simp;try with_reducible rfl)
     try simp only[Act.put]
     refine zai 7 (v:=?_) rfl (by kernel_rfl) (by kernel_rfl) (by kernel_rfl) (by kernel_rfl) (fun _ _ _ h=>h) (Or.inl ⟨by rfl,?_⟩) (by assumption) ?_
     rotate_left 1
     ·(intro w hSw;obtain⟨s1,s2,s3⟩:=hSw;go_simp;try with_reducible rfl)
     try simp only[Act.put]
     refine zai 8 (v:=?_) rfl (by kernel_rfl) (by kernel_rfl) (by kernel_rfl) (by kernel_rfl) (fun _ _ _ h=>h) (Or.inl ⟨by rfl,?_⟩) (by assumption) ?_
     rotate_left 1
     ·(intro w hSw;obtain⟨s1,s2,s3⟩:=hSw;go_simp;try with_reducible rfl)
     try simp only[Act.put]
     refine zai 9 (v:=?_) rfl (by kernel_rfl) (by kernel_rfl) (by kernel_rfl) (by kernel_rfl) (fun _ _ _ h=>h) (Or.inl ⟨by rfl,?_⟩) (by assumption) ?_
     rotate_left 1
     ·(intro w hSw;obtain⟨s1,s2,s3⟩:=hSw;go_simp;try with_reducible rfl)
     try simp only[Act.put]
     refine zai 10 (v:=?_) rfl (by kernel_rfl) (by kernel_rfl) (by kernel_rfl) (by kernel_rfl) (fun _ _ _ h=>h) (Or.inl ⟨by rfl,?_⟩) (by assumption) ?_
     rotate_left 1
     ·(intro w hSw;obtain⟨s1,s2,s3⟩:=hSw;go_simp;try with_reducible rfl)
     try simp only[Act.put]
     refine zai 11 (v:=?_) rfl (by kernel_rfl) (by kernel_rfl) (by kernel_rfl) (by kernel_rfl) (fun _ _ _ h=>h) (Or.inl ⟨by rfl,?_⟩) (by assumption) ?_
     rotate_left 1
     ·(intro w hSw;obtain⟨s1,s2,s3⟩:=hSw;go_simp;try with_reducible rfl)
     try simp only[Act.put]
     refine zai 12 (v:=?_) rfl (by kernel_rfl) (by kernel_rfl) (by kernel_rfl) (by kernel_rfl) (fun _ _ _ h=>h) (Or.inl ⟨by rfl,?_⟩) (by assumption) ?_
     rotate_left 1
     ·(intro w hSw;obtain⟨s1,s2,s3⟩:=hSw;go_simp;try with_reducible rfl)
     try simp only[Act.put]
     refine zai 13 (v:=?_) rfl (by kernel_rfl) (by kernel_rfl) (by kernel_rfl) (by kernel_rfl) (fun _ _ _ h=>h) (Or.inl ⟨by rfl,?_⟩) (by assumption) ?_
     rotate_left 1
     ·(intro w hSw;obtain⟨s1,s2,s3⟩:=hSw;go_simp;try with_reducible rfl)
     try simp only[Act.put]
     refine zak (rs:=[14]) (by kernel_rfl) (by simp) ?_
     refine zaj.cons rfl (fun K9 hK=>?_) zaj.nil;go_simp
     refine hK.out _ _ (fun _=>HK4.out _ (bD _ _)) (fun hS'=>?_);clear hK K9;have hS:=hS' (by decide)
     clear hS';refine zak (rs:=[15]) (by kernel_rfl) (by simp) ?_
     refine zaj.cons rfl (fun K9 hK=>?_) zaj.nil;refine step_append_lies _ rfl _ _ 29 rfl w0.heap.size 3 i0 (.int .i64 0) 1 8 Tryz.underlying29 hi hz0 hz1 hz2 rfl (by decide) (.slice ra lr rc) lr (mr.map (Value.int .i64)) rfl (HOW.out _ (bD _ _)) _ 1 1 [.int .i64 p] rfl rfl (zaB (by simp)) (fun u hu=>by rw[List.mem_singleton.1 hu];rfl) (by decide) h63 hby (yi9 HR.out.1.size (bD _ _).size) _ rfl ?_
     intro g5 cap5 w5 ho5 hg5 hat5 hlt5;have HP5:Hid _:=HPUT.out _ w5 g5 cap5 (bD _ _) hg5 ho5 hat5;obtain⟨hS5,hf5⟩:=HKA.out _ w5 (bD _ _) hg5;have HS5:Hid _:=hS5;obtain⟨z1,z2,z3⟩:=hS5;refine hK.out _ _ (fun _=>HS5.out) (fun hS'=>?_);clear hK K9 hS';try simp only[Act.put]
     refine zak (rs:=[16]) (by kernel_rfl) (by simp) ?_
     refine zaj.cons rfl (fun K9 hK=>?_) zaj.nil;go_simp
     refine hK.out _ _ (fun _=>HS5.out) (fun hS'=>?_);clear hK K9 hS';try simp only[Act.put]
     refine zak (rs:=[17]) (by kernel_rfl) (by simp) ?_
     refine zaj.cons rfl (fun K9 hK=>?_) zaj.nil;go_simp
     refine hK.out _ _ (fun h=>absurd rfl h) (fun _=>?_);clear hK K9;refine zal (by kernel_rfl) ?_ _
     clear z1 z2 z3 hf5 ho5 hg5 hat5 hlt5 HPUT HKA HOW hS HS5;go_wp2_with fail;go_roundw
     case rel=>exact⟨j,_,by first|rfl|go_num,by omega,HP5.out.1,HP5.out.2.1,by show(s'.rows.set j _).length=M;rw[List.length_set];exact HR.out.2.2.1,HR.out.2.2.2.1,HR.out.2.2.2.2.1,HR.out.2.2.2.2.2,HP5.out.2.2⟩
     case measure=>(simp[intOf];try omega)
    ·go_wp2_with fail;go_roundw
     case rel=>exact⟨j,s',by first|rfl|go_num,by omega,HR.out.1.below (below_drewN (yg9 _ _) _),HR.out.2.1.trans (HR.out.1.step (below_drewN (yg9 _ _) _)),HR.out.2.2.1,HR.out.2.2.2.1,HR.out.2.2.2.2.1,HR.out.2.2.2.2.2,fun i r hi hr=>by obtain⟨mx,f1,f2⟩:=HI2.out i r hi hr;exact⟨mx,f1,z8B f2 (below_drewN (yg9 _ _) _)⟩⟩
     case measure=>(simp[intOf];try omega)
theorem za8.share{F:Nat->Prop}{w0 w:World}{n c b g pc j:Nat}{tv:Value}{s:RS}{k:RK}(h:za8 w0 F n c tv b s k w)(hpv:s.pv=.slice (some ⟨g,0,none⟩) s.P pc):za8 w0 F n c tv b s k (w.setCell ⟨g,j,none⟩ (.bool true))/\za9 w0.heap.size F w (w.setCell ⟨g,j,none⟩ (.bool true)):=by
 obtain⟨xs,ho,_⟩:=h.rows.places;have hne:c≠g:=fun e=>by
  rcases za6 ho h.blk (by decide)with k|k
  ·rw[hpv]at k;cases k
  ·rw[hpv,e]at k;exact k rfl
 have ho':=ho;rw[hpv]at ho';refine⟨⟨(heap_setCell_other w ⟨g,j,none⟩ c _ hne).trans h.blk,h.hc,h.rows.share hpv rfl⟩,za9.row (B:=0) (v:=s.pv) ho ?_ h.size (by decide)⟩
 rw[hpv];exact(ho'.stored j (.bool true)).2
theorem zaD{F:Nat->Prop}{w0 w:World}{n c b j:Nat}{tv:Value}{s:RS}{k:RK}(name:ByteArray)(h:za8 w0 F n c tv b s k w)(hj:j<n)(hb:b+1<=10000):
  Calls Tryz.prog 99 #[.pointer (some ⟨c,0,none⟩),.string name,.int .i64 (j:Int)] w fun e w'=>e=.returned (.tuple #[])/\zax w0 F n c tv (b+1) s w w':=by
 obtain⟨⟨pa,pc,hpv⟩,⟨og,oc,hov⟩,⟨qa,qc,hqv⟩,_,_,_⟩:=h.rows.shapes;obtain⟨K,hKK⟩:∃ K,s.K=K:=⟨_,rfl⟩;obtain⟨fa,hfa⟩:∃ x,k.fault=x:=⟨_,rfl⟩;obtain⟨fn,hfn⟩:∃ x,k.fn=x:=⟨_,rfl⟩;have hnn:=h.rows.hn;have hKb:=h.rows.hK;rw[hKK]at hqv hKb;have HK:Hid (s.qv=.slice qa K qc/\s.K=K/\s.ov=.slice (some ⟨og,0,none⟩) n oc/\s.pv=.slice pa s.P pc/\k.fault=fa/\k.fn=fn):=⟨hqv,hKK,hov,hpv,hfa,hfn⟩;have H0:Hid (za8 w0 F n c tv b s k w):=h;have HC:Hid (∀ W,Below w.heap.size w W->W.cell? ⟨c,3,none⟩=some (.slice qa K qc)/\W.cell? ⟨c,7,none⟩=some (.int .i64 fa)/\W.cell? ⟨c,2,none⟩=some (.slice (some ⟨og,0,none⟩) n oc)/\W.cell? ⟨c,6,none⟩=some (.int .i64 fn)/\(∀ i,W.frozen? ⟨c,i,none⟩=false)):=fun W hW=>by
  obtain⟨x0,x1,x2,x3,x4,x5,x6,x7,x8,x9,x10,x11,xf⟩:=(H0.out.below hW).cells;rw[HK.out.1]at x3;rw[HK.out.2.2.2.2.1]at x7;rw[HK.out.2.2.1]at x2;rw[HK.out.2.2.2.2.2]at x6;exact⟨x3,x7,x2,x6,xf⟩
 have HQ:Hid (∀ W,Below w.heap.size w W->∀ i,i<K->∃(gq:Nat) (t:ByteArray) (p:Nat) (f bl:Int),qa=some ⟨gq,0,none⟩/\W.cell? ⟨gq,i*4,none⟩=some (.string t)/\W.cell? ⟨gq,i*4+1,none⟩=some (.int .i64 (p:Int))/\W.cell? ⟨gq,i*4+2,none⟩=some (.int .i64 f)/\W.cell? ⟨gq,i*4+3,none⟩=some (.int .i64 bl)/\p<s.P):=fun W hW i hi=>by
  obtain⟨xs,a1,a2⟩:=(H0.out.below hW).rows.opens;rw[HK.out.1,HK.out.2.1]at a1;obtain⟨t,p,f,bl,q1,q2,q3,q4,q5⟩:=a2 i (by rw[HK.out.2.1];exact hi)
  obtain⟨gq,e1,c1⟩:=zab a1 q1;subst e1;exact⟨gq,t,p,f,bl,rfl,c1,z9I a1 q2,z9I a1 q3,z9I a1 q4,q5⟩
 obtain⟨x3,x7,_,_,_⟩:=HC.out w (yg9 _ _);clear h hpv hov hqv hKK hfa hfn x7;go_enter Tryz.func99,Tryz.ntmps99;go_upto_region 1 with fail;clear x3;go_loopw [6,7] (fun i _ wr=>∃ q:Nat,i=.int .i64 ((q:Int)-1)/\q<=K/\Below w.heap.size w wr) (fun i _ _=>(intOf i+1).toNat)
 case atStart=>exact⟨K,by first|rfl|go_num,yf9 _,yg9 _ _⟩
 case round=>
  obtain⟨q,rfl,hq,hbw⟩:=hrel;obtain⟨x3,x7,x2,x6,xf⟩:=HC.out wr hbw;have HBW:Hid (Below w.heap.size w wr):=hbw;by_cases hf0:fa=0
  ·have hf0':(fa==0)=true:=by rw[beq_iff_eq];exact hf0
   rcases Nat.eq_zero_or_pos q with hq0|hq0
   ·subst hq0;have e0:(((0:Nat):Int)-1)=-1:=rfl;rw[e0];have HS:Hid (za8 w0 F n c tv b s { k with fault:=1,pos:=(j:Int) } ((wr.setCell ⟨c,7,none⟩ (.int .i64 1)).setCell ⟨c,8,none⟩ (.int .i64 (j:Int)))/\za9 w0.heap.size F w ((wr.setCell ⟨c,7,none⟩ (.int .i64 1)).setCell ⟨c,8,none⟩ (.int .i64 (j:Int)))):=by
     have r0:=H0.out.below HBW.out;have t0:=H0.out.step HBW.out;obtain⟨r1,t1⟩:=zaa (j:=7) (v:=.int .i64 1) (s':=s) (k':={ k with fault:=1 }) r0.blk r0.hc r0.rows rfl;obtain⟨r2,t2⟩:=zaa (j:=8) (v:=.int .i64 (j:Int)) (s':=s) (k':={ k with fault:=1,pos:=(j:Int) }) r1.blk r1.hc r1.rows rfl;exact⟨r2,(t0.trans t1).trans t2⟩
    obtain⟨y8,y8f⟩:(∃ v,wr.cell? ⟨c,8,none⟩=some v)/\wr.frozen? ⟨c,8,none⟩=false:=⟨⟨_,(H0.out.below hbw).cells.2.2.2.2.2.2.2.2.1⟩,xf 8⟩;obtain⟨v8,y8⟩:=y8;have y7f:=xf 7;clear hbw xf x2 x6 hf0;go_wp2;go_returns;exact⟨rfl,s,_,HS.out.1.more (by omega) hb,HS.out.2,rfl,yf9 _⟩
   ·obtain⟨i,rfl⟩:∃ i,q=i+1:=⟨q-1,by omega⟩
    have e0:(((i+1:Nat):Int)-1)=(i:Int):=by omega
    rw[e0];have hi0:(0:Int)<=(i:Int):=by omega
    have hid:decide ((0:Int)<=(i:Int))=true:=yb9 hi0;have hiK:(i:Int)<(K:Int):=by omega
    obtain⟨gq,t,p,f,bl,hqa,y0,y1,y2,y3,hpP⟩:=HQ.out wr hbw i (by omega)
    subst hqa;have b3:=HBW.out.trans (((yg9 wr.heap.size wr).alloc (yf9 _) (.cells #[.string t,.int .i64 (p:Int),.int .i64 f,.int .i64 bl] 164)).mono HBW.out.size);have hB3:=heap_alloc_new wr (.cells #[.string t,.int .i64 (p:Int),.int .i64 f,.int .i64 bl] 164);obtain⟨W3,hW3⟩:∃ W,wr.alloc (.cells #[.string t,.int .i64 (p:Int),.int .i64 f,.int .i64 bl] 164)=W:=⟨_,rfl⟩;obtain⟨X,hX⟩:∃ X,wr.heap.size=X:=⟨_,rfl⟩;rw[hW3]at b3 hB3;rw[hX]at hB3;subst hf0;clear xf x2 x6 hbw;go_upto_region 4 with fail;try simp only[hW3,hX]
    clear hW3 hX x3 x7 y0 y1 y2 y3;obtain⟨x3,x7,x2,x6,xf⟩:=HC.out W3 b3;obtain⟨y0,y1,y2,y3⟩:=z2u hB3;have HB3:Hid (Below w.heap.size w W3/\W3.heap[X]?=some (.cells #[.string t,.int .i64 (p:Int),.int .i64 f,.int .i64 bl] 164)):=⟨b3,hB3⟩;by_cases hnm:t=name
    ·subst hnm;have hnmT:(t.toList==t.toList)=true:=by rw[beq_iff_eq]
     have hji:(j:Int)<(n:Int):=by omega
     have hj0:(0:Int)<=(j:Int):=by omega
     have r3:=H0.out.below b3;obtain⟨ys,hof⟩:=r3.rows.ofs;rw[HK.out.2.2.1]at hof;obtain⟨⟨uo,hco⟩,hfo⟩:=z8z hof j (by omega)
     have HS5:Hid (∀ m,za8 w0 F n c tv b s k ((W3.drewN m).setCell ⟨og,j,none⟩ (.int .i64 (p:Int)))/\za9 w0.heap.size F W3 ((W3.drewN m).setCell ⟨og,j,none⟩ (.int .i64 (p:Int)))):=fun m=>by
      have rr:=H0.out.below HB3.out.1;have bm:=below_drewN (yg9 W3.heap.size W3) m;obtain⟨r1,t1⟩:=(rr.below bm).ofSet (j:=j) (x:=(p:Int)) HK.out.2.2.1;exact⟨r1,(rr.step bm).trans t1⟩
     clear r3 hof b3 hB3 xf;go_upto_region 5 with fail;go_cut []from 14 to 61 (fun wx=>za8 w0 F n c tv b s k wx/\za9 w0.heap.size F W3 wx)
     case first=>
      go_region
      all_goals (go_wp2_with fail;go_meet;case rel=>exact⟨(HS5.out 1).1,(HS5.out 1).2⟩)
     case rest=>
      obtain⟨hr5,ht5⟩:=hcut;have HR5:Hid (za8 w0 F n c tv b s k wc/\za9 w0.heap.size F w wc):=⟨hr5,(H0.out.step HB3.out.1).trans ht5⟩;have hbox:=ht5.names X _ HB3.out.2;clear x3 x7 x2 x6 y0 y1 y2 y3 HS5 hco hfo ht5;obtain⟨x0,x1,x2,x3,x4,x5,x6,x7,x8,x9,x10,x11,xf⟩:=hr5.cells;rw[HK.out.2.2.2.1]at x1;rw[HK.out.2.2.2.2.2]at x6;obtain⟨y0,y1,y2,y3⟩:=z2u hbox;have HE:Hid (∀ m,zax w0 F n c tv (b+1) s w (wc.drewN m)):=fun m=>⟨s,k,(HR5.out.1.below (below_drewN (yg9 _ _) m)).more (by omega) hb,HR5.out.2.trans (HR5.out.1.step (below_drewN (yg9 _ _) m)),rfl,yf9 _⟩
      by_cases hff:f=fn
      ·subst hff;clear x0 x1 x2 x3 x4 x5 x7 x8 x9 x10 x11 xf hr5 hbox y0 y1 y3;go_wp2;go_quiet (fail)
       go_wp2;go_returns;exact⟨rfl,HE.out _⟩
      ·have hffb:(f==fn)=false:=by rw[yc9];exact hff
       obtain⟨xsp,hop,_⟩:=hr5.rows.places;rw[HK.out.2.2.2.1]at hop;obtain⟨gp,rfl⟩:∃ gp,pa=some ⟨gp,0,none⟩:=by
        rcases hop.2 with ⟨_,e⟩|⟨gp,cap,cur,e,_⟩
        ·omega
        ·injection e with e;exact⟨gp,e⟩
       obtain⟨⟨up,hcp⟩,hfp⟩:=z8z hop (p*4+2) (by omega)
       have hpb:=hr5.rows.hP;have hpi:(p:Int)<(s.P:Int):=by omega
       have hp0:(0:Int)<=(p:Int):=by omega
       obtain⟨PP,hPP⟩:∃ P,s.P=P:=⟨_,rfl⟩;rw[hPP]at x1 hpi hpb;have HS7:Hid (∀ m,za8 w0 F n c tv b s k ((wc.drewN m).setCell ⟨gp,p*4+2,none⟩ (.bool true))/\za9 w0.heap.size F wc ((wc.drewN m).setCell ⟨gp,p*4+2,none⟩ (.bool true))):=fun m=>by
        have bm:=below_drewN (yg9 wc.heap.size wc) m;obtain⟨r1,t1⟩:=(HR5.out.1.below bm).share (j:=p*4+2) HK.out.2.2.2.1;exact⟨r1,(HR5.out.1.step bm).trans t1⟩
       have HBX:Hid (wc.heap[X]?=some (.cells #[.string t,.int .i64 (p:Int),.int .i64 f,.int .i64 bl] 164)):=hbox;clear x0 x2 x3 x4 x5 x7 x8 x9 x10 x11 xf hr5 hbox hop hPP;go_wp2;go_quiet (fail)
       go_upto_region 7 with fail;go_cut []from 14 to 61 (fun wx=>za8 w0 F n c tv b s k wx/\za9 w0.heap.size F wc wx)
       case first=>
        go_region
        all_goals (go_wp2_with fail;go_meet;case rel=>exact⟨(HS7.out _).1,(HS7.out _).2⟩)
       case rest=>
        obtain⟨hr7,ht7⟩:=hcut;have hbx:=ht7.names X _ HBX.out;obtain⟨z0,z1,z2,z3⟩:=z2u hbx;have cR:=zaC t (p:Int) f bl hr7 hb;have HT7:Hid _:=HR5.out.2.trans ht7;clear hr7 ht7 hbx HS7 HE x1 x6 y0 y1 y2 y3 hcp hfp;go_wp2_with fail;refine cR.mono ?_;rintro e w8 ⟨rfl,s8,k8,q1,q2,q3,q4⟩;have HQ8:Hid (zax w0 F n c tv (b+1) s w w8):=⟨s8,k8,q1,HT7.out.trans q2,q3,q4⟩;clear q1 q2 q3 q4;go_wp2;go_returns;exact⟨rfl,HQ8.out⟩
    ·have hnm':(t.toList==name.toList)=false:=by
      rw[yc9,ByteArray.toList_eq,ByteArray.toList_eq];exact fun e=>hnm (z93 e)
     have hnm2:¬ t.toList=name.toList:=by
      rw[ByteArray.toList_eq,ByteArray.toList_eq];exact fun e=>hnm (z93 e)
     clear b3 hB3 hnm;go_wp2_with fail;go_roundw
     case rel=>exact⟨i,by first|rfl|go_num,by omega,HB3.out.1⟩
     case measure=>(simp[intOf];try omega)
  ·have hf0':(fa==0)=false:=by rw[yc9];exact hf0
   have HE:Hid (zax w0 F n c tv (b+1) s w wr):=⟨s,k,(H0.out.below hbw).more (by omega) hb,H0.out.step hbw,rfl,yf9 _⟩
   clear hbw xf x2 x6 x3;rcases Nat.eq_zero_or_pos q with hq0|hq0
   ·subst hq0;have e0:(((0:Nat):Int)-1)=-1:=rfl;rw[e0];go_wp2;go_returns;exact⟨rfl,HE.out⟩
   ·obtain⟨i,rfl⟩:∃ i,q=i+1:=⟨q-1,by omega⟩
    have e0:(((i+1:Nat):Int)-1)=(i:Int):=by omega
    rw[e0];have hi0:(0:Int)<=(i:Int):=by omega
    have hid:decide ((0:Int)<=(i:Int))=true:=yb9 hi0;go_wp2;go_returns;exact⟨rfl,HE.out⟩
theorem zaE{F:Nat->Prop}{H B:Nat}{w w':World}{v:Value}{m:Nat}{xs:List Value}(h:w.ownsRow B 164 4 v m xs)(t:za9 H F w w'):w'.ownsRow B 164 4 v m xs:=by
 refine⟨h.1,?_⟩;rcases h.2 with k|⟨g,cap,cur,e,hb,hg,rest⟩
 ·exact .inl k
 ·exact .inr ⟨g,cap,cur,e,hb,t.names g cur hg,rest⟩
theorem za3.more{xs:List Value}{K P P':Nat}(h:za3 xs K P)(hP:P<=P'):za3 xs K P':=fun i hi=>by
 obtain⟨s,p,f,b,q1,q2,q3,q4,q5⟩:=h i hi;exact⟨s,p,f,b,q1,q2,q3,q4,by omega⟩
def zaF(w0:World)(n c:Nat)(tv:Value)(ns:List z4Q)(y:Int):Prop:=∀(F:Nat->Prop) (b:Nat) (s:RS) (k:RK) (w:World),za8 w0 F n c tv b s k w->b+4*sz ns y<=10000->Calls Tryz.prog 86 #[.pointer (some ⟨c,0,none⟩),.int .i64 y] w fun e w'=>e=.returned (.tuple #[])/\zax w0 F n c tv (b+4*sz ns y) s w w'
theorem zaG{f:Int->Nat}{l:List Int}{q:Nat}{y:Int}(h:l[q]?=some y):sumZ f (l.take (q+1))=sumZ f (l.take q)+f y:=by
 rw[List.take_add_one,h,z8u];simp[sumZ]
theorem zaH{f:Int->Nat}{l:List Int}(q:Nat):sumZ f (l.take q)<=sumZ f l:=by
 have:sumZ f l=sumZ f (l.take q)+sumZ f (l.drop q):=by rw[←z8u,List.take_append_drop]
 omega
theorem zaI{F:Nat->Prop}{w0 w:World}{n c b g tc Bt j x lc:Nat}{ns:List z4Q}{p:z4Q}{s:RS}{k:RK}{la:Option Addr}{l:List ByteArray}(hT:z8G w0 Bt (.slice (some ⟨g,0,none⟩) n tc) ns)(hn:ns.length=n)(h:za8 w0 F n c (.slice (some ⟨g,0,none⟩) n tc) b s k w)(hj:j<n)(hx:ns[x]?=some p)
  (hl:∀ W,Below w0.heap.size w0 W->∀(i:Nat) (t:ByteArray),l[i]?=some t->∃ gl,la=some ⟨gl,0,none⟩/\W.cell? ⟨gl,i,none⟩=some (.string t)) (hl4:l.length<=4) (hN:∀ y∈p.list,zaF w0 n c (.slice (some ⟨g,0,none⟩) n tc) ns y) (hb:b+l.length+4*sumZ (sz ns) p.list<=10000):
  Calls Tryz.prog 59 #[.pointer (some ⟨c,0,none⟩),.int .i64 (x:Int),.slice la l.length lc,.int .i64 (j:Int)] w fun e w'=>e=.returned (.tuple #[])/\zax w0 F n c (.slice (some ⟨g,0,none⟩) n tc) (b+l.length+4*sumZ (sz ns) p.list) s w w':=by
 have HT:Hid (z8G w0 Bt (.slice (some ⟨g,0,none⟩) n tc) ns/\ns.length=n):=⟨hT,hn⟩;have hxn:x<n:=by have:=(List.getElem?_eq_some_iff.1 hx).1;omega
 obtain⟨lv,nv,NA⟩:=z9L hT hx;obtain⟨pa,pc,rfl⟩:=z8A NA.list;obtain⟨m,hm⟩:∃ m,p.list.length=m:=⟨_,rfl⟩;obtain⟨q0,hq0⟩:∃ q,l.length=q:=⟨_,rfl⟩;have HM:Hid (p.list.length=m/\l.length=q0):=⟨hm,hq0⟩;have hmx:m<=9223372036854775807:=by
  obtain⟨_,_,_,h',_⟩:=z8H NA.list;unfold maxLen at h';omega
 have HLC:Hid (∀ W,Below w0.heap.size w0 W->W.cell? ⟨g,x*8+4,none⟩=some (.slice pa m pc)/\∀(i:Nat) (y:Int),p.list[i]?=some y->∃ gl,pa=some ⟨gl,0,none⟩/\W.cell? ⟨gl,i,none⟩=some (.int .i64 y)):=fun W hW=>by
  refine⟨?_,fun i y hi=>z9N NA.list hW (by rw[List.getElem?_map,hi];rfl)⟩
  have:=(NA.below hW).c4;rw[hm]at this;exact this
 have HL:Hid (∀ W,Below w0.heap.size w0 W->∀(i:Nat) (t:ByteArray),l[i]?=some t->∃ gl,la=some ⟨gl,0,none⟩/\W.cell? ⟨gl,i,none⟩=some (.string t)):=hl;have HNW:Hid (∀ y∈p.list,zaF w0 n c (.slice (some ⟨g,0,none⟩) n tc) ns y):=hN;obtain⟨tv,htv⟩:∃ tv,Value.slice (some ⟨g,0,none⟩) n tc=tv:=⟨_,rfl⟩;have HTV:Hid (Value.slice (some ⟨g,0,none⟩) n tc=tv):=htv;rw[htv]at h ⊢;rw[hq0]at hb hl4 ⊢;have H0:Hid (za8 w0 F n c tv b s k w):=h;obtain⟨Z,hZ⟩:∃ Z,sumZ (sz ns) p.list=Z:=⟨_,rfl⟩;have HZ:Hid (sumZ (sz ns) p.list=Z):=hZ;rw[hZ]at hb ⊢;have hnn:=h.rows.hn;obtain⟨x0,x1,x2,x3,x4,x5,x6,x7,x8,x9,x10,x11,xf⟩:=h.cells;obtain⟨_,_,⟨qa,qc,hqv⟩,_,_,_⟩:=h.rows.shapes;rw[hqv]at x3;have HQV:Hid (s.qv=.slice qa s.K qc):=hqv;obtain⟨K,hK⟩:∃ K,s.K=K:=⟨_,rfl⟩;have HKK:Hid (s.K=K):=hK;rw[hK]at x3;obtain⟨kb,hkb⟩:∃ x,k.block=x:=⟨_,rfl⟩;obtain⟨kbs,hkbs⟩:∃ x,k.blocks=x:=⟨_,rfl⟩;rw[hkb]at x4;rw[hkbs]at x5;have f4:=xf 4;have f5:=xf 5;have HS:Hid (∀ B1 B2:Int,za8 w0 F n c tv b s { k with blocks:=B1,block:=B2 } ((w.setCell ⟨c,5,none⟩ (.int .i64 B1)).setCell ⟨c,4,none⟩ (.int .i64 B2))/\za9 w0.heap.size F w ((w.setCell ⟨c,5,none⟩ (.int .i64 B1)).setCell ⟨c,4,none⟩ (.int .i64 B2))):=fun B1 B2=>by
  obtain⟨r1,t1⟩:=zaa (j:=5) (v:=.int .i64 B1) (s':=s) (k':={ k with blocks:=B1 }) H0.out.blk H0.out.hc H0.out.rows rfl;obtain⟨r2,t2⟩:=zaa (j:=4) (v:=.int .i64 B2) (s':=s) (k':={ k with blocks:=B1,block:=B2 }) r1.blk r1.hc r1.rows rfl;exact⟨r2,t1.trans t2⟩
 clear h hT hn hl hN NA hm hq0 htv hZ hqv hK hkb hkbs xf x0 x1 x2 x6 x7 x8 x9 x10 x11;go_enter Tryz.func59,Tryz.ntmps59;go_upto_region 5 with fail;go_loopw [10] (fun i wr=>∃(q:Nat) (s':RS) (k':RK),i=.int .i64 (q:Int)/\q<=q0/\za8 w0 F n c tv (b+q) s' k' wr/\za9 w0.heap.size F w wr/\s'.rows.length=s.rows.length/\s.P<=s'.P) (fun i _=>q0-(intOf i).toNat)
 case atStart=>exact⟨0,s,_,rfl,yj9 _,(HS.out _ _).1,(HS.out _ _).2,rfl,yf9 _⟩
 case round=>
  clear HS x3 x4 x5 f4 f5;obtain⟨q,s',k',rfl,hq,hrun,hstep,r1,r2⟩:=hrel;by_cases hlt:q<q0
  ·obtain⟨t,ht⟩:∃ t,l[q]?=some t:=⟨_,yd9 (by have:=HM.out.2;omega)⟩
   obtain⟨gl,hla,hcl⟩:=HL.out wr hrun.rows.low q t ht;subst hla;have hqi:(q:Int)<(q0:Int):=by omega
   have hq00:(0:Int)<=(q:Int):=by omega
   have cT:Calls Tryz.prog 85 #[.pointer (some ⟨c,0,none⟩),.string t,.int .i64 (j:Int)] wr fun e w'=>e=.returned (.tuple #[])/\zax w0 F n c tv (b+q+1) s' wr w':=by
    have e:=HTV.out;have hr:=hrun;rw[←e]at hr ⊢;exact zaz t HT.out.1 HT.out.2 hr hj (by omega)
   have HST:Hid (za9 w0.heap.size F w wr/\s'.rows.length=s.rows.length/\s.P<=s'.P):=⟨hstep,r1,r2⟩;clear hrun hstep r1 r2 ht;go_wp2_with fail;refine cT.mono ?_;rintro e w5 ⟨rfl,s5,k5,p1,p2,p3,p4⟩;have HM5:Hid (za8 w0 F n c tv (b+(q+1)) s5 k5 w5/\za9 w0.heap.size F w w5/\s5.rows.length=s.rows.length/\s.P<=s5.P):=⟨p1,HST.out.1.trans p2,p3.trans HST.out.2.1,yi9 HST.out.2.2 p4⟩;clear p1 p2 p3 p4 cT hcl;go_wp2_with fail;go_roundw
   case rel=>exact⟨q+1,s5,k5,by go_num,by omega,HM5.out.1,HM5.out.2.1,HM5.out.2.2.1,HM5.out.2.2.2⟩
   case measure=>simp[intOf];omega
  ·have hge:decide ((q:Int)<(q0:Int))=false:=ya9 (by omega)
   have hge':decide (q<q0)=false:=ya9 (by omega)
   have eq0:q=q0:=by omega
   have HR:Hid (za8 w0 F n c tv (b+q0+4*sumZ (sz ns) (p.list.take 0)) s' k' wr/\za9 w0.heap.size F w wr/\s'.rows.length=s.rows.length/\s.P<=s'.P):=by
    rw[eq0]at hrun;exact⟨hrun,hstep,r1,r2⟩
   clear hrun hstep r1 r2 eq0;go_upto_region 9 with fail;go_loopw [11] (fun i ws=>∃(q:Nat) (s':RS) (k':RK),i=.int .i64 (q:Int)/\q<=m/\za8 w0 F n c tv (b+q0+4*sumZ (sz ns) (p.list.take q)) s' k' ws/\za9 w0.heap.size F w ws/\s'.rows.length=s.rows.length/\s.P<=s'.P) (fun i _=>m-(intOf i).toNat)
   case atStart=>exact⟨0,s',k',rfl,yj9 _,HR.out.1,HR.out.2.1,HR.out.2.2.1,HR.out.2.2.2⟩
   case round=>
    clear HR hge hge' hlt;obtain⟨q1,s1,k1,rfl,hq1,hrun,hstep,r1,r2⟩:=hrel;obtain⟨x0,x1,x2,x3,x4,x5,x6,x7,x8,x9,x10,x11,xf⟩:=hrun.cells;rw[←HTV.out]at x0;obtain⟨fa,hfa⟩:∃ x,k1.fault=x:=⟨_,rfl⟩;rw[hfa]at x7;have hcl:=HLC.out _ hrun.rows.low;obtain⟨hc4,hcs⟩:=hcl;have hxi:(x:Int)<(n:Int):=by omega
    have hx0:(0:Int)<=(x:Int):=by omega
    have HST:Hid (za8 w0 F n c tv (b+q0+4*sumZ (sz ns) (p.list.take q1)) s1 k1 wr/\za9 w0.heap.size F w wr/\s1.rows.length=s.rows.length/\s.P<=s1.P):=⟨hrun,hstep,r1,r2⟩;have HEND:Hid (zax w0 F n c tv (b+q0+4*Z) s w ((wr.setCell ⟨c,4,none⟩ (.int .i64 kb)).setCell ⟨c,3,none⟩ (.slice qa K qc))):=by
     have hle:=zaH (f:=sz ns) (l:=p.list) q1;rw[HZ.out]at hle;have ra:=HST.out.1.more (b':=b+q0+4*Z) (by omega) hb
     obtain⟨ra1,ta1⟩:=zaa (j:=4) (v:=.int .i64 kb) (s':=s1) (k':={ k1 with block:=kb }) ra.blk ra.hc ra.rows rfl;obtain⟨xs,o1,o2⟩:=H0.out.rows.opens;have o1':=zaE o1 (HST.out.2.1.trans ta1);rw[HQV.out,HKK.out]at o1';rw[HKK.out]at o2;have hKb:=H0.out.rows.hK;rw[HKK.out]at hKb;have rr:=ra1.rows.reopen (qv':=.slice qa K qc) (K':=K) (xs:=xs) o1' (o2.more HST.out.2.2.2) (by omega)
     obtain⟨rb,tb⟩:=zaa (j:=3) (v:=.slice qa K qc) (s':={ s1 with K:=K,qv:=.slice qa K qc }) (k':={ k1 with block:=kb }) ra1.blk ra1.hc rr rfl;exact⟨_,_,rb,(HST.out.2.1.trans ta1).trans tb,HST.out.2.2.1,HST.out.2.2.2⟩
    have f4:=xf 4;have f3:=xf 3;clear hstep r1 r2 xf x1 x2 x5 x6 x8 x9 x10 x11 hfa;by_cases hlt:q1<m
    ·by_cases hf0:fa=0
     ·have hf0':(fa==0)=true:=by rw[beq_iff_eq];exact hf0
      obtain⟨y,hy⟩:∃ y,p.list[q1]?=some y:=⟨_,yd9 (by have:=HM.out.1;omega)⟩
      obtain⟨gl,hla,hcy⟩:=hcs q1 y hy;subst hla;have hqi:(q1:Int)<(m:Int):=by omega
      have hq00:(0:Int)<=(q1:Int):=by omega
      have hsum:=zaG (f:=sz ns) hy;have hle:=zaH (f:=sz ns) (l:=p.list) (q1+1);rw[HZ.out]at hle;have cN:Calls Tryz.prog 86 #[.pointer (some ⟨c,0,none⟩),.int .i64 y] wr fun e w'=>e=.returned (.tuple #[])/\zax w0 F n c tv (b+q0+4*sumZ (sz ns) (p.list.take (q1+1))) s1 wr w':=by
       have e:=HTV.out;have hr:=hrun;rw[←e]at hr ⊢;have:=HNW.out y (List.mem_iff_getElem?.2 ⟨q1,hy⟩) _ _ _ _ _ hr (by omega)
       rw[hsum,Nat.mul_add,←Nat.add_assoc];exact this
      clear hrun hy hsum hle hcs hf0 HEND;go_wp2_with fail;refine cN.mono ?_;rintro e w5 ⟨rfl,s5,k5,p1,p2,p3,p4⟩;have HM5:Hid (za8 w0 F n c tv (b+q0+4*sumZ (sz ns) (p.list.take (q1+1))) s5 k5 w5/\za9 w0.heap.size F w w5/\s5.rows.length=s.rows.length/\s.P<=s5.P):=⟨p1,HST.out.2.1.trans p2,p3.trans HST.out.2.2.1,yi9 HST.out.2.2.2 p4⟩;clear p1 p2 p3 p4 cN hcy x0 x3 x4 x7 f3 f4 hc4;go_wp2_with fail;go_roundw
      case rel=>exact⟨q1+1,s5,k5,by go_num,by omega,HM5.out.1,HM5.out.2.1,HM5.out.2.2.1,HM5.out.2.2.2⟩
      case measure=>simp[intOf];omega
     ·have hf0':(fa==0)=false:=by rw[yc9];exact hf0
      have hqd:decide ((q1:Int)<(m:Int))=true:=yb9 (by omega)
      have hqd':decide (q1<m)=true:=yb9 hlt;clear hrun hcs;go_wp2;go_returns;exact⟨rfl,HEND.out⟩
    ·have hge:decide ((q1:Int)<(m:Int))=false:=ya9 (by omega)
     have hge':decide (q1<m)=false:=ya9 (by omega)
     clear hrun hcs;go_wp2;go_returns;exact⟨rfl,HEND.out⟩
