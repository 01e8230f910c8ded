/- Part 29. -/
import Derived.Test.YtdbekjiognpgnaaGreatPbb
set_option maxHeartbeats 16000000
set_option maxRecDepth 100000
set_option linter.unusedVariables false
namespace Go.Proofs.YtdbekjiognpgnaaGreat
open Go.RowKit Go.Sort
theorem zb8{w:World}{n g tc Bt:Nat}{ns:List z4Q}(hR:z88 ns)(hT:z8G w Bt (.slice (some ⟨g,0,none⟩) n tc) ns)(hn:ns.length=n):
  Calls Tryz.prog 33 #[.slice (some ⟨g,0,none⟩) n tc] w fun e w'=>∃ c s k b,e=.returned (.pointer (some ⟨c,0,none⟩))/\za8 w (fun _=>False) n c (.slice (some ⟨g,0,none⟩) n tc) b s k w':=by
 have few:=hR.few;rw[hn]at few;obtain⟨few1,few2⟩:=few;obtain⟨L,hL⟩:∃ L:Nat,n=L+1:=⟨n-1,by omega⟩
 have hLi:((n:Int)-1)=(L:Int):=by omega
 obtain⟨p,hp⟩:∃ p,ns[L]?=some p:=⟨_,yd9 (by omega)⟩
 have hk29:p.kind=29:=by
  have h:=hR.last;unfold z5X at h;rw[hn,hLi,Int.toNat_natCast,hp]at h;exact h
 have hkl:z8o p=p.list:=by
  unfold z8o z5V;rw[if_neg (by omega),if_neg (by omega),if_neg (by omega),if_neg (by omega),if_neg (by omega),if_neg (by omega),if_neg (by omega),if_pos hk29,List.map_map]
  show p.list.map id=_;rw[List.map_id]
 have hsz:sumZ (sz ns) p.list<=200:=by
  have h1:=hR.sz_eq hp;have h2:=hR.all;rw[hn,hLi]at h2;rw[h2,hkl]at h1;omega
 have hmk1:=run_make_row' (P:=Tryz.prog) 29 3 (.int .i64 0) 8 Tryz.underlying29 Tryz.infoInt rfl .i64 .i64 n (by omega) (by omega)
 have hmk2:=run_make_row' (P:=Tryz.prog) 79 29 (.slice none 0 0) 24 Tryz.underlying79 Tryz.infoInts rfl .i64 .i64 n (by omega) (by omega)
 have HT:Hid (z88 ns/\z8G w Bt (.slice (some ⟨g,0,none⟩) n tc) ns/\ns.length=n/\ns[L]?=some p/\z8o p=p.list/\n=L+1/\sumZ (sz ns) p.list<=200):=⟨hR,hT,hn,hp,hkl,hL,hsz⟩;clear hR hT hn hp hkl hk29 hsz hL;obtain⟨tv,htv⟩:∃ tv,Value.slice (some ⟨g,0,none⟩) n tc=tv:=⟨_,rfl⟩;have HTV:Hid (Value.slice (some ⟨g,0,none⟩) n tc=tv):=htv;clear htv;go_enter Tryz.func33,Tryz.ntmps33;go_upto_region 2 with fail;try simp only[hLi]
 go_cut [4] (fun v wx=>∃ c s k,v=.pointer (some ⟨c,0,none⟩)/\za8 w (fun _=>False) n c (.slice (some ⟨g,0,none⟩) n tc) 1 s k wx)
 case first=>
  clear HT HTV;go_region
  all_goals
   go_wp2_with fail;go_meet
   case rel=>exact zb7 few1 (by omega) (zb5 _ _ _ _ _ _ _).2.2.2.2.2.2 (by first|exact(zb5 _ _ _ _ _ _ _).2.1|exact(zb5 _ _ _ _ _ _ _).2.2.1|exact(zb5 _ _ _ _ _ _ _).2.2.2.1|exact(zb5 _ _ _ _ _ _ _).2.2.2.2.1|exact(zb5 _ _ _ _ _ _ _).2.2.2.2.2.1) (by first|exact(zb5 _ _ _ _ _ _ _).2.1|exact(zb5 _ _ _ _ _ _ _).2.2.1|exact(zb5 _ _ _ _ _ _ _).2.2.2.1|exact(zb5 _ _ _ _ _ _ _).2.2.2.2.1|exact(zb5 _ _ _ _ _ _ _).2.2.2.2.2.1) (by first|exact(zb5 _ _ _ _ _ _ _).2.1|exact(zb5 _ _ _ _ _ _ _).2.2.1|exact(zb5 _ _ _ _ _ _ _).2.2.2.1|exact(zb5 _ _ _ _ _ _ _).2.2.2.2.1|exact(zb5 _ _ _ _ _ _ _).2.2.2.2.2.1) (by first|exact(zb5 _ _ _ _ _ _ _).2.1|exact(zb5 _ _ _ _ _ _ _).2.2.1|exact(zb5 _ _ _ _ _ _ _).2.2.2.1|exact(zb5 _ _ _ _ _ _ _).2.2.2.2.1|exact(zb5 _ _ _ _ _ _ _).2.2.2.2.2.1) (by first|exact(zb5 _ _ _ _ _ _ _).2.1|exact(zb5 _ _ _ _ _ _ _).2.2.1|exact(zb5 _ _ _ _ _ _ _).2.2.2.1|exact(zb5 _ _ _ _ _ _ _).2.2.2.2.1|exact(zb5 _ _ _ _ _ _ _).2.2.2.2.2.1) (zb5 _ _ _ _ _ _ _).1 (by refine⟨?_,?_,?_,?_,?_,?_,?_,?_,?_,?_⟩<;>omega)
 case rest=>
  obtain⟨c,s,k,rfl,hrun0⟩:=hcut;have H0:Hid (za8 w (fun _=>False) n c (.slice (some ⟨g,0,none⟩) n tc) 1 s k wc):=hrun0;obtain⟨_,⟨og,oc,hov⟩,_⟩:=hrun0.rows.shapes;have HOV:Hid (s.ov=.slice (some ⟨og,0,none⟩) n oc):=hov;clear hrun0 hov hmk1 hmk2;go_upto_region 4 with fail;go_loopw [5] (fun i wr=>∃ q:Nat,i=.int .i64 (q:Int)/\q<=n/\za8 w (fun _=>False) n c (.slice (some ⟨g,0,none⟩) n tc) 1 s k wr) (fun i _=>n-(intOf i).toNat)
  case atStart=>exact⟨0,rfl,yj9 _,H0.out⟩
  case round=>
   obtain⟨q,rfl,hq,hrun⟩:=hrel;have HR:Hid (za8 w (fun _=>False) n c (.slice (some ⟨g,0,none⟩) n tc) 1 s k wr):=hrun;obtain⟨x0,x1,x2,x3,x4,x5,x6,x7,x8,x9,x10,x11,xf⟩:=hrun.cells;rw[HOV.out]at x2;by_cases hlt:q<n
   ·obtain⟨ys,hof⟩:=hrun.rows.ofs;rw[HOV.out]at hof;obtain⟨⟨uo,hco⟩,hfo⟩:=z8z hof q (by omega)
    have HS:Hid (za8 w (fun _=>False) n c (.slice (some ⟨g,0,none⟩) n tc) 1 s k (wr.setCell ⟨og,q,none⟩ (.int .i64 (-1)))):=(HR.out.ofSet (j:=q) (x:=-1) HOV.out).1;have hqi:(q:Int)<(n:Int):=by omega
    have hq0:(0:Int)<=(q:Int):=by omega
    clear hrun hof x0 x1 x3 x4 x5 x6 x7 x8 x9 x10 x11 xf;go_wp2;go_roundw
    case rel=>exact⟨q+1,by go_num,by omega,HS.out⟩
    case measure=>simp[intOf];omega
   ·have hge:decide ((q:Int)<(n:Int))=false:=ya9 (by omega)
    have hge':decide (q<n)=false:=ya9 (by omega)
    have cB:∀(G:Nat) (W:World),Below wr.heap.size wr W->Calls Tryz.prog 59 #[.pointer (some ⟨c,0,none⟩),.int .i64 (L:Int),.slice (some ⟨G,0,none⟩) 0 0,.int .i64 (L:Int)] W fun e w'=>e=.returned (.tuple #[])/\zax w (fun _=>False) n c (.slice (some ⟨g,0,none⟩) n tc) (1+0+4*sumZ (sz ns) p.list) s W w':=fun G W hW=>by
     have hr:=HR.out.below hW;have hsz:=HT.out.2.2.2.2.2.2;have hLn:=HT.out.2.2.2.2.2.1;exact zaI (l:=[]) (la:=some ⟨G,0,none⟩) (lc:=0) HT.out.2.1 HT.out.2.2.1 hr (by omega) HT.out.2.2.2.1 (fun _ _ i t h=>by simp at h) (by simp) (fun y hy=>by
      obtain⟨e0,e1⟩:=HT.out.1.early L p HT.out.2.2.2.1 y (by rw[HT.out.2.2.2.2.1];exact hy)
      have:=zb4 (c:=c) HT.out.1 HT.out.2.1 HT.out.2.2.1 y.toNat (by omega)
      rw[Int.toNat_of_nonneg e0]at this;exact this) (by simp;omega)
    have bA:∀ o,Below wr.heap.size wr (wr.alloc o):=fun o=>(yg9 _ _).alloc (yf9 _) o;clear hrun x0 x1 x2 x3 x4 x5 x6 x7 x8 x9 x10 x11 xf;go_wp2_with fail;refine(cB _ _ (bA _)).mono ?_;rintro e w5 ⟨rfl,s5,k5,r5,t5,l5,P5⟩;have HE:Hid (za8 w (fun _=>False) n c (.slice (some ⟨g,0,none⟩) n tc) (1+0+4*sumZ (sz ns) p.list) s5 k5 w5):=r5;clear r5 t5 l5 P5 cB;go_wp2;go_returns;exact⟨c,s5,k5,_,rfl,HE.out⟩
