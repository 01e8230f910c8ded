/- Part 34. -/
import Derived.Test.YtdbekjiognpgnaaGreatPag
import Derived.Test.YtdbekjiognpgnaaGreatPbf
import Derived.Test.YtdbekjiognpgnaaGreatPbg
set_option maxHeartbeats 16000000
set_option maxRecDepth 100000
set_option linter.unusedVariables false
namespace Go.Proofs.YtdbekjiognpgnaaGreat
open Go.RowKit
theorem zbu{ac:Option Addr}{len cap g c:Nat}{nv:Value}{N:Nat}{w:World}(G:Gen ac len cap g c nv N w):
  Calls Tryz.prog 58 #[.pointer (some ⟨c,0,none⟩),.int .i64 1] w fun e w'=>∃ s:ByteArray,s.size=1/\e=.returned (.string s)/\Gen ac len cap g c nv N w'/\Two g c w w':=
 (z0k ac len cap c 1 w G.cur (by omega)).mono fun e w' ⟨s,hs,he,hc,gr⟩=>⟨s,hs,he,G.drawn hc gr,.of_grown gr⟩
theorem zbv{s:ByteArray}(a b:Nat):(s.extract a b).size<=s.size:=by rw[ByteArray.size_extract];omega
theorem zbw{ac:Option Addr}{len cap g c:Nat}{nv:Value}{N:Nat}{w:World}(s:ByteArray)(hs:s.size<=1000000000)(G:Gen ac len cap g c nv N w):
  Calls Tryz.prog 29 #[.pointer (some ⟨c,0,none⟩),.string s] w fun e w'=>∃ t:ByteArray,t.size<=s.size+1/\e=.returned (.string t)/\Gen ac len cap g c nv N w'/\Two g c w w':=by
 have cT:=fun(W:World) (GW:Gen ac len cap g c nv N W)=>zbu GW;go_enter Tryz.func29,Tryz.ntmps29;go_wp2_with fail;refine(z4i 12 (by omega) (by omega) G).mono ?_
 rintro e w1 ⟨x,hx,rfl,G1,K1⟩;by_cases h0:x=0
 ·subst h0;go_wp2_with fail;refine(cT _ G1).mono ?_;rintro e w2 ⟨t,ht,rfl,G2,K2⟩;go_wp2;go_ret;exact⟨_,by simp only[ByteArray.size_append];(try simp only[show ∀ a:Array UInt8,(⟨a⟩:ByteArray).size=a.size from fun _=>rfl]);first|omega|(simp;omega),rfl,G2,K1.trans K2⟩
 ·have h0':((x:Int)==0)=false:=by rw[yc9];omega
  by_cases h1:x=1
  ·subst h1;obtain⟨L,hL⟩:∃ L,s.size+1=L:=⟨_,rfl⟩;have hL':(s.size:Int)+1=L:=by omega
   go_wp2_with fail;refine(z4i L (by omega) (by omega) G1).mono ?_
   rintro e w2 ⟨y,hy,rfl,G2,K2⟩;have hy':(y:Int)<=s.size:=by omega
   have hc:=zbv (s:=s) 0 y;obtain⟨t,ht⟩:∃ t,s.extract 0 y=t:=⟨_,rfl⟩;rw[ht]at hc;go_wp2;try simp only[ht]
   go_ret;exact⟨t,by omega,rfl,G2,K1.trans K2⟩
  ·have h1':((x:Int)==1)=false:=by rw[yc9];omega
   by_cases h23:x=2\/x=3
   ·by_cases hl:0<s.size
    ·have hl':(0:Int)<s.size:=by omega
     rcases h23 with rfl|rfl
     ·go_wp2_with fail;refine(z4i s.size (by omega) (by omega) G1).mono ?_
      rintro e w2 ⟨y,hy,rfl,G2,K2⟩;have hy':(y:Int)<=s.size:=by omega
      obtain⟨y1,hy1⟩:∃ z,y+1=z:=⟨_,rfl⟩;have hy1':(y:Int)+1=y1:=by omega
      have hy2:(y1:Int)<=s.size:=by omega
      have hyw:IntKind.i64.wrap (y1:Int)=y1:=by rw[IntKind.wrap_i64];omega
      have hca:(s.extract 0 y).size=y:=by rw[ByteArray.size_extract];omega
      have hcb:(s.extract y1 s.size).size=s.size-y1:=by rw[ByteArray.size_extract];omega
      obtain⟨ta,hta⟩:∃ t,s.extract 0 y=t:=⟨_,rfl⟩;obtain⟨tb,htb⟩:∃ t,s.extract y1 s.size=t:=⟨_,rfl⟩;rw[hta]at hca;rw[htb]at hcb;have KK:Two g c w w2.drew:=(K1.trans K2).drew;go_upto_region 10 with fail;go_region_with (go_at_call 58;refine(cT _ ?_).mono ?_;(first|exact G2.drew|exact G2);rintro e w3 ⟨t,ht,rfl,G3,K3⟩;have KK:Two g c w w3:=Two.trans KK K3)
      all_goals go_wp2
      all_goals try simp only[hta,htb]
      all_goals go_ret
      all_goals exact⟨_,by simp only[ByteArray.size_append];(try simp only[show ∀ a:Array UInt8,(⟨a⟩:ByteArray).size=a.size from fun _=>rfl]);first|omega|(simp;omega),rfl,G3,KK⟩
     ·go_wp2_with fail;refine(z4i s.size (by omega) (by omega) G1).mono ?_
      rintro e w2 ⟨y,hy,rfl,G2,K2⟩;have hy':(y:Int)<=s.size:=by omega
      obtain⟨y1,hy1⟩:∃ z,y+1=z:=⟨_,rfl⟩;have hy1':(y:Int)+1=y1:=by omega
      have hy2:(y1:Int)<=s.size:=by omega
      have hyw:IntKind.i64.wrap (y1:Int)=y1:=by rw[IntKind.wrap_i64];omega
      have hca:(s.extract 0 y).size=y:=by rw[ByteArray.size_extract];omega
      have hcb:(s.extract y1 s.size).size=s.size-y1:=by rw[ByteArray.size_extract];omega
      obtain⟨ta,hta⟩:∃ t,s.extract 0 y=t:=⟨_,rfl⟩;obtain⟨tb,htb⟩:∃ t,s.extract y1 s.size=t:=⟨_,rfl⟩;rw[hta]at hca;rw[htb]at hcb;have KK:Two g c w w2.drew:=(K1.trans K2).drew;go_upto_region 10 with fail;go_region_with (go_at_call 58;refine(cT _ ?_).mono ?_;(first|exact G2.drew|exact G2);rintro e w3 ⟨t,ht,rfl,G3,K3⟩;have KK:Two g c w w3:=Two.trans KK K3)
      all_goals go_wp2
      all_goals try simp only[hta,htb]
      all_goals go_ret
      all_goals exact⟨_,by simp only[ByteArray.size_append];(try simp only[show ∀ a:Array UInt8,(⟨a⟩:ByteArray).size=a.size from fun _=>rfl]);first|omega|(simp;omega),rfl,G3,KK⟩
    ·have hl':decide ((0:Int)<s.size)=false:=ya9 (by omega)
     rcases h23 with rfl|rfl
     ·go_wp2;go_ret;exact⟨s,by omega,rfl,G1,K1⟩
     ·go_wp2;go_ret;exact⟨s,by omega,rfl,G1,K1⟩
   ·have h2':((x:Int)==2)=false:=by rw[yc9];omega
    have h3':((x:Int)==3)=false:=by rw[yc9];omega
    go_wp2;go_ret;exact⟨s,by omega,rfl,G1,K1⟩
theorem zbx{ac:Option Addr}{len cap c:Nat}{w:World}(hC:Cur ac len cap w c)(l:Int):Gen ac len cap w.heap.size c (.slice none 0 0) 0 (w.alloc (.cells #[.pointer (some ⟨c,0,none⟩),.slice none 0 0,.int .i64 l] 70)):=by
 have hlt:=hC.2.1;refine⟨z0h hC _,⟨hC.1.1,fun hp=>?_⟩,by omega,⟨l,heap_alloc_new w _⟩,.inl ⟨rfl,rfl⟩,by omega⟩
 obtain⟨b,off,e,hb,hbl,hc⟩:=hC.1.2 hp;have bel:Below w.heap.size w (w.alloc (.cells #[.pointer (some ⟨c,0,none⟩),.slice none 0 0,.int .i64 l] 70)):=(yg9 _ _).alloc (yf9 _) _;refine⟨b,off,e,by omega,by have:=bel.size;omega,fun j hj=>?_⟩
 obtain⟨z,hz,hcz⟩:=hc j hj;exact⟨z,hz,by rw[bel.cell hbl];exact hcz⟩
theorem zby{g c:Nat}{w W0 w':World}(hb:Below w.heap.size w W0)(k:Two g c W0 w')(hg:w.heap.size<=g):w.grownBy w' (some c):=
 ⟨k.os.trans hb.os,k.tape.trans hb.tape,k.output.trans hb.output,yi9 hb.size k.size,fun i hi hne=>by
  rw[k.block i (Nat.lt_of_lt_of_le hi hb.size) (by omega) (fun e=>hne (by rw[e])),hb.block i hi]⟩
theorem zbz{ac:Option Addr}{len cap c:Nat}{w:World}(ihS:z4y 3)(hC:Cur ac len cap w c):
  Calls Tryz.prog 13 #[.pointer (some ⟨c,0,none⟩),.slice ac len cap] w fun e w'=>∃ s:ByteArray,s.size<=1000000000/\e=.returned (.string s)/\w.grownBy w' (some c)/\Cur ac len cap w' c:=by
 have hlen:len<=1048576:=hC.1.1;have hlen':(len:Int)<=1048576:=by omega
 obtain⟨q,hq⟩:∃ q:Int,(12:Int)+(len:Int)/4=q:=⟨_,rfl⟩;have hq1:12<=q/\q<=300000:=by
  rw[←hq];omega
 obtain⟨g,hg⟩:∃ g,w.heap.size=g:=⟨_,rfl⟩;have cS:=fun(W:World) (nw:Value) (M:Nat) (i:Int) (GW:Gen ac len cap g c nw M W) (hM:M<=100)=>ihS i GW (by omega)
 have hA:lenA 3=5400000:=by decide
 rw[hA]at cS;by_cases hq50:50<q
 ·obtain⟨W1,hW1⟩:∃ W,w.alloc (.cells #[.pointer (some ⟨c,0,none⟩),.slice none 0 0,.int .i64 50] 70)=W:=⟨_,rfl⟩;have G1:Gen ac len cap g c (.slice none 0 0) 0 W1:=by rw[←hW1,←hg];exact zbx hC 50
  have bel1:Below w.heap.size w W1:=by rw[←hW1];exact(yg9 _ _).alloc (yf9 _) _
  have n2:W1.cell? ⟨g,2,none⟩=some (.int .i64 50):=(z08 (by rw[←hW1,←hg];exact heap_alloc_new w _)).2.2.1
  go_enter Tryz.func13,Tryz.ntmps13;obtain⟨n0,n1,_,_⟩:=G1.cells;go_upto_region 6 with fail;try simp only[hW1]
  clear hW1;go_loopw [6,7] (fun y z wr=>∃(s:ByteArray) (i:Nat) (nw:Value) (M:Nat),y=.string s/\z=.int .i64 i/\i<=7/\M<=4*i/\s.size<=10800000*i/\Gen ac len cap g c nw M wr/\Two g c W1 wr) (fun _ z _=>8-(intOf z).toNat)
  case atStart=>exact⟨_,0,_,0,rfl,rfl,by omega,by omega,(show(0:Nat)<=10800000*0 by omega),G1,Two.refl _ _ _⟩
  case round=>
   clear n0 n1 n2 G1;obtain⟨s,i,nw,M,rfl,rfl,hi7,hM,hsz,G4,K4⟩:=hrel;obtain⟨a0,a1,_,_⟩:=G4.cells;go_wp2_with fail;refine(z4i 6 (by omega) (by omega) G4).mono ?_
   rintro e w5 ⟨y,hy,rfl,G5,K5⟩;replace K5:=K4.trans K5;obtain⟨b0,b1,⟨l5,b2⟩,b3⟩:=G5.cells;obtain⟨y2,hy2⟩:∃ z,2+y=z:=⟨_,rfl⟩;have hy2':(2:Int)+y=y2:=by omega
   clear K4 G4 a0 a1;by_cases c1:i<y2
   ·have c1':(i:Int)<y2:=by omega
    by_cases c2:0<l5
    ·have c2':(0:Int)<l5:=c2;by_cases c3:s.size<400
     ·have c3':(s.size:Int)<400:=by omega
      go_wp2_with fail;refine(cS _ _ _ _ G5 (by omega)).mono ?_
      rintro e w6 ⟨t,nz,M',ht,rfl,hM',G6,K6⟩;go_wp2;go_roundw
      case rel=>exact⟨_,i+1,nz,M',rfl,by go_num,by omega,by omega,by simp only[ByteArray.size_append];(try simp only[show ∀ a:Array UInt8,(⟨a⟩:ByteArray).size=a.size from fun _=>rfl]);first|omega|(simp;omega),G6,K5.trans K6⟩
      case measure=>simp[intOf];omega
     ·have c3':decide ((s.size:Int)<400)=false:=ya9 (by omega)
      go_wp2_with fail;refine(z4i 16 (by omega) (by omega) G5).mono ?_
      rintro e w6 ⟨x,hx,rfl,G6,K6⟩;replace K6:=K5.trans K6;by_cases h0:x=0
      ·subst h0;go_wp2_with fail;refine(zbw s (by omega) G6).mono ?_
       rintro e w7 ⟨t,ht,rfl,G7,K7⟩;go_wp2;go_ret;exact⟨t,by omega,rfl,zby bel1 (K6.trans K7) (by omega),G7.cur⟩
      ·have h0':((x:Int)==0)=false:=by rw[yc9];omega
       by_cases h1:x=1
       ·subst h1;obtain⟨L,hL⟩:∃ L,s.size+1=L:=⟨_,rfl⟩;have hL':(s.size:Int)+1=L:=by omega
        go_wp2_with fail;refine(z4i L (by omega) (by omega) G6).mono ?_
        rintro e w7 ⟨y,hy,rfl,G7,K7⟩;have KK:Two g c W1 w7.drew:=(K6.trans K7).drew;have hy':(y:Int)<=s.size:=by omega
        have hca:(s.extract 0 y).size=y:=by rw[ByteArray.size_extract];omega
        have hcb:(s.extract y s.size).size=s.size-y:=by rw[ByteArray.size_extract];omega
        obtain⟨ta,hta⟩:∃ t,s.extract 0 y=t:=⟨_,rfl⟩;obtain⟨tb,htb⟩:∃ t,s.extract y s.size=t:=⟨_,rfl⟩;rw[hta]at hca;rw[htb]at hcb;have cP:∀(xs:List Value) (t:TypeId) (n:Nat),xs.length=n->0<n->n<=1000->(∀ v∈xs,∃ s:ByteArray,v=.string s/\s.size<=30)->Calls Tryz.prog 30 #[.pointer (some ⟨c,0,none⟩),.slice (some ⟨w7.heap.size,0,none⟩) n n] ((w7.alloc (.cells xs.toArray t)).drew) (fun e w'=>∃ s:ByteArray,s.size<=30/\e=.returned (.string s)/\Gen ac len cap g c nw M w'/\Two g c w7.drew w'):=fun xs t n hn h0 hle h=>z4p xs t n 30 G7.drew hn h0 hle h;go_upto_region 14 with fail;go_region_with (go_at_call 30;refine(cP _ _ _ ?_ ?_ ?_ ?_).mono ?_;rfl;decide;decide;(repeat (first|exact z4e|refine z4f (by first|decide|assumption|omega) ?_));rintro e w8 ⟨p,hp,rfl,G8,K8⟩;have KK:Two g c W1 w8:=Two.trans KK K8)
        all_goals go_wp2
        all_goals try simp only[hta,htb]
        all_goals go_ret
        all_goals exact⟨_,by simp only[ByteArray.size_append];(try simp only[show ∀ a:Array UInt8,(⟨a⟩:ByteArray).size=a.size from fun _=>rfl]);first|omega|(simp;omega),rfl,zby bel1 (KK) (by omega),G8.cur⟩
       ·have h1':((x:Int)==1)=false:=by rw[yc9];omega
        by_cases h2:x=2
        ·subst h2;go_wp2_with fail;refine(z4h 4 (by omega) (by omega) G6).mono ?_
         rintro e w7 ⟨b,rfl,G7,K7⟩;cases b
         ·go_wp2;go_ret;exact⟨s,by omega,rfl,zby bel1 (K6.trans K7) (by omega),G7.cur⟩
         ·go_wp2_with fail;refine(z0m 30 40 _ (by omega)).mono ?_
          rintro e w8 ⟨t,ht,rfl,b8⟩;go_wp2_with fail;refine(z0m 30 41 _ (by omega)).mono ?_
          rintro e w9 ⟨u,hu,rfl,b9⟩;go_wp2;go_ret;exact⟨_,by simp only[ByteArray.size_append];(try simp only[show ∀ a:Array UInt8,(⟨a⟩:ByteArray).size=a.size from fun _=>rfl]);first|omega|(simp;omega),rfl,zby bel1 (((K6.trans K7).trans (.of_below b8)).trans (.of_below b9)) (by omega),((G7.below b8).below b9).cur⟩
        ·have h2':((x:Int)==2)=false:=by rw[yc9];omega
         go_wp2;go_ret;exact⟨s,by omega,rfl,zby bel1 (K6) (by omega),G6.cur⟩
    ·have c2':decide ((0:Int)<l5)=false:=ya9 (by omega)
     go_wp2_with fail;refine(z4i 16 (by omega) (by omega) G5).mono ?_
     rintro e w6 ⟨x,hx,rfl,G6,K6⟩;replace K6:=K5.trans K6;by_cases h0:x=0
     ·subst h0;go_wp2_with fail;refine(zbw s (by omega) G6).mono ?_
      rintro e w7 ⟨t,ht,rfl,G7,K7⟩;go_wp2;go_ret;exact⟨t,by omega,rfl,zby bel1 (K6.trans K7) (by omega),G7.cur⟩
     ·have h0':((x:Int)==0)=false:=by rw[yc9];omega
      by_cases h1:x=1
      ·subst h1;obtain⟨L,hL⟩:∃ L,s.size+1=L:=⟨_,rfl⟩;have hL':(s.size:Int)+1=L:=by omega
       go_wp2_with fail;refine(z4i L (by omega) (by omega) G6).mono ?_
       rintro e w7 ⟨y,hy,rfl,G7,K7⟩;have KK:Two g c W1 w7.drew:=(K6.trans K7).drew;have hy':(y:Int)<=s.size:=by omega
       have hca:(s.extract 0 y).size=y:=by rw[ByteArray.size_extract];omega
       have hcb:(s.extract y s.size).size=s.size-y:=by rw[ByteArray.size_extract];omega
       obtain⟨ta,hta⟩:∃ t,s.extract 0 y=t:=⟨_,rfl⟩;obtain⟨tb,htb⟩:∃ t,s.extract y s.size=t:=⟨_,rfl⟩;rw[hta]at hca;rw[htb]at hcb;have cP:∀(xs:List Value) (t:TypeId) (n:Nat),xs.length=n->0<n->n<=1000->(∀ v∈xs,∃ s:ByteArray,v=.string s/\s.size<=30)->Calls Tryz.prog 30 #[.pointer (some ⟨c,0,none⟩),.slice (some ⟨w7.heap.size,0,none⟩) n n] ((w7.alloc (.cells xs.toArray t)).drew) (fun e w'=>∃ s:ByteArray,s.size<=30/\e=.returned (.string s)/\Gen ac len cap g c nw M w'/\Two g c w7.drew w'):=fun xs t n hn h0 hle h=>z4p xs t n 30 G7.drew hn h0 hle h;go_upto_region 14 with fail;go_region_with (go_at_call 30;refine(cP _ _ _ ?_ ?_ ?_ ?_).mono ?_;rfl;decide;decide;(repeat (first|exact z4e|refine z4f (by first|decide|assumption|omega) ?_));rintro e w8 ⟨p,hp,rfl,G8,K8⟩;have KK:Two g c W1 w8:=Two.trans KK K8)
       all_goals go_wp2
       all_goals try simp only[hta,htb]
       all_goals go_ret
       all_goals exact⟨_,by simp only[ByteArray.size_append];(try simp only[show ∀ a:Array UInt8,(⟨a⟩:ByteArray).size=a.size from fun _=>rfl]);first|omega|(simp;omega),rfl,zby bel1 (KK) (by omega),G8.cur⟩
      ·have h1':((x:Int)==1)=false:=by rw[yc9];omega
       by_cases h2:x=2
       ·subst h2;go_wp2_with fail;refine(z4h 4 (by omega) (by omega) G6).mono ?_
        rintro e w7 ⟨b,rfl,G7,K7⟩;cases b
        ·go_wp2;go_ret;exact⟨s,by omega,rfl,zby bel1 (K6.trans K7) (by omega),G7.cur⟩
        ·go_wp2_with fail;refine(z0m 30 40 _ (by omega)).mono ?_
         rintro e w8 ⟨t,ht,rfl,b8⟩;go_wp2_with fail;refine(z0m 30 41 _ (by omega)).mono ?_
         rintro e w9 ⟨u,hu,rfl,b9⟩;go_wp2;go_ret;exact⟨_,by simp only[ByteArray.size_append];(try simp only[show ∀ a:Array UInt8,(⟨a⟩:ByteArray).size=a.size from fun _=>rfl]);first|omega|(simp;omega),rfl,zby bel1 (((K6.trans K7).trans (.of_below b8)).trans (.of_below b9)) (by omega),((G7.below b8).below b9).cur⟩
       ·have h2':((x:Int)==2)=false:=by rw[yc9];omega
        go_wp2;go_ret;exact⟨s,by omega,rfl,zby bel1 (K6) (by omega),G6.cur⟩
   ·have c1':decide ((i:Int)<y2)=false:=ya9 (by omega)
    go_wp2_with fail;refine(z4i 16 (by omega) (by omega) G5).mono ?_
    rintro e w6 ⟨x,hx,rfl,G6,K6⟩;replace K6:=K5.trans K6;by_cases h0:x=0
    ·subst h0;go_wp2_with fail;refine(zbw s (by omega) G6).mono ?_
     rintro e w7 ⟨t,ht,rfl,G7,K7⟩;go_wp2;go_ret;exact⟨t,by omega,rfl,zby bel1 (K6.trans K7) (by omega),G7.cur⟩
    ·have h0':((x:Int)==0)=false:=by rw[yc9];omega
     by_cases h1:x=1
     ·subst h1;obtain⟨L,hL⟩:∃ L,s.size+1=L:=⟨_,rfl⟩;have hL':(s.size:Int)+1=L:=by omega
      go_wp2_with fail;refine(z4i L (by omega) (by omega) G6).mono ?_
      rintro e w7 ⟨y,hy,rfl,G7,K7⟩;have KK:Two g c W1 w7.drew:=(K6.trans K7).drew;have hy':(y:Int)<=s.size:=by omega
      have hca:(s.extract 0 y).size=y:=by rw[ByteArray.size_extract];omega
      have hcb:(s.extract y s.size).size=s.size-y:=by rw[ByteArray.size_extract];omega
      obtain⟨ta,hta⟩:∃ t,s.extract 0 y=t:=⟨_,rfl⟩;obtain⟨tb,htb⟩:∃ t,s.extract y s.size=t:=⟨_,rfl⟩;rw[hta]at hca;rw[htb]at hcb;have cP:∀(xs:List Value) (t:TypeId) (n:Nat),xs.length=n->0<n->n<=1000->(∀ v∈xs,∃ s:ByteArray,v=.string s/\s.size<=30)->Calls Tryz.prog 30 #[.pointer (some ⟨c,0,none⟩),.slice (some ⟨w7.heap.size,0,none⟩) n n] ((w7.alloc (.cells xs.toArray t)).drew) (fun e w'=>∃ s:ByteArray,s.size<=30/\e=.returned (.string s)/\Gen ac len cap g c nw M w'/\Two g c w7.drew w'):=fun xs t n hn h0 hle h=>z4p xs t n 30 G7.drew hn h0 hle h;go_upto_region 14 with fail;go_region_with (go_at_call 30;refine(cP _ _ _ ?_ ?_ ?_ ?_).mono ?_;rfl;decide;decide;(repeat (first|exact z4e|refine z4f (by first|decide|assumption|omega) ?_));rintro e w8 ⟨p,hp,rfl,G8,K8⟩;have KK:Two g c W1 w8:=Two.trans KK K8)
      all_goals go_wp2
      all_goals try simp only[hta,htb]
      all_goals go_ret
      all_goals exact⟨_,by simp only[ByteArray.size_append];(try simp only[show ∀ a:Array UInt8,(⟨a⟩:ByteArray).size=a.size from fun _=>rfl]);first|omega|(simp;omega),rfl,zby bel1 (KK) (by omega),G8.cur⟩
     ·have h1':((x:Int)==1)=false:=by rw[yc9];omega
      by_cases h2:x=2
      ·subst h2;go_wp2_with fail;refine(z4h 4 (by omega) (by omega) G6).mono ?_
       rintro e w7 ⟨b,rfl,G7,K7⟩;cases b
       ·go_wp2;go_ret;exact⟨s,by omega,rfl,zby bel1 (K6.trans K7) (by omega),G7.cur⟩
       ·go_wp2_with fail;refine(z0m 30 40 _ (by omega)).mono ?_
        rintro e w8 ⟨t,ht,rfl,b8⟩;go_wp2_with fail;refine(z0m 30 41 _ (by omega)).mono ?_
        rintro e w9 ⟨u,hu,rfl,b9⟩;go_wp2;go_ret;exact⟨_,by simp only[ByteArray.size_append];(try simp only[show ∀ a:Array UInt8,(⟨a⟩:ByteArray).size=a.size from fun _=>rfl]);first|omega|(simp;omega),rfl,zby bel1 (((K6.trans K7).trans (.of_below b8)).trans (.of_below b9)) (by omega),((G7.below b8).below b9).cur⟩
      ·have h2':((x:Int)==2)=false:=by rw[yc9];omega
       go_wp2;go_ret;exact⟨s,by omega,rfl,zby bel1 (K6) (by omega),G6.cur⟩
 ·have hq51:q<=50:=by omega
  have hq50':decide (50<q)=false:=ya9 hq50;obtain⟨W1,hW1⟩:∃ W,w.alloc (.cells #[.pointer (some ⟨c,0,none⟩),.slice none 0 0,.int .i64 q] 70)=W:=⟨_,rfl⟩;have G1:Gen ac len cap g c (.slice none 0 0) 0 W1:=by rw[←hW1,←hg];exact zbx hC q
  have bel1:Below w.heap.size w W1:=by rw[←hW1];exact(yg9 _ _).alloc (yf9 _) _
  have n2:W1.cell? ⟨g,2,none⟩=some (.int .i64 q):=(z08 (by rw[←hW1,←hg];exact heap_alloc_new w _)).2.2.1
  go_enter Tryz.func13,Tryz.ntmps13;obtain⟨n0,n1,_,_⟩:=G1.cells;go_upto_region 6 with fail;try simp only[hW1]
  clear hW1;go_loopw [6,7] (fun y z wr=>∃(s:ByteArray) (i:Nat) (nw:Value) (M:Nat),y=.string s/\z=.int .i64 i/\i<=7/\M<=4*i/\s.size<=10800000*i/\Gen ac len cap g c nw M wr/\Two g c W1 wr) (fun _ z _=>8-(intOf z).toNat)
  case atStart=>exact⟨_,0,_,0,rfl,rfl,by omega,by omega,(show(0:Nat)<=10800000*0 by omega),G1,Two.refl _ _ _⟩
  case round=>
   clear n0 n1 n2 G1;obtain⟨s,i,nw,M,rfl,rfl,hi7,hM,hsz,G4,K4⟩:=hrel;obtain⟨a0,a1,_,_⟩:=G4.cells;go_wp2_with fail;refine(z4i 6 (by omega) (by omega) G4).mono ?_
   rintro e w5 ⟨y,hy,rfl,G5,K5⟩;replace K5:=K4.trans K5;obtain⟨b0,b1,⟨l5,b2⟩,b3⟩:=G5.cells;obtain⟨y2,hy2⟩:∃ z,2+y=z:=⟨_,rfl⟩;have hy2':(2:Int)+y=y2:=by omega
   clear K4 G4 a0 a1;by_cases c1:i<y2
   ·have c1':(i:Int)<y2:=by omega
    by_cases c2:0<l5
    ·have c2':(0:Int)<l5:=c2;by_cases c3:s.size<400
     ·have c3':(s.size:Int)<400:=by omega
      go_wp2_with fail;refine(cS _ _ _ _ G5 (by omega)).mono ?_
      rintro e w6 ⟨t,nz,M',ht,rfl,hM',G6,K6⟩;go_wp2;go_roundw
      case rel=>exact⟨_,i+1,nz,M',rfl,by go_num,by omega,by omega,by simp only[ByteArray.size_append];(try simp only[show ∀ a:Array UInt8,(⟨a⟩:ByteArray).size=a.size from fun _=>rfl]);first|omega|(simp;omega),G6,K5.trans K6⟩
      case measure=>simp[intOf];omega
     ·have c3':decide ((s.size:Int)<400)=false:=ya9 (by omega)
      go_wp2_with fail;refine(z4i 16 (by omega) (by omega) G5).mono ?_
      rintro e w6 ⟨x,hx,rfl,G6,K6⟩;replace K6:=K5.trans K6;by_cases h0:x=0
      ·subst h0;go_wp2_with fail;refine(zbw s (by omega) G6).mono ?_
       rintro e w7 ⟨t,ht,rfl,G7,K7⟩;go_wp2;go_ret;exact⟨t,by omega,rfl,zby bel1 (K6.trans K7) (by omega),G7.cur⟩
      ·have h0':((x:Int)==0)=false:=by rw[yc9];omega
       by_cases h1:x=1
       ·subst h1;obtain⟨L,hL⟩:∃ L,s.size+1=L:=⟨_,rfl⟩;have hL':(s.size:Int)+1=L:=by omega
        go_wp2_with fail;refine(z4i L (by omega) (by omega) G6).mono ?_
        rintro e w7 ⟨y,hy,rfl,G7,K7⟩;have KK:Two g c W1 w7.drew:=(K6.trans K7).drew;have hy':(y:Int)<=s.size:=by omega
        have hca:(s.extract 0 y).size=y:=by rw[ByteArray.size_extract];omega
        have hcb:(s.extract y s.size).size=s.size-y:=by rw[ByteArray.size_extract];omega
        obtain⟨ta,hta⟩:∃ t,s.extract 0 y=t:=⟨_,rfl⟩;obtain⟨tb,htb⟩:∃ t,s.extract y s.size=t:=⟨_,rfl⟩;rw[hta]at hca;rw[htb]at hcb;have cP:∀(xs:List Value) (t:TypeId) (n:Nat),xs.length=n->0<n->n<=1000->(∀ v∈xs,∃ s:ByteArray,v=.string s/\s.size<=30)->Calls Tryz.prog 30 #[.pointer (some ⟨c,0,none⟩),.slice (some ⟨w7.heap.size,0,none⟩) n n] ((w7.alloc (.cells xs.toArray t)).drew) (fun e w'=>∃ s:ByteArray,s.size<=30/\e=.returned (.string s)/\Gen ac len cap g c nw M w'/\Two g c w7.drew w'):=fun xs t n hn h0 hle h=>z4p xs t n 30 G7.drew hn h0 hle h;go_upto_region 14 with fail;go_region_with (go_at_call 30;refine(cP _ _ _ ?_ ?_ ?_ ?_).mono ?_;rfl;decide;decide;(repeat (first|exact z4e|refine z4f (by first|decide|assumption|omega) ?_));rintro e w8 ⟨p,hp,rfl,G8,K8⟩;have KK:Two g c W1 w8:=Two.trans KK K8)
        all_goals go_wp2
        all_goals try simp only[hta,htb]
        all_goals go_ret
        all_goals exact⟨_,by simp only[ByteArray.size_append];(try simp only[show ∀ a:Array UInt8,(⟨a⟩:ByteArray).size=a.size from fun _=>rfl]);first|omega|(simp;omega),rfl,zby bel1 (KK) (by omega),G8.cur⟩
       ·have h1':((x:Int)==1)=false:=by rw[yc9];omega
        by_cases h2:x=2
        ·subst h2;go_wp2_with fail;refine(z4h 4 (by omega) (by omega) G6).mono ?_
         rintro e w7 ⟨b,rfl,G7,K7⟩;cases b
         ·go_wp2;go_ret;exact⟨s,by omega,rfl,zby bel1 (K6.trans K7) (by omega),G7.cur⟩
         ·go_wp2_with fail;refine(z0m 30 40 _ (by omega)).mono ?_
          rintro e w8 ⟨t,ht,rfl,b8⟩;go_wp2_with fail;refine(z0m 30 41 _ (by omega)).mono ?_
          rintro e w9 ⟨u,hu,rfl,b9⟩;go_wp2;go_ret;exact⟨_,by simp only[ByteArray.size_append];(try simp only[show ∀ a:Array UInt8,(⟨a⟩:ByteArray).size=a.size from fun _=>rfl]);first|omega|(simp;omega),rfl,zby bel1 (((K6.trans K7).trans (.of_below b8)).trans (.of_below b9)) (by omega),((G7.below b8).below b9).cur⟩
        ·have h2':((x:Int)==2)=false:=by rw[yc9];omega
         go_wp2;go_ret;exact⟨s,by omega,rfl,zby bel1 (K6) (by omega),G6.cur⟩
    ·have c2':decide ((0:Int)<l5)=false:=ya9 (by omega)
     go_wp2_with fail;refine(z4i 16 (by omega) (by omega) G5).mono ?_
     rintro e w6 ⟨x,hx,rfl,G6,K6⟩;replace K6:=K5.trans K6;by_cases h0:x=0
     ·subst h0;go_wp2_with fail;refine(zbw s (by omega) G6).mono ?_
      rintro e w7 ⟨t,ht,rfl,G7,K7⟩;go_wp2;go_ret;exact⟨t,by omega,rfl,zby bel1 (K6.trans K7) (by omega),G7.cur⟩
     ·have h0':((x:Int)==0)=false:=by rw[yc9];omega
      by_cases h1:x=1
      ·subst h1;obtain⟨L,hL⟩:∃ L,s.size+1=L:=⟨_,rfl⟩;have hL':(s.size:Int)+1=L:=by omega
       go_wp2_with fail;refine(z4i L (by omega) (by omega) G6).mono ?_
       rintro e w7 ⟨y,hy,rfl,G7,K7⟩;have KK:Two g c W1 w7.drew:=(K6.trans K7).drew;have hy':(y:Int)<=s.size:=by omega
       have hca:(s.extract 0 y).size=y:=by rw[ByteArray.size_extract];omega
       have hcb:(s.extract y s.size).size=s.size-y:=by rw[ByteArray.size_extract];omega
       obtain⟨ta,hta⟩:∃ t,s.extract 0 y=t:=⟨_,rfl⟩;obtain⟨tb,htb⟩:∃ t,s.extract y s.size=t:=⟨_,rfl⟩;rw[hta]at hca;rw[htb]at hcb;have cP:∀(xs:List Value) (t:TypeId) (n:Nat),xs.length=n->0<n->n<=1000->(∀ v∈xs,∃ s:ByteArray,v=.string s/\s.size<=30)->Calls Tryz.prog 30 #[.pointer (some ⟨c,0,none⟩),.slice (some ⟨w7.heap.size,0,none⟩) n n] ((w7.alloc (.cells xs.toArray t)).drew) (fun e w'=>∃ s:ByteArray,s.size<=30/\e=.returned (.string s)/\Gen ac len cap g c nw M w'/\Two g c w7.drew w'):=fun xs t n hn h0 hle h=>z4p xs t n 30 G7.drew hn h0 hle h;go_upto_region 14 with fail;go_region_with (go_at_call 30;refine(cP _ _ _ ?_ ?_ ?_ ?_).mono ?_;rfl;decide;decide;(repeat (first|exact z4e|refine z4f (by first|decide|assumption|omega) ?_));rintro e w8 ⟨p,hp,rfl,G8,K8⟩;have KK:Two g c W1 w8:=Two.trans KK K8)
       all_goals go_wp2
       all_goals try simp only[hta,htb]
       all_goals go_ret
       all_goals exact⟨_,by simp only[ByteArray.size_append];(try simp only[show ∀ a:Array UInt8,(⟨a⟩:ByteArray).size=a.size from fun _=>rfl]);first|omega|(simp;omega),rfl,zby bel1 (KK) (by omega),G8.cur⟩
      ·have h1':((x:Int)==1)=false:=by rw[yc9];omega
       by_cases h2:x=2
       ·subst h2;go_wp2_with fail;refine(z4h 4 (by omega) (by omega) G6).mono ?_
        rintro e w7 ⟨b,rfl,G7,K7⟩;cases b
        ·go_wp2;go_ret;exact⟨s,by omega,rfl,zby bel1 (K6.trans K7) (by omega),G7.cur⟩
        ·go_wp2_with fail;refine(z0m 30 40 _ (by omega)).mono ?_
         rintro e w8 ⟨t,ht,rfl,b8⟩;go_wp2_with fail;refine(z0m 30 41 _ (by omega)).mono ?_
         rintro e w9 ⟨u,hu,rfl,b9⟩;go_wp2;go_ret;exact⟨_,by simp only[ByteArray.size_append];(try simp only[show ∀ a:Array UInt8,(⟨a⟩:ByteArray).size=a.size from fun _=>rfl]);first|omega|(simp;omega),rfl,zby bel1 (((K6.trans K7).trans (.of_below b8)).trans (.of_below b9)) (by omega),((G7.below b8).below b9).cur⟩
       ·have h2':((x:Int)==2)=false:=by rw[yc9];omega
        go_wp2;go_ret;exact⟨s,by omega,rfl,zby bel1 (K6) (by omega),G6.cur⟩
   ·have c1':decide ((i:Int)<y2)=false:=ya9 (by omega)
    go_wp2_with fail;refine(z4i 16 (by omega) (by omega) G5).mono ?_
    rintro e w6 ⟨x,hx,rfl,G6,K6⟩;replace K6:=K5.trans K6;by_cases h0:x=0
    ·subst h0;go_wp2_with fail;refine(zbw s (by omega) G6).mono ?_
     rintro e w7 ⟨t,ht,rfl,G7,K7⟩;go_wp2;go_ret;exact⟨t,by omega,rfl,zby bel1 (K6.trans K7) (by omega),G7.cur⟩
    ·have h0':((x:Int)==0)=false:=by rw[yc9];omega
     by_cases h1:x=1
     ·subst h1;obtain⟨L,hL⟩:∃ L,s.size+1=L:=⟨_,rfl⟩;have hL':(s.size:Int)+1=L:=by omega
      go_wp2_with fail;refine(z4i L (by omega) (by omega) G6).mono ?_
      rintro e w7 ⟨y,hy,rfl,G7,K7⟩;have KK:Two g c W1 w7.drew:=(K6.trans K7).drew;have hy':(y:Int)<=s.size:=by omega
      have hca:(s.extract 0 y).size=y:=by rw[ByteArray.size_extract];omega
      have hcb:(s.extract y s.size).size=s.size-y:=by rw[ByteArray.size_extract];omega
      obtain⟨ta,hta⟩:∃ t,s.extract 0 y=t:=⟨_,rfl⟩;obtain⟨tb,htb⟩:∃ t,s.extract y s.size=t:=⟨_,rfl⟩;rw[hta]at hca;rw[htb]at hcb;have cP:∀(xs:List Value) (t:TypeId) (n:Nat),xs.length=n->0<n->n<=1000->(∀ v∈xs,∃ s:ByteArray,v=.string s/\s.size<=30)->Calls Tryz.prog 30 #[.pointer (some ⟨c,0,none⟩),.slice (some ⟨w7.heap.size,0,none⟩) n n] ((w7.alloc (.cells xs.toArray t)).drew) (fun e w'=>∃ s:ByteArray,s.size<=30/\e=.returned (.string s)/\Gen ac len cap g c nw M w'/\Two g c w7.drew w'):=fun xs t n hn h0 hle h=>z4p xs t n 30 G7.drew hn h0 hle h;go_upto_region 14 with fail;go_region_with (go_at_call 30;refine(cP _ _ _ ?_ ?_ ?_ ?_).mono ?_;rfl;decide;decide;(repeat (first|exact z4e|refine z4f (by first|decide|assumption|omega) ?_));rintro e w8 ⟨p,hp,rfl,G8,K8⟩;have KK:Two g c W1 w8:=Two.trans KK K8)
      all_goals go_wp2
      all_goals try simp only[hta,htb]
      all_goals go_ret
      all_goals exact⟨_,by simp only[ByteArray.size_append];(try simp only[show ∀ a:Array UInt8,(⟨a⟩:ByteArray).size=a.size from fun _=>rfl]);first|omega|(simp;omega),rfl,zby bel1 (KK) (by omega),G8.cur⟩
     ·have h1':((x:Int)==1)=false:=by rw[yc9];omega
      by_cases h2:x=2
      ·subst h2;go_wp2_with fail;refine(z4h 4 (by omega) (by omega) G6).mono ?_
       rintro e w7 ⟨b,rfl,G7,K7⟩;cases b
       ·go_wp2;go_ret;exact⟨s,by omega,rfl,zby bel1 (K6.trans K7) (by omega),G7.cur⟩
       ·go_wp2_with fail;refine(z0m 30 40 _ (by omega)).mono ?_
        rintro e w8 ⟨t,ht,rfl,b8⟩;go_wp2_with fail;refine(z0m 30 41 _ (by omega)).mono ?_
        rintro e w9 ⟨u,hu,rfl,b9⟩;go_wp2;go_ret;exact⟨_,by simp only[ByteArray.size_append];(try simp only[show ∀ a:Array UInt8,(⟨a⟩:ByteArray).size=a.size from fun _=>rfl]);first|omega|(simp;omega),rfl,zby bel1 (((K6.trans K7).trans (.of_below b8)).trans (.of_below b9)) (by omega),((G7.below b8).below b9).cur⟩
      ·have h2':((x:Int)==2)=false:=by rw[yc9];omega
       go_wp2;go_ret;exact⟨s,by omega,rfl,zby bel1 (K6) (by omega),G6.cur⟩
theorem zbA:z4v 0:=by
 intro ac len cap g c nv N w G hN;exact(z4z 0 (by omega) G).mono fun e w' ⟨s,hs,h⟩=>⟨s,by have:lenA 0=200:=rfl;omega,h⟩
theorem zbB:∀ d,d<=3->z4v d/\z4y d/\z4x d/\z4w d/\z4v (min d 1)
 | 0,_=>by
  have e:z4v 0:=@zbA;have s:z4y 0:=@zbj @e;have b:z4x 0:=@zbb 0 (by omega) @s @e
  have f:z4w 0:=@zbt 0 (by omega) @b
  exact⟨@e,@s,@b,@f,@e⟩
 | d+1,h=>by
  obtain⟨e,s,b,f,e1⟩:=zbB d (by omega)
  have E:z4v (d+1):=@z4B d (by omega) @e @f
  have E1:z4v 1:=by
   rcases (by omega:d=0\/1<=d)with h0|h0
   ·subst h0;exact @E
   ·rw[Nat.min_eq_right h0]at e1;exact @e1
  have S:z4y (d+1):=@zbk d (by omega) @E @E1 @b @s @f
  have B:z4x (d+1):=@zbb (d+1) h @S @E;have F:z4w (d+1):=@zbt (d+1) h @B;refine⟨@E,@S,@B,@F,?_⟩;rw[Nat.min_eq_right (by omega)]
  exact @E1
