/- Part 3. -/
import Derived.Handy
import Derived.Test.YtdbekjiognpgnaaGreatPab
set_option maxHeartbeats 16000000
set_option maxRecDepth 100000
set_option linter.unusedVariables false
namespace Go.Proofs.YtdbekjiognpgnaaGreat
open Go.RowKit
theorem z2k(n:Nat)(w:World)(hn:n<=63):
  Calls Tryz.prog 66 #[.int .i64 n] w fun e w'=>e=.returned (.int .u64 ((2 ^ n:Nat):Int))/\w=w':=by
 go_enter Tryz.func66,Tryz.ntmps66;go_wp2;go_loop [3,4] (fun x i=>∃(p k:Nat),k<=n/\p=2 ^ k/\x=.int .u64 p/\i=.int .i64 k) (fun _ i=>n-(intOf i).toNat)
 case atStart=>exact⟨1,0,yj9 _,rfl,rfl,rfl⟩
 case round=>
  obtain⟨p,k,hk,hp,rfl,rfl⟩:=hrel;have HP:Hid (p=2 ^ k):=hp;by_cases hlt:k<n
  ·have hb:p<=4611686018427387904:=by rw[hp];exact Nat.pow_le_pow_right (n:=2) (j:=62) (by decide) (by omega)
   clear hp;go_wp2;go_round
   case rel=>exact⟨2*p,k+1,by omega,by rw[HP.out,Nat.pow_succ,Nat.mul_comm],by go_num,by go_num⟩
   case measure=>simp[intOf];omega
  ·have hkn:k=n:=by omega
   subst hkn;clear hp;go_wp2;go_ret;exact⟨by rw[HP.out];rfl,rfl⟩
theorem z2l(w:World):Calls Tryz.prog 66 #[.int .i64 63] w fun e w'=>e=.returned (.int .u64 9223372036854775808)/\w=w':=z2k 63 w (by decide)
theorem z2m(w:World):Calls Tryz.prog 66 #[.int .i64 56] w fun e w'=>e=.returned (.int .u64 72057594037927936)/\w=w':=z2k 56 w (by decide)
theorem z2n(x:Nat)(b:Bool)(w:World)(hx:x<=9218868437227405312):
  Calls Tryz.prog 120 #[.int .u64 x,.bool b] w fun e w'=>e=.returned (.int .u64 (z0W b x:Nat))/\w=w':=by
 cases b
 ·go_enter Tryz.func120,Tryz.ntmps120;go_wp2;go_ret;exact⟨rfl,rfl⟩
 ·go_enter Tryz.func120,Tryz.ntmps120;go_wp2_with (go_at_call 66;refine(z2l _).mono ?_;rintro e w' ⟨rfl,rfl⟩)
  go_ret;exact⟨z00 (by simp[z0W]),rfl⟩
def z2o(x:Nat):Value:=.agg #[.int .i64 (z12 x),.bool (z13 x),.int .u64 (z14 x),.int .i64 (expN x)]
theorem z2p{x:Nat}(he:x/4503599627370496%2048=2047)(hf:x%4503599627370496≠0):z2o x=.agg #[.int .i64 1,.bool false,.int .u64 0,.int .i64 0]:=by
 have hk:z12 x=1:=by unfold z12 z0Z z11;rw[if_pos he,if_neg hf]
 simp[z2o,z14,expN,z13,hk]
theorem z2q{x:Nat}(he:x/4503599627370496%2048=2047)(hf:x%4503599627370496=0):z2o x=.agg #[.int .i64 2,.bool (decide (9223372036854775808<=x)),.int .u64 0,.int .i64 0]:=by
 have hk:z12 x=2:=by unfold z12 z0Z z11;rw[if_pos he,if_pos hf]
 simp[z2o,z14,expN,z13,hk]
theorem z2r{x:Nat}(he:x/4503599627370496%2048=0)(hf:x%4503599627370496=0):z2o x=.agg #[.int .i64 3,.bool (decide (9223372036854775808<=x)),.int .u64 0,.int .i64 0]:=by
 have hk:z12 x=3:=by unfold z12 z0Z z11;rw[if_neg (by omega),if_pos ⟨he,hf⟩]
 simp[z2o,z14,expN,z13,hk]
theorem z2s{x:Nat}(he:x/4503599627370496%2048=0)(hf:x%4503599627370496≠0):z2o x=.agg #[.int .i64 4,.bool (decide (9223372036854775808<=x)),.int .u64 ((x:Int)%4503599627370496),.int .i64 (-1074)]:=by
 have hk:z12 x=4:=by unfold z12 z0Z z11;rw[if_neg (by omega),if_neg (by omega)]
 simp[z2o,z14,expN,z13,hk,z0Z,z11,he]
theorem z2t{x:Nat}(he:x/4503599627370496%2048≠0)(he':x/4503599627370496%2048≠2047):z2o x=.agg #[.int .i64 4,.bool (decide (9223372036854775808<=x)),.int .u64 ((x:Int)%4503599627370496+4503599627370496),.int .i64 ((x:Int)/4503599627370496%2048-1075)]:=by
 have hk:z12 x=4:=by unfold z12 z0Z z11;rw[if_neg he',if_neg (by omega)]
 simp[z2o,z14,expN,z13,hk,z0Z,z11,he]
theorem z2u{w:World}{g:Nat}{a b c d:Value}{t:TypeId}{r:Nat × Nat}(h:w.heap[g]?=some (.cells #[a,b,c,d] t r)):
  w.cell? ⟨g,0,none⟩=some a/\w.cell? ⟨g,1,none⟩=some b/\w.cell? ⟨g,2,none⟩=some c/\w.cell? ⟨g,3,none⟩=some d:=by
 refine⟨?_,?_,?_,?_⟩
 ·unfold World.cell?;simp only[h];rfl
 ·unfold World.cell?;simp only[h];rfl
 ·unfold World.cell?;simp only[h];rfl
 ·unfold World.cell?;simp only[h];rfl
theorem z2v(w:World)(o1 o2:Obj):Below w.heap.size w ((w.alloc o1).alloc o2):=((yg9 _ _).alloc (yf9 _) _).alloc (by simp) _
theorem z2w(x:Nat)(w:World)(hx:x<18446744073709551616):
  Calls Tryz.prog 46 #[.int .u64 x] w fun e w'=>e=.returned (z2o x)/\Below w.heap.size w w':=by
 have ht:=z15 hx;by_cases h1:x/4503599627370496%2048=2047
 ·have g1:(x:Int)/4503599627370496%2048=2047:=by omega
  by_cases h2:x%4503599627370496=0
  ·have g2:(x:Int)%4503599627370496=0:=by omega
   have hp:Hid _:=z2q h1 h2;clear h1 h2;go_enter Tryz.func46,Tryz.ntmps46;go_wp2_with (go_at_call 66;refine(z2l _).mono ?_;rintro e w' ⟨rfl,rfl⟩)
   go_returns;exact⟨by rw[hp.out],z2v _ _ _⟩
  ·have g2:((x:Int)%4503599627370496 != 0)=true:=by simp;omega
   have hp:Hid _:=z2p h1 h2;clear h1 h2;go_enter Tryz.func46,Tryz.ntmps46;go_wp2_with (go_at_call 66;refine(z2l _).mono ?_;rintro e w' ⟨rfl,rfl⟩)
   go_returns;exact⟨by rw[hp.out],z2v _ _ _⟩
 ·have g1:((x:Int)/4503599627370496%2048==2047)=false:=by rw[yc9];omega
  by_cases h3:x/4503599627370496%2048=0
  ·have g3:(x:Int)/4503599627370496%2048=0:=by omega
   by_cases h2:x%4503599627370496=0
   ·have g2:(x:Int)%4503599627370496=0:=by omega
    have hp:Hid _:=z2r h3 h2;clear h1 h2 h3;go_enter Tryz.func46,Tryz.ntmps46;go_wp2_with (go_at_call 66;refine(z2l _).mono ?_;rintro e w' ⟨rfl,rfl⟩)
    go_returns;exact⟨by rw[hp.out],z2v _ _ _⟩
   ·have g2:((x:Int)%4503599627370496==0)=false:=by rw[yc9];omega
    have hp:Hid _:=z2s h3 h2;clear h1 h2 h3;go_enter Tryz.func46,Tryz.ntmps46;go_wp2_with (go_at_call 66;refine(z2l _).mono ?_;rintro e w' ⟨rfl,rfl⟩)
    go_returns;exact⟨by rw[hp.out],z2v _ _ _⟩
  ·have g3:((x:Int)/4503599627370496%2048==0)=false:=by rw[yc9];omega
   have hp:Hid _:=z2t h3 h1;clear h1 h3;go_enter Tryz.func46,Tryz.ntmps46;go_wp2_with (go_at_call 66;refine(z2l _).mono ?_;rintro e w' ⟨rfl,rfl⟩)
   go_returns;exact⟨by rw[hp.out],z2v _ _ _⟩
theorem z2x{w w':World}{B:Nat}{e:TypeId}{v:Value}{n:Nat}{xs:List Value}(h:w.ownsRow B e 1 v n xs)(hb:Below w.heap.size w w'):w'.ownsRow B e 1 v n xs:=by
 refine⟨h.1,?_⟩;rcases h.2 with hn|⟨g,cap,cur,rfl,h1,h2,rest⟩
 ·exact .inl hn
 ·refine .inr ⟨g,cap,cur,rfl,h1,?_,rest⟩;rw[hb.block g (Array.getElem?_eq_some_iff.1 h2).1];exact h2
theorem z2y{ls xs:List Nat}{q r n:Nat}(hx:binV xs=binV ls*2 ^ r+0)(hn:n=32*q+r):binV (List.replicate q 0++xs)=binV ls*2 ^ n:=by
 rw[z1I,z1P,List.length_replicate,hx,hn,Nat.pow_add,Nat.zero_add,Nat.add_zero,Nat.mul_left_comm]
theorem z2z{xs:List Nat}(q:Nat)(h:z1F xs):z1F (List.replicate q 0++xs):=by
 intro x hx;rcases List.mem_append.mp hx with h1|h1
 ·rw[List.eq_of_mem_replicate h1];decide
 ·exact h x h1
theorem z2A(v:Value)(ls:List Nat)(n B:Nat)(w:World)(hA:RowW w B v ls)(oa:z1F ls)(h0:binV ls≠0)(la:ls.length<=4096)(ln:(n:Int)<=4096):
  Calls Tryz.prog 113 #[v,.int .i64 n] w fun e w'=>∃(v':Value) (xs:List Nat),e=.returned v'/\RowW w' w.heap.size v' xs/\Below w.heap.size w w'/\binV xs=binV ls*2 ^ n/\z1F xs/\xs.length<=ls.length+1+n/32:=by
 obtain⟨i0,hi,hz0,hz1,hz2⟩:=info_parts Tryz.infoWord;obtain⟨q,hq⟩:∃ q:Nat,(n:Int)/32=q:=⟨n/32,by omega⟩
 obtain⟨r,hr⟩:∃ r:Nat,(n:Int)%32=r:=⟨n%32,by omega⟩
 have hr2:r<=63:=by omega
 have cP:=fun W=>z2k r W hr2;have hP:2 ^ r<4294967296:=by
  have:2 ^ r<=2 ^ 31:=Nat.pow_le_pow_right (by decide) (by omega)
  omega
 have hmk:=fun W:World=>run_make (P:=Tryz.prog) W 169 32 i0 (.int .u64 0) Tryz.underlying169 hi hz0 .i64 .i64 (q:Int) (q:Int) (by omega) (by omega) (by rw[hz2];omega) (by omega)
 have HS:Hid (Unit->∀ xs,binV xs=binV ls*2 ^ r+0->binV (List.replicate q 0++xs)=binV ls*2 ^ n/\xs≠[]):=fun _ xs hx=>by
  refine⟨z2y hx (by omega),fun h=>?_⟩
  subst h;have:0<binV ls*2 ^ r:=Nat.mul_pos (by omega) (Nat.two_pow_pos r)
  simp[binV]at hx;omega
 have HL:Hid (Unit->q=n/32):=fun _=>by omega
 have q2:(q:Int)<=128:=by omega
 obtain⟨P,hP1⟩:∃ P,2 ^ r=P:=⟨_,rfl⟩;rw[hP1]at cP hP HS;have HA:Hid (RowW w B v ls/\z1F ls/\P<4294967296/\ls.length<=4096):=⟨hA,oa,hP,la⟩;clear hP1 hP hA oa h0 hr2;go_enter Tryz.func113,Tryz.ntmps113;go_wp2_with fail;refine(cP _).mono ?_;rintro e w' ⟨rfl,rfl⟩;go_wp2_with fail;have hown1:(w.alloc (.cells (madeCells #[.int .u64 0] q) 32)).ownsRow w.heap.size 32 1 (.slice (some ⟨w.heap.size,0,none⟩) q q) q ((List.replicate q 0).map fun x=>Value.int .u64 (x:Nat)):=by
  refine⟨by simp,.inr ⟨w.heap.size,q,_,rfl,yf9 _,heap_alloc_new w _,yf9 _,by unfold maxLen;omega,by simp[size_madeCells],?_⟩⟩
  rw[toList_madeCells_one,Nat.mul_one,List.map_replicate,List.take_of_length_le (by simp)]
  rfl
 have hbel1:Below w.heap.size w (w.alloc (.cells (madeCells #[.int .u64 0] q) 32)):=(yg9 _ _).alloc (yf9 _) _;obtain⟨w1,hw1⟩:∃ w1,w.alloc (.cells (madeCells #[.int .u64 0] q) 32)=w1:=⟨_,rfl⟩;simp only[hw1];rw[hw1]at hown1 hbel1;clear hw1 hmk;refine(z1Y v ls P 0 B w1 (HA.out.1.below hbel1) HA.out.2.1 HA.out.2.2.1 (by omega) (by have:=HA.out.2.2.2;omega)).mono ?_
 rintro e w2 ⟨v',xs,rfl,hrow,hb2,hval,hok,hlen⟩;obtain⟨hv,hne⟩:=HS.out () xs hval;have hown2:=z2x hown1 hb2;have hbel2:=z01 hbel1 hb2;have hsz:=hbel2.size;rcases hrow.cells with ⟨_,hx0⟩|⟨g,cap,rfl,hg1,hg2,hcells⟩
 ·exact absurd hx0 hne
 ·have HF:Hid (binV (List.replicate q 0++xs)=binV ls*2 ^ n/\z1F (List.replicate q 0++xs)/\(List.replicate q 0++xs).length=q+xs.length/\q+xs.length<=ls.length+1+n/32):=⟨hv,z2z q hok,by simp,by have:=HL.out ();omega⟩
  have hxl:xs.length<=5000:=by have:=HA.out.2.2.2;omega
  clear hv hne hval hok hlen hrow HS hown1 hb2;have hnews:∀ j u,(xs.map fun x=>Value.int .u64 (x:Nat))[j]?=some u->w2.cell? ((⟨g,0,none⟩:Addr).add j)=some u:=by
   intro j u hu;rw[List.getElem?_map]at hu;by_cases hj:j<xs.length
   ·rw[yd9 hj]at hu;have hadd:(⟨g,0,none⟩:Addr).add j=⟨g,j,none⟩:=by unfold Addr.add;split<;>simp_all
    rw[hadd,hcells j hj,List.getD_eq_getElem?_getD,yd9 hj];simpa using hu
   ·rw[List.getElem?_eq_none (by omega)]at hu
    cases hu
  have hone:∀ u∈(xs.map fun x=>Value.int .u64 (x:Nat)),u.oneCell'=true:=by
   intro u hu;obtain⟨x,_,rfl⟩:=List.mem_map.1 hu;rfl
  go_wp2_with (at_builtin;refine wpList_append_own _ rfl _ _ 169 rfl w.heap.size 32 i0 (.int .u64 0) 1 8 Tryz.underlying169 hi hz0 hz1 hz2 rfl (by decide) _ _ _ rfl hown2 ⟨g,0,none⟩ xs.length cap (xs.map fun x=>Value.int .u64 (x:Nat)) rfl (by simp) hnews hone (by unfold maxLen;omega) (by omega) hsz ?_)
  intro v'' w3 hown3 hgrow _;have hbel3:Below w.heap.size w w3:=hbel2.grown hgrow (by omega) (fun k hk=>(hown2.lt k hk).1)
  go_wp2;go_ret;refine⟨_,List.replicate q 0++xs,rfl,?_,hbel3,HF.out.1,HF.out.2.1,by rw[HF.out.2.2.1];exact HF.out.2.2.2⟩
  show World.ownsRow _ _ _ _ _ (List.replicate q 0++xs).length _;rw[HF.out.2.2.1,List.map_append,List.map_replicate];exact hown3
def z2B(l:List UInt8):Bool:=l.all fun c=>c==48
theorem z2C(l:List UInt8)(c:UInt8):z2B (l++[c])=(z2B l&&(c==48)):=by simp[z2B]
theorem z2D{l:List UInt8}(h:Figs l):z2B l=decide (digV l=0):=by
 revert h
 refine z1l (P:=fun l=>Figs l->z2B l=decide (digV l=0)) (fun _=>by rfl) (fun l c ih h=>?_) l
 have hc:=h c (by simp)
 rw[z2C,ih h.left,z1n,Bool.eq_iff_iff];simp only[Bool.and_eq_true,decide_eq_true_eq,beq_iff_eq];constructor
 ·rintro ⟨h1,h2⟩;subst h2;rw[h1];rfl
 ·intro h1;refine⟨by omega,?_⟩
  have:c.toNat=48:=by omega
  exact UInt8.toNat_inj.mp (by rw[this];rfl)
theorem z2E(s:ByteArray)(w:World)(ls:s.size<=1048576):
  Calls Tryz.prog 95 #[.string s] w fun e w'=>e=.returned (.bool (z2B s.data.toList))/\w=w':=by
 obtain⟨R,hR⟩:∃ R,z2B s.data.toList=R:=⟨_,rfl⟩;rw[hR];have HR:Hid (Unit->z2B s.data.toList=R):=fun _=>hR;clear hR;go_enter Tryz.func95,Tryz.ntmps95;go_wp2_with fail;go_loop [3] (fun x=>∃ k:Nat,x=.int .i64 k/\k<=s.size/\Hid (z2B (s.data.toList.take k)=true)) (fun x=>s.size-(intOf x).toNat)
 case atStart=>exact⟨0,rfl,yj9 _,by rfl⟩
 case round=>
  obtain⟨k,rfl,hk,HI⟩:=hrel;by_cases hlt:k<s.size
  ·have HT:=z0p s k hlt;obtain⟨c,hc⟩:∃ c:Nat,(s[k]).toNat=c:=⟨_,rfl⟩;by_cases hz:c=48
   ·have HN:Hid (z2B (s.data.toList.take (k+1))=true):=by
     show z2B _=true;rw[HT,z2C,HI.out,Bool.true_and,beq_iff_eq];exact UInt8.toNat_inj.mp (by rw[hc,hz];rfl)
    clear HI HT;subst hz;go_wp2;go_round
    case rel=>exact⟨k+1,by go_num,by omega,HN⟩
    case measure=>simp[intOf];omega
   ·have HZ:Hid (Unit->R=false):=fun _=>by
     rw[←HR.out (),←List.take_append_drop (k+1) s.data.toList,HT];unfold z2B;rw[List.all_append,List.all_append];have:(s[k]==48)=false:=by
      rw[yc9];intro h;rw[h]at hc;exact hz (hc.symm.trans rfl)
     simp[this]
    have dz:((c:Int)==48)=false:=by rw[yc9];omega
    clear HI HT;go_wp2;go_ret;exact⟨by rw[HZ.out ()];rfl,rfl⟩
  ·have hke:k=s.size:=by omega
   subst hke;have HZ:Hid (Unit->R=true):=fun _=>by
    rw[←HR.out ()];have:=HI.out;rw[z0q]at this;exact this
   clear HI;go_wp2;go_ret;exact⟨by rw[HZ.out ()];rfl,rfl⟩
theorem z2F(s:ByteArray)(w:World)(hs:Figs s.data.toList)(ls:s.size<=800):
  Calls Tryz.prog 105 #[.string s] w fun e w'=>∃(v:Value) (xs:List Nat),e=.returned v/\RowW w' w.heap.size v xs/\Below w.heap.size w w'/\binV xs=digV s.data.toList/\z1F xs/\xs.length<=s.size:=by
 have HF:Hid (Figs s.data.toList):=hs;clear hs;go_enter Tryz.func105,Tryz.ntmps105;go_upto_region 3 with fail;go_loopw [3,4] (fun v x wr=>∃(k:Nat) (xs:List Nat),x=.int .i64 k/\k<=s.size/\RowW wr w.heap.size v xs/\Below w.heap.size w wr/\Hid (binV xs=digV (s.data.toList.take k)/\z1F xs/\xs.length<=k)) (fun _ x _=>s.size-(intOf x).toNat)
 case atStart=>exact⟨0,[],rfl,yj9 _,World.ownsRow_made w #[] 0 (yf9 _) (yj9 _) rfl,(yg9 _ _).alloc (yf9 _) _,⟨by rfl,z1K,by simp⟩⟩
 case round=>
  obtain⟨k,xs,rfl,hk,hrow,hbel,HI⟩:=hrel;have hsz:=hbel.size;by_cases hlt:k<s.size
  ·have HT:Hid _:=z0p s k hlt;obtain⟨c,hc⟩:∃ c:Nat,(s[k]).toNat=c:=⟨_,rfl⟩;have hc1:48<=c/\c<=57:=by
    rw[←hc];exact HF.out _ (by rw[←List.take_append_drop (k+1) s.data.toList,z0p s k hlt];simp)
   obtain⟨d,hd⟩:∃ d:Nat,(c:Int)-48=d:=⟨c-48,by omega⟩
   have hc2:(48:Int)<=c:=by omega
   have hc3:(c:Int)<=57:=by omega
   have cM:=z1Y _ xs 10 d w.heap.size wr hrow HI.out.2.1 (by decide) (by omega) (by have:=HI.out.2.2;omega)
   have HD:Hid (Unit->∀ ys,binV ys=binV xs*10+d->ys.length<=xs.length+1->binV ys=digV (s.data.toList.take (k+1))/\ys.length<=k+1):=fun _ ys h1 h2=>by
    have h3:=HI.out.1;have h4:=HI.out.2.2;refine⟨?_,by omega⟩
    rw[HT.out,z1n,hc,h1,h3];omega
   clear HI HT hc1;go_wp2_with fail;refine cM.mono ?_;rintro e w2 ⟨v',ys,rfl,hrow2,hb2,h1,h2,h3⟩;obtain⟨d1,d2⟩:=HD.out () ys h1 h3;have HN:Hid (binV ys=digV (s.data.toList.take (k+1))/\z1F ys/\ys.length<=k+1):=⟨d1,h2,d2⟩;have hrow3:=hrow2.base hsz;have hbel3:=z01 hbel hb2;clear HD h1 h2 h3 d1 d2 cM hrow2 hb2 hrow;go_wp2;go_roundw
   case rel=>exact⟨k+1,ys,by go_num,by omega,hrow3,hbel3,HN⟩
   case measure=>simp[intOf];omega
  ·have hke:k=s.size:=by omega
   subst hke;have HN:Hid (binV xs=digV s.data.toList/\z1F xs/\xs.length<=s.size):=by
    have:=HI.out;rw[z0q]at this;exact this
   clear HI;go_wp2;go_ret;exact⟨_,xs,rfl,hrow,hbel,HN.out.1,HN.out.2.1,HN.out.2.2⟩
end Go.Proofs.YtdbekjiognpgnaaGreat
namespace Go.Proofs.YtdbekjiognpgnaaGreat
structure z2G(P Q i n l:Nat):Prop where
 eq:P*2 ^ i=2*(n*Q)+l
 lt:l<2*Q
theorem z2H{P Q:Nat}(h:P<2*Q):z2G P Q 0 0 P:=⟨by simp,h⟩
theorem z2I{P Q i n l:Nat}(h:z2G P Q i n l)(hl:Q<=l):z2G P Q (i+1) (n*2+1) ((l-Q)*2):=by
 refine⟨?_,by have:=h.lt;omega⟩
 have e1:(n*2+1)*Q=2*(n*Q)+Q:=by rw[Nat.add_mul,Nat.mul_right_comm,Nat.one_mul,Nat.mul_comm 2]
 rw[Nat.pow_succ,←Nat.mul_assoc,h.eq,e1];omega
theorem z2J{P Q i n l:Nat}(h:z2G P Q i n l)(hl:l<Q):z2G P Q (i+1) (n*2) (l*2):=by
 refine⟨?_,by omega⟩
 have e1:n*2*Q=2*(n*Q):=by rw[Nat.mul_right_comm,Nat.mul_comm 2]
 rw[Nat.pow_succ,←Nat.mul_assoc,h.eq,e1];omega
theorem z2K{P Q i n l:Nat}(h:z2G P Q i n l)(hP:P<2*Q):n<2 ^ i:=by
 have h1:=h.eq;rcases Nat.lt_or_ge n (2 ^ i)with h'|h'
 ·exact h'
 ·have h2:2 ^ i*Q<=n*Q:=Nat.mul_le_mul_right _ h';have h3:P*2 ^ i<2*Q*2 ^ i:=Nat.mul_lt_mul_of_pos_right hP (Nat.two_pow_pos i);have h4:2*Q*2 ^ i=2*(2 ^ i*Q):=by rw[Nat.mul_assoc,Nat.mul_comm Q]
  omega
theorem z2L{P Q n l j:Nat}(h:z2G P Q (j+1) n l)(hQ:Q≠0):P*2 ^ j/Q=n/\(0<l↔P*2 ^ j%Q≠0):=by
 have h1:=h.eq;rw[Nat.pow_succ,←Nat.mul_assoc]at h1;obtain⟨X,hX⟩:∃ X,P*2 ^ j=X:=⟨_,rfl⟩;rw[hX]at h1 ⊢;obtain⟨r,hr⟩:∃ r,l=2*r:=⟨X-n*Q,by omega⟩
 have h3:X=Q*n+r:=by rw[Nat.mul_comm Q];omega
 have h4:r<Q:=by have:=h.lt;omega
 have h5:X/Q=n:=by rw[h3,Nat.mul_add_div (by omega),Nat.div_eq_of_lt h4,Nat.add_zero]
 have h6:X%Q=r:=by rw[h3,Nat.mul_add_mod,Nat.mod_eq_of_lt h4]
 exact⟨h5,by omega⟩
def z2M(m:Nat)(e:Int)(st:Bool)(M:Nat)(E:Int)(hf rs:Bool):Prop:=
 (∃ j:Nat,M=m/2 ^ j/\E=e+j/\(j=0->hf=false/\rs=st)/\(∀ i,j=i+1->hf=decide (m/2 ^ i%2=1)/\rs=(st||decide (m%2 ^ i≠0))/\(E<=-1074\/9007199254740992<=m/2 ^ i)))
 \/ (M=0/\E=-1074/\hf=false/\∃ j:Nat,e+j < -1074/\m<2 ^ j)
theorem z2N(m:Nat)(e:Int)(st:Bool):z2M m e st m e false st:=
 .inl ⟨0,by simp,by simp,fun _=>⟨rfl,rfl⟩,fun i h=>by omega⟩
theorem z2O{m:Nat}{e:Int}{st:Bool}{M:Nat}{E:Int}{hf rs:Bool}(h:z2M m e st M E hf rs):M<=m:=by
 rcases h with ⟨j,rfl,-⟩|⟨rfl,-⟩
 ·exact Nat.div_le_self _ _
 ·exact yj9 _
theorem z2P{m:Nat}{e:Int}{st:Bool}{M:Nat}{E:Int}{hf rs:Bool}(h:z2M m e st M E hf rs)(hm:m<18446744073709551616):E<=-1074\/E<=e+64:=by
 rcases h with ⟨j,-,rfl,-,hs⟩|⟨-,h,-⟩
 ·cases j with
  | zero=>right;omega
  | succ i=>
   rcases (hs i rfl).2.2 with h|h
   ·exact .inl h
   ·right
    rcases Nat.lt_or_ge i 63 with h'|h'
    ·omega
    ·have:(2:Nat) ^ 63<=2 ^ i:=Nat.pow_le_pow_right (by decide) h'
     have h2:9007199254740992*2 ^ i<=m:=(Nat.le_div_iff_mul_le (Nat.two_pow_pos i)).1 h;omega
 ·exact .inl (by omega)
theorem z2Q(m i:Nat)(st:Bool):((st||decide (m%2 ^ i≠0))||decide (m/2 ^ i%2=1))=(st||decide (m%2 ^ (i+1)≠0)):=by
 have hr:m%2 ^ (i+1)=m%2 ^ i+2 ^ i*(m/2 ^ i%2):=by rw[Nat.pow_succ,Nat.mod_mul]
 have hp:=Nat.two_pow_pos i;rw[hr];rcases Nat.mod_two_eq_zero_or_one (m/2 ^ i)with hb|hb
 ·rw[hb];simp
 ·rw[hb];simp
theorem z2R{m:Nat}{e:Int}{st:Bool}{M:Nat}{E:Int}{hf rs:Bool}(h:z2M m e st M E hf rs)(hc:9007199254740992<=M\/E < -1074):
  z2M m e st (M/2) (E+1) (decide (M%2=1)) (rs||hf):=by
 rcases h with ⟨j,rfl,rfl,h0,hs⟩|⟨rfl,rfl,-⟩
 ·refine .inl ⟨j+1,?_,?_,fun h=>by omega,fun i hi=>?_⟩
  ·rw[Nat.pow_succ,Nat.div_div_eq_div_mul]
  ·omega
  ·obtain rfl:j=i:=by omega
   refine⟨rfl,?_,?_⟩
   ·cases j with
    | zero=>rw[(h0 rfl).1,(h0 rfl).2];simp[Nat.mod_one]
    | succ i=>
     rw[(hs i rfl).1,(hs i rfl).2.1];exact z2Q m i st
   ·rcases hc with hc|hc
    ·exact .inr hc
    ·exact .inl (by omega)
 ·omega
theorem z2S{m:Nat}{e:Int}{st:Bool}{M:Nat}{E:Int}{hf rs r:Bool}(h:z2M m e st M E hf rs)(h2:M/2=0)(h3:E+1 < -1074):
  z2M m e st 0 (-1074) false r:=by
 rcases h with ⟨j,rfl,rfl,h0,hs⟩|⟨rfl,rfl,-⟩
 ·refine .inr ⟨rfl,rfl,rfl,j+1,by omega,?_⟩
  rw[Nat.pow_succ];rw[Nat.div_div_eq_div_mul]at h2;rcases Nat.div_eq_zero_iff.1 h2 with h|h
  ·have:=Nat.two_pow_pos j;omega
  ·exact h
 ·omega
theorem z2T{m:Nat}{e:Int}{st:Bool}{M:Nat}{E:Int}{hf rs:Bool}(h:z2M m e st M E hf rs)(hm:m≠0)(hn:e<=-1074\/4503599627370496<=m)(h1:M<9007199254740992)(h2:-1074<=E):
  z0M m e st=min (M+(if (hf&&(rs||decide (M%2=1)))=true then 1 else 0)+(E+1074).toNat*4503599627370496) 9218868437227405312/\(E=-1074\/4503599627370496<=M):=by
 rcases h with ⟨j,rfl,rfl,h0,hs⟩|⟨rfl,rfl,rfl,j,hj,hlt⟩
 ·have hlt:m<2 ^ (53+j):=by
   rw[Nat.pow_add];exact(Nat.div_lt_iff_lt_mul (Nat.two_pow_pos j)).1 h1
  have hlow:e+j=-1074\/2 ^ (52+j)<=m:=by
   cases j with
   | zero=>rcases hn with h|h;exact .inl (by simp at h2 ⊢;omega);exact .inr h
   | succ i=>
    rcases (hs i rfl).2.2 with h|h
    ·exact .inl (by omega)
    ·right
     have h3:9007199254740992*2 ^ i<=m:=(Nat.le_div_iff_mul_le (Nat.two_pow_pos i)).1 h;have:2 ^ (52+(i+1))=9007199254740992*2 ^ i:=by rw[show 52+(i+1)=53+i by omega,Nat.pow_add]
     omega
  constructor
  ·rw[z0R (k:=j) st hm h2 hlt hlow];congr 1
   congr 1
   cases j with
   | zero=>rw[(h0 rfl).1];simp[z0N]
   | succ i=>
    rw[z0Y,(hs i rfl).1,(hs i rfl).2.1];congr 1
    simp
  ·rcases hlow with h|h
   ·exact .inl h
   ·right
    rw[Nat.pow_add]at h;exact(Nat.le_div_iff_mul_le (Nat.two_pow_pos j)).2 h
 ·refine⟨?_,.inl rfl⟩;have hk:e+((-1074-e).toNat:Nat)=-1074:=by omega
  have hp:(2:Nat) ^ (j+1)<=2 ^ (-1074-e).toNat:=Nat.pow_le_pow_right (by decide) (by omega)
  rw[Nat.pow_succ]at hp;have hq:(2:Nat) ^ (-1074-e).toNat<=2 ^ (53+(-1074-e).toNat):=Nat.pow_le_pow_right (by decide) (by omega)
  rw[z0R (k:=(-1074-e).toNat) st hm (by omega) (by omega) (.inl hk),z0P st (by omega),hk]
  simp
theorem z2U{M':Nat}{E:Int}(h2:-1074<=E)(h3:E=-1074\/4503599627370496<=M')(h4:M'<=9007199254740992):
  min (M'+(E+1074).toNat*4503599627370496) 9218868437227405312 =
   if M'=9007199254740992 then (if 971<E+1 then 9218868437227405312 else (E+1+1075).toNat*4503599627370496)
   else if M'<4503599627370496 then M' else if 971<E then 9218868437227405312 else M'-4503599627370496+(E+1075).toNat*4503599627370496:=by
 obtain⟨t,ht⟩:∃ t:Nat,E+1074=t:=⟨(E+1074).toNat,by omega⟩
 have e1:(E+1074).toNat=t:=by omega
 have e2:(E+1075).toNat=t+1:=by omega
 have e3:(E+1+1075).toNat=t+2:=by omega
 rw[e1,e2,e3];split
 ·split<;>omega
 ·split
  ·have:t=0:=by omega
   omega
  ·split<;>omega
theorem z2V{m:Nat}(e:Int)(st:Bool)(hm:m<18446744073709551616):z0M m (max (min e 5000) (-5000)) st=z0M m e st:=by
 by_cases h0:m=0
 ·subst h0;simp[z0M]
 by_cases h1:5000<e
 ·rw[z0V st h0 (show 1100<=e by omega),z0V st h0 (by omega)]
 ·by_cases h2:e < -5000
  ·rw[z0U st hm (show e<=-1139 by omega),z0U st hm (by omega)]
  ·congr 1;omega
end Go.Proofs.YtdbekjiognpgnaaGreat
namespace Go.Proofs.YtdbekjiognpgnaaGreat
open Go.RowKit
theorem z2W(m:Nat):decide ((72057594037927936:Int)<=(m:Int))=decide (72057594037927936<=m):=by
 rw[decide_eq_decide];omega
theorem z2X(n:Nat):((n:Int)%2==1)=decide (n%2=1):=by
 rw[Bool.eq_iff_iff];simp only[beq_iff_eq,decide_eq_true_eq];omega
theorem z2Y(x:Int)(b:Bool)(w:World)(h0:0<=x)(hx:x<=9218868437227405312):
  Calls Tryz.prog 120 #[.int .u64 x,.bool b] w fun e w'=>e=.returned (.int .u64 (z0W b x.toNat:Nat))/\w=w':=by
 obtain⟨n,rfl⟩:∃ n:Nat,x=n:=⟨x.toNat,by omega⟩
 exact z2n n b w (by omega)
def upN(N:Nat)(u:Bool):Nat:=N+(if u=true then 1 else 0)
theorem z2Z{N:Nat}{F:Int}{u:Bool}{r:Nat}(hr:r=min (N+(if u=true then 1 else 0)+(F+1074).toNat*4503599627370496) 9218868437227405312/\(F=-1074\/4503599627370496<=N))(h1:N<9007199254740992)(h2:-1074<=F):
  (upN N u<=9007199254740992)/\
  r=if upN N u=9007199254740992 then (if 971<F+1 then 9218868437227405312 else (F+1+1075).toNat*4503599627370496)
   else if upN N u<4503599627370496 then upN N u else if 971<F then 9218868437227405312 else upN N u-4503599627370496+(F+1075).toNat*4503599627370496:=by
 have hu:upN N u<=9007199254740992:=by unfold upN;split<;>omega
 refine⟨hu,?_⟩;rw[hr.1];exact z2U h2 (by rcases hr.2 with h|h;exact .inl h;exact .inr (by omega)) hu
theorem z30(b more:Bool)(m:Nat)(e:Int)(w:World)(hm:m<18446744073709551616)(he0:-9223372036854775808<=e)(he2:e<=9223372036854775807):
  Calls Tryz.prog 116 #[.bool b,.int .u64 m,.int .i64 e,.bool more] w fun en w'=>en=.returned (.int .u64 (z0W b (z0M m e (more&&decide (72057594037927936<=m))):Nat))/\w=w':=by
 rw[←z2V e _ hm];go_enter Tryz.func116,Tryz.ntmps116;go_upto_if 13 with fail;go_cut [2] (fun s2 wx=>w=wx/\s2=.int .i64 (min e 5000))
 case first=>
  go_wp2
  ·go_meet
   case rel=>exact⟨rfl,by congr 1;omega⟩
  ·go_meet
   case rel=>exact⟨rfl,by congr 1;omega⟩
 case rest=>
  obtain⟨rfl,rfl⟩:=hcut;go_upto_if 15 with fail;go_cut [2] (fun s2 wx=>w=wx/\s2=.int .i64 (max (min e 5000) (-5000)))
  case first=>
   go_wp2
   ·go_meet
    case rel=>exact⟨rfl,by congr 1;omega⟩
   ·go_meet
    case rel=>exact⟨rfl,by congr 1;omega⟩
  case rest=>
   obtain⟨rfl,rfl⟩:=hcut;have hb1:-5000<=max (min e 5000) (-5000):=by omega
   have hb2:max (min e 5000) (-5000)<=5000:=by omega
   obtain⟨e1,he1⟩:∃ e1,max (min e 5000) (-5000)=e1:=⟨_,rfl⟩;rw[he1]at hb1 hb2;have HE1:Hid (max (min e 5000) (-5000)=e1):=he1;simp only[he1];clear he1;go_upto_region 5 with fail;go_cut [9] (fun s9 wx=>w=wx/\s9=.bool (more&&decide (72057594037927936<=m)))
   case first=>
    cases more
    ·go_wp2;go_meet
     case rel=>exact⟨rfl,rfl⟩
    ·go_wp2_with (go_at_call 66;refine(z2m _).mono ?_;rintro en w' ⟨rfl,rfl⟩)
     go_meet
     case rel=>exact⟨rfl,by rw[z2W];rfl⟩
   case rest=>
    obtain⟨rfl,rfl⟩:=hcut;obtain⟨st,hst⟩:∃ st,(more&&decide (72057594037927936<=m))=st:=⟨_,rfl⟩;have HST:Hid (Unit->(more&&decide (72057594037927936<=m))=st):=fun _=>hst;simp only[hst];clear hst;by_cases hm0:m=0
    ·subst hm0;go_wp2_with (go_at_call 120;refine(z2n 0 b _ (by omega)).mono ?_;rintro en w' ⟨rfl,rfl⟩)
     go_ret;exact⟨by simp[z0M],rfl⟩
    ·have hm1:((m:Int)==0)=false:=by rw[yc9];omega
     go_wp2;go_loop [1,2] (fun x1 x2=>∃(j M:Nat) (E:Int),x1=.int .u64 M/\x2=.int .i64 E/\M=m*2 ^ j/\E=e1-j/\(j=0\/(M<9007199254740992/\-1074<=E))/\M<18446744073709551616/\E<=5000) (fun _ x2=>(intOf x2+1074).toNat)
     case atStart=>exact⟨0,m,e1,rfl,rfl,by simp,by simp,.inl rfl,hm,hb2⟩
     case round=>
      obtain⟨j,M,E,rfl,rfl,hM,hE,hj,hM1,hE1⟩:=hrel;have HM:Hid (M=m*2 ^ j):=hM;have HE:Hid (E=e1-j):=hE;have hEl:-5000<=E:=by omega
      have hMp:M≠0:=by
       rw[hM];exact Nat.mul_ne_zero hm0 (Nat.ne_of_gt (Nat.two_pow_pos j))
      clear hM hE;by_cases hc:M<4503599627370496/\-1074<E
      ·obtain⟨c1,c2⟩:=hc;have c3:(M:Int)<4503599627370496:=by omega
       clear hj hMp hm1 c1 hM1 hm;go_wp2;go_round
       case rel=>exact⟨j+1,2*M,E-1,by go_num,by go_num,by rw[HM.out,Nat.pow_succ,Nat.mul_comm 2,Nat.mul_assoc],by rw[HE.out];omega,.inr ⟨by omega,by omega⟩,by omega,by omega⟩
       case measure=>simp[intOf];omega
      ·have hn:E<=-1074\/4503599627370496<=M:=by omega
       have HR:Hid (z0M m e1 st=z0M M E st):=by
        show z0M m e1 st=z0M M E st;rw[HM.out,HE.out,z0T]
       have hM2:(M:Int)<18446744073709551616:=by omega
       have HN:Hid (Unit->E<=-1074\/4503599627370496<=M):=fun _=>hn;have HM1:Hid (Unit->M<18446744073709551616):=fun _=>hM1;have c4:((M:Int)<4503599627370496)->decide (-1074<E)=false:=fun h=>by simp;omega
       clear HM HE hc hj hm1 hn hM1 hm;by_cases c5:(M:Int)<4503599627370496
       all_goals
        try have c6:=c4 c5
        clear c4;go_wp2;go_loop [1,2,10,11] (fun x1 x2 x10 x11=>∃(N:Nat) (F:Int) (hf rs:Bool),x1=.int .u64 N/\x2=.int .i64 F/\x10=.bool hf/\x11=.bool rs/\z2M M E st N F hf rs/\-5000<=F) (fun x1 x2 _ _=>(intOf x1).toNat+(-1074-intOf x2).toNat)
        case atStart=>exact⟨M,E,false,st,rfl,rfl,rfl,rfl,z2N M E st,hEl⟩
        case round=>
         obtain⟨N,F,hf,rs,rfl,rfl,rfl,rfl,hH,hF⟩:=hrel;have hN:=z2O hH;have hF2:=z2P hH (HM1.out ());have HH:Hid (Unit->z2M M E st N F hf rs):=fun _=>hH;clear hH;have hN2:(N:Int)<=M:=by omega
         clear hN;by_cases hc1:(9007199254740992:Int)<=N
         ·have hd:((N:Int)/2==0)=false:=by rw[yc9];omega
          cases rs<;>cases hf
          all_goals
           go_wp2;go_round
           case rel=>exact⟨N/2,F+1,_,_,by go_num,by go_num,rfl,rfl,by rw[z2X];exact z2R (HH.out ()) (.inl (by omega)),by omega⟩
           case measure=>simp[intOf];omega
         ·by_cases hc2:F < -1074
          ·by_cases hz:(N:Int)/2=0
           ·by_cases hz2:F+1 < -1074
            ·cases rs<;>cases hf<;>by_cases ho:(N:Int)%2=1
             all_goals
              go_wp2;go_round
              case rel=>exact⟨0,-1074,_,_,rfl,rfl,rfl,rfl,z2S (HH.out ()) (by omega) hz2,by omega⟩
              case measure=>simp[intOf];omega
            ·cases rs<;>cases hf
             all_goals
              go_wp2;go_round
              case rel=>exact⟨N/2,F+1,_,_,by go_num,by go_num,rfl,rfl,by rw[z2X];exact z2R (HH.out ()) (.inr hc2),by omega⟩
              case measure=>simp[intOf];omega
           ·have hd:((N:Int)/2==0)=false:=by rw[yc9];exact hz
            cases rs<;>cases hf
            all_goals
             go_wp2;go_round
             case rel=>exact⟨N/2,F+1,_,_,by go_num,by go_num,rfl,rfl,by rw[z2X];exact z2R (HH.out ()) (.inr hc2),by omega⟩
             case measure=>simp[intOf];omega
          ·have hd1:decide ((9007199254740992:Int)<=N)=false:=by simp;omega
           have hd2:decide (F < -1074)=false:=by simp;omega
           have hfin:=z2Z (z2T (HH.out ()) hMp (HN.out ()) (by omega) (by omega)) (by omega) (by omega)
           have HF:Hid (Unit->_):=fun _=>hfin.2;have hu:((upN N (hf&&(rs||decide (N%2=1))):Nat):Int)<=9007199254740992:=by have:=hfin.1;omega
           clear hfin;go_upto_region 22 with fail;go_cut [72] (fun s72 wx=>w=wx/\s72=.bool (hf&&(rs||decide (N%2=1))))
           case first=>
            cases rs<;>cases hf
            all_goals
             go_wp2;go_meet
             case rel=>exact⟨rfl,by simp[z2X]⟩
           case rest=>
            obtain⟨rfl,rfl⟩:=hcut;clear HH HN HM1 hd1 hd2;obtain⟨u,hu0⟩:∃ u,(hf&&(rs||decide (N%2=1)))=u:=⟨_,rfl⟩;rw[hu0]at HF hu;simp only[hu0];clear hu0;obtain⟨P,hP⟩:∃ P,upN N u=P:=⟨_,rfl⟩;rw[hP]at HF hu;have HP:Hid (Unit->upN N u=P):=fun _=>hP;clear hP;go_upto_if 72 with fail;go_cut [1] (fun s1 wx=>w=wx/\s1=.int .u64 P)
            case first=>
             have HP':=HP.out ();cases u
             ·obtain rfl:N=P:=by simpa [upN] using HP'
              go_wp2;go_meet
              case rel=>exact⟨rfl,rfl⟩
             ·obtain rfl:N+1=P:=by simpa [upN] using HP'
              go_wp2;go_meet
              case rel=>exact⟨rfl,by go_num⟩
            case rest=>
             obtain⟨rfl,rfl⟩:=hcut;have HV:Hid (Unit->z0M m (max (min e 5000) (-5000)) (more&&decide (72057594037927936<=m))=z0M M E st):=fun _=>by
              rw[HE1.out,HST.out (),HR.out]
             have hP0:(0:Int)<=P:=by omega
             by_cases f1:(P:Int)=9007199254740992
             ·by_cases f2:971<F+1
              ·go_wp2_with (go_at_call 120;refine(z2Y _ b _ (by omega) (by omega)).mono ?_;rintro en w' ⟨rfl,rfl⟩)
               go_ret;refine⟨?_,rfl⟩;rw[HV.out (),HF.out (),if_pos (by omega),if_pos f2]
               rfl
              ·go_wp2_with (go_at_call 120;refine(z2Y _ b _ (by omega) (by omega)).mono ?_;rintro en w' ⟨rfl,rfl⟩)
               go_ret;refine⟨?_,rfl⟩;rw[HV.out (),HF.out (),if_pos (by omega),if_neg (by omega)]
               refine z00 (congrArg (fun n:Nat=>(n:Int)) (congrArg (z0W b) ?_));omega
             ·have f1':((P:Int)==9007199254740992)=false:=by rw[yc9];exact f1
              by_cases f3:(P:Int)<4503599627370496
              ·go_wp2_with (go_at_call 120;refine(z2Y _ b _ (by omega) (by omega)).mono ?_;rintro en w' ⟨rfl,rfl⟩)
               go_ret;refine⟨?_,rfl⟩;rw[HV.out (),HF.out (),if_neg (by omega),if_pos (by omega)]
               rfl
              ·by_cases f2:971<F
               ·go_wp2_with (go_at_call 120;refine(z2Y _ b _ (by omega) (by omega)).mono ?_;rintro en w' ⟨rfl,rfl⟩)
                go_ret;refine⟨?_,rfl⟩;rw[HV.out (),HF.out (),if_neg (by omega),if_neg (by omega),if_pos f2]
                rfl
               ·go_wp2_with (go_at_call 120;refine(z2Y _ b _ (by omega) (by omega)).mono ?_;rintro en w' ⟨rfl,rfl⟩)
                go_ret;refine⟨?_,rfl⟩;rw[HV.out (),HF.out (),if_neg (by omega),if_neg (by omega),if_neg (by omega)]
                refine z00 (congrArg (fun n:Nat=>(n:Int)) (congrArg (z0W b) ?_));omega
