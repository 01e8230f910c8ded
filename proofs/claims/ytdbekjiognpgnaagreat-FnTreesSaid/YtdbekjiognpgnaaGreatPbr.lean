/- Part 44. -/
import Derived.Test.YtdbekjiognpgnaaGreatPbq
import Derived.Test.YtdbekjiognpgnaaGreatPbd
import Derived.Test.YtdbekjiognpgnaaGreatPbh
set_option maxHeartbeats 16000000
set_option maxRecDepth 100000
set_option linter.unusedVariables false
namespace Go.Proofs.YtdbekjiognpgnaaGreat
open Go.RowKit
theorem zcZ{c:UInt8}{r:List UInt8}(h:0<=(tokN (c::r)).2):(tokN (c::r)).2.toNat<=(c::r).length/\1<=(tokN (c::r)).2.toNat:=by
 obtain⟨_,h1,h2⟩:=z7t (c:=c) (r:=r) (by rw[z78];exact h)
 rw[z78]at h1 h2;exact⟨h1,h2⟩
def zd0(s:ByteArray)(a:Nat)(acc:List (Tok × Nat))(Y:List (Tok × Nat) × Int):Prop:=∃ n,s.size-a<=n/\z7a tokN n (s.data.toList.drop a) a acc=Y
theorem zd0.ahead{s:ByteArray}{a:Nat}{acc:List (Tok × Nat)}{Y:List (Tok × Nat) × Int}(h:zd0 s a acc Y)(h2:a<s.size):∃ n,s.size-a<=n+1/\z7a tokN (n+1) (s[a]::s.data.toList.drop (a+1)) a acc=Y:=by
 obtain⟨n,hn,hy⟩:=h;obtain⟨m,rfl⟩:∃ m,n=m+1:=⟨n-1,by omega⟩
 rw[z3H s a h2]at hy;exact⟨m,hn,hy⟩
theorem zd0.blank{s:ByteArray}{a:Nat}{acc:List (Tok × Nat)}{Y:List (Tok × Nat) × Int}(h:zd0 s a acc Y)(h2:a<s.size)(hb:z79 s[a]=true):zd0 s (a+1) acc Y:=by
 obtain⟨n,hn,hy⟩:=h.ahead h2;rw[z7a,if_pos hb]at hy;exact⟨n,by omega,hy⟩
theorem zd0.fault{s:ByteArray}{a:Nat}{acc:List (Tok × Nat)}{Y:List (Tok × Nat) × Int}(h:zd0 s a acc Y)(h2:a<s.size)(hb:z79 s[a]=false)(hf:(tokN (s.data.toList.drop a)).2<0\/acc.length=200):Y=([],(a:Int)):=by
 obtain⟨n,hn,hy⟩:=h.ahead h2;rw[z3H s a h2]at hf;rw[z7a,if_neg (by rw[hb];decide),if_pos hf]at hy
 exact hy.symm
theorem zd0.token{s:ByteArray}{a k:Nat}{t:Tok}{acc:List (Tok × Nat)}{Y:List (Tok × Nat) × Int}(h:zd0 s a acc Y)(h2:a<s.size)(hb:z79 s[a]=false)(ht:tokN (s.data.toList.drop a)=(t,(k:Int)))(hl:acc.length≠200):
  a+k<=s.size/\1<=k/\zd0 s (a+k) (acc++[(t,a)]) Y:=by
 obtain⟨n,hn,hy⟩:=h.ahead h2;rw[z3H s a h2]at ht;obtain⟨k1,k2⟩:=zcZ (c:=s[a]) (r:=s.data.toList.drop (a+1)) (by rw[ht];simp)
 rw[ht,Int.toNat_natCast]at k1 k2;rw[←z3H s a h2,List.length_drop,z1x]at k1;refine⟨by omega,k2,n,by omega,?_⟩
 rw[z7a,if_neg (by rw[hb];decide),if_neg (by rw[ht];simp;exact hl),ht,Int.toNat_natCast,←z3H s a h2,List.drop_drop]at hy
 exact hy
theorem zd0.done{s:ByteArray}{a:Nat}{acc:List (Tok × Nat)}{Y:List (Tok × Nat) × Int}(h:zd0 s a acc Y)(h1:¬a<s.size):Y=(acc,-1):=by
 obtain⟨n,_,hy⟩:=h;rw[List.drop_eq_nil_of_le (by rw[z1x];omega)]at hy
 rw[←hy];cases n<;>rfl
theorem zd1(w:World)(B:Nat)(h:B<=w.heap.size):(w.alloc (.cells #[] 117)).ownsRow B 117 4 (.slice (some ⟨w.heap.size,0,none⟩) 0 0) 0 []:=
 ⟨rfl,.inr ⟨w.heap.size,0,#[],rfl,h,heap_alloc_new w _,yf9 _,yj9 _,rfl,rfl⟩⟩
theorem zd2(s:ByteArray)(w:World):
  Calls Tryz.prog 24 #[.string s] w fun e w'=>∃ v,e=.returned (.tuple #[v,.int .i64 (z7b tokN s.data.toList).2])/\w'.ownsRow w.heap.size 117 4 v (z7b tokN s.data.toList).1.length (z8K (z7b tokN s.data.toList).1)/\Below w.heap.size w w':=by
 have o0:=zd1 w w.heap.size (yf9 _);have b0:Below w.heap.size w (w.alloc (.cells #[] 117)):=(yg9 _ _).alloc (yf9 _) _;by_cases h6:600<s.size
 ·have h6':(600:Int)<s.size:=by omega
  have e:z7b tokN s.data.toList=([],600):=by unfold z7b;rw[if_pos (by rw[z1x];exact h6)]
  rw[e];have HO:Hid ((w.alloc (.cells #[] 117)).ownsRow w.heap.size 117 4 (.slice (some ⟨w.heap.size,0,none⟩) 0 0) 0 []/\Below w.heap.size w (w.alloc (.cells #[] 117))):=⟨o0,b0⟩;clear o0 b0;go_enter Tryz.func24,Tryz.ntmps24;go_wp2;go_returns;exact⟨_,rfl,HO.out.1,HO.out.2⟩
 ·have h6':decide ((600:Int)<s.size)=false:=by simp;omega
  have hs:s.size<=1048576:=by omega
  have HST:Hid (zd0 s 0 [] (z7b tokN s.data.toList)):=by
   refine⟨s.size,Nat.sub_le _ _,?_⟩;unfold z7b;rw[if_neg (by rw[z1x];omega),z1x]
   rfl
  obtain⟨Y,hY⟩:∃ Y,z7b tokN s.data.toList=Y:=⟨_,rfl⟩;rw[hY]at HST ⊢;clear hY;obtain⟨i0,hi,hz0,hz1,hz2⟩:=info_parts z8R;obtain⟨H,hH⟩:∃ H,w.heap.size=H:=⟨_,rfl⟩;rw[hH]at o0 b0 ⊢;obtain⟨W0,hW0⟩:∃ W,w.alloc (.cells #[] 117)=W:=⟨_,rfl⟩;rw[hW0]at o0 b0;go_enter Tryz.func24,Tryz.ntmps24;go_upto_region 5 with fail;try simp only[hW0,hH]
  clear hW0;go_loopw [4,5] (fun v x wr=>∃(a:Nat) (acc:List (Tok × Nat)),x=.int .i64 a/\wr.ownsRow H 117 4 v acc.length (z8K acc)/\Below H w wr/\H<=wr.heap.size/\a<=s.size/\acc.length<=200/\Hid (zd0 s a acc Y)) (fun _ x _=>s.size-(intOf x).toNat)
  case atStart=>exact⟨0,[],rfl,o0,b0,by have:=b0.size;omega,yj9 _,by simp,HST⟩
  case round=>
   obtain⟨a,acc,rfl,hown,hbw,hHs,hle,h200,HS⟩:=hrel;by_cases hp:a<s.size
   ·have hp':(a:Int)<s.size:=by omega
    by_cases hbl:z79 s[a]=true
    ·have HS2:Hid (zd0 s (a+1) acc Y):=HS.out.blank hp hbl;clear HS HST;unfold z79 at hbl;simp only[Bool.or_eq_true,decide_eq_true_eq]at hbl;by_cases h32:(s[a]).toNat=32
     ·have h32':((s[a]).toNat:Int)=32:=by omega
      clear hbl h32;go_wp2;go_roundw
      case rel=>exact⟨a+1,acc,by go_num,hown,hbw,hHs,by omega,h200,HS2⟩
      case measure=>simp[intOf];omega
     ·have h32':(((s[a]).toNat:Int)==32)=false:=by rw[yc9];omega
      by_cases h10:(s[a]).toNat=10
      ·have h10':((s[a]).toNat:Int)=10:=by omega
       clear hbl h32 h32' h10;go_wp2;go_roundw
       case rel=>exact⟨a+1,acc,by go_num,hown,hbw,hHs,by omega,h200,HS2⟩
       case measure=>simp[intOf];omega
      ·have h9':((s[a]).toNat:Int)=9:=by omega
       clear hbl h32 h32' h10;go_wp2;go_roundw
       case rel=>exact⟨a+1,acc,by go_num,hown,hbw,hHs,by omega,h200,HS2⟩
       case measure=>simp[intOf];omega
    ·have hb0:z79 s[a]=false:=by simpa using hbl
     have h32':(((s[a]).toNat:Int)==32)=false:=by
      rw[yc9];intro h;apply hbl;unfold z79;rw[yb9 (by omega:(s[a]).toNat=32)];rfl
     have h10':(((s[a]).toNat:Int)==10)=false:=by
      rw[yc9];intro h;apply hbl;unfold z79;rw[yb9 (by omega:(s[a]).toNat=10)];simp
     have h9':(((s[a]).toNat:Int)==9)=false:=by
      rw[yc9];intro h;apply hbl;unfold z79;rw[yb9 (by omega:(s[a]).toNat=9)];simp
     have cT:=fun W=>z8f s a W hp hs;obtain⟨t,Z,hk⟩:∃ t Z,tokN (s.data.toList.drop a)=(t,Z):=⟨_,_,rfl⟩;simp only[hk]at cT;unfold tokV at cT;by_cases hZ:Z<0
     ·have hy:=HS.out.fault hp hb0 (.inl (by rw[hk];exact hZ))
      subst hy;clear hk HS HST hb0 hbl;go_wp2_with fail;refine(cT _).mono ?_;rintro e W2 ⟨rfl,b2⟩;have bb:=hbw.trans (b2.mono hHs);have s2:=b2.size;obtain⟨W3,hW3⟩:∃ W,W2.alloc (.cells #[.int .i64 t.kind,.string (txt t.text),.int .u64 (t.num:Int),.int .i64 (a:Int)] 117)=W:=⟨_,rfl⟩;have b3:Below H w W3:=by rw[←hW3];exact bb.alloc (by omega) _
      have s3:H<=W3.heap.size:=by rw[←hW3];simp;omega
      have HO:Hid ((W3.alloc (.cells #[] 117)).ownsRow H 117 4 (.slice (some ⟨W3.heap.size,0,none⟩) 0 0) 0 []/\Below H w (W3.alloc (.cells #[] 117))):=⟨zd1 W3 H s3,b3.alloc s3 _⟩;clear b2 cT bb b3;go_wp2;try simp only[hW3]
      go_returns;exact⟨_,rfl,HO.out.1,HO.out.2⟩
     ·obtain⟨k,rfl⟩:∃ k:Nat,Z=k:=⟨Z.toNat,by omega⟩
      have hZ':decide ((k:Int)<0)=false:=by simp
      obtain⟨xa,xc,rfl⟩:=z8P hown;by_cases hacc:acc.length=200
      ·have hy:=HS.out.fault hp hb0 (.inr hacc);subst hy;clear hk HS HST hb0 hbl;simp only[hacc];go_wp2_with fail;refine(cT _).mono ?_;rintro e W2 ⟨rfl,b2⟩;have bb:=hbw.trans (b2.mono hHs);have s2:=b2.size;obtain⟨W3,hW3⟩:∃ W,W2.alloc (.cells #[.int .i64 t.kind,.string (txt t.text),.int .u64 (t.num:Int),.int .i64 (a:Int)] 117)=W:=⟨_,rfl⟩;have b3:Below H w W3:=by rw[←hW3];exact bb.alloc (by omega) _
       have s3:H<=W3.heap.size:=by rw[←hW3];simp;omega
       have HO:Hid ((W3.alloc (.cells #[] 117)).ownsRow H 117 4 (.slice (some ⟨W3.heap.size,0,none⟩) 0 0) 0 []/\Below H w (W3.alloc (.cells #[] 117))):=⟨zd1 W3 H s3,b3.alloc s3 _⟩;clear b2 cT bb b3;go_wp2;try simp only[hW3]
       go_returns;exact⟨_,rfl,HO.out.1,HO.out.2⟩
      ·have hacc':((acc.length:Int)==200)=false:=by rw[yc9];omega
       obtain⟨hks,hk1,hS2⟩:=HS.out.token hp hb0 hk hacc;have HS2:Hid (zd0 s (a+k) (acc++[(t,a)]) Y):=hS2;clear hk hS2 HS HST hb0 hbl;go_wp2_with fail;refine(cT _).mono ?_;rintro e W2 ⟨rfl,b2⟩;have s2:=b2.size;have bb:=hbw.trans (b2.mono hHs);have hown3:=z8N hown b2;obtain⟨W3,hW3⟩:∃ W,W2.alloc (.cells #[.int .i64 t.kind,.string (txt t.text),.int .u64 (t.num:Int),.int .i64 (a:Int)] 117)=W:=⟨_,rfl⟩;have hB:W3.heap[W2.heap.size]?=some (.cells #[.int .i64 t.kind,.string (txt t.text),.int .u64 (t.num:Int),.int .i64 (a:Int)] 117):=by rw[←hW3];exact heap_alloc_new W2 _
       have bb3:Below H w W3:=by rw[←hW3];exact bb.alloc (by omega) _
       have s3:H<=W3.heap.size:=by rw[←hW3];simp;omega
       have hown4:W3.ownsRow H 117 4 (.slice xa acc.length xc) acc.length (z8K acc):=by rw[←hW3];exact hown3.alloc _
       go_upto_region 11 with fail;try simp only[hW3]
       clear hW3 hown3 bb b2 hown hbw cT;obtain⟨G,hG⟩:∃ G,W2.heap.size=G:=⟨_,rfl⟩;simp only[hG];rw[hG]at hB;obtain⟨m0,m1,m2,m3⟩:=z2u hB;clear hB;go_wp2_with (first
        | (at_builtin;refine wpList_append_own _ rfl _ _ 59 rfl H 117 i0 (.agg #[.int .i64 0,.string ⟨#[]⟩,.int .u64 0,.int .i64 0]) 4 40 Tryz.underlying59 hi hz0 hz1 hz2 rfl (by decide) _ _ _ rfl (hown4.alloc _) ⟨W3.heap.size,0,none⟩ 1 1 [.int .i64 t.kind,.string (txt t.text),.int .u64 (t.num:Int),.int .i64 (a:Int)] rfl rfl (z8Q _ _ _ _ _ _) (fun x hx=>by simp at hx;rcases hx with rfl|rfl|rfl|rfl<;>rfl) (by unfold maxLen;omega) (by omega) (by simp;omega) ?_;intro v' w5 hown5 hgr5 hnil5;have sz5:=hgr5.size;have bb5:Below H w w5:=Below.grown (bb3.alloc s3 _) hgr5 (by simp;omega) (fun j hj=>(hown4.lt _ hj).1);have X:Aside (w5.ownsRow H 117 4 v' (acc.length+1) (z8K acc++[.int .i64 t.kind,.string (txt t.text),.int .u64 (t.num:Int),.int .i64 (a:Int)])/\Below H w w5/\H<=w5.heap.size):=⟨hown5,bb5,by simp at sz5;omega⟩;clear hown5 bb5 hgr5 hnil5 sz5))
       go_roundw
       case rel=>
        obtain⟨hown5,bb5,s5⟩:=X.out;refine⟨a+k,acc++[(t,a)],by go_num,?_,bb5,s5,hks,by simp;omega,HS2⟩
        rw[z8L,List.length_append];exact hown5
       case measure=>simp[intOf];omega
   ·have hp':decide ((a:Int)<s.size)=false:=by simp;omega
    have hy:=HS.out.done hp;subst hy;clear HS HST;go_wp2;go_returns;exact⟨_,rfl,hown,hbw⟩
end Go.Proofs.YtdbekjiognpgnaaGreat
namespace Go.Proofs.YtdbekjiognpgnaaGreat
open Go.RowKit Go.Sort
theorem zd3{Q:PIn}{n M:Nat}{Y:Int × List Int × PS}{l:List Int}{t:PS}(h:StAt Q n .top Y M l t)(hi:t.i<=Q.T.length)(hf:t.fault<0)(hb:t.i<Q.T.length):
  ∃ m,m<=n/\Fit Q m .stmt t/\StAt Q n .top Y m (l++[(run Q m .stmt t).1]) (run Q m .stmt t).2.2/\z5M Q (run Q m .stmt t).2.2<z5M Q t:=by
 have h1:=h.need;simp only[z5Q,z5P]at h1;obtain⟨m,rfl⟩:∃ m,M=m+1:=⟨M-1,by omega⟩
 have l1:=z5x Q m .stmt t (by intro p e;cases e)
 have o1:=z5L Q m .stmt t (by intro p e;cases e)
 have r1:=z5O l1 o1 (yf9 _) hi hf;have w1:=(z6F Q m .stmt t (by intro p e;cases e) hi).all
 have h2:=h.wt;have h3:=h.le;have h4:=h.len;simp only[z6E]at w1;have e:run Q (m+1) (.top l) t=run Q m (.top (l++[(run Q m .stmt t).1])) (run Q m .stmt t).2.2:=by rw[run,if_pos ⟨hf,hb⟩]
 refine⟨m,by omega,⟨by simp only[z5Q,z5P];omega,h.depth,.inl ⟨hf,h2⟩⟩,⟨by omega,by simp only[z5Q,z5P];omega,by omega,by rw[z5y];exact h.depth,by simp;omega,by rw[←e];exact h.run⟩,by omega⟩
theorem zd4{Q:PIn}{n M:Nat}{Y:Int × List Int × PS}{l:List Int}{t:PS}(h:StAt Q n .top Y M l t)(hb:¬ (t.fault<0/\t.i<Q.T.length)):Y=(0,l,t):=by
 have h1:=h.need;simp only[z5Q,z5P]at h1;obtain⟨m,rfl⟩:∃ m,M=m+1:=⟨M-1,by omega⟩
 have:=h.run;rw[run,if_neg hb]at this;exact this.symm
theorem z8G.low{w:World}{B B':Nat}{v:Value}{ns:List z4Q}(h:z8G w B v ns)(hB:B'<=B):z8G w B' v ns:=by
 obtain⟨xs,h1,h2⟩:=h;refine⟨xs,z8O h1 hB,fun q p hq=>?_⟩;obtain⟨lv,nv,k1,k2,k3⟩:=h2 q p hq;exact⟨lv,nv,k1,z8O k2 hB,z8O k3 hB⟩
theorem zd5(w:World)(B:Nat)(h:B<=w.heap.size):z8G (w.alloc (.cells #[] 34)) B (.slice (some ⟨w.heap.size,0,none⟩) 0 0) []:=
 ⟨[],z8O (z9s w 34) h,fun q p hq=>by simp at hq⟩
theorem zd6{Q:PIn}{W1:World}{B:Nat}{tk:Value}(hfew:Q.T.length<=200)(hr:W1.ownsRow B 117 4 tk Q.T.length (z8K Q.T)):
  z8V Q W1.heap.size (W1.heap.size+1) (fun _=>False) tk (.slice none 0 0) ⟨0,[],0,-1⟩ (W1.alloc (.cells #[tk,.int .i64 0,.int .i64 (Q.e:Int),.slice none 0 0,.int .i64 0,.int .i64 (-1)] 64)):=by
 have hb:=(yg9 W1.heap.size W1).alloc (yf9 _) (.cells #[tk,.int .i64 0,.int .i64 (Q.e:Int),.slice none 0 0,.int .i64 0,.int .i64 (-1)] 64);obtain⟨x,cap,e,_,_,hc⟩:=z8H hr;refine⟨heap_alloc_new W1 _,⟨x,cap,e,fun h0=>?_⟩,⟨[],World.ownsRow_nil _ _ _ _,fun q p hq=>by simp at hq⟩,fun g hg=>hg.elim,Nat.lt_succ_self _,by simp,hfew,yj9 _,yj9 _⟩
 obtain⟨g,e1,e2,e3⟩:=hc h0;refine⟨g,e1,by omega,by omega,fun i t ht=>?_⟩
 obtain⟨hi,ht'⟩:=List.getElem?_eq_some_iff.1 ht;have k:∀ j u,j<4->(tokC t)[j]?=some u->W1.cell? ⟨g,i*4+j,none⟩=some u:=fun j u hj hu=>e3 _ _ (by rw[z8M Q.T i hi j hj,ht'];exact hu)
 exact(z8S.mk (k 0 _ (by omega) rfl) (k 1 _ (by omega) rfl) (k 2 _ (by omega) rfl) (k 3 _ (by omega) rfl)).kept (hb.block g e2)
theorem zd7{B H c:Nat}{w W1 U wr:World}(h:Below B w W1)(hb:Below W1.heap.size W1 U)(k:z90 H c U wr)(hB:B<=W1.heap.size)(hH:W1.heap.size<=H)(hc:c=W1.heap.size):Below B w wr:=by
 have h1:=hb.size;have h2:=h.size;have h3:=k.size;refine⟨k.os.trans (hb.os.trans h.os),k.tape.trans (hb.tape.trans h.tape),k.output.trans (hb.output.trans h.output),by omega,fun j hj=>?_⟩
 exact(k.low j (by omega) (by omega)).trans ((hb.block j (by omega)).trans (h.block j hj))
theorem zd8(s:ByteArray)(w:World):
  Calls Tryz.prog 12 #[.string s] w fun e w'=>∃ v,e=.returned (.tuple #[v,.int .i64 (z7z s.data.toList).2])/\z8G w' w.heap.size v (z7z s.data.toList).1/\Below w.heap.size w w':=by
 have cS:=zd2 s w;by_cases hF:0<=(z7b tokN s.data.toList).2
 ·have e:z7z s.data.toList=([],(z7b tokN s.data.toList).2):=by unfold z7z;rw[if_pos hF]
  rw[e];obtain⟨F,hFF⟩:∃ F,(z7b tokN s.data.toList).2=F:=⟨_,rfl⟩;rw[hFF]at cS hF ⊢;clear e hFF;go_enter Tryz.func12,Tryz.ntmps12;go_wp2_with fail;refine cS.mono ?_;rintro e w1 ⟨v1,rfl,r1,b1⟩;obtain⟨xa,xc,rfl⟩:=z8A r1;have HE:Hid (z8G (w1.alloc (.cells #[] 34)) w.heap.size (.slice (some ⟨w1.heap.size,0,none⟩) 0 0) []/\Below w.heap.size w (w1.alloc (.cells #[] 34))):=⟨zd5 w1 _ b1.size,b1.alloc b1.size _⟩;clear cS r1 b1;go_wp2;go_returns;exact⟨_,rfl,HE.out.1,HE.out.2⟩
 ·have e:z7z s.data.toList=z54 (z7y s.data.toList):=by unfold z7z;rw[if_neg hF]
  rw[e];have hT:(z7b tokN s.data.toList).1=(z7y s.data.toList).T:=rfl;have hQe:(z7y s.data.toList).e=s.size:=z1x s;have hfew:(z7y s.data.toList).T.length<=200:=(z7x s.data.toList).1;rw[hT]at cS;obtain⟨Q,hQ⟩:∃ Q,z7y s.data.toList=Q:=⟨_,rfl⟩;rw[hQ]at cS hQe hfew ⊢;obtain⟨F,hFF⟩:∃ F,(z7b tokN s.data.toList).2=F:=⟨_,rfl⟩;rw[hFF]at cS hF;have hF':decide (F≥0)=false:=ya9 (by omega)
  have hF2:decide (0<=F)=false:=ya9 (by omega)
  obtain⟨N,hN⟩:∃ N,30*(Q.T.length+2)=N:=⟨_,rfl⟩;have HY0:Hid (StAt Q N .top (run Q N (.top []) ⟨0,[],0,-1⟩) N [] ⟨0,[],0,-1⟩):=⟨yf9 _,by simp only[z5Q,z5P,z5M];rw[if_pos (by decide)];omega,by simp only[wt,z5M];rw[if_pos (by decide)];simp;omega,by show 0<=24;omega,by simp only[z5M];rw[if_pos (by decide)];simp;omega,rfl⟩
  have HLO:Hid (LO (run Q N (.top []) ⟨0,[],0,-1⟩).2.2/\(run Q N (.top []) ⟨0,[],0,-1⟩).2.1.length<=10000):=by
   have k:=z6J Q N (.top []) ⟨0,[],0,-1⟩ (by simp only[lenC,List.length_nil];omega) (fun p hp=>by cases hp)
   exact⟨k.1,yi9 k.2 (by simp only[lenC,List.length_nil];omega)⟩
  have eP:z54 Q=if 0<=(run Q N (.top []) ⟨0,[],0,-1⟩).2.2.fault then ([],(run Q N (.top []) ⟨0,[],0,-1⟩).2.2.fault)else ((run Q N (.top []) ⟨0,[],0,-1⟩).2.2.tree++[⟨29,0,0,0,(run Q N (.top []) ⟨0,[],0,-1⟩).2.1,[],0,0⟩],-1):=by rw[←hN];rfl
  obtain⟨Y,hY⟩:∃ Y,run Q N (.top []) ⟨0,[],0,-1⟩=Y:=⟨_,rfl⟩;rw[hY]at HY0 eP HLO;obtain⟨PR,hPR⟩:∃ P,z54 Q=P:=⟨_,rfl⟩;rw[hPR]at eP ⊢;have HP:Hid (PR=if 0<=Y.2.2.fault then ([],Y.2.2.fault)else (Y.2.2.tree++[⟨29,0,0,0,Y.2.1,[],0,0⟩],-1)):=eP
  obtain⟨i0,hi0,hz0,hz1,hz2⟩:=z8y Tryz.infoInt;have HA:=zcY;have hQi:(Q.e:Int)=(s.size:Int):=by omega
  clear e hT hQ hFF hF eP hPR hY;go_enter Tryz.func12,Tryz.ntmps12;go_wp2_with fail;refine cS.mono ?_;rintro e w1 ⟨v1,rfl,r1,b1⟩;obtain⟨xa,xc,rfl⟩:=z8A r1;have p0:=zd6 (Q:=Q) hfew r1;rw[hQi]at p0;have hbU:=(yg9 w1.heap.size w1).alloc (yf9 _) (.cells #[.slice xa Q.T.length xc,.int .i64 0,.int .i64 (s.size:Int),.slice none 0 0,.int .i64 0,.int .i64 (-1)] 64);have hUs:(w1.alloc (.cells #[.slice xa Q.T.length xc,.int .i64 0,.int .i64 (s.size:Int),.slice none 0 0,.int .i64 0,.int .i64 (-1)] 64)).heap.size=w1.heap.size+1:=by simp
  obtain⟨U,hU⟩:∃ W,w1.alloc (.cells #[.slice xa Q.T.length xc,.int .i64 0,.int .i64 (s.size:Int),.slice none 0 0,.int .i64 0,.int .i64 (-1)] 64)=W:=⟨_,rfl⟩;rw[hU]at p0 hbU hUs;obtain⟨k1,k2⟩:=p0.begin 3;have o1:=z9p U 3;have s1:=b1.size;have HB:Hid (Below w.heap.size w w1/\Below w1.heap.size w1 U/\w.heap.size<=w1.heap.size):=⟨b1,hbU,s1⟩;clear cS r1 b1 p0 hbU s1;go_upto_region 6 with fail;try simp only[hU]
  clear hU hF' hF2;obtain⟨C,hC⟩:∃ C,w1.heap.size=C:=⟨_,rfl⟩;have HC:Hid (w1.heap.size=C):=hC;simp only[hC]at k1 k2 hUs ⊢;clear hC;rw[hUs]at k1 o1;have HUS:Hid (U.heap.size=C+1):=hUs;have hcB:C<U.heap.size:=by omega
  have hHU:C+1<=U.heap.size:=by omega
  clear hUs;go_loopw [7] (fun v wr=>∃(t:PS) (l:List Int) (M:Nat) (tvv:Value),wr.ownsRow U.heap.size 3 1 v l.length (l.map (Value.int .i64))/\z8V Q C (C+1) (Av (fun _=>False) v) (.slice xa Q.T.length xc) tvv t wr/\z90 (C+1) C U wr/\Hid (StAt Q N .top Y M l t)) (fun _ wr=>parL Q C wr)
  case atStart=>exact⟨_,[],N,_,by rw[HUS.out];exact o1,k1,k2,HY0⟩
  case round=>
   clear o1 k1 k2 HY0;obtain⟨t,l,M,tvv,r0,p0,P0,HM⟩:=hrel;obtain⟨la,lc,rfl⟩:=z8A r0;obtain⟨nl,hnl⟩:∃ n,l.length=n:=⟨_,rfl⟩;have HLn:Hid (l.length=nl):=hnl;rw[hnl]at r0 p0;simp only[hnl];clear hnl;have HPP:Hid (z8V Q C (C+1) (Av (fun _=>False) (.slice la nl lc)) (.slice xa Q.T.length xc) tvv t wr):=p0;obtain⟨_,d1,d3,_,d5,_⟩:=p0.cells;obtain⟨f,hf⟩:∃ f,t.fault=f:=⟨_,rfl⟩;obtain⟨j,hj⟩:∃ j,t.i=j:=⟨_,rfl⟩;obtain⟨K,hK⟩:∃ K,Q.T.length=K:=⟨_,rfl⟩;rw[hf]at d5;rw[hj]at d1;have HKK:Hid (Q.T.length=K):=hK;by_cases hgo:t.fault<0/\t.i<Q.T.length
   ·obtain⟨m,hm,FSt,HNN,hlt⟩:=zd3 HM.out p0.i hgo.1 hgo.2;have hf0:f<0:=by rw[←hf];exact hgo.1
    have hjK:(j:Int)<(K:Int):=by have:=hgo.2;omega
    have cS:=(HA m).stmt p0 FSt;have hnl:nl<=201:=by have:=HM.out.len;have:=HLn.out;omega
    obtain⟨R,hR⟩:∃ R,run Q m .stmt t=R:=⟨_,rfl⟩;rw[hR]at cS HNN hlt;have HN2:Hid (StAt Q N .top Y m (l++[R.1]) R.2.2/\z5M Q R.2.2<z5M Q t):=⟨HNN,hlt⟩;simp only[hK]at cS ⊢;clear hgo FSt HNN hlt hf HM hR p0 HA hj hK;go_wp2_with fail;refine cS.mono ?_;rintro e w4 ⟨tv4,rfl,p4,q4⟩;have r4:=z91 r0 q4 (by decide) (z9n r0 hcB)
    have Q4:=P0.trans q4;have HEND:Hid (z8V Q C (C+1) (Av (fun _=>False) (.slice la nl lc)) (.slice xa K xc) tv4 R.2.2 w4/\z90 (C+1) C U w4):=⟨p4,Q4⟩;have hwz:U.heap.size<=w4.heap.size:=Q4.size;clear cS r0 P0 q4 p4 Q4 d5 d1 d3;go_wp2_with (at_builtin;refine wpList_append_own_at _ rfl _ _ 29 rfl U.heap.size 3 i0 (.int .i64 0) 1 8 Tryz.underlying29 hi0 hz0 hz1 hz2 rfl (by decide) _ nl (l.map (Value.int .i64)) rfl (r4.alloc _) ⟨w4.heap.size,0,none⟩ 1 1 [.int .i64 R.1] rfl rfl (cell_one_new _ _ _) (fun u hu=>by simp at hu;subst hu;rfl) (by unfold maxLen;omega) (by omega) (by simp;omega) ?_;intro v' w5 ho5 hg5 _ hat5;have HAP:Aside (w5.ownsRow U.heap.size 3 1 v' (nl+1) (l.map (Value.int .i64)++[.int .i64 R.1])/\(w4.alloc (.cells #[.int .i64 R.1] 3)).grownBy w5 (Value.ownBlock (.slice la nl lc))/\(v'.ownBlock=Value.ownBlock (.slice la nl lc)\/v'.ownBlock=some (w4.alloc (.cells #[.int .i64 R.1] 3)).heap.size)):=⟨ho5,hg5,hat5⟩;clear ho5 hg5 hat5)
    go_roundw
    case rel=>
     obtain⟨ho5,hg5,hat5⟩:=HAP.out;obtain⟨k1,k2⟩:=z9o HEND.out.1 HEND.out.2 hHU r4 (by decide) hg5 hat5 ho5
     exact⟨R.2.2,l++[R.1],m,tv4,by rw[List.map_append,List.length_append,HLn.out];exact ho5,k1,k2,HN2.out.1⟩
    case measure=>
     obtain⟨ho5,hg5,hat5⟩:=HAP.out;obtain⟨k1,k2⟩:=z9o HEND.out.1 HEND.out.2 hHU r4 (by decide) hg5 hat5 ho5
     rw[zbM k1,zbM HPP.out];exact HN2.out.2
   ·have hY2:=zd4 HM.out hgo;subst hY2;have hwt:=HM.out.wt;have HBW:Hid (Below w.heap.size w wr):=zd7 HB.out.1 HB.out.2.1 P0 HB.out.2.2 (by have:=HC.out;omega) HC.out.symm
    by_cases hf0:f<0
    ·have hjK:decide ((j:Int)<(K:Int))=false:=ya9 (fun q=>hgo ⟨by rw[hf];exact hf0,by omega⟩)
     have hfge:decide (0<=f)=false:=ya9 (by omega)
     have hjK2:decide (j<K)=false:=ya9 (fun q=>hgo ⟨by rw[hf];exact hf0,by omega⟩)
     have eP:=HP.out;rw[if_neg (by show ¬ 0<=t.fault;rw[hf];omega)]at eP
     have HLL:Hid (t.tree.length<=9000):=by have:=hwt;unfold wt at this;show t.tree.length<=9000;omega
     have p0':z8V Q C (C+1) (fun _=>False) (.slice xa Q.T.length xc) tvv t wr:=p0.fewer fun g hg=>.inl hg;have cN:=zbG 29 0 0 0 0 l [] (.slice la nl lc) (.slice none 0 0) p0' (by rw[HLn.out];exact z8E r0 hHU) (World.ownsRow_nil wr _ _ _) (fun g hg ha=>ha) (fun g hg=>by simp[Value.ownBlock]at hg) (by have:=HLL.out;omega)
     have HLO2:Hid (LO (addP t ⟨29,0,0,0,l,[],0,0⟩)):=HLO.out.1.add HLO.out.2 (by simp)
     simp only[hK]at cN ⊢;have HPR:Hid (PR=(t.tree++[⟨29,0,0,0,l,[],0,0⟩],-1)):=eP;clear hgo hf HM HA hj hK p0 p0' r0 HLO HP eP;go_wp2_with fail;refine cN.mono ?_;rintro e w5 ⟨tv5,rfl,p5,q5⟩;have P5:=P0.trans q5;have HBW5:Hid (Below w.heap.size w w5):=zd7 HB.out.1 HB.out.2.1 P5 HB.out.2.2 (by have:=HC.out;omega) HC.out.symm
     obtain⟨_,_,g3,_,_,_⟩:=p5.cells;have hTI:=p5.tree.plain;obtain⟨ya,yc,rfl⟩:=z8A hTI.choose_spec.1;have cC:=z9A hTI (by show(t.tree++[_]).length<=10001;rw[List.length_append];have:=HLL.out;simp;omega) (fun q p hq=>HLO2.out p (List.mem_of_getElem? hq))
     clear cN p5 q5 P0 P5 d1 d3 d5 hTI;go_wp2_with fail;refine cC.mono ?_;rintro e w6 ⟨v6,rfl,t6,b6⟩;obtain⟨za,zc,rfl⟩:=z8A t6.choose_spec.1;have HE:Hid (z8G w6 w.heap.size (.slice za (addP t ⟨29,0,0,0,l,[],0,0⟩).tree.length zc) (t.tree++[⟨29,0,0,0,l,[],0,0⟩])/\Below w.heap.size w w6):=⟨t6.low HBW5.out.size,HBW5.out.trans (b6.mono HBW5.out.size)⟩;clear cC t6 b6 g3;go_wp2;go_returns;rw[HPR.out];exact⟨_,rfl,HE.out.1,HE.out.2⟩
    ·have hf0':decide (f<0)=false:=ya9 hf0;have hfge:decide (0<=f)=true:=yb9 (by omega)
     have eP:=HP.out;rw[if_pos (by show 0<=t.fault;rw[hf];omega)]at eP
     have HPR:Hid (PR=([],f)):=by rw[←hf];exact eP
     have HG:Hid (∀ W,Below wr.heap.size wr W->W.cell? ⟨C,5,none⟩=some (.int .i64 f)):=fun W b=>by
      obtain⟨_,_,_,_,g5,_⟩:=(p0.below b).cells;rw[hf]at g5;exact g5
     have hswr:=HBW.out.size;clear hgo HM HA hj hK p0 r0 HLO HP eP hf HPP P0;go_wp2;go_region_held3 (fun W=>W.cell? ⟨C,5,none⟩=some (.int .i64 f)) (first|exact HG.out _ (yg9 _ _).drew|exact HG.out _ ((yg9 _ _).alloc (yf9 _) _)|exact HG.out _ ((yg9 _ _).drew.alloc (yf9 _) _)|exact HG.out _ ((yg9 _ _).alloc (yf9 _) _).drew|go_keep) (fail)
     all_goals
      go_wp2;go_returns;rw[HPR.out];first
       | exact⟨_,rfl,(zd5 wr _ hswr).below (yg9 _ _).drew,(HBW.out.alloc hswr _).drew⟩
       | exact⟨_,rfl,zd5 wr _ hswr,HBW.out.alloc hswr _⟩
       | exact⟨_,rfl,zd5 wr.drew _ hswr,HBW.out.drew.alloc hswr _⟩
def zd9:List UInt8:=[108,101,116,32,97,32,61,32,49,59,32,102,117,110,32,102,40,120,41,32,123,32,97,32,61,32,97,32,43,32,120,59,32,114,101,116,117,114,110,32,97,59,32,125,32,112,114,105,110,116,32,102,40,50,41,32,43,32,102,40,51,41,59]
theorem zda:(z7z zd9).2=-1:=by kernel_rfl
theorem zdb{w:World}{B:Nat}{v:Value}{ns:List z4Q}(h:z8G w B v ns)(h1:1<=ns.length):∃ g tc,v=.slice (some ⟨g,0,none⟩) ns.length tc:=by
 obtain⟨x,c,e,_,ho⟩:=h.opened;obtain⟨g,e',_⟩:=ho (by omega)
 subst e';exact⟨g,c,e⟩
theorem zdc{ac:Option Addr}{len cap c:Nat}{w w':World}(h:Cur ac len cap w c)(hb:Below w.heap.size w w'):Cur ac len cap w' c:=by
 obtain⟨h1,h2,i,k,hi,hh⟩:=h;refine⟨z07 h1 ⟨hb.os,hb.tape,hb.output,hb.size,fun k hk _=>hb.block k hk⟩,Nat.lt_of_lt_of_le h2 hb.size,i,k,hi,(hb.block c h2).trans hh⟩
theorem zdd(ac:Option Addr)(len cap:Nat)(w:World)(hc:z06 w ac len w.heap.size):
  Calls Tryz.prog 5 #[.slice ac len cap] w fun e w'=>∃(g tc B:Nat) (ns:List z4Q),e=.returned (.slice (some ⟨g,0,none⟩) ns.length tc)/\z88 ns/\z8G w' B (.slice (some ⟨g,0,none⟩) ns.length tc) ns/\w.heap.size<=B/\Below w.heap.size w w':=by
 have ihS:z4y 3:=@(zbB 3 (by omega)).2.1
 have HS:Hid (z4y 3):=@ihS;clear ihS;go_enter Tryz.func5,Tryz.ntmps5;go_wp2_with fail;refine(z0g ac len cap w hc).mono ?_;rintro e w1 ⟨c,rfl,hg,hC,b1⟩;have H1:Hid (Cur ac len cap w1 c/\Below w.heap.size w w1/\w.heap.size<=c):=⟨hC,b1,hg⟩;clear hC b1 hg hc;go_upto_region 3 with fail;go_loopw [4] (fun i wr=>∃ q:Nat,i=.int .i64 (q:Int)/\q<=4/\Hid (Cur ac len cap wr c/\Below w.heap.size w wr)) (fun i _=>4-(intOf i).toNat)
 case atStart=>exact⟨0,rfl,yj9 _,H1.out.1,H1.out.2.1⟩
 case round=>
  obtain⟨q,rfl,hq,HR⟩:=hrel;by_cases hlt:q<4
  ·have hqi:(q:Int)<(4:Int):=by omega
   have cS:=zbz (@HS.out) HR.out.1;go_wp2_with fail;refine cS.mono ?_;rintro e w2 ⟨s,hs,rfl,gr,hC2⟩;have H2:Hid (Cur ac len cap w2 c/\Below w.heap.size w w2):=⟨hC2,HR.out.2.grown gr HR.out.2.size (fun k e=>by injection e with e;have:=H1.out.2.2;omega)⟩
   have cP:=zd8 s w2;obtain⟨f,hf⟩:∃ f,(z7z s.data.toList).2=f:=⟨_,rfl⟩;obtain⟨ns,hns⟩:∃ ns,(z7z s.data.toList).1=ns:=⟨_,rfl⟩;have HR9:Hid (f<0->z88 ns):=fun h=>by rw[←hns];exact z89 (by rw[hf];exact h)
   rw[hf,hns]at cP;clear hf hns gr hC2 hs cS;go_wp2_with fail;refine cP.mono ?_;rintro e w3 ⟨v,rfl,hT,b3⟩;have H3:Hid (z8G w3 w2.heap.size v ns/\Below w.heap.size w w3/\Cur ac len cap w3 c):=⟨hT,H2.out.2.trans (b3.mono H2.out.2.size),zdc H2.out.1 b3⟩;clear hT b3 cP;by_cases hf0:f<0
   ·have hfd:decide (f<0)=true:=yb9 hf0;have hR:=HR9.out hf0;obtain⟨g,tc,hv⟩:=zdb H3.out.1 hR.few.1;subst hv;obtain⟨n,hn⟩:∃ n,ns.length=n:=⟨_,rfl⟩;have cR:=zb9 (n:=n) (tc:=tc) (g:=g) (Bt:=w2.heap.size) (w:=w3) hR (by rw[←hn];exact H3.out.1) hn
    have HN:Hid (ns.length=n/\z88 ns):=⟨hn,hR⟩;rw[hn];clear hn hR hf0;go_wp2_with fail;refine cR.mono ?_;rintro e w4 ⟨v1,v2,x,y,rfl,b4⟩;have H4:Hid (z8G w4 w2.heap.size (.slice (some ⟨g,0,none⟩) ns.length tc) ns/\Below w.heap.size w w4/\Cur ac len cap w4 c):=⟨H3.out.1.below b4,H3.out.2.1.trans (b4.mono H3.out.2.1.size),zdc H3.out.2.2 b4⟩;have hw2:w.heap.size<=w2.heap.size:=H2.out.2.size;clear b4 cR;by_cases hx:x=0
    ·subst hx;go_wp2_with fail;go_returns;exact⟨g,tc,w2.heap.size,ns,by rw[HN.out.1];rfl,HN.out.2,H4.out.1,hw2,H4.out.2.1⟩
    ·have hxb:(x==0)=false:=by rw[yc9];exact hx
     go_wp2_with fail;go_roundw
     case rel=>exact⟨q+1,by go_num,by omega,H4.out.2.2,H4.out.2.1⟩
     case measure=>simp[intOf];omega
   ·have hfd:decide (f<0)=false:=ya9 hf0;go_wp2_with fail;go_roundw
    case rel=>exact⟨q+1,by go_num,by omega,H3.out.2.2,H3.out.2.1⟩
    case measure=>simp[intOf];omega
  ·have hge:decide ((q:Int)<(4:Int))=false:=ya9 (by omega)
   have hge':decide (q<4)=false:=ya9 (by omega)
   have cP:=zd8 ⟨zd9.toArray⟩ wr;obtain⟨ns,hns⟩:∃ ns,(z7z zd9).1=ns:=⟨_,rfl⟩;have hR:z88 ns:=by rw[←hns];exact z89 (by rw[zda];decide)
   have e1:(⟨zd9.toArray⟩:ByteArray).data.toList=zd9:=rfl;rw[e1,zda,hns]at cP;unfold zd9 at cP;have e4:q=4:=by omega
   subst e4;have HN:Hid (z88 ns):=hR;clear hns hR e1;go_wp2_with fail;refine cP.mono ?_;rintro e w3 ⟨v,rfl,hT,b3⟩;obtain⟨g,tc,hv⟩:=zdb hT HN.out.few.1;subst hv;have H3:Hid (z8G w3 wr.heap.size (.slice (some ⟨g,0,none⟩) ns.length tc) ns/\Below w.heap.size w w3/\w.heap.size<=wr.heap.size):=⟨hT,HR.out.2.trans (b3.mono HR.out.2.size),HR.out.2.size⟩;clear hT b3 cP;go_wp2_with fail;go_returns;exact⟨g,tc,wr.heap.size,ns,rfl,HN.out,H3.out.1,H3.out.2.2,H3.out.2.1⟩
end Go.Proofs.YtdbekjiognpgnaaGreat
namespace Go.Proofs.YtdbekjiognpgnaaGreat
open Go.RowKit
def zde(w:World)(b:Nat)(v:Value)(ps:List Nat):Prop:=
 ps.length=12/\(∀ j,ps.getD j 0<10000)/\∃ g cap,v=.slice (some ⟨g,0,none⟩) 12 cap/\b<=g/\g<w.heap.size/\∀ j,j<12->w.cell? ⟨g,j,none⟩=some (.int .i64 (ps.getD j 0:Nat))
theorem zdf{ps:List Nat}{x n:Nat}(h:∀ j,ps.getD j 0<n)(hx:x<n):∀ j,(ps++[x]).getD j 0<n:=by
 intro j;rw[List.getD_eq_getElem?_getD];by_cases h1:j<ps.length
 ·rw[List.getElem?_append_left h1,←List.getD_eq_getElem?_getD];exact h j
 ·rw[List.getElem?_append_right (by omega)]
  by_cases h2:j-ps.length=0
  ·rw[h2];exact hx
  ·rw[List.getElem?_eq_none (by simp;omega)]
   show 0<n;omega
theorem zdg{w:World}{b:Nat}{v:Value}{ps:List Nat}(hl:ps.length=12)(hp:∀ j,ps.getD j 0<10000)(h:w.ownsRow b 3 1 v 12 (ps.map fun p=>Value.int .i64 (p:Nat))):zde w b v ps:=by
 have hcs:=fun g hg=>h.cells (g:=g) hg;obtain⟨hlen,⟨rfl,h0⟩|⟨g,cap,cur,rfl,hb,hg,hnc,hc,hsz,htk⟩⟩:=h
 ·omega
 ·refine⟨hl,hp,g,cap,rfl,hb,?_,fun j hj=>?_⟩
  ·by_cases hlt:g<w.heap.size
   ·exact hlt
   ·rw[Array.getElem?_eq_none (by omega)]at hg
    cases hg
  ·have h:=hcs g rfl j (.int .i64 (ps.getD j 0:Nat)) (by simp[yd9 (show j<ps.length by omega)])
   have hq:(⟨g,0,none⟩:Addr).add j=⟨g,0+j,none⟩:=by unfold Addr.add;split<;>simp_all
   rw[hq,Nat.zero_add]at h;exact h
theorem zdh(ac:Option Addr)(len cap:Nat)(w:World)(hc:z06 w ac len w.heap.size):
  Calls Tryz.prog 9 #[.slice ac len cap] w fun e w'=>∃(v:Value) (ps:List Nat),e=.returned v/\zde w' w.heap.size v ps/\Below w.heap.size w w':=by
 obtain⟨i0,hi,hz0,hz1,hz2⟩:=info_parts Tryz.infoInt;go_enter Tryz.func9,Tryz.ntmps9;go_wp2_with fail;refine(z0g ac len cap _ hc).mono ?_;rintro e wa ⟨g,rfl,hg,hCa,hba⟩;go_wp2_with fail;refine(z0b ac len cap g _ hCa).mono ?_;rintro e wb ⟨y,hy,rfl,hCb,grb⟩;have hbb:Below w.heap.size w wb:=hba.grown grb hba.size (fun k hk=>by injection hk with hk;omega)
 have hgb:=hCb.2.1;clear hba grb hCa;go_wp2_with fail;go_loopw [4,5] (fun v x wr=>∃(k:Nat) (xs:List Nat),k<=12/\x=.int .i64 k/\xs.length=k/\(∀ j,xs.getD j 0<10000)/\wr.ownsRow wb.heap.size 3 1 v k (xs.map fun p=>Value.int .i64 (p:Nat))/\Cur ac len cap wr g/\wb.grownBy wr (some g)) (fun _ x _=>12-(intOf x).toNat)
 case atStart=>exact⟨0,[],yj9 _,rfl,rfl,by simp,World.ownsRow_made wb #[] 0 (yf9 _) (yj9 _) rfl,z0h hCb _,World.grownBy_alloc _ _ _⟩
 case round=>
  obtain⟨k,xs,hk,rfl,hxs,hlow,hown,hCr,gr⟩:=hrel;have hsz:=gr.size;have HL:Hid (Unit->∀ j,xs.getD j 0<10000):=fun _=>hlow;clear hlow;by_cases hlt:k<12
  ·go_wp2_with fail;refine(z0d ac len cap g 10000 wr hCr (by omega) (by omega)).mono ?_
   rintro e w1 ⟨x,hx,rfl,hC1,gr1⟩;have hown1:w1.ownsRow wb.heap.size 3 1 _ k (xs.map fun p=>Value.int .i64 (p:Nat)):=hown.kept gr1 (by
    cases hv:Value.ownBlock _ with
    | none=>exact .inl rfl
    | some q=>exact .inr (by have:=(hown.lt q hv).1;simp;omega))
   have hsz1:=gr1.size;go_wp2_with (at_builtin;refine z03 (w0:=w1) rfl _ _ 29 rfl wb.heap.size 3 i0 (.int .i64 0) 8 Tryz.underlying29 hi hz0 hz1 hz2 rfl _ _ _ rfl hown1 (.int .i64 (x:Int)) rfl rfl (by omega) (by decide) (yg9 _ _) (by omega) ?_)
   intro v' w2 hown' hbel';have hC2:=z0j hCb hC1 hbel';have gr2:=z0i (gr.trans gr1) hbel';have hrow:w2.ownsRow wb.heap.size 3 1 v' (k+1) ((xs++[x]).map fun p=>Value.int .i64 (p:Nat)):=by simpa using hown'
   clear hown' hown hown1 gr gr1 hCr;go_wp2;go_roundw
   case rel=>exact⟨k+1,xs++[x],by omega,by go_num,by simp[hxs],zdf (HL.out ()) hx,hrow,hC2,gr2⟩
   case measure=>simp[intOf];omega
  ·obtain rfl:k=12:=by omega
   have hpl:=zdg hxs (HL.out ()) hown;have hbs:=hbb.size;go_wp2;go_ret;obtain⟨h1,h2,gp,cp,h3,h4,h5⟩:=hpl;exact⟨_,xs,rfl,⟨h1,h2,gp,cp,h3,by omega,h5⟩,hbb.grown gr hbb.size (fun k hk=>by injection hk with hk;omega)⟩
