/-
  Part 49 of the proof on drawn right trees.
-/
import Derived.Test.YtggjeepbgpfcpaaGreatPbu
import Derived.Test.YtggjeepbgpfcpaaGreatPbv
import Derived.Test.YtggjeepbgpfcpaaGreatPan
import Derived.Test.YtggjeepbgpfcpaaGreatPaq
import Derived.Maps.AppendAt
import Derived.Test.YtggjeepbgpfcpaaGreatPaa
set_option maxHeartbeats 16000000
set_option maxRecDepth 100000
set_option linter.unusedVariables false
namespace Go.Proofs.YtggjeepbgpfcpaaGreat
open Go.RowKit Go.Sort
theorem zfg{W:World}(B:Nat)(e:TypeId)(size:Nat):W.ownsRow B e size (.slice none 0 0) 0 []:=⟨by simp,.inl ⟨rfl,rfl⟩⟩
theorem zfh{W:World}{B B1 B2:Nat}{x p:z5i}{l1 n1 lv nv:Value}(h1:W.ownsRow B1 3 1 l1 x.list.length (x.list.map (Value.int .i64)))(h2:W.ownsRow B2 9 1 n1 x.names.length (x.names.map Value.string))(hl:W.ownsRow B 3 1 lv p.list.length (p.list.map (Value.int .i64)))(hn:W.ownsRow B 9 1 nv p.names.length (p.names.map Value.string))(hs:zdu x p):
  Calls Tryz.prog 18 #[.agg #[.int .i64 x.kind,.int .i64 x.a,.int .i64 x.b,.int .i64 x.c,l1,n1,.int .u64 (x.num:Int),.int .i64 x.pos],.agg #[.int .i64 p.kind,.int .i64 p.a,.int .i64 p.b,.int .i64 p.c,lv,nv,.int .u64 (p.num:Int),.int .i64 p.pos]] W fun e w'=>e=.returned (.bool true)/\Below W.heap.size W w':=by
 refine(zdD 0 0 x p l1 n1 lv nv W (z95 h1 (yj9 _)) (z95 h2 (yj9 _)) (z95 hl (yj9 _)) (z95 hn (yj9 _))).mono ?_;rintro e w' ⟨r,rfl,hr,hb⟩;have e1:r=true:=hr.2 hs;rw[e1];exact⟨rfl,hb⟩
theorem zfi{w:World}{B:Nat}{lv nv:Value}(pos:Int)(u:Nat)(hl:w.ownsRow B 3 1 lv 0 [])(hn:w.ownsRow B 9 1 nv 0 [])(hp0:0<=pos)(hp1:pos<=600)(hu:u<9218868437227405312):
  Calls Tryz.prog 15 #[.agg #[.int .i64 1,.int .i64 0,.int .i64 0,.int .i64 0,lv,nv,.int .u64 (u:Int),.int .i64 pos]] w fun e w'=>e=.returned (.bool true)/\Below w.heap.size w w':=by
 obtain⟨la,lc,rfl⟩:=z91 hl;obtain⟨na,nc,rfl⟩:=z91 hn;refine zgP 1 0 0 0 (u:Int) pos (zgz (u:Int)) (fun W hW=>zeC 0 0 0 (u:Int) pos) (fun W hW=>?_) (fun W hW=>zem 1 0 0 0 (u:Int) ⟨#[]⟩ (la:=none) (m:=0) (lc:=0) (na:=none) (q:=0) (nc:=0) (by omega)) hp0 hp1
 refine(zf0 (w:=W) 1 0 0 0 (u:Int) ⟨#[]⟩ (la:=none) (m:=0) (lc:=0) (na:=none) (q:=0) (nc:=0)).mono ?_;rintro e w1 ⟨rfl,b1⟩;exact⟨_,rfl,fun W2 h2=>zfh (x:=⟨1,0,0,0,[],[],u,0⟩) (p:=⟨1,0,0,0,[],[],u,pos⟩) (zfg 0 _ _) (zfg 0 _ _) (z92 hl ((hW.trans (b1.mono hW.size)).trans (h2.mono (yi9 hW.size b1.size)))) (z92 hn ((hW.trans (b1.mono hW.size)).trans (h2.mono (yi9 hW.size b1.size)))) ⟨rfl,rfl,rfl,rfl,rfl,rfl,rfl⟩,b1⟩
theorem zfj{w:World}{B:Nat}{lv nv:Value}(pos:Int)(t:ByteArray)(hl:w.ownsRow B 3 1 lv 0 [])(hn:w.ownsRow B 9 1 nv 1 [.string t])(hp0:0<=pos)(hp1:pos<=600)(ht:z6k t.data.toList)(h40:t.size<=40):
  Calls Tryz.prog 15 #[.agg #[.int .i64 2,.int .i64 0,.int .i64 0,.int .i64 0,lv,nv,.int .u64 0,.int .i64 pos]] w fun e w'=>e=.returned (.bool true)/\Below w.heap.size w w':=by
 obtain⟨la,lc,rfl⟩:=z91 hl;obtain⟨na,nc,rfl⟩:=z91 hn;obtain⟨gl,rfl,hc⟩:=zec hn (show[Value.string t][0]?=some (.string t)from rfl);refine zgP 2 0 0 0 0 pos (zgA t) (fun W hW=>zeD 0 0 0 0 pos ((hW.cell (p:=⟨gl,0,none⟩) (World.block_lt_of_cell? w _ hc)).trans hc)) (fun W hW=>?_) (fun W hW=>zen 2 0 0 0 0 t (la:=none) (m:=0) (lc:=0) (na:=none) (q:=0) (nc:=0) ht h40) hp0 hp1;refine(zf1 (w:=W) 2 0 0 0 0 t (la:=none) (m:=0) (lc:=0) (na:=none) (q:=0) (nc:=0)).mono ?_;rintro e w1 ⟨g1,rfl,ho1,b1⟩;exact⟨_,rfl,fun W2 h2=>zfh (x:=⟨2,0,0,0,[],[t],0,0⟩) (p:=⟨2,0,0,0,[],[t],0,pos⟩) (zfg 0 _ _) (z92 ho1 h2) (z92 hl ((hW.trans (b1.mono hW.size)).trans (h2.mono (yi9 hW.size b1.size)))) (z92 hn ((hW.trans (b1.mono hW.size)).trans (h2.mono (yi9 hW.size b1.size)))) ⟨rfl,rfl,rfl,rfl,rfl,rfl,rfl⟩,b1⟩
theorem zfk{w:World}{B:Nat}{lv nv:Value}(pos:Int)(hl:w.ownsRow B 3 1 lv 0 [])(hn:w.ownsRow B 9 1 nv 0 [])(hp0:0<=pos)(hp1:pos<=600):
  Calls Tryz.prog 15 #[.agg #[.int .i64 3,.int .i64 0,.int .i64 0,.int .i64 0,lv,nv,.int .u64 0,.int .i64 pos]] w fun e w'=>e=.returned (.bool true)/\Below w.heap.size w w':=by
 obtain⟨la,lc,rfl⟩:=z91 hl;obtain⟨na,nc,rfl⟩:=z91 hn;refine zgP 3 0 0 0 0 pos (zgB 3) (fun W hW=>zeE 0 0 0 0 pos) (fun W hW=>?_) (fun W hW=>zeo 3 0 0 0 0 ⟨#[]⟩ (la:=none) (m:=0) (lc:=0) (na:=none) (q:=0) (nc:=0)) hp0 hp1;refine(zf2 (w:=W) 3 0 0 0 0 ⟨#[]⟩ (la:=none) (m:=0) (lc:=0) (na:=none) (q:=0) (nc:=0)).mono ?_;rintro e w1 ⟨rfl,b1⟩;exact⟨_,rfl,fun W2 h2=>zfh (x:=⟨3,0,0,0,[],[],0,0⟩) (p:=⟨3,0,0,0,[],[],0,pos⟩) (zfg 0 _ _) (zfg 0 _ _) (z92 hl ((hW.trans (b1.mono hW.size)).trans (h2.mono (yi9 hW.size b1.size)))) (z92 hn ((hW.trans (b1.mono hW.size)).trans (h2.mono (yi9 hW.size b1.size)))) ⟨rfl,rfl,rfl,rfl,rfl,rfl,rfl⟩,b1⟩
theorem zfl{w:World}{B:Nat}{lv nv:Value}(pos:Int)(hl:w.ownsRow B 3 1 lv 0 [])(hn:w.ownsRow B 9 1 nv 0 [])(hp0:0<=pos)(hp1:pos<=600):
  Calls Tryz.prog 15 #[.agg #[.int .i64 4,.int .i64 0,.int .i64 0,.int .i64 0,lv,nv,.int .u64 0,.int .i64 pos]] w fun e w'=>e=.returned (.bool true)/\Below w.heap.size w w':=by
 obtain⟨la,lc,rfl⟩:=z91 hl;obtain⟨na,nc,rfl⟩:=z91 hn;refine zgP 4 0 0 0 0 pos (zgB 4) (fun W hW=>zeF 0 0 0 0 pos) (fun W hW=>?_) (fun W hW=>zeo 4 0 0 0 0 ⟨#[]⟩ (la:=none) (m:=0) (lc:=0) (na:=none) (q:=0) (nc:=0)) hp0 hp1;refine(zf2 (w:=W) 4 0 0 0 0 ⟨#[]⟩ (la:=none) (m:=0) (lc:=0) (na:=none) (q:=0) (nc:=0)).mono ?_;rintro e w1 ⟨rfl,b1⟩;exact⟨_,rfl,fun W2 h2=>zfh (x:=⟨4,0,0,0,[],[],0,0⟩) (p:=⟨4,0,0,0,[],[],0,pos⟩) (zfg 0 _ _) (zfg 0 _ _) (z92 hl ((hW.trans (b1.mono hW.size)).trans (h2.mono (yi9 hW.size b1.size)))) (z92 hn ((hW.trans (b1.mono hW.size)).trans (h2.mono (yi9 hW.size b1.size)))) ⟨rfl,rfl,rfl,rfl,rfl,rfl,rfl⟩,b1⟩
theorem zfm{w:World}{B:Nat}{lv nv:Value}(pos:Int)(hl:w.ownsRow B 3 1 lv 0 [])(hn:w.ownsRow B 9 1 nv 0 [])(hp0:0<=pos)(hp1:pos<=600):
  Calls Tryz.prog 15 #[.agg #[.int .i64 5,.int .i64 0,.int .i64 0,.int .i64 0,lv,nv,.int .u64 0,.int .i64 pos]] w fun e w'=>e=.returned (.bool true)/\Below w.heap.size w w':=by
 obtain⟨la,lc,rfl⟩:=z91 hl;obtain⟨na,nc,rfl⟩:=z91 hn;refine zgP 5 0 0 0 0 pos (zgB 5) (fun W hW=>zeG 0 0 0 0 pos) (fun W hW=>?_) (fun W hW=>zeo 5 0 0 0 0 ⟨#[]⟩ (la:=none) (m:=0) (lc:=0) (na:=none) (q:=0) (nc:=0)) hp0 hp1;refine(zf2 (w:=W) 5 0 0 0 0 ⟨#[]⟩ (la:=none) (m:=0) (lc:=0) (na:=none) (q:=0) (nc:=0)).mono ?_;rintro e w1 ⟨rfl,b1⟩;exact⟨_,rfl,fun W2 h2=>zfh (x:=⟨5,0,0,0,[],[],0,0⟩) (p:=⟨5,0,0,0,[],[],0,pos⟩) (zfg 0 _ _) (zfg 0 _ _) (z92 hl ((hW.trans (b1.mono hW.size)).trans (h2.mono (yi9 hW.size b1.size)))) (z92 hn ((hW.trans (b1.mono hW.size)).trans (h2.mono (yi9 hW.size b1.size)))) ⟨rfl,rfl,rfl,rfl,rfl,rfl,rfl⟩,b1⟩
theorem zfn{w:World}{B:Nat}{lv nv:Value}(pos:Int)(t:ByteArray)(hl:w.ownsRow B 3 1 lv 0 [])(hn:w.ownsRow B 9 1 nv 1 [.string t])(hp0:0<=pos)(hp1:pos<=600)(ht:z6j t):
  Calls Tryz.prog 15 #[.agg #[.int .i64 6,.int .i64 0,.int .i64 0,.int .i64 0,lv,nv,.int .u64 0,.int .i64 pos]] w fun e w'=>e=.returned (.bool true)/\Below w.heap.size w w':=by
 obtain⟨la,lc,rfl⟩:=z91 hl;obtain⟨na,nc,rfl⟩:=z91 hn;obtain⟨gl,rfl,hc⟩:=zec hn (show[Value.string t][0]?=some (.string t)from rfl);refine zgP 6 0 0 0 0 pos (zgC t) (fun W hW=>zeH 0 0 0 0 pos ((hW.cell (p:=⟨gl,0,none⟩) (World.block_lt_of_cell? w _ hc)).trans hc)) (fun W hW=>?_) (fun W hW=>zep 6 0 0 0 0 t (la:=none) (m:=0) (lc:=0) (na:=none) (q:=0) (nc:=0) ht) hp0 hp1;refine(zf3 (w:=W) 6 0 0 0 0 t (la:=none) (m:=0) (lc:=0) (na:=none) (q:=0) (nc:=0)).mono ?_;rintro e w1 ⟨g1,rfl,ho1,b1⟩;exact⟨_,rfl,fun W2 h2=>zfh (x:=⟨6,0,0,0,[],[t],0,0⟩) (p:=⟨6,0,0,0,[],[t],0,pos⟩) (zfg 0 _ _) (z92 ho1 h2) (z92 hl ((hW.trans (b1.mono hW.size)).trans (h2.mono (yi9 hW.size b1.size)))) (z92 hn ((hW.trans (b1.mono hW.size)).trans (h2.mono (yi9 hW.size b1.size)))) ⟨rfl,rfl,rfl,rfl,rfl,rfl,rfl⟩,b1⟩
theorem zfo{w:World}{B:Nat}{lv nv:Value}(a:Int)(pos:Int)(hl:w.ownsRow B 3 1 lv 0 [])(hn:w.ownsRow B 9 1 nv 0 [])(hp0:0<=pos)(hp1:pos<=600):
  Calls Tryz.prog 15 #[.agg #[.int .i64 7,.int .i64 a,.int .i64 0,.int .i64 0,lv,nv,.int .u64 0,.int .i64 pos]] w fun e w'=>e=.returned (.bool true)/\Below w.heap.size w w':=by
 obtain⟨la,lc,rfl⟩:=z91 hl;obtain⟨na,nc,rfl⟩:=z91 hn;refine zgP 7 a 0 0 0 pos (zgD 7 a) (fun W hW=>zeI a 0 0 0 pos) (fun W hW=>?_) (fun W hW=>zeq 7 a 0 0 0 ⟨#[]⟩ (la:=none) (m:=0) (lc:=0) (na:=none) (q:=0) (nc:=0)) hp0 hp1;refine(zf4 (w:=W) 7 a 0 0 0 ⟨#[]⟩ (la:=none) (m:=0) (lc:=0) (na:=none) (q:=0) (nc:=0)).mono ?_;rintro e w1 ⟨rfl,b1⟩;exact⟨_,rfl,fun W2 h2=>zfh (x:=⟨7,a,0,0,[],[],0,0⟩) (p:=⟨7,a,0,0,[],[],0,pos⟩) (zfg 0 _ _) (zfg 0 _ _) (z92 hl ((hW.trans (b1.mono hW.size)).trans (h2.mono (yi9 hW.size b1.size)))) (z92 hn ((hW.trans (b1.mono hW.size)).trans (h2.mono (yi9 hW.size b1.size)))) ⟨rfl,rfl,rfl,rfl,rfl,rfl,rfl⟩,b1⟩
theorem zfp{w:World}{B:Nat}{lv nv:Value}(a:Int)(pos:Int)(hl:w.ownsRow B 3 1 lv 0 [])(hn:w.ownsRow B 9 1 nv 0 [])(hp0:0<=pos)(hp1:pos<=600):
  Calls Tryz.prog 15 #[.agg #[.int .i64 8,.int .i64 a,.int .i64 0,.int .i64 0,lv,nv,.int .u64 0,.int .i64 pos]] w fun e w'=>e=.returned (.bool true)/\Below w.heap.size w w':=by
 obtain⟨la,lc,rfl⟩:=z91 hl;obtain⟨na,nc,rfl⟩:=z91 hn;refine zgP 8 a 0 0 0 pos (zgD 8 a) (fun W hW=>zeJ a 0 0 0 pos) (fun W hW=>?_) (fun W hW=>zeq 8 a 0 0 0 ⟨#[]⟩ (la:=none) (m:=0) (lc:=0) (na:=none) (q:=0) (nc:=0)) hp0 hp1;refine(zf4 (w:=W) 8 a 0 0 0 ⟨#[]⟩ (la:=none) (m:=0) (lc:=0) (na:=none) (q:=0) (nc:=0)).mono ?_;rintro e w1 ⟨rfl,b1⟩;exact⟨_,rfl,fun W2 h2=>zfh (x:=⟨8,a,0,0,[],[],0,0⟩) (p:=⟨8,a,0,0,[],[],0,pos⟩) (zfg 0 _ _) (zfg 0 _ _) (z92 hl ((hW.trans (b1.mono hW.size)).trans (h2.mono (yi9 hW.size b1.size)))) (z92 hn ((hW.trans (b1.mono hW.size)).trans (h2.mono (yi9 hW.size b1.size)))) ⟨rfl,rfl,rfl,rfl,rfl,rfl,rfl⟩,b1⟩
theorem zfq{w:World}{B:Nat}{lv nv:Value}(a:Int)(b:Int)(c:Int)(pos:Int)(hl:w.ownsRow B 3 1 lv 0 [])(hn:w.ownsRow B 9 1 nv 0 [])(hp0:0<=pos)(hp1:pos<=600)(hc1:1<=c)(hc2:c<=11):
  Calls Tryz.prog 15 #[.agg #[.int .i64 9,.int .i64 a,.int .i64 b,.int .i64 c,lv,nv,.int .u64 0,.int .i64 pos]] w fun e w'=>e=.returned (.bool true)/\Below w.heap.size w w':=by
 obtain⟨la,lc,rfl⟩:=z91 hl;obtain⟨na,nc,rfl⟩:=z91 hn;refine zgP 9 a b c 0 pos (zgE c a b) (fun W hW=>zeK a b c 0 pos) (fun W hW=>?_) (fun W hW=>zer 9 a b c 0 ⟨#[]⟩ (la:=none) (m:=0) (lc:=0) (na:=none) (q:=0) (nc:=0) hc1 hc2) hp0 hp1;refine(zf5 (w:=W) 9 a b c 0 ⟨#[]⟩ (la:=none) (m:=0) (lc:=0) (na:=none) (q:=0) (nc:=0)).mono ?_;rintro e w1 ⟨rfl,b1⟩;exact⟨_,rfl,fun W2 h2=>zfh (x:=⟨9,a,b,c,[],[],0,0⟩) (p:=⟨9,a,b,c,[],[],0,pos⟩) (zfg 0 _ _) (zfg 0 _ _) (z92 hl ((hW.trans (b1.mono hW.size)).trans (h2.mono (yi9 hW.size b1.size)))) (z92 hn ((hW.trans (b1.mono hW.size)).trans (h2.mono (yi9 hW.size b1.size)))) ⟨rfl,rfl,rfl,rfl,rfl,rfl,rfl⟩,b1⟩
theorem zfr{w:World}{B:Nat}{lv nv:Value}(a:Int)(b:Int)(pos:Int)(hl:w.ownsRow B 3 1 lv 0 [])(hn:w.ownsRow B 9 1 nv 0 [])(hp0:0<=pos)(hp1:pos<=600):
  Calls Tryz.prog 15 #[.agg #[.int .i64 10,.int .i64 a,.int .i64 b,.int .i64 0,lv,nv,.int .u64 0,.int .i64 pos]] w fun e w'=>e=.returned (.bool true)/\Below w.heap.size w w':=by
 obtain⟨la,lc,rfl⟩:=z91 hl;obtain⟨na,nc,rfl⟩:=z91 hn;refine zgP 10 a b 0 0 pos (zgF 10 a b) (fun W hW=>zeL a b 0 0 pos) (fun W hW=>?_) (fun W hW=>zes 10 a b 0 0 ⟨#[]⟩ (la:=none) (m:=0) (lc:=0) (na:=none) (q:=0) (nc:=0)) hp0 hp1;refine(zf6 (w:=W) 10 a b 0 0 ⟨#[]⟩ (la:=none) (m:=0) (lc:=0) (na:=none) (q:=0) (nc:=0)).mono ?_;rintro e w1 ⟨rfl,b1⟩;exact⟨_,rfl,fun W2 h2=>zfh (x:=⟨10,a,b,0,[],[],0,0⟩) (p:=⟨10,a,b,0,[],[],0,pos⟩) (zfg 0 _ _) (zfg 0 _ _) (z92 hl ((hW.trans (b1.mono hW.size)).trans (h2.mono (yi9 hW.size b1.size)))) (z92 hn ((hW.trans (b1.mono hW.size)).trans (h2.mono (yi9 hW.size b1.size)))) ⟨rfl,rfl,rfl,rfl,rfl,rfl,rfl⟩,b1⟩
theorem zfs{w:World}{B:Nat}{lv nv:Value}(a:Int)(b:Int)(pos:Int)(hl:w.ownsRow B 3 1 lv 0 [])(hn:w.ownsRow B 9 1 nv 0 [])(hp0:0<=pos)(hp1:pos<=600):
  Calls Tryz.prog 15 #[.agg #[.int .i64 11,.int .i64 a,.int .i64 b,.int .i64 0,lv,nv,.int .u64 0,.int .i64 pos]] w fun e w'=>e=.returned (.bool true)/\Below w.heap.size w w':=by
 obtain⟨la,lc,rfl⟩:=z91 hl;obtain⟨na,nc,rfl⟩:=z91 hn;refine zgP 11 a b 0 0 pos (zgF 11 a b) (fun W hW=>zeM a b 0 0 pos) (fun W hW=>?_) (fun W hW=>zes 11 a b 0 0 ⟨#[]⟩ (la:=none) (m:=0) (lc:=0) (na:=none) (q:=0) (nc:=0)) hp0 hp1;refine(zf6 (w:=W) 11 a b 0 0 ⟨#[]⟩ (la:=none) (m:=0) (lc:=0) (na:=none) (q:=0) (nc:=0)).mono ?_;rintro e w1 ⟨rfl,b1⟩;exact⟨_,rfl,fun W2 h2=>zfh (x:=⟨11,a,b,0,[],[],0,0⟩) (p:=⟨11,a,b,0,[],[],0,pos⟩) (zfg 0 _ _) (zfg 0 _ _) (z92 hl ((hW.trans (b1.mono hW.size)).trans (h2.mono (yi9 hW.size b1.size)))) (z92 hn ((hW.trans (b1.mono hW.size)).trans (h2.mono (yi9 hW.size b1.size)))) ⟨rfl,rfl,rfl,rfl,rfl,rfl,rfl⟩,b1⟩
theorem zft{w:World}{B:Nat}{lv nv:Value}(a:Int)(pos:Int)(L:List Int)(hl:w.ownsRow B 3 1 lv L.length (L.map (Value.int .i64)))(hn:w.ownsRow B 9 1 nv 0 [])(hp0:0<=pos)(hp1:pos<=600):
  Calls Tryz.prog 15 #[.agg #[.int .i64 12,.int .i64 a,.int .i64 0,.int .i64 0,lv,nv,.int .u64 0,.int .i64 pos]] w fun e w'=>e=.returned (.bool true)/\Below w.heap.size w w':=by
 obtain⟨la,lc,rfl⟩:=z91 hl;obtain⟨na,nc,rfl⟩:=z91 hn;refine zgP 12 a 0 0 0 pos (zgG a la L.length lc) (fun W hW=>zeN a 0 0 0 pos) (fun W hW=>?_) (fun W hW=>zet 12 a 0 0 0 ⟨#[]⟩ (la:=la) (m:=L.length) (lc:=lc) (na:=none) (q:=0) (nc:=0)) hp0 hp1;refine(zf7 (w:=W) 12 a 0 0 0 ⟨#[]⟩ (la:=la) (m:=L.length) (lc:=lc) (na:=none) (q:=0) (nc:=0)).mono ?_;rintro e w1 ⟨rfl,b1⟩;exact⟨_,rfl,fun W2 h2=>zfh (x:=⟨12,a,0,0,L,[],0,0⟩) (p:=⟨12,a,0,0,L,[],0,pos⟩) (z92 hl ((hW.trans (b1.mono hW.size)).trans (h2.mono (yi9 hW.size b1.size)))) (zfg 0 _ _) (z92 hl ((hW.trans (b1.mono hW.size)).trans (h2.mono (yi9 hW.size b1.size)))) (z92 hn ((hW.trans (b1.mono hW.size)).trans (h2.mono (yi9 hW.size b1.size)))) ⟨rfl,rfl,rfl,rfl,rfl,rfl,rfl⟩,b1⟩
theorem zfu{w:World}{B:Nat}{lv nv:Value}(a:Int)(pos:Int)(Q:List ByteArray)(hl:w.ownsRow B 3 1 lv 0 [])(hn:w.ownsRow B 9 1 nv Q.length (Q.map Value.string))(hp0:0<=pos)(hp1:pos<=600)(h4:Q.length<=4)(hQ:∀ x∈Q,z6j x):
  Calls Tryz.prog 15 #[.agg #[.int .i64 13,.int .i64 a,.int .i64 0,.int .i64 0,lv,nv,.int .u64 0,.int .i64 pos]] w fun e w'=>e=.returned (.bool true)/\Below w.heap.size w w':=by
 obtain⟨la,lc,rfl⟩:=z91 hl;obtain⟨na,nc,rfl⟩:=z91 hn;refine zgP 13 a 0 0 0 pos (zgH a na Q.length nc) (fun W hW=>zeO a 0 0 0 pos) (fun W hW=>?_) (fun W hW=>zeu 13 a 0 0 0 ⟨#[]⟩ (la:=none) (m:=0) (lc:=0) (na:=na) (q:=0) (nc:=nc) (z92 hn hW) h4 hQ) hp0 hp1;refine(zf8 (w:=W) 13 a 0 0 0 ⟨#[]⟩ (la:=none) (m:=0) (lc:=0) (na:=na) (q:=Q.length) (nc:=nc)).mono ?_;rintro e w1 ⟨rfl,b1⟩;exact⟨_,rfl,fun W2 h2=>zfh (x:=⟨13,a,0,0,[],Q,0,0⟩) (p:=⟨13,a,0,0,[],Q,0,pos⟩) (zfg 0 _ _) (z92 hn ((hW.trans (b1.mono hW.size)).trans (h2.mono (yi9 hW.size b1.size)))) (z92 hl ((hW.trans (b1.mono hW.size)).trans (h2.mono (yi9 hW.size b1.size)))) (z92 hn ((hW.trans (b1.mono hW.size)).trans (h2.mono (yi9 hW.size b1.size)))) ⟨rfl,rfl,rfl,rfl,rfl,rfl,rfl⟩,b1⟩
theorem zfv{w:World}{B:Nat}{lv nv:Value}(a:Int)(b:Int)(pos:Int)(t:ByteArray)(hl:w.ownsRow B 3 1 lv 0 [])(hn:w.ownsRow B 9 1 nv 1 [.string t])(hp0:0<=pos)(hp1:pos<=600)(ht:z6j t)(hb:b=0\/b=1):
  Calls Tryz.prog 15 #[.agg #[.int .i64 20,.int .i64 a,.int .i64 b,.int .i64 0,lv,nv,.int .u64 0,.int .i64 pos]] w fun e w'=>e=.returned (.bool true)/\Below w.heap.size w w':=by
 obtain⟨la,lc,rfl⟩:=z91 hl;obtain⟨na,nc,rfl⟩:=z91 hn;obtain⟨gl,rfl,hc⟩:=zec hn (show[Value.string t][0]?=some (.string t)from rfl);refine zgP 20 a b 0 0 pos (zgI t a b) (fun W hW=>zeP a b 0 0 pos ((hW.cell (p:=⟨gl,0,none⟩) (World.block_lt_of_cell? w _ hc)).trans hc)) (fun W hW=>?_) (fun W hW=>zev 20 a b 0 0 t (la:=none) (m:=0) (lc:=0) (na:=none) (q:=0) (nc:=0) ht hb) hp0 hp1;refine(zf9 (w:=W) 20 a b 0 0 t (la:=none) (m:=0) (lc:=0) (na:=none) (q:=0) (nc:=0)).mono ?_;rintro e w1 ⟨g1,rfl,ho1,b1⟩;exact⟨_,rfl,fun W2 h2=>zfh (x:=⟨20,a,b,0,[],[t],0,0⟩) (p:=⟨20,a,b,0,[],[t],0,pos⟩) (zfg 0 _ _) (z92 ho1 h2) (z92 hl ((hW.trans (b1.mono hW.size)).trans (h2.mono (yi9 hW.size b1.size)))) (z92 hn ((hW.trans (b1.mono hW.size)).trans (h2.mono (yi9 hW.size b1.size)))) ⟨rfl,rfl,rfl,rfl,rfl,rfl,rfl⟩,b1⟩
theorem zfw{w:World}{B:Nat}{lv nv:Value}(a:Int)(pos:Int)(t:ByteArray)(hl:w.ownsRow B 3 1 lv 0 [])(hn:w.ownsRow B 9 1 nv 1 [.string t])(hp0:0<=pos)(hp1:pos<=600)(ht:z6j t):
  Calls Tryz.prog 15 #[.agg #[.int .i64 21,.int .i64 a,.int .i64 0,.int .i64 0,lv,nv,.int .u64 0,.int .i64 pos]] w fun e w'=>e=.returned (.bool true)/\Below w.heap.size w w':=by
 obtain⟨la,lc,rfl⟩:=z91 hl;obtain⟨na,nc,rfl⟩:=z91 hn;obtain⟨gl,rfl,hc⟩:=zec hn (show[Value.string t][0]?=some (.string t)from rfl);refine zgP 21 a 0 0 0 pos (zgJ t a) (fun W hW=>zeQ a 0 0 0 pos ((hW.cell (p:=⟨gl,0,none⟩) (World.block_lt_of_cell? w _ hc)).trans hc)) (fun W hW=>?_) (fun W hW=>zew 21 a 0 0 0 t (la:=none) (m:=0) (lc:=0) (na:=none) (q:=0) (nc:=0) ht) hp0 hp1;refine(zfa (w:=W) 21 a 0 0 0 t (la:=none) (m:=0) (lc:=0) (na:=none) (q:=0) (nc:=0)).mono ?_;rintro e w1 ⟨g1,rfl,ho1,b1⟩;exact⟨_,rfl,fun W2 h2=>zfh (x:=⟨21,a,0,0,[],[t],0,0⟩) (p:=⟨21,a,0,0,[],[t],0,pos⟩) (zfg 0 _ _) (z92 ho1 h2) (z92 hl ((hW.trans (b1.mono hW.size)).trans (h2.mono (yi9 hW.size b1.size)))) (z92 hn ((hW.trans (b1.mono hW.size)).trans (h2.mono (yi9 hW.size b1.size)))) ⟨rfl,rfl,rfl,rfl,rfl,rfl,rfl⟩,b1⟩
theorem zfx{w:World}{B:Nat}{lv nv:Value}(a:Int)(pos:Int)(hl:w.ownsRow B 3 1 lv 0 [])(hn:w.ownsRow B 9 1 nv 0 [])(hp0:0<=pos)(hp1:pos<=600):
  Calls Tryz.prog 15 #[.agg #[.int .i64 22,.int .i64 a,.int .i64 0,.int .i64 0,lv,nv,.int .u64 0,.int .i64 pos]] w fun e w'=>e=.returned (.bool true)/\Below w.heap.size w w':=by
 obtain⟨la,lc,rfl⟩:=z91 hl;obtain⟨na,nc,rfl⟩:=z91 hn;refine zgP 22 a 0 0 0 pos (zgK 22 a) (fun W hW=>zeR a 0 0 0 pos) (fun W hW=>?_) (fun W hW=>zex 22 a 0 0 0 ⟨#[]⟩ (la:=none) (m:=0) (lc:=0) (na:=none) (q:=0) (nc:=0)) hp0 hp1;refine(zfb (w:=W) 22 a 0 0 0 ⟨#[]⟩ (la:=none) (m:=0) (lc:=0) (na:=none) (q:=0) (nc:=0)).mono ?_;rintro e w1 ⟨rfl,b1⟩;exact⟨_,rfl,fun W2 h2=>zfh (x:=⟨22,a,0,0,[],[],0,0⟩) (p:=⟨22,a,0,0,[],[],0,pos⟩) (zfg 0 _ _) (zfg 0 _ _) (z92 hl ((hW.trans (b1.mono hW.size)).trans (h2.mono (yi9 hW.size b1.size)))) (z92 hn ((hW.trans (b1.mono hW.size)).trans (h2.mono (yi9 hW.size b1.size)))) ⟨rfl,rfl,rfl,rfl,rfl,rfl,rfl⟩,b1⟩
theorem zfy{w:World}{B:Nat}{lv nv:Value}(a:Int)(pos:Int)(hl:w.ownsRow B 3 1 lv 0 [])(hn:w.ownsRow B 9 1 nv 0 [])(hp0:0<=pos)(hp1:pos<=600):
  Calls Tryz.prog 15 #[.agg #[.int .i64 25,.int .i64 a,.int .i64 0,.int .i64 0,lv,nv,.int .u64 0,.int .i64 pos]] w fun e w'=>e=.returned (.bool true)/\Below w.heap.size w w':=by
 obtain⟨la,lc,rfl⟩:=z91 hl;obtain⟨na,nc,rfl⟩:=z91 hn;refine zgP 25 a 0 0 0 pos (zgK 25 a) (fun W hW=>zeS a 0 0 0 pos) (fun W hW=>?_) (fun W hW=>zex 25 a 0 0 0 ⟨#[]⟩ (la:=none) (m:=0) (lc:=0) (na:=none) (q:=0) (nc:=0)) hp0 hp1;refine(zfb (w:=W) 25 a 0 0 0 ⟨#[]⟩ (la:=none) (m:=0) (lc:=0) (na:=none) (q:=0) (nc:=0)).mono ?_;rintro e w1 ⟨rfl,b1⟩;exact⟨_,rfl,fun W2 h2=>zfh (x:=⟨25,a,0,0,[],[],0,0⟩) (p:=⟨25,a,0,0,[],[],0,pos⟩) (zfg 0 _ _) (zfg 0 _ _) (z92 hl ((hW.trans (b1.mono hW.size)).trans (h2.mono (yi9 hW.size b1.size)))) (z92 hn ((hW.trans (b1.mono hW.size)).trans (h2.mono (yi9 hW.size b1.size)))) ⟨rfl,rfl,rfl,rfl,rfl,rfl,rfl⟩,b1⟩
theorem zfz{w:World}{B:Nat}{lv nv:Value}(a:Int)(pos:Int)(hl:w.ownsRow B 3 1 lv 0 [])(hn:w.ownsRow B 9 1 nv 0 [])(hp0:0<=pos)(hp1:pos<=600):
  Calls Tryz.prog 15 #[.agg #[.int .i64 26,.int .i64 a,.int .i64 0,.int .i64 0,lv,nv,.int .u64 0,.int .i64 pos]] w fun e w'=>e=.returned (.bool true)/\Below w.heap.size w w':=by
 obtain⟨la,lc,rfl⟩:=z91 hl;obtain⟨na,nc,rfl⟩:=z91 hn;refine zgP 26 a 0 0 0 pos (zgK 26 a) (fun W hW=>zeT a 0 0 0 pos) (fun W hW=>?_) (fun W hW=>zex 26 a 0 0 0 ⟨#[]⟩ (la:=none) (m:=0) (lc:=0) (na:=none) (q:=0) (nc:=0)) hp0 hp1;refine(zfb (w:=W) 26 a 0 0 0 ⟨#[]⟩ (la:=none) (m:=0) (lc:=0) (na:=none) (q:=0) (nc:=0)).mono ?_;rintro e w1 ⟨rfl,b1⟩;exact⟨_,rfl,fun W2 h2=>zfh (x:=⟨26,a,0,0,[],[],0,0⟩) (p:=⟨26,a,0,0,[],[],0,pos⟩) (zfg 0 _ _) (zfg 0 _ _) (z92 hl ((hW.trans (b1.mono hW.size)).trans (h2.mono (yi9 hW.size b1.size)))) (z92 hn ((hW.trans (b1.mono hW.size)).trans (h2.mono (yi9 hW.size b1.size)))) ⟨rfl,rfl,rfl,rfl,rfl,rfl,rfl⟩,b1⟩
theorem zfA{w:World}{B:Nat}{lv nv:Value}(a:Int)(pos:Int)(hl:w.ownsRow B 3 1 lv 0 [])(hn:w.ownsRow B 9 1 nv 0 [])(hp0:0<=pos)(hp1:pos<=600):
  Calls Tryz.prog 15 #[.agg #[.int .i64 28,.int .i64 a,.int .i64 0,.int .i64 0,lv,nv,.int .u64 0,.int .i64 pos]] w fun e w'=>e=.returned (.bool true)/\Below w.heap.size w w':=by
 obtain⟨la,lc,rfl⟩:=z91 hl;obtain⟨na,nc,rfl⟩:=z91 hn;refine zgP 28 a 0 0 0 pos (zgK 28 a) (fun W hW=>zeU a 0 0 0 pos) (fun W hW=>?_) (fun W hW=>zex 28 a 0 0 0 ⟨#[]⟩ (la:=none) (m:=0) (lc:=0) (na:=none) (q:=0) (nc:=0)) hp0 hp1;refine(zfb (w:=W) 28 a 0 0 0 ⟨#[]⟩ (la:=none) (m:=0) (lc:=0) (na:=none) (q:=0) (nc:=0)).mono ?_;rintro e w1 ⟨rfl,b1⟩;exact⟨_,rfl,fun W2 h2=>zfh (x:=⟨28,a,0,0,[],[],0,0⟩) (p:=⟨28,a,0,0,[],[],0,pos⟩) (zfg 0 _ _) (zfg 0 _ _) (z92 hl ((hW.trans (b1.mono hW.size)).trans (h2.mono (yi9 hW.size b1.size)))) (z92 hn ((hW.trans (b1.mono hW.size)).trans (h2.mono (yi9 hW.size b1.size)))) ⟨rfl,rfl,rfl,rfl,rfl,rfl,rfl⟩,b1⟩
theorem zfB{w:World}{B:Nat}{lv nv:Value}(a:Int)(b:Int)(c:Int)(pos:Int)(hl:w.ownsRow B 3 1 lv 0 [])(hn:w.ownsRow B 9 1 nv 0 [])(hp0:0<=pos)(hp1:pos<=600):
  Calls Tryz.prog 15 #[.agg #[.int .i64 23,.int .i64 a,.int .i64 b,.int .i64 c,lv,nv,.int .u64 0,.int .i64 pos]] w fun e w'=>e=.returned (.bool true)/\Below w.heap.size w w':=by
 obtain⟨la,lc,rfl⟩:=z91 hl;obtain⟨na,nc,rfl⟩:=z91 hn;refine zgP 23 a b c 0 pos (zgL a b c) (fun W hW=>zeV a b c 0 pos) (fun W hW=>?_) (fun W hW=>zey 23 a b c 0 ⟨#[]⟩ (la:=none) (m:=0) (lc:=0) (na:=none) (q:=0) (nc:=0)) hp0 hp1;refine(zfc (w:=W) 23 a b c 0 ⟨#[]⟩ (la:=none) (m:=0) (lc:=0) (na:=none) (q:=0) (nc:=0)).mono ?_;rintro e w1 ⟨rfl,b1⟩;exact⟨_,rfl,fun W2 h2=>zfh (x:=⟨23,a,b,c,[],[],0,0⟩) (p:=⟨23,a,b,c,[],[],0,pos⟩) (zfg 0 _ _) (zfg 0 _ _) (z92 hl ((hW.trans (b1.mono hW.size)).trans (h2.mono (yi9 hW.size b1.size)))) (z92 hn ((hW.trans (b1.mono hW.size)).trans (h2.mono (yi9 hW.size b1.size)))) ⟨rfl,rfl,rfl,rfl,rfl,rfl,rfl⟩,b1⟩
theorem zfC{w:World}{B:Nat}{lv nv:Value}(a:Int)(b:Int)(pos:Int)(hl:w.ownsRow B 3 1 lv 0 [])(hn:w.ownsRow B 9 1 nv 0 [])(hp0:0<=pos)(hp1:pos<=600):
  Calls Tryz.prog 15 #[.agg #[.int .i64 24,.int .i64 a,.int .i64 b,.int .i64 0,lv,nv,.int .u64 0,.int .i64 pos]] w fun e w'=>e=.returned (.bool true)/\Below w.heap.size w w':=by
 obtain⟨la,lc,rfl⟩:=z91 hl;obtain⟨na,nc,rfl⟩:=z91 hn;refine zgP 24 a b 0 0 pos (zgM a b) (fun W hW=>zeW a b 0 0 pos) (fun W hW=>?_) (fun W hW=>zez 24 a b 0 0 ⟨#[]⟩ (la:=none) (m:=0) (lc:=0) (na:=none) (q:=0) (nc:=0)) hp0 hp1;refine(zfd (w:=W) 24 a b 0 0 ⟨#[]⟩ (la:=none) (m:=0) (lc:=0) (na:=none) (q:=0) (nc:=0)).mono ?_;rintro e w1 ⟨rfl,b1⟩;exact⟨_,rfl,fun W2 h2=>zfh (x:=⟨24,a,b,0,[],[],0,0⟩) (p:=⟨24,a,b,0,[],[],0,pos⟩) (zfg 0 _ _) (zfg 0 _ _) (z92 hl ((hW.trans (b1.mono hW.size)).trans (h2.mono (yi9 hW.size b1.size)))) (z92 hn ((hW.trans (b1.mono hW.size)).trans (h2.mono (yi9 hW.size b1.size)))) ⟨rfl,rfl,rfl,rfl,rfl,rfl,rfl⟩,b1⟩
theorem zfD{w:World}{B:Nat}{lv nv:Value}(a:Int)(b:Int)(pos:Int)(t:ByteArray)(hl:w.ownsRow B 3 1 lv 0 [])(hn:w.ownsRow B 9 1 nv 1 [.string t])(hp0:0<=pos)(hp1:pos<=600)(ht:z6j t):
  Calls Tryz.prog 15 #[.agg #[.int .i64 27,.int .i64 a,.int .i64 b,.int .i64 0,lv,nv,.int .u64 0,.int .i64 pos]] w fun e w'=>e=.returned (.bool true)/\Below w.heap.size w w':=by
 obtain⟨la,lc,rfl⟩:=z91 hl;obtain⟨na,nc,rfl⟩:=z91 hn;obtain⟨gl,rfl,hc⟩:=zec hn (show[Value.string t][0]?=some (.string t)from rfl);refine zgP 27 a b 0 0 pos (zgN t a b) (fun W hW=>zeX a b 0 0 pos ((hW.cell (p:=⟨gl,0,none⟩) (World.block_lt_of_cell? w _ hc)).trans hc)) (fun W hW=>?_) (fun W hW=>zeA 27 a b 0 0 t (la:=none) (m:=0) (lc:=0) (na:=none) (q:=0) (nc:=0) ht) hp0 hp1;refine(zfe (w:=W) 27 a b 0 0 t (la:=none) (m:=0) (lc:=0) (na:=none) (q:=0) (nc:=0)).mono ?_;rintro e w1 ⟨g1,rfl,ho1,b1⟩;exact⟨_,rfl,fun W2 h2=>zfh (x:=⟨27,a,b,0,[],[t],0,0⟩) (p:=⟨27,a,b,0,[],[t],0,pos⟩) (zfg 0 _ _) (z92 ho1 h2) (z92 hl ((hW.trans (b1.mono hW.size)).trans (h2.mono (yi9 hW.size b1.size)))) (z92 hn ((hW.trans (b1.mono hW.size)).trans (h2.mono (yi9 hW.size b1.size)))) ⟨rfl,rfl,rfl,rfl,rfl,rfl,rfl⟩,b1⟩
theorem zfE{w:World}{B:Nat}{lv nv:Value}(pos:Int)(L:List Int)(hl:w.ownsRow B 3 1 lv L.length (L.map (Value.int .i64)))(hn:w.ownsRow B 9 1 nv 0 [])(hp0:0<=pos)(hp1:pos<=600):
  Calls Tryz.prog 15 #[.agg #[.int .i64 29,.int .i64 0,.int .i64 0,.int .i64 0,lv,nv,.int .u64 0,.int .i64 pos]] w fun e w'=>e=.returned (.bool true)/\Below w.heap.size w w':=by
 obtain⟨la,lc,rfl⟩:=z91 hl;obtain⟨na,nc,rfl⟩:=z91 hn;refine zgP 29 0 0 0 0 pos (zgO la L.length lc) (fun W hW=>zeY 0 0 0 0 pos) (fun W hW=>?_) (fun W hW=>zeB 29 0 0 0 0 ⟨#[]⟩ (la:=la) (m:=L.length) (lc:=lc) (na:=none) (q:=0) (nc:=0)) hp0 hp1;refine(zff (w:=W) 29 0 0 0 0 ⟨#[]⟩ (la:=la) (m:=L.length) (lc:=lc) (na:=none) (q:=0) (nc:=0)).mono ?_;rintro e w1 ⟨rfl,b1⟩;exact⟨_,rfl,fun W2 h2=>zfh (x:=⟨29,0,0,0,L,[],0,0⟩) (p:=⟨29,0,0,0,L,[],0,pos⟩) (z92 hl ((hW.trans (b1.mono hW.size)).trans (h2.mono (yi9 hW.size b1.size)))) (zfg 0 _ _) (z92 hl ((hW.trans (b1.mono hW.size)).trans (h2.mono (yi9 hW.size b1.size)))) (z92 hn ((hW.trans (b1.mono hW.size)).trans (h2.mono (yi9 hW.size b1.size)))) ⟨rfl,rfl,rfl,rfl,rfl,rfl,rfl⟩,b1⟩
theorem zfF{w:World}{B:Nat}{p:z5i}{lv nv:Value}(hp:z6p p)(hl:w.ownsRow B 3 1 lv p.list.length (p.list.map (Value.int .i64)))(hn:w.ownsRow B 9 1 nv p.names.length (p.names.map Value.string)):
  Calls Tryz.prog 15 #[.agg #[.int .i64 p.kind,.int .i64 p.a,.int .i64 p.b,.int .i64 p.c,lv,nv,.int .u64 (p.num:Int),.int .i64 p.pos]] w fun e w'=>e=.returned (.bool true)/\Below w.heap.size w w':=by
 obtain⟨kind,a,b,c,list,names,num,pos⟩:=p;unfold z6p at hp;simp only at hp hl hn ⊢;obtain⟨h0,h1,h⟩:=hp;rcases h with ⟨rfl,rfl,rfl,rfl,rfl,rfl,hu⟩|⟨rfl,rfl,rfl,rfl,rfl,rfl,t,rfl,h40,ht⟩|⟨hk,rfl,rfl,rfl,rfl,rfl,rfl⟩|⟨rfl,rfl,rfl,rfl,rfl,rfl,t,rfl,ht⟩|⟨hk,rfl,rfl,rfl,rfl,rfl⟩|⟨rfl,hc1,hc2,rfl,rfl,rfl⟩|⟨hk,rfl,rfl,rfl,rfl⟩|⟨rfl,rfl,rfl,h6,rfl,rfl⟩|⟨rfl,rfl,rfl,rfl,rfl,h4,hQ⟩|⟨rfl,hb,rfl,rfl,rfl,t,rfl,ht⟩|⟨rfl,rfl,rfl,rfl,rfl,t,rfl,ht⟩|⟨rfl,rfl,rfl,rfl⟩|⟨rfl,rfl,rfl,rfl,rfl⟩|⟨rfl,rfl,rfl,rfl,t,rfl,ht⟩|⟨rfl,rfl,rfl,rfl,rfl,rfl⟩
 ·exact zfi pos num hl hn h0 h1 hu
 ·exact zfj pos t hl hn h0 h1 ht h40
 ·rcases hk with rfl|rfl|rfl
  ·exact zfk pos hl hn h0 h1
  ·exact zfl pos hl hn h0 h1
  ·exact zfm pos hl hn h0 h1
 ·exact zfn pos t hl hn h0 h1 ht
 ·rcases hk with rfl|rfl|rfl|rfl|rfl|rfl
  ·exact zfo a pos hl hn h0 h1
  ·exact zfp a pos hl hn h0 h1
  ·exact zfx a pos hl hn h0 h1
  ·exact zfy a pos hl hn h0 h1
  ·exact zfz a pos hl hn h0 h1
  ·exact zfA a pos hl hn h0 h1
 ·exact zfq a b c pos hl hn h0 h1 hc1 hc2
 ·rcases hk with rfl|rfl
  ·exact zfr a b pos hl hn h0 h1
  ·exact zfs a b pos hl hn h0 h1
 ·exact zft a pos list hl hn h0 h1
 ·exact zfu a pos names hl hn h0 h1 h4 hQ
 ·exact zfv a b pos t hl hn h0 h1 ht hb
 ·exact zfw a pos t hl hn h0 h1 ht
 ·exact zfB a b c pos hl hn h0 h1
 ·exact zfC a b pos hl hn h0 h1
 ·exact zfD a b pos t hl hn h0 h1 ht
 ·exact zfE pos list hl hn h0 h1
theorem zfG{w:World}(a b c z pos:Int){la na:Option Addr}{m lc q nc:Nat}:
  Calls Tryz.prog 15 #[.agg #[.int .i64 30,.int .i64 a,.int .i64 b,.int .i64 c,.slice la m lc,.slice na q nc,.int .u64 z,.int .i64 pos]] w fun e w'=>e=.returned (.bool false)/\Below w.heap.size w w':=by
 have b0:Below w.heap.size w (w.alloc (.cells #[.int .i64 30,.int .i64 a,.int .i64 b,.int .i64 c,.slice la m lc,.slice na q nc,.int .u64 z,.int .i64 pos] 34)):=(yg9 _ _).alloc (yf9 _) _;have cF:=fun W=>zeZ (w:=W) a b c z pos (la:=la) (na:=na) (m:=m) (lc:=lc) (q:=q) (nc:=nc);go_enter Tryz.func15,Tryz.ntmps15;go_wp2_with fail;refine(cF _).mono ?_;rintro e w1 ⟨rfl,b1⟩;have HB1:Hid (Below w.heap.size w w1):=b0.trans (b1.mono b0.size);clear b1 b0 cF;go_wp2;go_quiet (fail)
 go_wp2;go_returns;exact⟨rfl,below_drewN HB1.out _⟩
theorem Tryz.infoPart:(Tryz.prog.info? 52).map (fun i=>(i.zero,i.size,i.bytes))=some (some (.agg #[.int .i64 0,.int .i64 0]),2,16):=by kernel_rfl
def zfH(xs:List Value)(ps:List (Int × Int)):Prop:=∀(i:Nat) (x:Int × Int),ps[i]?=some x->xs[i*2]?=some (.int .i64 x.1)/\xs[i*2+1]?=some (.int .i64 x.2)
theorem zfI{xs:List Value}{ps:List (Int × Int)}(h:zfH xs ps)(hl:xs.length=ps.length*2):∀ u∈xs,u.oneCell'=true:=by
 intro u hu;obtain⟨i,hi⟩:=List.mem_iff_getElem?.1 hu;have hlt:i<xs.length:=(List.getElem?_eq_some_iff.1 hi).1;obtain⟨x,hx⟩:∃ x,ps[i/2]?=some x:=⟨_,yd9 (by omega)⟩
 obtain⟨q1,q2⟩:=h (i/2) x hx;rcases (by omega:i=i/2*2\/i=i/2*2+1)with e|e<;>rw[e]at hi
 ·rw[q1]at hi;cases hi;rfl
 ·rw[q2]at hi;cases hi;rfl
theorem zfJ{xs ys:List Value}{ps qs:List (Int × Int)}(h:zfH xs ps)(hl:xs.length=ps.length*2)(k:zfH ys qs):zfH (xs++ys) (ps++qs):=by
 intro i x hx;rcases Nat.lt_or_ge i ps.length with e|e
 ·rw[List.getElem?_append_left e]at hx;obtain⟨a,b⟩:=h i x hx;exact⟨by rw[List.getElem?_append_left (by omega)];exact a,by rw[List.getElem?_append_left (by omega)];exact b⟩
 ·rw[List.getElem?_append_right e]at hx;obtain⟨a,b⟩:=k _ x hx;refine⟨?_,?_⟩
  ·rw[List.getElem?_append_right (by omega),show i*2-xs.length=(i-ps.length)*2 by omega];exact a
  ·rw[List.getElem?_append_right (by omega),show i*2+1-xs.length=(i-ps.length)*2+1 by omega];exact b
theorem zfK:zfH [] []:=fun i x h=>by simp at h
theorem zfL(x r:Int):zfH [.int .i64 x,.int .i64 r] [(x,r)]:=fun i y h=>by
 match i,h with
 | 0,h=>simp at h;subst h;exact⟨rfl,rfl⟩
theorem zfM(x r y q:Int):zfH [.int .i64 x,.int .i64 r,.int .i64 y,.int .i64 q] [(x,r),(y,q)]:=zfJ (zfL x r) rfl (zfL y q)
def zfN(B:Nat)(v:Value)(ps:List (Int × Int))(w:World):Prop:=∃ xs,w.ownsRow B 52 2 v ps.length xs/\zfH xs ps
theorem zfO{w:World}{B g:Nat}{cs:List Value}{ps:List (Int × Int)}(hg:w.heap[g]?=some (.cells cs.toArray 52))(hb:B<=g)(hl:cs.length=ps.length*2)(hm:ps.length<=maxLen)(h:zfH cs ps):zfN B (.slice (some ⟨g,0,none⟩) ps.length ps.length) ps w:=
 ⟨cs,⟨by rw[hl],.inr ⟨g,ps.length,cs.toArray,rfl,hb,hg,yf9 _,hm,by simp[hl],by simp[←hl]⟩⟩,h⟩
theorem zfP{w:World}{B:Nat}{v:Value}(l:List Int)(role:Int)(ho:w.ownsRow B 3 1 v l.length (l.map (Value.int .i64)))(hll:l.length<=10000):
  Calls Tryz.prog 153 #[v,.int .i64 role] w fun e w'=>∃ g,e=.returned (.slice (some ⟨g,0,none⟩) l.length l.length)/\zfN w.heap.size (.slice (some ⟨g,0,none⟩) l.length l.length) (l.map fun x=>(x,role)) w'/\Below w.heap.size w w':=by
 obtain⟨va,vc,rfl⟩:=z91 ho;obtain⟨n,hn⟩:∃ n,l.length=n:=⟨_,rfl⟩;have HC:Hid (∀(q:Nat) (W:World),Below w.heap.size w W->q<n->∃(g:Nat) (x:Int),va=some ⟨g,0,none⟩/\W.cell? ⟨g,q,none⟩=some (.int .i64 x)/\l[q]?=some x):=fun q W hW hq=>by
  obtain⟨t,ht⟩:∃ t,l[q]?=some t:=⟨_,yd9 (by omega)⟩
  obtain⟨g,e,hc⟩:=zec (z92 ho hW) (show(l.map (Value.int .i64))[q]?=some (.int .i64 t) by rw[List.getElem?_map,ht];rfl)
  exact⟨g,t,e,hc,ht⟩
 have HN:Hid (l.length=n):=hn;rw[hn]at hll ⊢;obtain⟨i0,hi,hz0,hz1,hz2⟩:=z8Z Tryz.infoPart;have hmk:=fun W:World=>run_make (P:=Tryz.prog) W 46 52 i0 (.agg #[.int .i64 0,.int .i64 0]) Tryz.underlying46 hi hz0 .i64 .i64 (n:Int) (n:Int) (by omega) (by omega) (by rw[hz2];omega) (by omega)
 simp only[hz1,Int.toNat_natCast]at hmk;have hmk:∀ W:World,(Instr.makeSlice 46 (.int .i64 (n:Int)) (.int .i64 (n:Int))).run Tryz.prog W=.ok (.slice (some ⟨W.heap.size,0,none⟩) n n) (W.alloc (.cells (madeCells #[.int .i64 0,.int .i64 0] (n*2)) 52)):=hmk;have b1:Below w.heap.size w (w.alloc (.cells (madeCells #[.int .i64 0,.int .i64 0] (n*2)) 52)):=(yg9 _ _).alloc (yf9 _) _;have o1:(w.alloc (.cells (madeCells #[.int .i64 0,.int .i64 0] (n*2)) 52)).ownsRow w.heap.size 52 2 (.slice (some ⟨w.heap.size,0,none⟩) n n) n (madeCells #[.int .i64 0,.int .i64 0] (n*2)).toList:=
  ⟨by simp[size_madeCells],.inr ⟨w.heap.size,n,_,rfl,yf9 _,heap_alloc_new w _,yf9 _,by unfold maxLen;omega,by simp[size_madeCells],by rw[List.take_of_length_le (by simp[size_madeCells])]⟩⟩
 obtain⟨X,hX⟩:∃ X,w.heap.size=X:=⟨_,rfl⟩;obtain⟨W0,hW0⟩:∃ W,w.alloc (.cells (madeCells #[.int .i64 0,.int .i64 0] (n*2)) 52)=W:=⟨_,rfl⟩;rw[hW0]at o1 b1;rw[hX]at o1;generalize (madeCells #[.int .i64 0,.int .i64 0] (n*2)).toList=ys at o1;have HO1:Hid (W0.ownsRow X 52 2 (.slice (some ⟨X,0,none⟩) n n) n ys/\Below w.heap.size w W0/\w.heap.size=X):=⟨o1,b1,hX⟩;clear ho hn o1 b1;go_enter Tryz.func153,Tryz.ntmps153;go_upto_region 2 with fail;try simp only[hW0,hX]
 clear hmk hW0 hX hi hz0 hz1 hz2;go_upto_region 3 with fail;go_loopw [13] (fun i wr=>∃(q:Nat) (xs:List Value),i=.int .i64 (q:Int)/\q<=n/\wr.ownsRow X 52 2 (.slice (some ⟨X,0,none⟩) n n) n xs/\Below w.heap.size w wr/\Hid (zfH xs ((l.take q).map fun x=>(x,role)))) (fun i _=>n-(intOf i).toNat)
 case atStart=>exact⟨0,ys,rfl,yj9 _,HO1.out.1,HO1.out.2.1,fun i x h=>by simp at h⟩
 case round=>
  obtain⟨q,xs,rfl,hq,hown,hb,hP⟩:=hrel;have HW:Hid (wr.ownsRow X 52 2 (.slice (some ⟨X,0,none⟩) n n) n xs/\Below w.heap.size w wr):=⟨hown,hb⟩;by_cases hlt:q<n
  ·obtain⟨g,x,hva,hc,hx⟩:=HC.out q wr hb hlt;subst hva;have hqi:(q:Int)<(n:Int):=by omega
   have hq0:(0:Int)<=(q:Int):=by omega
   have HL:Hid (l[q]?=some x):=hx;have hlen:=hown.1;have hf:=hown.frozenAt;obtain⟨u0,hu0⟩:∃ u,xs[q*2]?=some u:=⟨_,yd9 (by omega)⟩
   obtain⟨u1,hu1⟩:∃ u,xs[q*2+1]?=some u:=⟨_,yd9 (by omega)⟩
   have c0:=za9 hown hu0;have c1:=za9 hown hu1;have f0:=hf (q*2);have f1:=hf (q*2+1);have HS:Hid (((wr.setCell ⟨X,q*2,none⟩ (.int .i64 x)).setCell ⟨X,q*2+1,none⟩ (.int .i64 role)).ownsRow X 52 2 (.slice (some ⟨X,0,none⟩) n n) n ((xs.set (q*2) (.int .i64 x)).set (q*2+1) (.int .i64 role))/\Below w.heap.size w ((wr.setCell ⟨X,q*2,none⟩ (.int .i64 x)).setCell ⟨X,q*2+1,none⟩ (.int .i64 role))/\zfH ((xs.set (q*2) (.int .i64 x)).set (q*2+1) (.int .i64 role)) ((l.take (q+1)).map fun x=>(x,role))):=by
    obtain⟨s1,g1⟩:=HW.out.1.stored (q*2) (.int .i64 x);obtain⟨s2,g2⟩:=s1.stored (q*2+1) (.int .i64 role);have hX:=HO1.out.2.2;have d1:=HW.out.2.grown g1 HW.out.2.size (fun k e=>by injection e with e;omega)
    have d2:=d1.grown g2 d1.size (fun k e=>by injection e with e;omega)
    refine⟨s2,d2,fun i y hy=>?_⟩;rw[List.take_add_one,HL.out,List.map_append]at hy;have hlq:((l.take q).map fun x=>(x,role)).length=q:=by rw[List.length_map,List.length_take,HN.out];omega
    rcases Nat.lt_trichotomy i q with k|k|k
    ·rw[List.getElem?_append_left (by omega)]at hy
     obtain⟨e1,e2⟩:=hP.out i y hy;exact⟨by rw[List.getElem?_set_ne (by omega),List.getElem?_set_ne (by omega)];exact e1,by rw[List.getElem?_set_ne (by omega),List.getElem?_set_ne (by omega)];exact e2⟩
    ·subst k;rw[List.getElem?_append_right (by omega),hlq,Nat.sub_self]at hy
     simp at hy;subst hy;exact⟨by rw[List.getElem?_set_ne (by omega),List.getElem?_set_self (by omega)],by rw[List.getElem?_set_self (by rw[List.length_set];omega)]⟩
    ·rw[List.getElem?_append_right (by omega),List.getElem?_eq_none (by rw[hlq];simp;omega)]at hy
     cases hy
   clear hown hb hP hx hf hu0 hu1;go_wp2;go_roundw
   case rel=>exact⟨q+1,_,by go_num,by omega,HS.out.1,HS.out.2.1,HS.out.2.2⟩
   case measure=>simp[intOf];omega
  ·have hge:decide ((q:Int)<(n:Int))=false:=ya9 (by omega)
   have hge':decide (q<n)=false:=ya9 (by omega)
   have HE:Hid (zfN w.heap.size (.slice (some ⟨X,0,none⟩) n n) (l.map fun x=>(x,role)) wr/\Below w.heap.size w wr):=by
    have e:q=n:=by omega
    have hl:=HN.out;refine⟨⟨xs,?_,?_⟩,HW.out.2⟩
    ·rw[List.length_map,hl,HO1.out.2.2];exact HW.out.1
    ·have:=hP.out;rw[List.take_of_length_le (by omega)]at this
     exact this
   clear hown hb hP;go_wp2;go_returns;exact⟨_,rfl,HE.out.1,HE.out.2⟩
end Go.Proofs.YtggjeepbgpfcpaaGreat
