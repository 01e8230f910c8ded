/- Part 49. -/
import Derived.Test.YtdbekjiognpgnaaGreatPbu
import Derived.Test.YtdbekjiognpgnaaGreatPbv
set_option maxHeartbeats 16000000
set_option maxRecDepth 100000
set_option linter.unusedVariables false
namespace Go.Proofs.YtdbekjiognpgnaaGreat
open Go.RowKit Go.Sort
theorem zfz{W:World}(B:Nat)(e:TypeId)(size:Nat):W.ownsRow B e size (.slice none 0 0) 0 []:=⟨by simp,.inl ⟨rfl,rfl⟩⟩
theorem zfA{W:World}{B B1 B2:Nat}{x p:z4Q}{l1 n1 lv nv:Value}(h1:W.ownsRow B1 3 1 l1 x.list.length (x.list.map (Value.int .i64)))(h2:W.ownsRow B2 9 1 n1 x.names.length (x.names.map Value.string))(hl:W.ownsRow B 3 1 lv p.list.length (p.list.map (Value.int .i64)))(hn:W.ownsRow B 9 1 nv p.names.length (p.names.map Value.string))(hs:zdv x p):
  Calls Tryz.prog 18 #[.agg #[.int .i64 x.kind,.int .i64 x.a,.int .i64 x.b,.int .i64 x.c,l1,n1,.int .u64 (x.num:Int),.int .i64 x.pos],.agg #[.int .i64 p.kind,.int .i64 p.a,.int .i64 p.b,.int .i64 p.c,lv,nv,.int .u64 (p.num:Int),.int .i64 p.pos]] W fun e w'=>e=.returned (.bool true)/\Below W.heap.size W w':=by
 refine(zdE 0 0 x p l1 n1 lv nv W (z8E h1 (yj9 _)) (z8E h2 (yj9 _)) (z8E hl (yj9 _)) (z8E hn (yj9 _))).mono ?_;rintro e w' ⟨r,rfl,hr,hb⟩;have e1:r=true:=hr.2 hs;rw[e1];exact⟨rfl,hb⟩
theorem zfB{w:World}{B:Nat}{lv nv:Value}(pos:Int)(u:Nat)(hl:w.ownsRow B 3 1 lv 0 [])(hn:w.ownsRow B 9 1 nv 0 [])(hp0:0<=pos)(hp1:pos<=600)(hu:u<9218868437227405312):
  Calls Tryz.prog 15 #[.agg #[.int .i64 1,.int .i64 0,.int .i64 0,.int .i64 0,lv,nv,.int .u64 (u:Int),.int .i64 pos]] w fun e w'=>e=.returned (.bool true)/\Below w.heap.size w w':=by
 obtain⟨la,lc,rfl⟩:=z8A hl;obtain⟨na,nc,rfl⟩:=z8A hn;refine zeU 1 0 0 0 (u:Int) pos (zeE (u:Int)) (fun W hW=>zeV 0 0 0 (u:Int) pos) (fun W hW=>?_) (fun W hW=>zen 1 0 0 0 (u:Int) ⟨#[]⟩ (la:=none) (m:=0) (lc:=0) (na:=none) (q:=0) (nc:=0) (by omega)) hp0 hp1
 refine(zfj (w:=W) 1 0 0 0 (u:Int) ⟨#[]⟩ (la:=none) (m:=0) (lc:=0) (na:=none) (q:=0) (nc:=0)).mono ?_;rintro e w1 ⟨rfl,b1⟩;exact⟨_,rfl,fun W2 h2=>zfA (x:=⟨1,0,0,0,[],[],u,0⟩) (p:=⟨1,0,0,0,[],[],u,pos⟩) (zfz 0 _ _) (zfz 0 _ _) (z8B hl ((hW.trans (b1.mono hW.size)).trans (h2.mono (yi9 hW.size b1.size)))) (z8B hn ((hW.trans (b1.mono hW.size)).trans (h2.mono (yi9 hW.size b1.size)))) ⟨rfl,rfl,rfl,rfl,rfl,rfl,rfl⟩,b1⟩
theorem zfC{w:World}{B:Nat}{lv nv:Value}(pos:Int)(t:ByteArray)(hl:w.ownsRow B 3 1 lv 0 [])(hn:w.ownsRow B 9 1 nv 1 [.string t])(hp0:0<=pos)(hp1:pos<=600)(ht:z5T t.data.toList)(h40:t.size<=40):
  Calls Tryz.prog 15 #[.agg #[.int .i64 2,.int .i64 0,.int .i64 0,.int .i64 0,lv,nv,.int .u64 0,.int .i64 pos]] w fun e w'=>e=.returned (.bool true)/\Below w.heap.size w w':=by
 obtain⟨la,lc,rfl⟩:=z8A hl;obtain⟨na,nc,rfl⟩:=z8A hn;obtain⟨gl,rfl,hc⟩:=zed hn (show[Value.string t][0]?=some (.string t)from rfl);refine zeU 2 0 0 0 0 pos (zeF t) (fun W hW=>zeW 0 0 0 0 pos ((hW.cell (p:=⟨gl,0,none⟩) (World.block_lt_of_cell? w _ hc)).trans hc)) (fun W hW=>?_) (fun W hW=>zeo 2 0 0 0 0 t (la:=none) (m:=0) (lc:=0) (na:=none) (q:=0) (nc:=0) ht h40) hp0 hp1;refine(zfk (w:=W) 2 0 0 0 0 t (la:=none) (m:=0) (lc:=0) (na:=none) (q:=0) (nc:=0)).mono ?_;rintro e w1 ⟨g1,rfl,ho1,b1⟩;exact⟨_,rfl,fun W2 h2=>zfA (x:=⟨2,0,0,0,[],[t],0,0⟩) (p:=⟨2,0,0,0,[],[t],0,pos⟩) (zfz 0 _ _) (z8B ho1 h2) (z8B hl ((hW.trans (b1.mono hW.size)).trans (h2.mono (yi9 hW.size b1.size)))) (z8B hn ((hW.trans (b1.mono hW.size)).trans (h2.mono (yi9 hW.size b1.size)))) ⟨rfl,rfl,rfl,rfl,rfl,rfl,rfl⟩,b1⟩
theorem zfD{w:World}{B:Nat}{lv nv:Value}(pos:Int)(hl:w.ownsRow B 3 1 lv 0 [])(hn:w.ownsRow B 9 1 nv 0 [])(hp0:0<=pos)(hp1:pos<=600):
  Calls Tryz.prog 15 #[.agg #[.int .i64 3,.int .i64 0,.int .i64 0,.int .i64 0,lv,nv,.int .u64 0,.int .i64 pos]] w fun e w'=>e=.returned (.bool true)/\Below w.heap.size w w':=by
 obtain⟨la,lc,rfl⟩:=z8A hl;obtain⟨na,nc,rfl⟩:=z8A hn;refine zeU 3 0 0 0 0 pos (zeG 3) (fun W hW=>zeX 0 0 0 0 pos) (fun W hW=>?_) (fun W hW=>zep 3 0 0 0 0 ⟨#[]⟩ (la:=none) (m:=0) (lc:=0) (na:=none) (q:=0) (nc:=0)) hp0 hp1;refine(zfl (w:=W) 3 0 0 0 0 ⟨#[]⟩ (la:=none) (m:=0) (lc:=0) (na:=none) (q:=0) (nc:=0)).mono ?_;rintro e w1 ⟨rfl,b1⟩;exact⟨_,rfl,fun W2 h2=>zfA (x:=⟨3,0,0,0,[],[],0,0⟩) (p:=⟨3,0,0,0,[],[],0,pos⟩) (zfz 0 _ _) (zfz 0 _ _) (z8B hl ((hW.trans (b1.mono hW.size)).trans (h2.mono (yi9 hW.size b1.size)))) (z8B hn ((hW.trans (b1.mono hW.size)).trans (h2.mono (yi9 hW.size b1.size)))) ⟨rfl,rfl,rfl,rfl,rfl,rfl,rfl⟩,b1⟩
theorem zfE{w:World}{B:Nat}{lv nv:Value}(pos:Int)(hl:w.ownsRow B 3 1 lv 0 [])(hn:w.ownsRow B 9 1 nv 0 [])(hp0:0<=pos)(hp1:pos<=600):
  Calls Tryz.prog 15 #[.agg #[.int .i64 4,.int .i64 0,.int .i64 0,.int .i64 0,lv,nv,.int .u64 0,.int .i64 pos]] w fun e w'=>e=.returned (.bool true)/\Below w.heap.size w w':=by
 obtain⟨la,lc,rfl⟩:=z8A hl;obtain⟨na,nc,rfl⟩:=z8A hn;refine zeU 4 0 0 0 0 pos (zeG 4) (fun W hW=>zeY 0 0 0 0 pos) (fun W hW=>?_) (fun W hW=>zep 4 0 0 0 0 ⟨#[]⟩ (la:=none) (m:=0) (lc:=0) (na:=none) (q:=0) (nc:=0)) hp0 hp1;refine(zfl (w:=W) 4 0 0 0 0 ⟨#[]⟩ (la:=none) (m:=0) (lc:=0) (na:=none) (q:=0) (nc:=0)).mono ?_;rintro e w1 ⟨rfl,b1⟩;exact⟨_,rfl,fun W2 h2=>zfA (x:=⟨4,0,0,0,[],[],0,0⟩) (p:=⟨4,0,0,0,[],[],0,pos⟩) (zfz 0 _ _) (zfz 0 _ _) (z8B hl ((hW.trans (b1.mono hW.size)).trans (h2.mono (yi9 hW.size b1.size)))) (z8B hn ((hW.trans (b1.mono hW.size)).trans (h2.mono (yi9 hW.size b1.size)))) ⟨rfl,rfl,rfl,rfl,rfl,rfl,rfl⟩,b1⟩
theorem zfF{w:World}{B:Nat}{lv nv:Value}(pos:Int)(hl:w.ownsRow B 3 1 lv 0 [])(hn:w.ownsRow B 9 1 nv 0 [])(hp0:0<=pos)(hp1:pos<=600):
  Calls Tryz.prog 15 #[.agg #[.int .i64 5,.int .i64 0,.int .i64 0,.int .i64 0,lv,nv,.int .u64 0,.int .i64 pos]] w fun e w'=>e=.returned (.bool true)/\Below w.heap.size w w':=by
 obtain⟨la,lc,rfl⟩:=z8A hl;obtain⟨na,nc,rfl⟩:=z8A hn;refine zeU 5 0 0 0 0 pos (zeG 5) (fun W hW=>zeZ 0 0 0 0 pos) (fun W hW=>?_) (fun W hW=>zep 5 0 0 0 0 ⟨#[]⟩ (la:=none) (m:=0) (lc:=0) (na:=none) (q:=0) (nc:=0)) hp0 hp1;refine(zfl (w:=W) 5 0 0 0 0 ⟨#[]⟩ (la:=none) (m:=0) (lc:=0) (na:=none) (q:=0) (nc:=0)).mono ?_;rintro e w1 ⟨rfl,b1⟩;exact⟨_,rfl,fun W2 h2=>zfA (x:=⟨5,0,0,0,[],[],0,0⟩) (p:=⟨5,0,0,0,[],[],0,pos⟩) (zfz 0 _ _) (zfz 0 _ _) (z8B hl ((hW.trans (b1.mono hW.size)).trans (h2.mono (yi9 hW.size b1.size)))) (z8B hn ((hW.trans (b1.mono hW.size)).trans (h2.mono (yi9 hW.size b1.size)))) ⟨rfl,rfl,rfl,rfl,rfl,rfl,rfl⟩,b1⟩
theorem zfG{w:World}{B:Nat}{lv nv:Value}(pos:Int)(t:ByteArray)(hl:w.ownsRow B 3 1 lv 0 [])(hn:w.ownsRow B 9 1 nv 1 [.string t])(hp0:0<=pos)(hp1:pos<=600)(ht:z5S t):
  Calls Tryz.prog 15 #[.agg #[.int .i64 6,.int .i64 0,.int .i64 0,.int .i64 0,lv,nv,.int .u64 0,.int .i64 pos]] w fun e w'=>e=.returned (.bool true)/\Below w.heap.size w w':=by
 obtain⟨la,lc,rfl⟩:=z8A hl;obtain⟨na,nc,rfl⟩:=z8A hn;obtain⟨gl,rfl,hc⟩:=zed hn (show[Value.string t][0]?=some (.string t)from rfl);refine zeU 6 0 0 0 0 pos (zeH t) (fun W hW=>zf0 0 0 0 0 pos ((hW.cell (p:=⟨gl,0,none⟩) (World.block_lt_of_cell? w _ hc)).trans hc)) (fun W hW=>?_) (fun W hW=>zeq 6 0 0 0 0 t (la:=none) (m:=0) (lc:=0) (na:=none) (q:=0) (nc:=0) ht) hp0 hp1;refine(zfm (w:=W) 6 0 0 0 0 t (la:=none) (m:=0) (lc:=0) (na:=none) (q:=0) (nc:=0)).mono ?_;rintro e w1 ⟨g1,rfl,ho1,b1⟩;exact⟨_,rfl,fun W2 h2=>zfA (x:=⟨6,0,0,0,[],[t],0,0⟩) (p:=⟨6,0,0,0,[],[t],0,pos⟩) (zfz 0 _ _) (z8B ho1 h2) (z8B hl ((hW.trans (b1.mono hW.size)).trans (h2.mono (yi9 hW.size b1.size)))) (z8B hn ((hW.trans (b1.mono hW.size)).trans (h2.mono (yi9 hW.size b1.size)))) ⟨rfl,rfl,rfl,rfl,rfl,rfl,rfl⟩,b1⟩
theorem zfH{w:World}{B:Nat}{lv nv:Value}(a:Int)(pos:Int)(hl:w.ownsRow B 3 1 lv 0 [])(hn:w.ownsRow B 9 1 nv 0 [])(hp0:0<=pos)(hp1:pos<=600):
  Calls Tryz.prog 15 #[.agg #[.int .i64 7,.int .i64 a,.int .i64 0,.int .i64 0,lv,nv,.int .u64 0,.int .i64 pos]] w fun e w'=>e=.returned (.bool true)/\Below w.heap.size w w':=by
 obtain⟨la,lc,rfl⟩:=z8A hl;obtain⟨na,nc,rfl⟩:=z8A hn;refine zeU 7 a 0 0 0 pos (zeI 7 a) (fun W hW=>zf1 a 0 0 0 pos) (fun W hW=>?_) (fun W hW=>zer 7 a 0 0 0 ⟨#[]⟩ (la:=none) (m:=0) (lc:=0) (na:=none) (q:=0) (nc:=0)) hp0 hp1;refine(zfn (w:=W) 7 a 0 0 0 ⟨#[]⟩ (la:=none) (m:=0) (lc:=0) (na:=none) (q:=0) (nc:=0)).mono ?_;rintro e w1 ⟨rfl,b1⟩;exact⟨_,rfl,fun W2 h2=>zfA (x:=⟨7,a,0,0,[],[],0,0⟩) (p:=⟨7,a,0,0,[],[],0,pos⟩) (zfz 0 _ _) (zfz 0 _ _) (z8B hl ((hW.trans (b1.mono hW.size)).trans (h2.mono (yi9 hW.size b1.size)))) (z8B hn ((hW.trans (b1.mono hW.size)).trans (h2.mono (yi9 hW.size b1.size)))) ⟨rfl,rfl,rfl,rfl,rfl,rfl,rfl⟩,b1⟩
theorem zfI{w:World}{B:Nat}{lv nv:Value}(a:Int)(pos:Int)(hl:w.ownsRow B 3 1 lv 0 [])(hn:w.ownsRow B 9 1 nv 0 [])(hp0:0<=pos)(hp1:pos<=600):
  Calls Tryz.prog 15 #[.agg #[.int .i64 8,.int .i64 a,.int .i64 0,.int .i64 0,lv,nv,.int .u64 0,.int .i64 pos]] w fun e w'=>e=.returned (.bool true)/\Below w.heap.size w w':=by
 obtain⟨la,lc,rfl⟩:=z8A hl;obtain⟨na,nc,rfl⟩:=z8A hn;refine zeU 8 a 0 0 0 pos (zeI 8 a) (fun W hW=>zf2 a 0 0 0 pos) (fun W hW=>?_) (fun W hW=>zer 8 a 0 0 0 ⟨#[]⟩ (la:=none) (m:=0) (lc:=0) (na:=none) (q:=0) (nc:=0)) hp0 hp1;refine(zfn (w:=W) 8 a 0 0 0 ⟨#[]⟩ (la:=none) (m:=0) (lc:=0) (na:=none) (q:=0) (nc:=0)).mono ?_;rintro e w1 ⟨rfl,b1⟩;exact⟨_,rfl,fun W2 h2=>zfA (x:=⟨8,a,0,0,[],[],0,0⟩) (p:=⟨8,a,0,0,[],[],0,pos⟩) (zfz 0 _ _) (zfz 0 _ _) (z8B hl ((hW.trans (b1.mono hW.size)).trans (h2.mono (yi9 hW.size b1.size)))) (z8B hn ((hW.trans (b1.mono hW.size)).trans (h2.mono (yi9 hW.size b1.size)))) ⟨rfl,rfl,rfl,rfl,rfl,rfl,rfl⟩,b1⟩
theorem zfJ{w:World}{B:Nat}{lv nv:Value}(a:Int)(b:Int)(c:Int)(pos:Int)(hl:w.ownsRow B 3 1 lv 0 [])(hn:w.ownsRow B 9 1 nv 0 [])(hp0:0<=pos)(hp1:pos<=600)(hc1:1<=c)(hc2:c<=11):
  Calls Tryz.prog 15 #[.agg #[.int .i64 9,.int .i64 a,.int .i64 b,.int .i64 c,lv,nv,.int .u64 0,.int .i64 pos]] w fun e w'=>e=.returned (.bool true)/\Below w.heap.size w w':=by
 obtain⟨la,lc,rfl⟩:=z8A hl;obtain⟨na,nc,rfl⟩:=z8A hn;refine zeU 9 a b c 0 pos (zeJ c a b) (fun W hW=>zf3 a b c 0 pos) (fun W hW=>?_) (fun W hW=>zes 9 a b c 0 ⟨#[]⟩ (la:=none) (m:=0) (lc:=0) (na:=none) (q:=0) (nc:=0) hc1 hc2) hp0 hp1;refine(zfo (w:=W) 9 a b c 0 ⟨#[]⟩ (la:=none) (m:=0) (lc:=0) (na:=none) (q:=0) (nc:=0)).mono ?_;rintro e w1 ⟨rfl,b1⟩;exact⟨_,rfl,fun W2 h2=>zfA (x:=⟨9,a,b,c,[],[],0,0⟩) (p:=⟨9,a,b,c,[],[],0,pos⟩) (zfz 0 _ _) (zfz 0 _ _) (z8B hl ((hW.trans (b1.mono hW.size)).trans (h2.mono (yi9 hW.size b1.size)))) (z8B hn ((hW.trans (b1.mono hW.size)).trans (h2.mono (yi9 hW.size b1.size)))) ⟨rfl,rfl,rfl,rfl,rfl,rfl,rfl⟩,b1⟩
theorem zfK{w:World}{B:Nat}{lv nv:Value}(a:Int)(b:Int)(pos:Int)(hl:w.ownsRow B 3 1 lv 0 [])(hn:w.ownsRow B 9 1 nv 0 [])(hp0:0<=pos)(hp1:pos<=600):
  Calls Tryz.prog 15 #[.agg #[.int .i64 10,.int .i64 a,.int .i64 b,.int .i64 0,lv,nv,.int .u64 0,.int .i64 pos]] w fun e w'=>e=.returned (.bool true)/\Below w.heap.size w w':=by
 obtain⟨la,lc,rfl⟩:=z8A hl;obtain⟨na,nc,rfl⟩:=z8A hn;refine zeU 10 a b 0 0 pos (zeK 10 a b) (fun W hW=>zf4 a b 0 0 pos) (fun W hW=>?_) (fun W hW=>zet 10 a b 0 0 ⟨#[]⟩ (la:=none) (m:=0) (lc:=0) (na:=none) (q:=0) (nc:=0)) hp0 hp1;refine(zfp (w:=W) 10 a b 0 0 ⟨#[]⟩ (la:=none) (m:=0) (lc:=0) (na:=none) (q:=0) (nc:=0)).mono ?_;rintro e w1 ⟨rfl,b1⟩;exact⟨_,rfl,fun W2 h2=>zfA (x:=⟨10,a,b,0,[],[],0,0⟩) (p:=⟨10,a,b,0,[],[],0,pos⟩) (zfz 0 _ _) (zfz 0 _ _) (z8B hl ((hW.trans (b1.mono hW.size)).trans (h2.mono (yi9 hW.size b1.size)))) (z8B hn ((hW.trans (b1.mono hW.size)).trans (h2.mono (yi9 hW.size b1.size)))) ⟨rfl,rfl,rfl,rfl,rfl,rfl,rfl⟩,b1⟩
theorem zfL{w:World}{B:Nat}{lv nv:Value}(a:Int)(b:Int)(pos:Int)(hl:w.ownsRow B 3 1 lv 0 [])(hn:w.ownsRow B 9 1 nv 0 [])(hp0:0<=pos)(hp1:pos<=600):
  Calls Tryz.prog 15 #[.agg #[.int .i64 11,.int .i64 a,.int .i64 b,.int .i64 0,lv,nv,.int .u64 0,.int .i64 pos]] w fun e w'=>e=.returned (.bool true)/\Below w.heap.size w w':=by
 obtain⟨la,lc,rfl⟩:=z8A hl;obtain⟨na,nc,rfl⟩:=z8A hn;refine zeU 11 a b 0 0 pos (zeK 11 a b) (fun W hW=>zf5 a b 0 0 pos) (fun W hW=>?_) (fun W hW=>zet 11 a b 0 0 ⟨#[]⟩ (la:=none) (m:=0) (lc:=0) (na:=none) (q:=0) (nc:=0)) hp0 hp1;refine(zfp (w:=W) 11 a b 0 0 ⟨#[]⟩ (la:=none) (m:=0) (lc:=0) (na:=none) (q:=0) (nc:=0)).mono ?_;rintro e w1 ⟨rfl,b1⟩;exact⟨_,rfl,fun W2 h2=>zfA (x:=⟨11,a,b,0,[],[],0,0⟩) (p:=⟨11,a,b,0,[],[],0,pos⟩) (zfz 0 _ _) (zfz 0 _ _) (z8B hl ((hW.trans (b1.mono hW.size)).trans (h2.mono (yi9 hW.size b1.size)))) (z8B hn ((hW.trans (b1.mono hW.size)).trans (h2.mono (yi9 hW.size b1.size)))) ⟨rfl,rfl,rfl,rfl,rfl,rfl,rfl⟩,b1⟩
theorem zfM{w:World}{B:Nat}{lv nv:Value}(a:Int)(pos:Int)(L:List Int)(hl:w.ownsRow B 3 1 lv L.length (L.map (Value.int .i64)))(hn:w.ownsRow B 9 1 nv 0 [])(hp0:0<=pos)(hp1:pos<=600):
  Calls Tryz.prog 15 #[.agg #[.int .i64 12,.int .i64 a,.int .i64 0,.int .i64 0,lv,nv,.int .u64 0,.int .i64 pos]] w fun e w'=>e=.returned (.bool true)/\Below w.heap.size w w':=by
 obtain⟨la,lc,rfl⟩:=z8A hl;obtain⟨na,nc,rfl⟩:=z8A hn;refine zeU 12 a 0 0 0 pos (zeL a la L.length lc) (fun W hW=>zf6 a 0 0 0 pos) (fun W hW=>?_) (fun W hW=>zeu 12 a 0 0 0 ⟨#[]⟩ (la:=la) (m:=L.length) (lc:=lc) (na:=none) (q:=0) (nc:=0)) hp0 hp1;refine(zfq (w:=W) 12 a 0 0 0 ⟨#[]⟩ (la:=la) (m:=L.length) (lc:=lc) (na:=none) (q:=0) (nc:=0)).mono ?_;rintro e w1 ⟨rfl,b1⟩;exact⟨_,rfl,fun W2 h2=>zfA (x:=⟨12,a,0,0,L,[],0,0⟩) (p:=⟨12,a,0,0,L,[],0,pos⟩) (z8B hl ((hW.trans (b1.mono hW.size)).trans (h2.mono (yi9 hW.size b1.size)))) (zfz 0 _ _) (z8B hl ((hW.trans (b1.mono hW.size)).trans (h2.mono (yi9 hW.size b1.size)))) (z8B hn ((hW.trans (b1.mono hW.size)).trans (h2.mono (yi9 hW.size b1.size)))) ⟨rfl,rfl,rfl,rfl,rfl,rfl,rfl⟩,b1⟩
theorem zfN{w:World}{B:Nat}{lv nv:Value}(a:Int)(pos:Int)(Q:List ByteArray)(hl:w.ownsRow B 3 1 lv 0 [])(hn:w.ownsRow B 9 1 nv Q.length (Q.map Value.string))(hp0:0<=pos)(hp1:pos<=600)(h4:Q.length<=4)(hQ:∀ x∈Q,z5S x):
  Calls Tryz.prog 15 #[.agg #[.int .i64 13,.int .i64 a,.int .i64 0,.int .i64 0,lv,nv,.int .u64 0,.int .i64 pos]] w fun e w'=>e=.returned (.bool true)/\Below w.heap.size w w':=by
 obtain⟨la,lc,rfl⟩:=z8A hl;obtain⟨na,nc,rfl⟩:=z8A hn;refine zeU 13 a 0 0 0 pos (zeM a na Q.length nc) (fun W hW=>zf7 a 0 0 0 pos) (fun W hW=>?_) (fun W hW=>zev 13 a 0 0 0 ⟨#[]⟩ (la:=none) (m:=0) (lc:=0) (na:=na) (q:=0) (nc:=nc) (z8B hn hW) h4 hQ) hp0 hp1;refine(zfr (w:=W) 13 a 0 0 0 ⟨#[]⟩ (la:=none) (m:=0) (lc:=0) (na:=na) (q:=Q.length) (nc:=nc)).mono ?_;rintro e w1 ⟨rfl,b1⟩;exact⟨_,rfl,fun W2 h2=>zfA (x:=⟨13,a,0,0,[],Q,0,0⟩) (p:=⟨13,a,0,0,[],Q,0,pos⟩) (zfz 0 _ _) (z8B hn ((hW.trans (b1.mono hW.size)).trans (h2.mono (yi9 hW.size b1.size)))) (z8B hl ((hW.trans (b1.mono hW.size)).trans (h2.mono (yi9 hW.size b1.size)))) (z8B hn ((hW.trans (b1.mono hW.size)).trans (h2.mono (yi9 hW.size b1.size)))) ⟨rfl,rfl,rfl,rfl,rfl,rfl,rfl⟩,b1⟩
theorem zfO{w:World}{B:Nat}{lv nv:Value}(a:Int)(b:Int)(pos:Int)(t:ByteArray)(hl:w.ownsRow B 3 1 lv 0 [])(hn:w.ownsRow B 9 1 nv 1 [.string t])(hp0:0<=pos)(hp1:pos<=600)(ht:z5S t)(hb:b=0\/b=1):
  Calls Tryz.prog 15 #[.agg #[.int .i64 20,.int .i64 a,.int .i64 b,.int .i64 0,lv,nv,.int .u64 0,.int .i64 pos]] w fun e w'=>e=.returned (.bool true)/\Below w.heap.size w w':=by
 obtain⟨la,lc,rfl⟩:=z8A hl;obtain⟨na,nc,rfl⟩:=z8A hn;obtain⟨gl,rfl,hc⟩:=zed hn (show[Value.string t][0]?=some (.string t)from rfl);refine zeU 20 a b 0 0 pos (zeN t a b) (fun W hW=>zf8 a b 0 0 pos ((hW.cell (p:=⟨gl,0,none⟩) (World.block_lt_of_cell? w _ hc)).trans hc)) (fun W hW=>?_) (fun W hW=>zew 20 a b 0 0 t (la:=none) (m:=0) (lc:=0) (na:=none) (q:=0) (nc:=0) ht hb) hp0 hp1;refine(zfs (w:=W) 20 a b 0 0 t (la:=none) (m:=0) (lc:=0) (na:=none) (q:=0) (nc:=0)).mono ?_;rintro e w1 ⟨g1,rfl,ho1,b1⟩;exact⟨_,rfl,fun W2 h2=>zfA (x:=⟨20,a,b,0,[],[t],0,0⟩) (p:=⟨20,a,b,0,[],[t],0,pos⟩) (zfz 0 _ _) (z8B ho1 h2) (z8B hl ((hW.trans (b1.mono hW.size)).trans (h2.mono (yi9 hW.size b1.size)))) (z8B hn ((hW.trans (b1.mono hW.size)).trans (h2.mono (yi9 hW.size b1.size)))) ⟨rfl,rfl,rfl,rfl,rfl,rfl,rfl⟩,b1⟩
theorem zfP{w:World}{B:Nat}{lv nv:Value}(a:Int)(pos:Int)(t:ByteArray)(hl:w.ownsRow B 3 1 lv 0 [])(hn:w.ownsRow B 9 1 nv 1 [.string t])(hp0:0<=pos)(hp1:pos<=600)(ht:z5S t):
  Calls Tryz.prog 15 #[.agg #[.int .i64 21,.int .i64 a,.int .i64 0,.int .i64 0,lv,nv,.int .u64 0,.int .i64 pos]] w fun e w'=>e=.returned (.bool true)/\Below w.heap.size w w':=by
 obtain⟨la,lc,rfl⟩:=z8A hl;obtain⟨na,nc,rfl⟩:=z8A hn;obtain⟨gl,rfl,hc⟩:=zed hn (show[Value.string t][0]?=some (.string t)from rfl);refine zeU 21 a 0 0 0 pos (zeO t a) (fun W hW=>zf9 a 0 0 0 pos ((hW.cell (p:=⟨gl,0,none⟩) (World.block_lt_of_cell? w _ hc)).trans hc)) (fun W hW=>?_) (fun W hW=>zex 21 a 0 0 0 t (la:=none) (m:=0) (lc:=0) (na:=none) (q:=0) (nc:=0) ht) hp0 hp1;refine(zft (w:=W) 21 a 0 0 0 t (la:=none) (m:=0) (lc:=0) (na:=none) (q:=0) (nc:=0)).mono ?_;rintro e w1 ⟨g1,rfl,ho1,b1⟩;exact⟨_,rfl,fun W2 h2=>zfA (x:=⟨21,a,0,0,[],[t],0,0⟩) (p:=⟨21,a,0,0,[],[t],0,pos⟩) (zfz 0 _ _) (z8B ho1 h2) (z8B hl ((hW.trans (b1.mono hW.size)).trans (h2.mono (yi9 hW.size b1.size)))) (z8B hn ((hW.trans (b1.mono hW.size)).trans (h2.mono (yi9 hW.size b1.size)))) ⟨rfl,rfl,rfl,rfl,rfl,rfl,rfl⟩,b1⟩
theorem zfQ{w:World}{B:Nat}{lv nv:Value}(a:Int)(pos:Int)(hl:w.ownsRow B 3 1 lv 0 [])(hn:w.ownsRow B 9 1 nv 0 [])(hp0:0<=pos)(hp1:pos<=600):
  Calls Tryz.prog 15 #[.agg #[.int .i64 22,.int .i64 a,.int .i64 0,.int .i64 0,lv,nv,.int .u64 0,.int .i64 pos]] w fun e w'=>e=.returned (.bool true)/\Below w.heap.size w w':=by
 obtain⟨la,lc,rfl⟩:=z8A hl;obtain⟨na,nc,rfl⟩:=z8A hn;refine zeU 22 a 0 0 0 pos (zeP 22 a) (fun W hW=>zfa a 0 0 0 pos) (fun W hW=>?_) (fun W hW=>zey 22 a 0 0 0 ⟨#[]⟩ (la:=none) (m:=0) (lc:=0) (na:=none) (q:=0) (nc:=0)) hp0 hp1;refine(zfu (w:=W) 22 a 0 0 0 ⟨#[]⟩ (la:=none) (m:=0) (lc:=0) (na:=none) (q:=0) (nc:=0)).mono ?_;rintro e w1 ⟨rfl,b1⟩;exact⟨_,rfl,fun W2 h2=>zfA (x:=⟨22,a,0,0,[],[],0,0⟩) (p:=⟨22,a,0,0,[],[],0,pos⟩) (zfz 0 _ _) (zfz 0 _ _) (z8B hl ((hW.trans (b1.mono hW.size)).trans (h2.mono (yi9 hW.size b1.size)))) (z8B hn ((hW.trans (b1.mono hW.size)).trans (h2.mono (yi9 hW.size b1.size)))) ⟨rfl,rfl,rfl,rfl,rfl,rfl,rfl⟩,b1⟩
theorem zfR{w:World}{B:Nat}{lv nv:Value}(a:Int)(pos:Int)(hl:w.ownsRow B 3 1 lv 0 [])(hn:w.ownsRow B 9 1 nv 0 [])(hp0:0<=pos)(hp1:pos<=600):
  Calls Tryz.prog 15 #[.agg #[.int .i64 25,.int .i64 a,.int .i64 0,.int .i64 0,lv,nv,.int .u64 0,.int .i64 pos]] w fun e w'=>e=.returned (.bool true)/\Below w.heap.size w w':=by
 obtain⟨la,lc,rfl⟩:=z8A hl;obtain⟨na,nc,rfl⟩:=z8A hn;refine zeU 25 a 0 0 0 pos (zeP 25 a) (fun W hW=>zfb a 0 0 0 pos) (fun W hW=>?_) (fun W hW=>zey 25 a 0 0 0 ⟨#[]⟩ (la:=none) (m:=0) (lc:=0) (na:=none) (q:=0) (nc:=0)) hp0 hp1;refine(zfu (w:=W) 25 a 0 0 0 ⟨#[]⟩ (la:=none) (m:=0) (lc:=0) (na:=none) (q:=0) (nc:=0)).mono ?_;rintro e w1 ⟨rfl,b1⟩;exact⟨_,rfl,fun W2 h2=>zfA (x:=⟨25,a,0,0,[],[],0,0⟩) (p:=⟨25,a,0,0,[],[],0,pos⟩) (zfz 0 _ _) (zfz 0 _ _) (z8B hl ((hW.trans (b1.mono hW.size)).trans (h2.mono (yi9 hW.size b1.size)))) (z8B hn ((hW.trans (b1.mono hW.size)).trans (h2.mono (yi9 hW.size b1.size)))) ⟨rfl,rfl,rfl,rfl,rfl,rfl,rfl⟩,b1⟩
theorem zfS{w:World}{B:Nat}{lv nv:Value}(a:Int)(pos:Int)(hl:w.ownsRow B 3 1 lv 0 [])(hn:w.ownsRow B 9 1 nv 0 [])(hp0:0<=pos)(hp1:pos<=600):
  Calls Tryz.prog 15 #[.agg #[.int .i64 26,.int .i64 a,.int .i64 0,.int .i64 0,lv,nv,.int .u64 0,.int .i64 pos]] w fun e w'=>e=.returned (.bool true)/\Below w.heap.size w w':=by
 obtain⟨la,lc,rfl⟩:=z8A hl;obtain⟨na,nc,rfl⟩:=z8A hn;refine zeU 26 a 0 0 0 pos (zeP 26 a) (fun W hW=>zfc a 0 0 0 pos) (fun W hW=>?_) (fun W hW=>zey 26 a 0 0 0 ⟨#[]⟩ (la:=none) (m:=0) (lc:=0) (na:=none) (q:=0) (nc:=0)) hp0 hp1;refine(zfu (w:=W) 26 a 0 0 0 ⟨#[]⟩ (la:=none) (m:=0) (lc:=0) (na:=none) (q:=0) (nc:=0)).mono ?_;rintro e w1 ⟨rfl,b1⟩;exact⟨_,rfl,fun W2 h2=>zfA (x:=⟨26,a,0,0,[],[],0,0⟩) (p:=⟨26,a,0,0,[],[],0,pos⟩) (zfz 0 _ _) (zfz 0 _ _) (z8B hl ((hW.trans (b1.mono hW.size)).trans (h2.mono (yi9 hW.size b1.size)))) (z8B hn ((hW.trans (b1.mono hW.size)).trans (h2.mono (yi9 hW.size b1.size)))) ⟨rfl,rfl,rfl,rfl,rfl,rfl,rfl⟩,b1⟩
theorem zfT{w:World}{B:Nat}{lv nv:Value}(a:Int)(pos:Int)(hl:w.ownsRow B 3 1 lv 0 [])(hn:w.ownsRow B 9 1 nv 0 [])(hp0:0<=pos)(hp1:pos<=600):
  Calls Tryz.prog 15 #[.agg #[.int .i64 28,.int .i64 a,.int .i64 0,.int .i64 0,lv,nv,.int .u64 0,.int .i64 pos]] w fun e w'=>e=.returned (.bool true)/\Below w.heap.size w w':=by
 obtain⟨la,lc,rfl⟩:=z8A hl;obtain⟨na,nc,rfl⟩:=z8A hn;refine zeU 28 a 0 0 0 pos (zeP 28 a) (fun W hW=>zfd a 0 0 0 pos) (fun W hW=>?_) (fun W hW=>zey 28 a 0 0 0 ⟨#[]⟩ (la:=none) (m:=0) (lc:=0) (na:=none) (q:=0) (nc:=0)) hp0 hp1;refine(zfu (w:=W) 28 a 0 0 0 ⟨#[]⟩ (la:=none) (m:=0) (lc:=0) (na:=none) (q:=0) (nc:=0)).mono ?_;rintro e w1 ⟨rfl,b1⟩;exact⟨_,rfl,fun W2 h2=>zfA (x:=⟨28,a,0,0,[],[],0,0⟩) (p:=⟨28,a,0,0,[],[],0,pos⟩) (zfz 0 _ _) (zfz 0 _ _) (z8B hl ((hW.trans (b1.mono hW.size)).trans (h2.mono (yi9 hW.size b1.size)))) (z8B hn ((hW.trans (b1.mono hW.size)).trans (h2.mono (yi9 hW.size b1.size)))) ⟨rfl,rfl,rfl,rfl,rfl,rfl,rfl⟩,b1⟩
theorem zfU{w:World}{B:Nat}{lv nv:Value}(a:Int)(b:Int)(c:Int)(pos:Int)(hl:w.ownsRow B 3 1 lv 0 [])(hn:w.ownsRow B 9 1 nv 0 [])(hp0:0<=pos)(hp1:pos<=600):
  Calls Tryz.prog 15 #[.agg #[.int .i64 23,.int .i64 a,.int .i64 b,.int .i64 c,lv,nv,.int .u64 0,.int .i64 pos]] w fun e w'=>e=.returned (.bool true)/\Below w.heap.size w w':=by
 obtain⟨la,lc,rfl⟩:=z8A hl;obtain⟨na,nc,rfl⟩:=z8A hn;refine zeU 23 a b c 0 pos (zeQ a b c) (fun W hW=>zfe a b c 0 pos) (fun W hW=>?_) (fun W hW=>zez 23 a b c 0 ⟨#[]⟩ (la:=none) (m:=0) (lc:=0) (na:=none) (q:=0) (nc:=0)) hp0 hp1;refine(zfv (w:=W) 23 a b c 0 ⟨#[]⟩ (la:=none) (m:=0) (lc:=0) (na:=none) (q:=0) (nc:=0)).mono ?_;rintro e w1 ⟨rfl,b1⟩;exact⟨_,rfl,fun W2 h2=>zfA (x:=⟨23,a,b,c,[],[],0,0⟩) (p:=⟨23,a,b,c,[],[],0,pos⟩) (zfz 0 _ _) (zfz 0 _ _) (z8B hl ((hW.trans (b1.mono hW.size)).trans (h2.mono (yi9 hW.size b1.size)))) (z8B hn ((hW.trans (b1.mono hW.size)).trans (h2.mono (yi9 hW.size b1.size)))) ⟨rfl,rfl,rfl,rfl,rfl,rfl,rfl⟩,b1⟩
theorem zfV{w:World}{B:Nat}{lv nv:Value}(a:Int)(b:Int)(pos:Int)(hl:w.ownsRow B 3 1 lv 0 [])(hn:w.ownsRow B 9 1 nv 0 [])(hp0:0<=pos)(hp1:pos<=600):
  Calls Tryz.prog 15 #[.agg #[.int .i64 24,.int .i64 a,.int .i64 b,.int .i64 0,lv,nv,.int .u64 0,.int .i64 pos]] w fun e w'=>e=.returned (.bool true)/\Below w.heap.size w w':=by
 obtain⟨la,lc,rfl⟩:=z8A hl;obtain⟨na,nc,rfl⟩:=z8A hn;refine zeU 24 a b 0 0 pos (zeR a b) (fun W hW=>zff a b 0 0 pos) (fun W hW=>?_) (fun W hW=>zeA 24 a b 0 0 ⟨#[]⟩ (la:=none) (m:=0) (lc:=0) (na:=none) (q:=0) (nc:=0)) hp0 hp1;refine(zfw (w:=W) 24 a b 0 0 ⟨#[]⟩ (la:=none) (m:=0) (lc:=0) (na:=none) (q:=0) (nc:=0)).mono ?_;rintro e w1 ⟨rfl,b1⟩;exact⟨_,rfl,fun W2 h2=>zfA (x:=⟨24,a,b,0,[],[],0,0⟩) (p:=⟨24,a,b,0,[],[],0,pos⟩) (zfz 0 _ _) (zfz 0 _ _) (z8B hl ((hW.trans (b1.mono hW.size)).trans (h2.mono (yi9 hW.size b1.size)))) (z8B hn ((hW.trans (b1.mono hW.size)).trans (h2.mono (yi9 hW.size b1.size)))) ⟨rfl,rfl,rfl,rfl,rfl,rfl,rfl⟩,b1⟩
theorem zfW{w:World}{B:Nat}{lv nv:Value}(a:Int)(b:Int)(pos:Int)(t:ByteArray)(hl:w.ownsRow B 3 1 lv 0 [])(hn:w.ownsRow B 9 1 nv 1 [.string t])(hp0:0<=pos)(hp1:pos<=600)(ht:z5S t):
  Calls Tryz.prog 15 #[.agg #[.int .i64 27,.int .i64 a,.int .i64 b,.int .i64 0,lv,nv,.int .u64 0,.int .i64 pos]] w fun e w'=>e=.returned (.bool true)/\Below w.heap.size w w':=by
 obtain⟨la,lc,rfl⟩:=z8A hl;obtain⟨na,nc,rfl⟩:=z8A hn;obtain⟨gl,rfl,hc⟩:=zed hn (show[Value.string t][0]?=some (.string t)from rfl);refine zeU 27 a b 0 0 pos (zeS t a b) (fun W hW=>zfg a b 0 0 pos ((hW.cell (p:=⟨gl,0,none⟩) (World.block_lt_of_cell? w _ hc)).trans hc)) (fun W hW=>?_) (fun W hW=>zeB 27 a b 0 0 t (la:=none) (m:=0) (lc:=0) (na:=none) (q:=0) (nc:=0) ht) hp0 hp1;refine(zfx (w:=W) 27 a b 0 0 t (la:=none) (m:=0) (lc:=0) (na:=none) (q:=0) (nc:=0)).mono ?_;rintro e w1 ⟨g1,rfl,ho1,b1⟩;exact⟨_,rfl,fun W2 h2=>zfA (x:=⟨27,a,b,0,[],[t],0,0⟩) (p:=⟨27,a,b,0,[],[t],0,pos⟩) (zfz 0 _ _) (z8B ho1 h2) (z8B hl ((hW.trans (b1.mono hW.size)).trans (h2.mono (yi9 hW.size b1.size)))) (z8B hn ((hW.trans (b1.mono hW.size)).trans (h2.mono (yi9 hW.size b1.size)))) ⟨rfl,rfl,rfl,rfl,rfl,rfl,rfl⟩,b1⟩
theorem zfX{w:World}{B:Nat}{lv nv:Value}(pos:Int)(L:List Int)(hl:w.ownsRow B 3 1 lv L.length (L.map (Value.int .i64)))(hn:w.ownsRow B 9 1 nv 0 [])(hp0:0<=pos)(hp1:pos<=600):
  Calls Tryz.prog 15 #[.agg #[.int .i64 29,.int .i64 0,.int .i64 0,.int .i64 0,lv,nv,.int .u64 0,.int .i64 pos]] w fun e w'=>e=.returned (.bool true)/\Below w.heap.size w w':=by
 obtain⟨la,lc,rfl⟩:=z8A hl;obtain⟨na,nc,rfl⟩:=z8A hn;refine zeU 29 0 0 0 0 pos (zeT la L.length lc) (fun W hW=>zfh 0 0 0 0 pos) (fun W hW=>?_) (fun W hW=>zeC 29 0 0 0 0 ⟨#[]⟩ (la:=la) (m:=L.length) (lc:=lc) (na:=none) (q:=0) (nc:=0)) hp0 hp1;refine(zfy (w:=W) 29 0 0 0 0 ⟨#[]⟩ (la:=la) (m:=L.length) (lc:=lc) (na:=none) (q:=0) (nc:=0)).mono ?_;rintro e w1 ⟨rfl,b1⟩;exact⟨_,rfl,fun W2 h2=>zfA (x:=⟨29,0,0,0,L,[],0,0⟩) (p:=⟨29,0,0,0,L,[],0,pos⟩) (z8B hl ((hW.trans (b1.mono hW.size)).trans (h2.mono (yi9 hW.size b1.size)))) (zfz 0 _ _) (z8B hl ((hW.trans (b1.mono hW.size)).trans (h2.mono (yi9 hW.size b1.size)))) (z8B hn ((hW.trans (b1.mono hW.size)).trans (h2.mono (yi9 hW.size b1.size)))) ⟨rfl,rfl,rfl,rfl,rfl,rfl,rfl⟩,b1⟩
theorem zfY{w:World}{B:Nat}{p:z4Q}{lv nv:Value}(hp:z5Y p)(hl:w.ownsRow B 3 1 lv p.list.length (p.list.map (Value.int .i64)))(hn:w.ownsRow B 9 1 nv p.names.length (p.names.map Value.string)):
  Calls Tryz.prog 15 #[.agg #[.int .i64 p.kind,.int .i64 p.a,.int .i64 p.b,.int .i64 p.c,lv,nv,.int .u64 (p.num:Int),.int .i64 p.pos]] w fun e w'=>e=.returned (.bool true)/\Below w.heap.size w w':=by
 obtain⟨kind,a,b,c,list,names,num,pos⟩:=p;unfold z5Y at hp;simp only at hp hl hn ⊢;obtain⟨h0,h1,h⟩:=hp;rcases h with ⟨rfl,rfl,rfl,rfl,rfl,rfl,hu⟩|⟨rfl,rfl,rfl,rfl,rfl,rfl,t,rfl,h40,ht⟩|⟨hk,rfl,rfl,rfl,rfl,rfl,rfl⟩|⟨rfl,rfl,rfl,rfl,rfl,rfl,t,rfl,ht⟩|⟨hk,rfl,rfl,rfl,rfl,rfl⟩|⟨rfl,hc1,hc2,rfl,rfl,rfl⟩|⟨hk,rfl,rfl,rfl,rfl⟩|⟨rfl,rfl,rfl,h6,rfl,rfl⟩|⟨rfl,rfl,rfl,rfl,rfl,h4,hQ⟩|⟨rfl,hb,rfl,rfl,rfl,t,rfl,ht⟩|⟨rfl,rfl,rfl,rfl,rfl,t,rfl,ht⟩|⟨rfl,rfl,rfl,rfl⟩|⟨rfl,rfl,rfl,rfl,rfl⟩|⟨rfl,rfl,rfl,rfl,t,rfl,ht⟩|⟨rfl,rfl,rfl,rfl,rfl,rfl⟩
 ·exact zfB pos num hl hn h0 h1 hu
 ·exact zfC pos t hl hn h0 h1 ht h40
 ·rcases hk with rfl|rfl|rfl
  ·exact zfD pos hl hn h0 h1
  ·exact zfE pos hl hn h0 h1
  ·exact zfF pos hl hn h0 h1
 ·exact zfG pos t hl hn h0 h1 ht
 ·rcases hk with rfl|rfl|rfl|rfl|rfl|rfl
  ·exact zfH a pos hl hn h0 h1
  ·exact zfI a pos hl hn h0 h1
  ·exact zfQ a pos hl hn h0 h1
  ·exact zfR a pos hl hn h0 h1
  ·exact zfS a pos hl hn h0 h1
  ·exact zfT a pos hl hn h0 h1
 ·exact zfJ a b c pos hl hn h0 h1 hc1 hc2
 ·rcases hk with rfl|rfl
  ·exact zfK a b pos hl hn h0 h1
  ·exact zfL a b pos hl hn h0 h1
 ·exact zfM a pos list hl hn h0 h1
 ·exact zfN a pos names hl hn h0 h1 h4 hQ
 ·exact zfO a b pos t hl hn h0 h1 ht hb
 ·exact zfP a pos t hl hn h0 h1 ht
 ·exact zfU a b c pos hl hn h0 h1
 ·exact zfV a b pos hl hn h0 h1
 ·exact zfW a b pos t hl hn h0 h1 ht
 ·exact zfX pos list hl hn h0 h1
theorem zfZ{w:World}(a b c z pos:Int){la na:Option Addr}{m lc q nc:Nat}:
  Calls Tryz.prog 15 #[.agg #[.int .i64 30,.int .i64 a,.int .i64 b,.int .i64 c,.slice la m lc,.slice na q nc,.int .u64 z,.int .i64 pos]] w fun e w'=>e=.returned (.bool false)/\Below w.heap.size w w':=by
 have b0:Below w.heap.size w (w.alloc (.cells #[.int .i64 30,.int .i64 a,.int .i64 b,.int .i64 c,.slice la m lc,.slice na q nc,.int .u64 z,.int .i64 pos] 34)):=(yg9 _ _).alloc (yf9 _) _;have cF:=fun W=>zfi (w:=W) a b c z pos (la:=la) (na:=na) (m:=m) (lc:=lc) (q:=q) (nc:=nc);go_enter Tryz.func15,Tryz.ntmps15;go_wp2_with fail;refine(cF _).mono ?_;rintro e w1 ⟨rfl,b1⟩;have HB1:Hid (Below w.heap.size w w1):=b0.trans (b1.mono b0.size);clear b1 b0 cF;go_wp2;go_quiet (fail)
 go_wp2;go_returns;exact⟨rfl,below_drewN HB1.out _⟩
theorem Tryz.infoPart:(Tryz.prog.info? 52).map (fun i=>(i.zero,i.size,i.bytes))=some (some (.agg #[.int .i64 0,.int .i64 0]),2,16):=by kernel_rfl
def zg0(xs:List Value)(ps:List (Int × Int)):Prop:=∀(i:Nat) (x:Int × Int),ps[i]?=some x->xs[i*2]?=some (.int .i64 x.1)/\xs[i*2+1]?=some (.int .i64 x.2)
theorem zg1{xs:List Value}{ps:List (Int × Int)}(h:zg0 xs ps)(hl:xs.length=ps.length*2):∀ u∈xs,u.oneCell'=true:=by
 intro u hu;obtain⟨i,hi⟩:=List.mem_iff_getElem?.1 hu;have hlt:i<xs.length:=(List.getElem?_eq_some_iff.1 hi).1;obtain⟨x,hx⟩:∃ x,ps[i/2]?=some x:=⟨_,yd9 (by omega)⟩
 obtain⟨q1,q2⟩:=h (i/2) x hx;rcases (by omega:i=i/2*2\/i=i/2*2+1)with e|e<;>rw[e]at hi
 ·rw[q1]at hi;cases hi;rfl
 ·rw[q2]at hi;cases hi;rfl
theorem zg2{xs ys:List Value}{ps qs:List (Int × Int)}(h:zg0 xs ps)(hl:xs.length=ps.length*2)(k:zg0 ys qs):zg0 (xs++ys) (ps++qs):=by
 intro i x hx;rcases Nat.lt_or_ge i ps.length with e|e
 ·rw[List.getElem?_append_left e]at hx;obtain⟨a,b⟩:=h i x hx;exact⟨by rw[List.getElem?_append_left (by omega)];exact a,by rw[List.getElem?_append_left (by omega)];exact b⟩
 ·rw[List.getElem?_append_right e]at hx;obtain⟨a,b⟩:=k _ x hx;refine⟨?_,?_⟩
  ·rw[List.getElem?_append_right (by omega),show i*2-xs.length=(i-ps.length)*2 by omega];exact a
  ·rw[List.getElem?_append_right (by omega),show i*2+1-xs.length=(i-ps.length)*2+1 by omega];exact b
theorem zg3:zg0 [] []:=fun i x h=>by simp at h
theorem zg4(x r:Int):zg0 [.int .i64 x,.int .i64 r] [(x,r)]:=fun i y h=>by
 match i,h with
 | 0,h=>simp at h;subst h;exact⟨rfl,rfl⟩
theorem zg5(x r y q:Int):zg0 [.int .i64 x,.int .i64 r,.int .i64 y,.int .i64 q] [(x,r),(y,q)]:=zg2 (zg4 x r) rfl (zg4 y q)
def zg6(B:Nat)(v:Value)(ps:List (Int × Int))(w:World):Prop:=∃ xs,w.ownsRow B 52 2 v ps.length xs/\zg0 xs ps
theorem zg7{w:World}{B g:Nat}{cs:List Value}{ps:List (Int × Int)}(hg:w.heap[g]?=some (.cells cs.toArray 52))(hb:B<=g)(hl:cs.length=ps.length*2)(hm:ps.length<=maxLen)(h:zg0 cs ps):zg6 B (.slice (some ⟨g,0,none⟩) ps.length ps.length) ps w:=
 ⟨cs,⟨by rw[hl],.inr ⟨g,ps.length,cs.toArray,rfl,hb,hg,yf9 _,hm,by simp[hl],by simp[←hl]⟩⟩,h⟩
theorem zg8{w:World}{B:Nat}{v:Value}(l:List Int)(role:Int)(ho:w.ownsRow B 3 1 v l.length (l.map (Value.int .i64)))(hll:l.length<=10000):
  Calls Tryz.prog 153 #[v,.int .i64 role] w fun e w'=>∃ g,e=.returned (.slice (some ⟨g,0,none⟩) l.length l.length)/\zg6 w.heap.size (.slice (some ⟨g,0,none⟩) l.length l.length) (l.map fun x=>(x,role)) w'/\Below w.heap.size w w':=by
 obtain⟨va,vc,rfl⟩:=z8A ho;obtain⟨n,hn⟩:∃ n,l.length=n:=⟨_,rfl⟩;have HC:Hid (∀(q:Nat) (W:World),Below w.heap.size w W->q<n->∃(g:Nat) (x:Int),va=some ⟨g,0,none⟩/\W.cell? ⟨g,q,none⟩=some (.int .i64 x)/\l[q]?=some x):=fun q W hW hq=>by
  obtain⟨t,ht⟩:∃ t,l[q]?=some t:=⟨_,yd9 (by omega)⟩
  obtain⟨g,e,hc⟩:=zed (z8B ho hW) (show(l.map (Value.int .i64))[q]?=some (.int .i64 t) by rw[List.getElem?_map,ht];rfl)
  exact⟨g,t,e,hc,ht⟩
 have HN:Hid (l.length=n):=hn;rw[hn]at hll ⊢;obtain⟨i0,hi,hz0,hz1,hz2⟩:=z8y Tryz.infoPart;have hmk:=fun W:World=>run_make (P:=Tryz.prog) W 46 52 i0 (.agg #[.int .i64 0,.int .i64 0]) Tryz.underlying46 hi hz0 .i64 .i64 (n:Int) (n:Int) (by omega) (by omega) (by rw[hz2];omega) (by omega)
 simp only[hz1,Int.toNat_natCast]at hmk;have hmk:∀ W:World,(Instr.makeSlice 46 (.int .i64 (n:Int)) (.int .i64 (n:Int))).run Tryz.prog W=.ok (.slice (some ⟨W.heap.size,0,none⟩) n n) (W.alloc (.cells (madeCells #[.int .i64 0,.int .i64 0] (n*2)) 52)):=hmk;have b1:Below w.heap.size w (w.alloc (.cells (madeCells #[.int .i64 0,.int .i64 0] (n*2)) 52)):=(yg9 _ _).alloc (yf9 _) _;have o1:(w.alloc (.cells (madeCells #[.int .i64 0,.int .i64 0] (n*2)) 52)).ownsRow w.heap.size 52 2 (.slice (some ⟨w.heap.size,0,none⟩) n n) n (madeCells #[.int .i64 0,.int .i64 0] (n*2)).toList:=
  ⟨by simp[size_madeCells],.inr ⟨w.heap.size,n,_,rfl,yf9 _,heap_alloc_new w _,yf9 _,by unfold maxLen;omega,by simp[size_madeCells],by rw[List.take_of_length_le (by simp[size_madeCells])]⟩⟩
 obtain⟨X,hX⟩:∃ X,w.heap.size=X:=⟨_,rfl⟩;obtain⟨W0,hW0⟩:∃ W,w.alloc (.cells (madeCells #[.int .i64 0,.int .i64 0] (n*2)) 52)=W:=⟨_,rfl⟩;rw[hW0]at o1 b1;rw[hX]at o1;generalize (madeCells #[.int .i64 0,.int .i64 0] (n*2)).toList=ys at o1;have HO1:Hid (W0.ownsRow X 52 2 (.slice (some ⟨X,0,none⟩) n n) n ys/\Below w.heap.size w W0/\w.heap.size=X):=⟨o1,b1,hX⟩;clear ho hn o1 b1;go_enter Tryz.func153,Tryz.ntmps153;go_upto_region 2 with fail;try simp only[hW0,hX]
 clear hmk hW0 hX hi hz0 hz1 hz2;go_upto_region 3 with fail;go_loopw [13] (fun i wr=>∃(q:Nat) (xs:List Value),i=.int .i64 (q:Int)/\q<=n/\wr.ownsRow X 52 2 (.slice (some ⟨X,0,none⟩) n n) n xs/\Below w.heap.size w wr/\Hid (zg0 xs ((l.take q).map fun x=>(x,role)))) (fun i _=>n-(intOf i).toNat)
 case atStart=>exact⟨0,ys,rfl,yj9 _,HO1.out.1,HO1.out.2.1,fun i x h=>by simp at h⟩
 case round=>
  obtain⟨q,xs,rfl,hq,hown,hb,hP⟩:=hrel;have HW:Hid (wr.ownsRow X 52 2 (.slice (some ⟨X,0,none⟩) n n) n xs/\Below w.heap.size w wr):=⟨hown,hb⟩;by_cases hlt:q<n
  ·obtain⟨g,x,hva,hc,hx⟩:=HC.out q wr hb hlt;subst hva;have hqi:(q:Int)<(n:Int):=by omega
   have hq0:(0:Int)<=(q:Int):=by omega
   have HL:Hid (l[q]?=some x):=hx;have hlen:=hown.1;have hf:=hown.frozenAt;obtain⟨u0,hu0⟩:∃ u,xs[q*2]?=some u:=⟨_,yd9 (by omega)⟩
   obtain⟨u1,hu1⟩:∃ u,xs[q*2+1]?=some u:=⟨_,yd9 (by omega)⟩
   have c0:=z9I hown hu0;have c1:=z9I hown hu1;have f0:=hf (q*2);have f1:=hf (q*2+1);have HS:Hid (((wr.setCell ⟨X,q*2,none⟩ (.int .i64 x)).setCell ⟨X,q*2+1,none⟩ (.int .i64 role)).ownsRow X 52 2 (.slice (some ⟨X,0,none⟩) n n) n ((xs.set (q*2) (.int .i64 x)).set (q*2+1) (.int .i64 role))/\Below w.heap.size w ((wr.setCell ⟨X,q*2,none⟩ (.int .i64 x)).setCell ⟨X,q*2+1,none⟩ (.int .i64 role))/\zg0 ((xs.set (q*2) (.int .i64 x)).set (q*2+1) (.int .i64 role)) ((l.take (q+1)).map fun x=>(x,role))):=by
    obtain⟨s1,g1⟩:=HW.out.1.stored (q*2) (.int .i64 x);obtain⟨s2,g2⟩:=s1.stored (q*2+1) (.int .i64 role);have hX:=HO1.out.2.2;have d1:=HW.out.2.grown g1 HW.out.2.size (fun k e=>by injection e with e;omega)
    have d2:=d1.grown g2 d1.size (fun k e=>by injection e with e;omega)
    refine⟨s2,d2,fun i y hy=>?_⟩;rw[List.take_add_one,HL.out,List.map_append]at hy;have hlq:((l.take q).map fun x=>(x,role)).length=q:=by rw[List.length_map,List.length_take,HN.out];omega
    rcases Nat.lt_trichotomy i q with k|k|k
    ·rw[List.getElem?_append_left (by omega)]at hy
     obtain⟨e1,e2⟩:=hP.out i y hy;exact⟨by rw[List.getElem?_set_ne (by omega),List.getElem?_set_ne (by omega)];exact e1,by rw[List.getElem?_set_ne (by omega),List.getElem?_set_ne (by omega)];exact e2⟩
    ·subst k;rw[List.getElem?_append_right (by omega),hlq,Nat.sub_self]at hy
     simp at hy;subst hy;exact⟨by rw[List.getElem?_set_ne (by omega),List.getElem?_set_self (by omega)],by rw[List.getElem?_set_self (by rw[List.length_set];omega)]⟩
    ·rw[List.getElem?_append_right (by omega),List.getElem?_eq_none (by rw[hlq];simp;omega)]at hy
     cases hy
   clear hown hb hP hx hf hu0 hu1;go_wp2;go_roundw
   case rel=>exact⟨q+1,_,by go_num,by omega,HS.out.1,HS.out.2.1,HS.out.2.2⟩
   case measure=>simp[intOf];omega
  ·have hge:decide ((q:Int)<(n:Int))=false:=ya9 (by omega)
   have hge':decide (q<n)=false:=ya9 (by omega)
   have HE:Hid (zg6 w.heap.size (.slice (some ⟨X,0,none⟩) n n) (l.map fun x=>(x,role)) wr/\Below w.heap.size w wr):=by
    have e:q=n:=by omega
    have hl:=HN.out;refine⟨⟨xs,?_,?_⟩,HW.out.2⟩
    ·rw[List.length_map,hl,HO1.out.2.2];exact HW.out.1
    ·have:=hP.out;rw[List.take_of_length_le (by omega)]at this
     exact this
   clear hown hb hP;go_wp2;go_returns;exact⟨_,rfl,HE.out.1,HE.out.2⟩
