/- Part 11. -/
import Derived.Lib.IndexMore
import Derived.Lib.SlTrimSet
import Derived.Lib.Atoi
import Derived.Test.YtdbekjiognpgnaaGreatPaj
set_option maxHeartbeats 16000000
set_option maxRecDepth 100000
set_option linter.unusedVariables false
namespace Go.Proofs.YtdbekjiognpgnaaGreat
open Go.RowKit
theorem z6K{l:List UInt8}(h:1<=l.length):z44 l=-1\/(0<z44 l/\z44 l<=l.length/\z44 l<=2):=by
 unfold z44;split
 ·rename_i h2
  right
  refine⟨by omega,?_,by omega⟩
  have:=h2.1;omega
 ·split
  ·right
   refine⟨by omega,?_,by omega⟩
   omega
  ·left;rfl
theorem z6L(s:ByteArray)(a:Nat)(w:World)(ha:a<s.size)(hs:s.size<=1048576)(hc:z3x s[a]=false)(hf:z3j s[a]=false)(hq:(s[a]).toNat≠34):
  Calls Tryz.prog 47 #[.string s,.int .i64 a] w fun e w'=>e=.returned (.tuple #[tokV (tokN (s.data.toList.drop a)).1 a,.int .i64 (tokN (s.data.toList.drop a)).2])/\Below w.heap.size w w':=by
 have hlen:1<=(s.data.toList.drop a).length:=by rw[List.length_drop,z1x];omega
 have hz:=z6K hlen;rw[List.length_drop,z1x]at hz;have cM:=fun W=>z47 s a W ha hs;obtain⟨z,hzz⟩:∃ z,z44 (s.data.toList.drop a)=z:=⟨_,rfl⟩;rw[hzz]at hz cM;obtain⟨T,hT⟩:∃ T,(if 0<z then s.extract a (a+z.toNat)else (⟨#[]⟩:ByteArray))=T:=⟨_,rfl⟩
 have hTl:T=txt (if 0<z then (s.data.toList.drop a).take z.toNat else []):=by
  rw[←hT];by_cases h:0<z
  ·rw[if_pos h,if_pos h,z3O,z3J]
  ·rw[if_neg h,if_neg h];rfl
 have hR:tokN (s.data.toList.drop a)=((⟨4,if 0<z then (s.data.toList.drop a).take z.toNat else [],0⟩:Tok),z):=by
  unfold tokN;rw[z46 ha,if_neg (by rw[hc];decide),if_neg (by rw[hf];decide),if_neg hq,hzz]
 rw[hR];have hV:tokV ⟨4,if 0<z then (s.data.toList.drop a).take z.toNat else [],0⟩ a=.agg #[.int .i64 4,.string T,.int .u64 0,.int .i64 a]:=by
  unfold tokV;rw[←hTl];rfl
 show Calls _ _ _ _ (fun e w'=>e=.returned (.tuple #[tokV ⟨4,if 0<z then (s.data.toList.drop a).take z.toNat else [],0⟩ a,.int .i64 z])/\_)
 rw[hV];have cL:=fun W=>z3U s[a] W;rw[hc]at cL;have cF:=fun W=>z3T s[a] W;rw[hf]at cF;have hq':(((s[a]).toNat:Int)==34)=false:=by rw[yc9];omega
 have hai:(a:Int)<s.size:=by omega
 have HT:Hid (Unit->(if 0<z then s.extract a (a+z.toNat)else (⟨#[]⟩:ByteArray))=T):=fun _=>hT
 clear hzz hT hTl hR hV hc hf hq hlen;go_enter Tryz.func47,Tryz.ntmps47;obtain⟨g0,hg0⟩:∃ g,w.heap.size=g:=⟨_,rfl⟩;obtain⟨W2,hW2⟩:∃ W,(w.alloc (.cells #[.int .i64 0,.string ⟨#[]⟩,.int .u64 0,.int .i64 0] 117)).alloc (.cells #[.int .i64 0,.string ⟨#[]⟩,.int .u64 0,.int .i64 (a:Int)] 117)=W:=⟨_,rfl⟩;have bb:Below w.heap.size w W2:=by rw[←hW2];exact((yg9 _ _).alloc (yf9 _) _).alloc (by simp) _
 have hB1:W2.heap[g0+1]?=some (.cells #[.int .i64 0,.string ⟨#[]⟩,.int .u64 0,.int .i64 (a:Int)] 117):=by
  have h:=heap_alloc_new (w.alloc (.cells #[.int .i64 0,.string ⟨#[]⟩,.int .u64 0,.int .i64 0] 117)) (.cells #[.int .i64 0,.string ⟨#[]⟩,.int .u64 0,.int .i64 (a:Int)] 117);rw[hW2]at h;have e:(w.alloc (.cells #[.int .i64 0,.string ⟨#[]⟩,.int .u64 0,.int .i64 0] 117)).heap.size=g0+1:=by rw[←hg0];simp
  rw[e]at h;exact h
 have hB0:W2.heap[g0]?=some (.cells #[.int .i64 0,.string ⟨#[]⟩,.int .u64 0,.int .i64 0] 117):=by
  have h:=heap_alloc_new w (.cells #[.int .i64 0,.string ⟨#[]⟩,.int .u64 0,.int .i64 0] 117);rw[hg0]at h;have k:Below (w.alloc (.cells #[.int .i64 0,.string ⟨#[]⟩,.int .u64 0,.int .i64 0] 117)).heap.size (w.alloc (.cells #[.int .i64 0,.string ⟨#[]⟩,.int .u64 0,.int .i64 0] 117)) W2:=by rw[←hW2];exact(yg9 _ _).alloc (yf9 _) _
  exact z3g k h
 obtain⟨g1,hg1⟩:∃ g,g0+1=g:=⟨_,rfl⟩;rw[hg1]at hB1;have hne:g0≠g1:=by omega
 have hne':g1≠g0:=by omega
 have hgw:w.heap.size<=g1:=by omega
 go_wp2_with fail;try simp only[hW2,hg0,hg1]
 clear hW2 hg1;refine(cL _).mono ?_;rintro e w' ⟨rfl,rfl⟩;go_wp2_with fail;refine(cF _).mono ?_;rintro e w' ⟨rfl,rfl⟩;go_wp2_with fail;refine(cM _).mono ?_;rintro e W3 ⟨rfl,b3⟩;replace hB1:=z3g b3 hB1;replace hB0:=z3g b3 hB0;replace bb:=z01 bb b3;clear b3 cL cF cM;clear W2;have hgw0:w.heap.size<=g0:=by omega
 have f10:=frozen_of_row W3 g1 0 _ _ hB1;obtain⟨k0,k1,k2,k3⟩:=z2u hB1;obtain⟨W4,hW4⟩:∃ W,W3.setCell ⟨g1,0,none⟩ (.int .i64 4)=W:=⟨_,rfl⟩;have hC1:W4.heap[g1]?=some (.cells #[.int .i64 4,.string ⟨#[]⟩,.int .u64 0,.int .i64 (a:Int)] 117):=by
  rw[←hW4,heap_setCell_same _ _ _ _ _ _ hB1];rfl
 have hC0:W4.heap[g0]?=some (.cells #[.int .i64 0,.string ⟨#[]⟩,.int .u64 0,.int .i64 0] 117):=by
  rw[←hW4,heap_setCell_other _ _ _ _ hne];exact hB0
 have bc:Below w.heap.size w W4:=by rw[←hW4];exact bb.setCell (p:=⟨g1,0,none⟩) hgw _
 go_upto_region 5 with fail;try simp only[hW4]
 clear hW4 hB0 hB1 bb f10 k0 k1 k2 k3;clear W3;rcases hz with hz|⟨hz1,hz2,hz3⟩
 ·subst hz;have hTT:=HT.out ();rw[if_neg (by omega)]at hTT
  subst hTT;have bd:=bc;have hD1:=hC1;have hD0:=hC0;clear bc hC1 hC0;obtain⟨k0,k1,k2,k3⟩:=z2u hD1;obtain⟨m0,m1,m2,m3⟩:=z2u hD0;have f00:=frozen_of_row _ g0 0 _ _ hD0;have f01:=frozen_of_row _ g0 1 _ _ hD0;have f02:=frozen_of_row _ g0 2 _ _ hD0;have f03:=frozen_of_row _ g0 3 _ _ hD0;obtain⟨W5,hW5⟩:∃ W,(((W4.setCell ⟨g0,0,none⟩ (.int .i64 4)).setCell ⟨g0,1,none⟩ (.string ⟨#[]⟩)).setCell ⟨g0,2,none⟩ (.int .u64 0)).setCell ⟨g0,3,none⟩ (.int .i64 (a:Int))=W:=⟨_,rfl⟩;have b5:Below w.heap.size w W5:=by
   rw[←hW5];exact(((bd.setCell (p:=⟨g0,0,none⟩) hgw0 _).setCell (p:=⟨g0,1,none⟩) hgw0 _).setCell (p:=⟨g0,2,none⟩) hgw0 _).setCell (p:=⟨g0,3,none⟩) hgw0 _
  have hF:=z4N (a':=.int .i64 4) (b':=.string ⟨#[]⟩) (c':=.int .u64 0) (d':=.int .i64 (a:Int)) hD0;rw[hW5]at hF;obtain⟨v0,v1,v2,v3⟩:=z2u hF;clear hF bd hD0 hD1 HT;go_wp2;try simp only[hW5]
  try simp only[Exit.inBlock,Exit.then]
  refine bodyPost_ret (by simp[results,Tryz.results47,go_sem,v0,v1,v2,v3];try rfl) rfl ?_
  exact⟨rfl,b5⟩
 ·obtain⟨m,rfl⟩:∃ m:Nat,z=m:=⟨z.toNat,by omega⟩
  have hTT:=HT.out ();rw[if_pos hz1,Int.toNat_natCast]at hTT;obtain⟨b,hb⟩:∃ b,a+m=b:=⟨_,rfl⟩;rw[hb]at hTT;have hb':(a:Int)+m=b:=by omega
  have hbs:(b:Int)<=s.size:=by omega
  have hab:(a:Int)<=b:=by omega
  have hm0:0<m:=by omega
  have f11:=frozen_of_row W4 g1 1 _ _ hC1;obtain⟨q0,q1,q2,q3⟩:=z2u hC1;obtain⟨W6,hW6⟩:∃ W,W4.setCell ⟨g1,1,none⟩ (.string T)=W:=⟨_,rfl⟩;have bd:Below w.heap.size w W6:=by rw[←hW6];exact bc.setCell (p:=⟨g1,1,none⟩) hgw _
  have hD1:W6.heap[g1]?=some (.cells #[.int .i64 4,.string T,.int .u64 0,.int .i64 (a:Int)] 117):=by
   rw[←hW6,heap_setCell_same _ _ _ _ _ _ hC1];rfl
  have hD0:W6.heap[g0]?=some (.cells #[.int .i64 0,.string ⟨#[]⟩,.int .u64 0,.int .i64 0] 117):=by
   rw[←hW6,heap_setCell_other _ _ _ _ hne];exact hC0
  clear hb bc hC1 hC0;obtain⟨k0,k1,k2,k3⟩:=z2u hD1;obtain⟨m0,m1,m2,m3⟩:=z2u hD0;have f00:=frozen_of_row _ g0 0 _ _ hD0;have f01:=frozen_of_row _ g0 1 _ _ hD0;have f02:=frozen_of_row _ g0 2 _ _ hD0;have f03:=frozen_of_row _ g0 3 _ _ hD0;obtain⟨W5,hW5⟩:∃ W,(((W6.setCell ⟨g0,0,none⟩ (.int .i64 4)).setCell ⟨g0,1,none⟩ (.string T)).setCell ⟨g0,2,none⟩ (.int .u64 0)).setCell ⟨g0,3,none⟩ (.int .i64 (a:Int))=W:=⟨_,rfl⟩;have b5:Below w.heap.size w W5:=by
   rw[←hW5];exact(((bd.setCell (p:=⟨g0,0,none⟩) hgw0 _).setCell (p:=⟨g0,1,none⟩) hgw0 _).setCell (p:=⟨g0,2,none⟩) hgw0 _).setCell (p:=⟨g0,3,none⟩) hgw0 _
  have hF:=z4N (a':=.int .i64 4) (b':=.string T) (c':=.int .u64 0) (d':=.int .i64 (a:Int)) hD0;rw[hW5]at hF;obtain⟨v0,v1,v2,v3⟩:=z2u hF;clear hF bd hD0 hD1 HT;go_wp2;try simp only[hW5]
  try simp only[Exit.inBlock,Exit.then]
  refine bodyPost_ret (by simp[results,Tryz.results47,go_sem,v0,v1,v2,v3];try rfl) rfl ?_
  exact⟨rfl,b5⟩
end Go.Proofs.YtdbekjiognpgnaaGreat
namespace Go.Proofs.YtdbekjiognpgnaaGreat
def tenL:List UInt8:=[48,49,50,51,52,53,54,55,56,57]
def figB(l:List UInt8)(most:Nat):Bool:=!l.isEmpty&&(decide (l.length<=most)&&(Lib.trimS l tenL).isEmpty)
def expI(l:List UInt8):Int × Bool:=if figB (z3q l).2 3=true then (if (z3q l).1=true then -(digV (z3q l).2:Int)else (digV (z3q l).2:Int),true)else (0,false)
def z6M(l:List UInt8):List UInt8:=(Lib.cut l [101]).1
def z6N(l:List UInt8):List UInt8:=(Lib.cut l [101]).2.1
def hasE(l:List UInt8):Bool:=(Lib.cut l [101]).2.2
def okI(l:List UInt8):Bool:=figB (Lib.cut (z6M l) [46]).1 30&&((!(Lib.cut (z6M l) [46]).2.2||figB (Lib.cut (z6M l) [46]).2.1 30)&&(!hasE l||(expI (z6N l)).2))
def z6O(l:List UInt8):Nat:=if okI l=true then z33 (z1t ((Lib.cut (z6M l) [46]).1++(Lib.cut (z6M l) [46]).2.1)) ((expI (z6N l)).1-(Lib.cut (z6M l) [46]).2.1.length)else 0
theorem z6P{c:UInt8}(h:48<=c.toNat/\c.toNat<=57):tenL.contains c=true:=by
 obtain⟨n,hn⟩:∃ n,c.toNat=n:=⟨_,rfl⟩;have hc:c=UInt8.ofNat n:=by rw[←hn];simp
 rw[hn]at h;rcases (by omega:n=48\/n=49\/n=50\/n=51\/n=52\/n=53\/n=54\/n=55\/n=56\/n=57)with rfl|rfl|rfl|rfl|rfl|rfl|rfl|rfl|rfl|rfl<;>(rw[hc];decide)
theorem z6Q{c:UInt8}(h:tenL.contains c=true):48<=c.toNat/\c.toNat<=57:=by
 rw[List.contains_iff_mem]at h;simp only[tenL,List.mem_cons,List.not_mem_nil,or_false]at h;rcases h with rfl|rfl|rfl|rfl|rfl|rfl|rfl|rfl|rfl|rfl<;>decide
theorem z6R{p:UInt8->Bool}:∀{l:List UInt8},(∀ c∈l,p c=true)->l.dropWhile p=[]
 | [],_=>rfl
 | c::l,h=>by
  rw[List.dropWhile_cons,if_pos (h c (by simp))]
  exact z6R fun d hd=>h d (by simp[hd])
theorem z6S{p:UInt8->Bool}:∀{l:List UInt8},l.dropWhile p=[]->∀ c∈l,p c=true
 | [],_=>fun c hc=>by cases hc
 | c::l,h=>by
  rw[List.dropWhile_cons]at h;by_cases hp:p c=true
  ·rw[if_pos hp]at h;intro d hd;rcases List.mem_cons.1 hd with rfl|hd
   ·exact hp
   ·exact z6S h d hd
  ·rw[if_neg hp]at h;cases h
theorem z6T{l:List UInt8}:Lib.trimS l tenL=[]↔Figs l:=by
 unfold Lib.trimS Lib.trimLeftS Lib.trimRightS;constructor
 ·intro h c hc;have h1:=z6S h;by_cases hk:tenL.contains c=true
  ·exact z6Q hk
  ·exfalso
   have hne:l.reverse.dropWhile (tenL.contains ·)=[]:=by
    cases hd:l.reverse.dropWhile (tenL.contains ·)with
    | nil=>rfl
    | cons d r=>
     exfalso
     have hh:=List.head?_dropWhile_not (tenL.contains ·) l.reverse;rw[hd]at hh;rw[hd]at h1;have:=h1 d (by simp)
     have hh':tenL.contains d=false:=by simpa using hh
     rw[this]at hh';cases hh'
   exact hk (z6S hne c (by simp[hc]))
 ·intro h;have:l.reverse.dropWhile (tenL.contains ·)=[]:=z6R fun c hc=>z6P (h c (by simpa using hc))
  rw[this];rfl
theorem z6U{l:List UInt8}{m:Nat}(h:Figs l)(h1:1<=l.length)(h2:l.length<=m):figB l m=true:=by
 unfold figB;rw[z6T.2 h,yb9 h2];cases l with
 | nil=>simp at h1
 | cons c l=>rfl
theorem z6V{l:List UInt8}{m:Nat}(h:figB l m=true):Figs l/\1<=l.length/\l.length<=m:=by
 unfold figB at h;simp only[Bool.and_eq_true,Bool.not_eq_true',decide_eq_true_eq,List.isEmpty_iff,List.isEmpty_eq_false_iff]at h;exact⟨z6T.1 h.2.2,List.length_pos_iff.2 h.1,h.2.1⟩
theorem z6W{l:List UInt8}{c:UInt8}(h:c∉l):Lib.cut l [c]=(l,[],false):=by
 have hi:Lib.index l [c]=-1:=Lib.index_none fun j _=>by
  rw[Bool.eq_false_iff];intro ho;exact h (List.mem_of_getElem? (Lib.occAt_head rfl ho))
 unfold Lib.cut;rw[hi,if_neg (by decide)]
theorem z6X{a q:List UInt8}{c:UInt8}(h:c∉a):Lib.cut (a++c::q) [c]=(a,q,true):=by
 have hi:Lib.index (a++c::q) [c]=(a.length:Nat):=Lib.index_first (by simp) (by unfold Lib.occAt;rw[List.drop_left];simp[List.isPrefixOf]) fun j hj=>by
  rw[Bool.eq_false_iff];intro ho;have:=Lib.occAt_head rfl ho;rw[List.getElem?_append_left hj]at this;exact h (List.mem_of_getElem? this)
 unfold Lib.cut;rw[hi,if_pos (by omega),Int.toNat_natCast,List.take_left]
 have e:a++c::q=(a++[c])++q:=by simp
 rw[e,List.drop_left' (by simp)]
theorem z6Y{l:List UInt8}(h:Figs l):(101:UInt8)∉l/\(46:UInt8)∉l:=⟨fun hm=>absurd (h _ hm) (by decide),fun hm=>absurd (h _ hm) (by decide)⟩
theorem z6Z{d:List UInt8}{x:Int}(h:expR d=some (x,[])):(d=[]/\x=0)\/∃ q,d=101::q/\expI q=(x,true):=by
 cases d with
 | nil=>left;simp[expR]at h;exact⟨rfl,h.symm⟩
 | cons c q=>
  right
  rw[expR]at h;by_cases hc:c.toNat=101
  ·rw[if_pos hc]at h;by_cases hr:1<=runN (z3q q).2/\runN (z3q q).2<=3
   ·rw[if_pos hr]at h;simp only[Option.some.injEq,Prod.mk.injEq]at h;obtain⟨h1,h2⟩:=h;have hf:=z3M (z3q q).2;have hl:(z3q q).2.take (runN (z3q q).2)=(z3q q).2:=by
     have:=List.take_append_drop (runN (z3q q).2) (z3q q).2;rw[h2,List.append_nil]at this;exact this
    rw[hl]at hf h1;have hle:(z3q q).2.length=runN (z3q q).2:=(z3n hf).symm;refine⟨q,by rw[show c=101 from UInt8.toNat_inj.1 hc],?_⟩
    unfold expI;rw[z6U hf (by omega) (by omega),if_pos rfl,h1]
   ·rw[if_neg hr]at h;cases h
  ·rw[if_neg hc]at h;simp at h
theorem z70:expI []=(0,false):=by
 unfold expI figB;rfl
theorem z71{a b:List UInt8}{x:Int}{t:List UInt8}(hok:okI t=true)(h1:(Lib.cut (z6M t) [46]).1=a)(h2:(Lib.cut (z6M t) [46]).2.1=b)(h3:(expI (z6N t)).1=x):z6O t=z33 (z1t (a++b)) (x-b.length):=by
 unfold z6O;rw[if_pos hok,h1,h2,h3]
theorem z72{t f:List UInt8}{x:Int}(h:z3r t=some (f,x)):okI t=true/\z6O t=z33 (z1t f) x:=by
 unfold z3r at h;by_cases hc:t.length<=80/\1<=runN t/\runN t<=30
 ·rw[if_pos hc]at h;obtain⟨_,c1,c2⟩:=hc;obtain⟨a,ha⟩:∃ a,t.take (runN t)=a:=⟨_,rfl⟩;obtain⟨q,hq⟩:∃ q,t.drop (runN t)=q:=⟨_,rfl⟩;have ht:t=a++q:=by rw[←ha,←hq,List.take_append_drop]
  have fa:Figs a:=by rw[←ha];exact z3M t
  have la:a.length=runN t:=by rw[←ha,List.length_take];have:=z3o t;omega
  rw[ha,hq]at h;clear ha hq;have ya:=z6U fa (by omega) (by omega:a.length<=30)
  obtain⟨n101,n46⟩:=z6Y fa;cases hd:dotR q with
  | none=>rw[hd]at h;simp at h
  | some d=>
   rw[hd]at h;simp only[Option.bind_some]at h;cases he:expR d.2 with
   | none=>rw[he]at h;simp at h
   | some y=>
    rw[he]at h;simp only[Option.bind_some]at h;by_cases hy:y.2=[]
    ·rw[if_pos hy]at h;simp only[Option.some.injEq,Prod.mk.injEq]at h;obtain⟨rfl,rfl⟩:=h;obtain⟨v,r⟩:=y;obtain rfl:r=[]:=hy;have hE:=z6Z he;have dots:(d.1=[]/\q=d.2)\/(Figs d.1/\1<=d.1.length/\d.1.length<=30/\q=46::(d.1++d.2)):=by
      cases q with
      | nil=>left;simp[dotR]at hd;rw[←hd];exact⟨rfl,rfl⟩
      | cons c q=>
       rw[dotR]at hd;by_cases hc:c.toNat=46
       ·rw[if_pos hc]at hd;by_cases hr:1<=runN q/\runN q<=30
        ·rw[if_pos hr]at hd;right
         have hl:=z3o q;obtain rfl:=Option.some.inj hd;refine⟨z3M q,by rw[List.length_take];omega,by rw[List.length_take];omega,?_⟩
         rw[List.take_append_drop,show c=46 from UInt8.toNat_inj.1 hc]
        ·rw[if_neg hr]at hd;cases hd
       ·rw[if_neg hc]at hd;left
        obtain rfl:=Option.some.inj hd;exact⟨rfl,rfl⟩
     obtain⟨b,e⟩:=d;simp only at dots hE ⊢;obtain⟨S,hS,hn,hcut⟩:∃ S,t=S++e/\(101:UInt8)∉S/\((b=[]/\Lib.cut S [46]=(a,[],false))\/(figB b 30=true/\Lib.cut S [46]=(a,b,true))):=by
      rcases dots with ⟨rfl,rfl⟩|⟨fb,b1,b2,rfl⟩
      ·exact⟨a,ht,n101,.inl ⟨rfl,z6W n46⟩⟩
      ·refine⟨a++46::b,by rw[ht];simp,?_,.inr ⟨z6U fb b1 b2,z6X n46⟩⟩
       intro hm;rcases List.mem_append.1 hm with hm|hm
       ·exact n101 hm
       ·rcases List.mem_cons.1 hm with hm|hm
        ·exact absurd hm (by decide)
        ·exact(z6Y fb).1 hm
     have parts:z6M t=S/\(expI (z6N t)).1=v/\(!hasE t||(expI (z6N t)).2)=true:=by
      rcases hE with ⟨rfl,rfl⟩|⟨p,rfl,hp⟩
      ·rw[List.append_nil]at hS;unfold z6M z6N hasE;rw[hS,z6W hn];exact⟨rfl,by rw[z70],rfl⟩
      ·unfold z6M z6N hasE;rw[hS,z6X hn,hp];exact⟨rfl,rfl,rfl⟩
     obtain⟨p1,p2,p3⟩:=parts;have hok:okI t=true:=by
      unfold okI;rw[p1,p3];rcases hcut with ⟨_,k⟩|⟨k1,k⟩
      ·rw[k];simp[ya]
      ·rw[k];simp[ya,k1]
     refine⟨hok,?_⟩;rcases hcut with ⟨rfl,k⟩|⟨k1,k⟩
     ·rw[z71 hok (by rw[p1,k]) (by rw[p1,k]) p2]
     ·rw[z71 hok (by rw[p1,k]) (by rw[p1,k]) p2]
    ·rw[if_neg hy]at h;cases h
 ·rw[if_neg hc]at h;cases h
theorem z73(l:List UInt8)(c:UInt8):(c∉l/\Lib.cut l [c]=(l,[],false))\/∃ a q,l=a++c::q/\c∉a/\Lib.cut l [c]=(a,q,true):=by
 by_cases h:c∈l
 ·obtain⟨a,q,rfl,hn⟩:=List.eq_append_cons_of_mem h;exact .inr ⟨a,q,rfl,hn,z6X hn⟩
 ·exact .inl ⟨h,z6W h⟩
theorem z74(q:List UInt8):q.length<=(z3q q).2.length+1:=by
 cases q with
 | nil=>simp
 | cons c q=>
  rw[z3q];split
  ·simp
  ·split
   ·simp
   ·simp
theorem z75{q:List UInt8}(h:(expI q).2=true):(∃ x,expR (101::q)=some (x,[]))/\q.length<=4:=by
 unfold expI at h;by_cases hf:figB (z3q q).2 3=true
 ·obtain⟨ff,l1,l2⟩:=z6V hf;have hr:=z3n ff;refine⟨⟨if (z3q q).1=true then -(digV (z3q q).2:Int)else (digV (z3q q).2:Int),?_⟩,?_⟩
  ·rw[expR,if_pos (by decide),if_pos ⟨by omega,by omega⟩,hr,List.take_length,List.drop_length]
  ·have:=z74 q;omega
 ·rw[if_neg hf]at h;cases h
theorem z76{t:List UInt8}(h:okI t=true):z3u t=true:=by
 unfold okI at h;simp only[Bool.and_eq_true,Bool.or_eq_true,Bool.not_eq_true']at h;obtain⟨h1,h2,h3⟩:=h;obtain⟨fa,a1,a2⟩:=z6V h1;obtain⟨e,he,⟨x,hx⟩,hl,hs⟩:∃ e,t=z6M t++e/\(∃ x,expR e=some (x,[]))/\e.length<=5/\(e=[]\/∃ q,e=101::q):=by
  rcases z73 t 101 with ⟨_,hc⟩|⟨a,q,ht,hn,hc⟩
  ·refine⟨[],?_,⟨0,rfl⟩,by simp,.inl rfl⟩
   unfold z6M;rw[hc];simp
  ·have k1:hasE t=true:=by unfold hasE;rw[hc]
   have k2:z6N t=q:=by unfold z6N;rw[hc]
   have k3:z6M t=a:=by unfold z6M;rw[hc]
   rw[k1,k2]at h3;have h4:(expI q).2=true:=by
    rcases h3 with h3|h3
    ·cases h3
    ·exact h3
   obtain⟨k4,k5⟩:=z75 h4;exact⟨101::q,by rw[k3];exact ht,k4,by simp;omega,.inr ⟨q,rfl⟩⟩
 have noFig:e=[]\/∃ c r,e=c::r/\z3j c=false:=by
  rcases hs with rfl|⟨q,rfl⟩
  ·exact .inl rfl
  ·exact .inr ⟨101,q,rfl,by decide⟩
 unfold z3u;rcases z73 (z6M t) 46 with ⟨_,hc⟩|⟨a,b,ht,hn,hc⟩
 ·rw[hc]at fa a1 a2;simp only at fa a1 a2;have hd:dotR e=some ([],e):=by
   rcases hs with rfl|⟨q,rfl⟩
   ·rfl
   ·rw[dotR,if_neg (by decide)]
  have h80:t.length<=80:=by rw[he,List.length_append];omega
  rw[z3v he fa noFig h80 a1 a2 hd hx];rfl
 ·rw[hc]at fa a1 a2 h2;simp only at fa a1 a2 h2;have h2':figB b 30=true:=by
   rcases h2 with h2|h2
   ·cases h2
   ·exact h2
  obtain⟨fb,b1,b2⟩:=z6V h2';have hr:runN (b++e)=b.length:=z3m fb noFig;have hd:dotR (46::(b++e))=some (b,e):=by
   rw[dotR,if_pos (by decide),hr,if_pos ⟨b1,b2⟩,List.take_left,List.drop_left]
  have ht2:t=a++46::(b++e):=by
   have e1:=he;rw[ht]at e1;rw[e1];simp
  have h80:t.length<=80:=by rw[ht2];simp;omega
  rw[z3v ht2 fa (.inr ⟨46,b++e,rfl,by decide⟩) h80 a1 a2 hd hx]
  rfl
theorem z77(t:List UInt8):okI t=z3u t:=by
 cases hr:z3u t with
 | true=>
  unfold z3u at hr;cases h:z3r t with
  | none=>rw[h]at hr;cases hr
  | some p=>
   obtain⟨f,x⟩:=p;exact(z72 h).1
 | false=>
  rw[Bool.eq_false_iff];intro h;rw[z76 h]at hr;cases hr
def tokI(l:List UInt8):Tok × Int:=
 if z3x (l.getD 0 0)=true then
  (⟨if l.take (z3y l)∈z4J then 5 else 1,l.take (z3y l),0⟩,if 12<z3y l then -1 else z3y l)
 else if z3j (l.getD 0 0)=true then
  (⟨2,l.take (z3C l),z6O (l.take (z3C l))⟩,if okI (l.take (z3C l))=true then z3C l else -1)
 else if (l.getD 0 0).toNat=34 then
  (⟨3,if 0<z3X (l.drop 1)then (l.drop 1).take (z3X (l.drop 1)-2).toNat else [],0⟩,z3X (l.drop 1))
 else
  (⟨4,if 0<z44 l then l.take (z44 l).toNat else [],0⟩,z44 l)
theorem z78(l:List UInt8):(tokI l).2=(tokN l).2:=by
 unfold tokI tokN;split
 ·rfl
 ·split
  ·simp only;rw[z77]
  ·split<;>rfl
def z79(c:UInt8):Bool:=decide (c.toNat=32)||decide (c.toNat=10)||decide (c.toNat=9)
def z7a(T:List UInt8->Tok × Int):Nat->List UInt8->Nat->List (Tok × Nat)->List (Tok × Nat) × Int
 | 0,_,_,acc=>(acc,-1)
 | _+1,[],_,acc=>(acc,-1)
 | n+1,c::r,a,acc=>if z79 c=true then z7a T n r (a+1) acc
   else if (T (c::r)).2<0\/acc.length=200 then ([],a)
   else z7a T n ((c::r).drop (T (c::r)).2.toNat) (a+(T (c::r)).2.toNat) (acc++[((T (c::r)).1,a)])
def z7b(T:List UInt8->Tok × Int)(l:List UInt8):List (Tok × Nat) × Int:=if 600<l.length then ([],600)else z7a T l.length l 0 []
theorem z7c{p:UInt8->Bool}{b:List UInt8}(hb:b=[]\/∃ c q,b=c::q/\p c=false):∀ a:List UInt8,(∀ c∈a,p c=true)->(a++b).takeWhile p=a
 | [],_=>by
  rcases hb with rfl|⟨c,q,rfl,hc⟩
  ·rfl
  ·simp[hc]
 | x::a,ha=>by
  rw[List.cons_append,List.takeWhile_cons,if_pos (ha x (by simp)),z7c hb a (fun c hc=>ha c (by simp[hc]))]
theorem z7d{p:UInt8->Bool}:∀(l:List UInt8) (c:UInt8),c∈l.takeWhile p->p c=true
 | [],_,h=>by cases h
 | d::l,c,h=>by
  rw[List.takeWhile_cons]at h;by_cases hd:p d=true
  ·rw[if_pos hd]at h;rcases List.mem_cons.1 h with rfl|h
   ·exact hd
   ·exact z7d l c h
  ·rw[if_neg hd]at h;cases h
theorem z7e{p:UInt8->Bool}(l:List UInt8):l.take (l.takeWhile p).length=l.takeWhile p:=by
 induction l with
 | nil=>rfl
 | cons c l ih=>
  rw[List.takeWhile_cons];split
  ·rw[List.length_cons,List.take_succ_cons,ih]
  ·rfl
def EndQ(q:List UInt8):Prop:=q=[]\/∃ r,q=32::r
theorem EndQ.not{q:List UInt8}(h:EndQ q){p:UInt8->Bool}(hp:p 32=false):q=[]\/∃ c r,q=c::r/\p c=false:=by
 rcases h with rfl|⟨r,rfl⟩
 ·exact .inl rfl
 ·exact .inr ⟨32,r,rfl,hp⟩
theorem z7f{c:UInt8}{r:List UInt8}(hc:z3x c=true):z3y (c::r)=(r.takeWhile fun c=>z3x c||z3j c).length+1:=by
 show(if z3x c=true then _ else 0)=_
 rw[if_pos hc]
theorem z7g{c:UInt8}{r q:List UInt8}(hc:z3x c=true)(hq:EndQ q):z3y ((c::r).take (z3y (c::r))++q)=z3y (c::r)/\((c::r).take (z3y (c::r))).length=z3y (c::r):=by
 rw[z7f hc,List.take_succ_cons,z7e];refine⟨?_,by simp⟩
 rw[List.cons_append,z7f hc,z7c (hq.not (by decide)) _ (fun d hd=>z7d (p:=fun c=>z3x c||z3j c) r d hd)]
structure NumP(S E:List UInt8):Prop where
 side:∃ a,Figs a/\1<=a.length/\(S=a\/∃ b,Figs b/\1<=b.length/\S=a++46::b)
 tail:E=[]\/∃ sg d,(sg=[]\/sg=[43]\/sg=[45])/\Figs d/\1<=d.length/\E=101::(sg++d)
theorem z7h(l:List UInt8):∃ a u,l=a++u/\Figs a/\runN l=a.length/\(u=[]\/∃ c r,u=c::r/\z3j c=false):=by
 refine⟨l.take (runN l),l.drop (runN l),(List.take_append_drop _ _).symm,z3M l,?_,?_⟩
 ·rw[List.length_take];have:=z3o l;omega
 ·unfold runN;induction l with
  | nil=>exact .inl rfl
  | cons c l ih=>
   rw[List.takeWhile_cons];by_cases h:z3j c=true
   ·rw[if_pos h,List.length_cons,List.drop_succ_cons];exact ih
   ·rw[if_neg h];exact .inr ⟨c,l,rfl,by simpa using h⟩
theorem z7i{c:UInt8}{r:List UInt8}(h:z3j c=true):1<=runN (c::r):=by
 unfold runN;rw[List.takeWhile_cons,if_pos h];simp
theorem z7j{b:List UInt8}(h:Figs b)(h1:1<=b.length):∃ d r,b=d::r/\z3j d=true:=by
 cases b with
 | nil=>simp at h1
 | cons d r=>exact⟨d,r,rfl,z3k (h d (by simp))⟩
theorem z7k{S v:List UInt8}(h:∃ a,Figs a/\1<=a.length/\(S=a\/∃ b,Figs b/\1<=b.length/\S=a++46::b))(hv:v=[]\/∃ c r,v=c::r/\z3j c=false/\(c.toNat≠46)):z3z (S++v) (runN (S++v))=S.length:=by
 have hv':v=[]\/∃ c r,v=c::r/\z3j c=false:=by
  rcases hv with h|⟨c,r,h,h',_⟩
  ·exact .inl h
  ·exact .inr ⟨c,r,h,h'⟩
 obtain⟨a,fa,a1,rfl|⟨b,fb,b1,rfl⟩⟩:=h
 ·rw[z3m fa hv'];unfold z3z;rw[List.drop_left];rcases hv with rfl|⟨c,r,rfl,_,h46⟩
  ·rfl
  ·cases r with
   | nil=>rfl
   | cons d r=>simp only;rw[if_neg (fun h=>h46 h.1)]
 ·have e:a++46::b++v=a++46::(b++v):=by simp
  rw[e,z3m fa (.inr ⟨46,_,rfl,by decide⟩)]
  unfold z3z;rw[List.drop_left];obtain⟨d,r,rfl,hd⟩:=z7j fb b1;rw[List.cons_append];simp only;rw[if_pos ⟨by decide,hd⟩,←List.cons_append,z3m fb hv']
  simp;omega
theorem z7l{S E q:List UInt8}(h:NumP S E)(hq:EndQ q):z3C (S++E++q)=(S++E).length:=by
 obtain⟨h1,h2⟩:=h;unfold z3C;rcases h2 with rfl|⟨sg,d,hs,fd,d1,rfl⟩
 ·rw[List.append_nil];have hv:q=[]\/∃ c r,q=c::r/\z3j c=false/\(c.toNat≠46):=by
   rcases hq with rfl|⟨r,rfl⟩
   ·exact .inl rfl
   ·exact .inr ⟨32,r,rfl,by decide,by decide⟩
  rw[z7k h1 hv];unfold z3B;rw[List.drop_left];rcases hq with rfl|⟨r,rfl⟩
  ·rfl
  ·cases r with
   | nil=>rfl
   | cons x r=>simp only;rw[if_neg (by decide)]
 ·have e:S++101::(sg++d)++q=S++101::(sg++(d++q)):=by simp
  rw[e,z7k h1 (.inr ⟨101,_,rfl,by decide,by decide⟩)]
  unfold z3B;rw[List.drop_left];have hq':=hq.not (p:=z3j) (by decide)
  have hr:=z3m fd hq';obtain⟨f,r,rfl,hf⟩:=z7j fd d1;have hn:=Bool.and_eq_true_iff.1 hf;have hf1:=of_decide_eq_true hn.1;have hf2:=of_decide_eq_true hn.2;rcases hs with rfl|rfl|rfl
  ·have hz:z3A f=0:=by unfold z3A;rw[if_neg (by omega)]
   simp only[List.nil_append,List.cons_append]at hr ⊢;rw[if_pos (by decide),hz,List.drop_zero]
   simp only;rw[if_pos hf,hr];simp;omega
  ·have hz:z3A 43=1:=by decide
   simp only[List.cons_append,List.nil_append]at hr ⊢;rw[if_pos (by decide),hz,List.drop_succ_cons,List.drop_zero]
   simp only;rw[if_pos hf,hr];simp;omega
  ·have hz:z3A 45=1:=by decide
   simp only[List.cons_append,List.nil_append]at hr ⊢;rw[if_pos (by decide),hz,List.drop_succ_cons,List.drop_zero]
   simp only;rw[if_pos hf,hr];simp;omega
theorem z7m{l:List UInt8}(h:1<=runN l):∃ S v,l=S++v/\z3z l (runN l)=S.length/\(∃ a,Figs a/\1<=a.length/\(S=a\/∃ b,Figs b/\1<=b.length/\S=a++46::b)):=by
 obtain⟨a,u,rfl,fa,ha,hu⟩:=z7h l;rw[ha]at h;by_cases hd:∃ d r,u=46::d::r/\z3j d=true
 ·obtain⟨d,r,rfl,hf⟩:=hd;obtain⟨b,v,hb,fb,hbl,hv⟩:=z7h (d::r);have b1:=z7i (r:=r) hf;refine⟨a++46::b,v,by rw[hb];simp,?_,⟨a,fa,h,.inr ⟨b,fb,by omega,rfl⟩⟩⟩
  rw[ha];unfold z3z;rw[List.drop_left];simp only;rw[if_pos ⟨by decide,hf⟩,hbl]
  simp;omega
 ·refine⟨a,u,rfl,?_,⟨a,fa,h,.inl rfl⟩⟩;rw[ha];unfold z3z;rw[List.drop_left];cases u with
  | nil=>rfl
  | cons c r=>
   cases r with
   | nil=>rfl
   | cons d r=>
    simp only;rw[if_neg];rintro ⟨h1,h2⟩;exact hd ⟨d,r,by rw[show c=46 from UInt8.toNat_inj.1 h1],h2⟩
theorem z7n{l:List UInt8}(h:1<=runN l):∃ S E v,l=S++E++v/\z3C l=(S++E).length/\NumP S E:=by
 obtain⟨S,v,rfl,hS,hP⟩:=z7m h;unfold z3C;rw[hS];by_cases hE:∃ sg d v',(sg=[]\/sg=[43]\/sg=[45])/\Figs d/\1<=d.length/\v=101::(sg++d)++v'/\(v'=[]\/∃ c r,v'=c::r/\z3j c=false)
 ·obtain⟨sg,d,v',hs,fd,d1,rfl,hv'⟩:=hE;refine⟨S,101::(sg++d),v',by simp,?_,⟨hP,.inr ⟨sg,d,hs,fd,d1,rfl⟩⟩⟩
  have hr:=z3m fd hv';unfold z3B;rw[List.drop_left];obtain⟨f,r,rfl,hf⟩:=z7j fd d1;have hn:=Bool.and_eq_true_iff.1 hf;have hf1:=of_decide_eq_true hn.1;have hf2:=of_decide_eq_true hn.2;rcases hs with rfl|rfl|rfl
  ·have hz:z3A f=0:=by unfold z3A;rw[if_neg (by omega)]
   simp only[List.nil_append,List.cons_append]at hr ⊢;rw[if_pos (by decide),hz,List.drop_zero]
   simp only;rw[if_pos hf,hr];simp;omega
  ·have hz:z3A 43=1:=by decide
   simp only[List.cons_append,List.nil_append]at hr ⊢;rw[if_pos (by decide),hz,List.drop_succ_cons,List.drop_zero]
   simp only;rw[if_pos hf,hr];simp;omega
  ·have hz:z3A 45=1:=by decide
   simp only[List.cons_append,List.nil_append]at hr ⊢;rw[if_pos (by decide),hz,List.drop_succ_cons,List.drop_zero]
   simp only;rw[if_pos hf,hr];simp;omega
 ·refine⟨S,[],v,by simp,?_,⟨hP,.inl rfl⟩⟩
  unfold z3B;rw[List.drop_left,List.append_nil];cases v with
  | nil=>rfl
  | cons c w=>
   cases w with
   | nil=>rfl
   | cons d w=>
    simp only;by_cases hc:c.toNat=101
    ·rw[if_pos hc];have hc':c=101:=UInt8.toNat_inj.1 hc;have none:∀ sg f q,(sg=[]\/sg=[43]\/sg=[45])->d::w=sg++f::q->¬ z3j f=true:=by
      intro sg f q hsg hdw hf;obtain⟨b,v',hb,fb,hbl,hv⟩:=z7h (f::q);have b1:=z7i (r:=q) hf;exact hE ⟨sg,b,v',hsg,fb,by omega,by rw[hc',hdw,hb];simp,hv⟩
     by_cases hs:d.toNat=43\/d.toNat=45
     ·have hz:z3A d=1:=by unfold z3A;rw[if_pos hs]
      rw[hz,List.drop_succ_cons,List.drop_zero];cases w with
      | nil=>rfl
      | cons f q=>
       simp only;rw[if_neg];refine none [d] f q ?_ rfl;rcases hs with hs|hs
       ·right;left;rw[show d=43 from UInt8.toNat_inj.1 hs]
       ·right;right;rw[show d=45 from UInt8.toNat_inj.1 hs]
     ·have hz:z3A d=0:=by unfold z3A;rw[if_neg hs]
      rw[hz,List.drop_zero];simp only;rw[if_neg (none [] d w (.inl rfl) rfl)]
    ·rw[if_neg hc]
theorem z7o:∀{r:List UInt8} {i:Nat},z3D r=some i->i<r.length/\r.take (i+1)=r.take i++[34]/\∀ q,z3D (r.take i++34::q)=some i
 | [],i,h=>by cases h
 | c::r,i,h=>by
  rw[z3D]at h;by_cases h34:c.toNat=34
  ·rw[if_pos h34]at h;obtain rfl:=Option.some.inj h;have hc:c=34:=UInt8.toNat_inj.1 h34;refine⟨by simp,by simp[hc],fun q=>?_⟩
   show(if (34:UInt8).toNat=34 then some 0 else _)=_
   rw[if_pos (by decide)]
  ·rw[if_neg h34]at h;by_cases hb:c.toNat<32\/126<c.toNat
   ·rw[if_pos hb]at h;cases h
   ·rw[if_neg hb]at h;cases hr:z3D r with
    | none=>rw[hr]at h;cases h
    | some j=>
     rw[hr]at h;obtain rfl:=Option.some.inj h;obtain⟨k1,k2,k3⟩:=z7o hr;refine⟨by simp;omega,?_,fun q=>?_⟩
     ·rw[List.take_succ_cons,List.take_succ_cons,k2];rfl
     ·rw[List.take_succ_cons,List.cons_append,z3D,if_neg h34,if_neg hb,k3 q];rfl
def z7p(t:Tok):List UInt8:=if t.kind=3 then 34::t.text++[34]else t.text
structure z7q(t:Tok)(x:List UInt8):Prop where
 full:z7p t=x
 again:∀ q,EndQ q->tokI (x++q)=(t,(x.length:Int))
 head:∃ c r,x=c::r/\z79 c=false
theorem z7r{c:UInt8}(h:z3x c=true):z79 c=false:=by
 unfold z3x at h;unfold z79;simp only[Bool.or_eq_true,Bool.and_eq_true,decide_eq_true_eq]at h;simp only[Bool.or_eq_false_iff,decide_eq_false_iff_not];omega
theorem z7s{c:UInt8}(h:z3j c=true):z79 c=false:=by
 unfold z3j at h;unfold z79;simp only[Bool.and_eq_true,decide_eq_true_eq]at h;simp only[Bool.or_eq_false_iff,decide_eq_false_iff_not];omega
theorem z7t{c:UInt8}{r:List UInt8}(h:0<=(tokI (c::r)).2):z7q (tokI (c::r)).1 ((c::r).take (tokI (c::r)).2.toNat)/\(tokI (c::r)).2.toNat<=(c::r).length/\1<=(tokI (c::r)).2.toNat:=by
 have head:∀ l:List UInt8,(c::l).getD 0 0=c:=fun _=>rfl;by_cases hl:z3x c=true
 ·have e:tokI (c::r)=((⟨if (c::r).take (z3y (c::r))∈z4J then 5 else 1,(c::r).take (z3y (c::r)),0⟩:Tok),(if 12<z3y (c::r)then -1 else (z3y (c::r):Int):Int)):=by
   unfold tokI;rw[head,if_pos hl]
  rw[e]at h ⊢;simp only at h ⊢;by_cases h12:12<z3y (c::r)
  ·rw[if_pos h12]at h;omega
  ·rw[if_neg h12]at h ⊢;rw[Int.toNat_natCast];have h1:1<=z3y (c::r):=by rw[z7f hl];omega
   refine⟨⟨?_,?_,?_⟩,z4O _,h1⟩
   ·unfold z7p;rw[if_neg];simp only;split<;>decide
   ·intro q hq;obtain⟨k1,k2⟩:=z7g (r:=r) hl hq;obtain⟨x,hx⟩:∃ x,(c::r).take (z3y (c::r))=x:=⟨_,rfl⟩;obtain⟨m,hm⟩:∃ m,z3y (c::r)=m:=⟨_,rfl⟩;rw[hx]at k1 k2 ⊢;rw[hm]at k1 k2 h12 h1 hx;have hxc:∃ y,x=c::y:=⟨r.take (m-1),by rw[←hx];obtain⟨j,rfl⟩:∃ j,m=j+1:=⟨m-1,by omega⟩;rfl⟩
    obtain⟨y,rfl⟩:=hxc;unfold tokI;rw[List.cons_append,head,if_pos hl,←List.cons_append,k1,if_neg h12];have ht:(c::y++q).take m=c::y:=by rw[←k2,List.take_left]
    rw[ht,k2]
   ·obtain⟨j,hj⟩:∃ j,z3y (c::r)=j+1:=⟨z3y (c::r)-1,by omega⟩
    rw[hj,List.take_succ_cons];exact⟨c,_,rfl,z7r hl⟩
 ·by_cases hf:z3j c=true
  ·have e:tokI (c::r)=((⟨2,(c::r).take (z3C (c::r)),z6O ((c::r).take (z3C (c::r)))⟩:Tok),(if okI ((c::r).take (z3C (c::r)))=true then (z3C (c::r):Int)else -1:Int)):=by
    unfold tokI;rw[head,if_neg hl,if_pos hf]
   rw[e]at h ⊢;simp only at h ⊢;by_cases hok:okI ((c::r).take (z3C (c::r)))=true
   ·rw[if_pos hok]at h ⊢;rw[Int.toNat_natCast];obtain⟨S,E,v,hl2,hn,hP⟩:=z7n (z7i (r:=r) hf);have ht:(c::r).take (z3C (c::r))=S++E:=by rw[hn,hl2,List.take_left]
    rw[ht]at hok ⊢;have hSE:∃ y,S++E=c::y:=by
     obtain⟨a,fa,a1,hS⟩:=hP.side;obtain⟨d,a',rfl,_⟩:=z7j fa a1;have:∃ y,S=d::y:=by
      rcases hS with rfl|⟨b,_,_,rfl⟩
      ·exact⟨_,rfl⟩
      ·exact⟨_,rfl⟩
     obtain⟨y,rfl⟩:=this;rw[List.append_assoc,List.cons_append]at hl2;injection hl2 with hd _;exact⟨y++E,by rw[hd];rfl⟩
    have hlen:1<=(S++E).length:=by obtain⟨y,hy⟩:=hSE;rw[hy];simp
    refine⟨⟨?_,?_,?_⟩,?_,by rw[hn];exact hlen⟩
    ·unfold z7p;rw[if_neg (show ¬((2:Int)=3) by decide)]
    ·intro q hq;have k:=z7l hP hq;obtain⟨y,hy⟩:=hSE;rw[hy]at k hok ⊢;unfold tokI;rw[List.cons_append,head,if_neg hl,if_pos hf,←List.cons_append,k,List.take_left,if_pos hok]
    ·obtain⟨y,hy⟩:=hSE;rw[hy];exact⟨c,y,rfl,z7s hf⟩
    ·rw[hn,hl2,List.length_append (bs:=v)];omega
   ·rw[if_neg hok]at h;omega
  ·by_cases hq:c.toNat=34
   ·have hc:c=34:=UInt8.toNat_inj.1 hq;have e:tokI (c::r)=(⟨3,if 0<z3X r then r.take (z3X r-2).toNat else [],0⟩,z3X r):=by
     unfold tokI;rw[head,if_neg hl,if_neg hf,if_pos hq];rfl
    rw[e]at h ⊢;simp only at h ⊢;cases hqq:z3D r with
    | none=>
     have:z3X r=-1:=by unfold z3X;rw[hqq]
     rw[this]at h;omega
    | some i=>
     have hz:z3X r=(i:Int)+2:=by unfold z3X;rw[hqq]
     obtain⟨k1,k2,k3⟩:=z7o hqq;have h2:((i:Int)+2).toNat=i+1+1:=by omega
     have h3:((i:Int)+2-2).toNat=i:=by omega
     rw[hz,if_pos (by omega),h2,h3,List.take_succ_cons,k2]
     refine⟨⟨?_,?_,⟨c,_,rfl,by rw[hc];decide⟩⟩,by simp;omega,by omega⟩
     ·unfold z7p;rw[if_pos rfl,hc];rfl
     ·intro q hq2;have kk:=k3 q;have e3:c::(r.take i++[34])++q=c::(r.take i++34::q):=by simp
      rw[e3];unfold tokI;rw[head,if_neg hl,if_neg hf,if_pos hq,List.drop_succ_cons,List.drop_zero];have hz2:z3X (r.take i++34::q)=(i:Int)+2:=by unfold z3X;rw[kk]
      have ht:(r.take i++34::q).take i=r.take i:=by
       have:(r.take i).length=i:=by rw[List.length_take];omega
       rw[List.take_left' this]
      rw[hz2,if_pos (by omega),h3,ht]
      have hlen:(c::(r.take i++[34])).length=i+2:=by simp;omega
      rw[hlen];rfl
   ·have e:tokI (c::r)=(⟨4,if 0<z44 (c::r)then (c::r).take (z44 (c::r)).toNat else [],0⟩,z44 (c::r)):=by
     unfold tokI;rw[head,if_neg hl,if_neg hf,if_neg hq]
    rw[e]at h ⊢;simp only at h ⊢;have blk:z79 c=false\/c∉z43/\∀ d q,[c,d]++q∉z42:=by
     by_cases hb:z79 c=true
     ·right
      unfold z79 at hb;simp only[Bool.or_eq_true,decide_eq_true_eq]at hb;constructor
      ·intro hm;simp only[z43,List.mem_cons,List.not_mem_nil,or_false]at hm;rcases hm with rfl|rfl|rfl|rfl|rfl|rfl|rfl|rfl|rfl|rfl|rfl|rfl|rfl|rfl|rfl<;>revert hb<;>decide
      ·intro d q hm;simp only[z42,List.mem_cons,List.not_mem_nil,or_false,List.cons_append,List.cons.injEq]at hm;rcases hm with h|h|h|h|h|h<;>(obtain⟨rfl,_⟩:=h;revert hb;decide)
     ·left;simpa using hb
    unfold z44 at h ⊢;by_cases h2:2<=(c::r).length/\(c::r).take 2∈z42
    ·rw[if_pos h2]at h ⊢;obtain⟨hlen,hm⟩:=h2;cases r with
     | nil=>simp at hlen
     | cons d r=>
      have t2:(c::d::r).take 2=[c,d]:=rfl;rw[t2]at hm;show z7q ⟨4,[c,d],0⟩ [c,d]/\2<=_/\_;refine⟨⟨?_,?_,⟨c,[d],rfl,?_⟩⟩,hlen,by decide⟩
      ·unfold z7p;rw[if_neg (show ¬((4:Int)=3) by decide)]
      ·intro q _;show tokI (c::d::q)=_;unfold tokI;rw[head,if_neg hl,if_neg hf,if_neg hq];have hz:z44 (c::d::q)=2:=by
        unfold z44;rw[if_pos ⟨by simp,hm⟩]
       rw[hz];rfl
      ·rcases blk with h|⟨_,h⟩
       ·exact h
       ·exact absurd hm (h d [])
    ·rw[if_neg h2]at h ⊢;by_cases h1:(c::r).getD 0 0∈z43
     ·rw[if_pos h1]at h ⊢;have h1':c∈z43:=h1;show z7q ⟨4,[c],0⟩ [c]/\1<=_/\_;refine⟨⟨?_,?_,⟨c,[],rfl,?_⟩⟩,by simp,by decide⟩
      ·unfold z7p;rw[if_neg (show ¬((4:Int)=3) by decide)]
      ·intro q hq2;show tokI (c::q)=_;unfold tokI;rw[head,if_neg hl,if_neg hf,if_neg hq];have hz:z44 (c::q)=1:=by
        unfold z44;rw[if_neg,if_pos (show(c::q).getD 0 0∈z43 from h1')];rintro ⟨hl2,hm⟩;rcases hq2 with rfl|⟨s,rfl⟩
        ·simp at hl2
        ·have t2:(c::32::s).take 2=[c,32]:=rfl;rw[t2]at hm;simp only[z42,List.mem_cons,List.not_mem_nil,or_false,List.cons.injEq]at hm;rcases hm with h|h|h|h|h|h<;>(obtain⟨_,h,_⟩:=h;revert h;decide)
       rw[hz];rfl
      ·rcases blk with h|⟨h,_⟩
       ·exact h
       ·exact absurd h1' h
     ·rw[if_neg h1]at h;omega
theorem z7u(t:List UInt8):z4S (z3t t):=by
 have h:z3t t<=9218868437227405312:=by
  unfold z3t;split
  ·exact yj9 _
  ·unfold z3s;split
   ·exact yj9 _
   ·split
    ·exact yf9 _
    ·split
     ·exact yj9 _
     ·unfold z33;split
      ·exact z0X _ _ _
      ·exact yj9 _
 unfold z4S;omega
theorem z7v(l:List UInt8):z4S (tokN l).1.num:=by
 have z:z4S 0:=by unfold z4S;omega
 unfold tokN;split
 ·exact z
 split
 ·exact z7u _
 split
 ·exact z
 ·exact z
theorem z7w:∀(n:Nat) (l:List UInt8) (a:Nat) (acc:List (Tok × Nat)),acc.length<=200->(∀ t,t∈acc->z4S t.1.num)->(z7a tokN n l a acc).1.length<=200/\∀ t,t∈(z7a tokN n l a acc).1->z4S t.1.num
 | 0,l,a,acc,h1,h2=>by
  rw[z7a];exact⟨h1,h2⟩
 | n+1,[],a,acc,h1,h2=>by
  rw[z7a];exact⟨h1,h2⟩
 | n+1,c::r,a,acc,h1,h2=>by
  rw[z7a];split
  ·exact z7w n r (a+1) acc h1 h2
  split
  ·exact⟨yj9 _,fun t ht=>by cases ht⟩
  ·rename_i hf
   refine z7w n _ _ _ ?_ ?_
   ·have:acc.length≠200:=fun e=>hf (.inr e);simp;omega
   ·intro t ht;rcases List.mem_append.1 ht with k|k
    ·exact h2 t k
    ·have e:t=((tokN (c::r)).1,a):=by simpa using k
     rw[e];exact z7v _
theorem z7x(l:List UInt8):(z7b tokN l).1.length<=200/\∀ t,t∈(z7b tokN l).1->z4S t.1.num:=by
 unfold z7b;split
 ·exact⟨yj9 _,fun t ht=>by cases ht⟩
 ·exact z7w _ _ _ _ (yj9 _) (fun t ht=>by cases ht)
def z7y(l:List UInt8):PIn:=⟨(z7b tokN l).1,l.length,(z7x l).2⟩
def z7z(l:List UInt8):List z4Q × Int:=if 0<=(z7b tokN l).2 then ([],(z7b tokN l).2)else z54 (z7y l)
theorem z7A{t t':List z4Q}(h:∃ l,t'=t++l){x:Int}(hx:0<=x/\x<t.length):z5X t' x=z5X t x:=by
 obtain⟨l,rfl⟩:=h;exact z60 hx.1 hx.2
theorem Seg.keep{t t':List z4Q}{xs:List Int}(h:Seg t xs)(hl:∃ l,t'=t++l){x:Int}(hx:x∈xs):z5X t' x=z5X t x:=z7A hl (h.roots x hx)
theorem z7B{Q:PIn}(hQ:z5U Q)(s:PS):0<=z4T Q s/\z4T Q s<=600:=⟨z55 Q s,z68 hQ s⟩
theorem z7C{k:Int}(h:1<=k/\k<=13):z5W 1 k:=.inl ⟨rfl,h⟩
theorem z7D{k:Int}(h:20<=k/\k<=28):z5W 4 k:=.inr (.inr (.inr ⟨rfl,h⟩))
theorem z7E{t:List z4Q}{a:Int}{k:Nat}(h:z5W k (z5X t a)):∀ p∈[(a,k)],z5W p.2 (z5X t p.1):=fun p hp=>by
 rw[List.mem_singleton]at hp;subst hp;exact h
theorem z7F{t:List z4Q}{a b:Int}{k l:Nat}(h:z5W k (z5X t a))(h2:z5W l (z5X t b)):∀ p∈[(a,k),(b,l)],z5W p.2 (z5X t p.1):=fun p hp=>by
 simp only[List.mem_cons,List.not_mem_nil,or_false]at hp;rcases hp with rfl|rfl
 ·exact h
 ·exact h2
theorem Out.seg1{c:Cmd}{xs:List Int}{r:Int × List Int × PS}(h:Out c xs r)(e:outL c r=[r.1]):Seg r.2.2.tree (xs++[r.1])/\z6h c (z5X r.2.2.tree r.1):=by
 have h1:=h.seg;rw[e]at h1;exact⟨h1,h.kind r.1 (by rw[e];simp)⟩
theorem Seg.same{s t:PS}{xs:List Int}(h:Seg s.tree xs)(e:t.tree=s.tree):Seg t.tree xs:=by rw[e];exact h
theorem z7G{k a p:Int}(hk:k=7\/k=8\/k=22\/k=25\/k=26\/k=28)(hp:0<=p/\p<=600):z5Y ⟨k,a,0,0,[],[],0,p⟩/\z5V ⟨k,a,0,0,[],[],0,p⟩=[(a,1)]:=by
 refine⟨⟨hp.1,hp.2,?_⟩,?_⟩
 ·right;right;right;right;left
  exact⟨hk,rfl,rfl,rfl,rfl,rfl⟩
 ·unfold z5V;rw[if_pos (by show k=7\/k=8\/k=20\/k=21\/k=22\/k=25\/k=26\/k=28;omega)]
theorem z7H{k p:Int}(hk:k=3\/k=4\/k=5)(hp:0<=p/\p<=600):z5Y ⟨k,0,0,0,[],[],0,p⟩/\z5V ⟨k,0,0,0,[],[],0,p⟩=[]:=by
 refine⟨⟨hp.1,hp.2,?_⟩,?_⟩
 ·right;right;left
  exact⟨hk,rfl,rfl,rfl,rfl,rfl,rfl⟩
 ·rcases hk with rfl|rfl|rfl<;>rfl
theorem z7I{c:Cmd}{xs:List Int}{s t:PS}{n:z4Q}(h:Seg s.tree xs)(e:t.tree=s.tree)(hn:z5Y n)(hp:z5V n=[])(h20:n.kind≠20)(ho:outL c (endN t n)=[(t.tree.length:Int)])(hkc:z6h c n.kind)(hc:∀ l,c≠.args l):Out c xs (endN t n):=by
 refine z6k (ps:=[]) (by rw[e,List.append_nil];exact h) hn (by rw[hp];rfl) (fun p hp'=>by rw[hp]at hp';cases hp') (fun q=>absurd q h20) ho hkc hc
theorem z7J{Q:PIn}(hQ:z5U Q){s:PS}(h:z4U Q s 2=true)(hk:z12 (tokP Q s).num≠2):(tokP Q s).num<9218868437227405312:=by
 obtain⟨t,ht,hk2,e⟩:=z69 h;rw[e]at hk ⊢;have h1:=hQ.num t (List.mem_iff_getElem?.2 ⟨_,ht⟩) hk2;rcases Nat.lt_or_ge t.1.num 9218868437227405312 with k|k
 ·exact k
 ·have e2:t.1.num=9218868437227405312:=by omega
  rw[e2]at hk;exact absurd (by decide) hk
theorem z7K{Q:PIn}(hQ:z5U Q){s:PS}(h:z4U Q s 3=true):z5T (tokP Q s).text:=by
 obtain⟨t,ht,hk2,e⟩:=z69 h;rw[e];exact hQ.text t (List.mem_iff_getElem?.2 ⟨_,ht⟩) hk2
