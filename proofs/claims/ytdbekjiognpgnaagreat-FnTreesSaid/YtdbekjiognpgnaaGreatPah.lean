/- Part 8. -/
import Derived.Test.YtdbekjiognpgnaaGreatPaf
import Derived.Deep.Slices
set_option maxHeartbeats 16000000
set_option maxRecDepth 100000
set_option linter.unusedVariables false
namespace Go.Proofs.YtdbekjiognpgnaaGreat
open Go.RowKit
def z4C(s:ByteArray)(e:Nat):Prop:=∃ h:e+1<s.size,(s[e]'(by omega)).toNat=46/\z3j s[e+1]=true
theorem z4D{s:ByteArray}{a e:Nat}(h:z4C s (a+e)):z3z (s.data.toList.drop a) e=e+1+runN (s.data.toList.drop (a+e+1)):=by
 obtain⟨h1,h2,h3⟩:=h;unfold z3z;rw[List.drop_drop,z3H s (a+e) (by omega),z3H s (a+e+1) (by omega)]
 show(if _/\_ then _ else _)=_
 rw[if_pos ⟨h2,h3⟩]
theorem z4E{s:ByteArray}{a e:Nat}(h:¬z4C s (a+e)):z3z (s.data.toList.drop a) e=e:=by
 unfold z3z;rw[List.drop_drop];by_cases h1:a+e<s.size
 ·rw[z3H s (a+e) h1];by_cases h2:a+e+1<s.size
  ·rw[z3H s (a+e+1) h2];show(if _/\_ then _ else _)=_
   rw[if_neg (fun h'=>h ⟨h2,h'.1,h'.2⟩)]
  ·rw[(by omega:a+e+1=s.size),z3I]
 ·rw[List.drop_eq_nil_of_le (by rw[z1x];omega)]
def z4F(s:ByteArray)(e:Nat):Prop:=∃ h:e+1<s.size,(s[e]'(by omega)).toNat=101
theorem z4G{s:ByteArray}{a e:Nat}(h:¬z4F s (a+e)):z3B (s.data.toList.drop a) e=e:=by
 unfold z3B;rw[List.drop_drop];by_cases h1:a+e<s.size
 ·rw[z3H s (a+e) h1];by_cases h2:a+e+1<s.size
  ·rw[z3H s (a+e+1) h2];show(if _ then _ else _)=_
   rw[if_neg (fun h'=>h ⟨h2,h'⟩)]
  ·rw[(by omega:a+e+1=s.size),z3I]
 ·rw[List.drop_eq_nil_of_le (by rw[z1x];omega)]
theorem z4H{s:ByteArray}{a e k:Nat}(h:z4F s (a+e))(hk:k=a+e+1+z3A (s[a+e+1]'h.1)):
  z3B (s.data.toList.drop a) e=if ∃ h:k<s.size,z3j s[k]=true then e+1+z3A (s[a+e+1]'h.1)+runN (s.data.toList.drop k)else e:=by
 obtain⟨h1,h2⟩:=h;unfold z3B;rw[List.drop_drop,z3H s (a+e) (by omega),z3H s (a+e+1) h1]
 show(if _ then (match (s[a+e+1]::s.data.toList.drop (a+e+1+1)).drop (z3A s[a+e+1])with
   | f::q=>if z3j f=true then e+1+z3A s[a+e+1]+runN (f::q)else e
   | []=>e)else _)=_
 rw[if_pos h2,←z3H s (a+e+1) h1,List.drop_drop,←hk];by_cases h3:k<s.size
 ·rw[z3H s k h3];show(if z3j s[k]=true then _ else e)=_
  by_cases h4:z3j s[k]=true
  ·rw[if_pos h4,if_pos ⟨h3,h4⟩]
  ·rw[if_neg h4,if_neg (fun h'=>h4 h'.2)]
 ·rw[List.drop_eq_nil_of_le (by rw[z1x];omega),if_neg (fun h'=>h3 h'.1)]
theorem z4I(s:ByteArray)(a:Nat)(w:World)(ha:a<=s.size)(hs:s.size<=1048576):
  Calls Tryz.prog 69 #[.string s,.int .i64 a] w fun e w'=>e=.returned (.int .i64 (z3C (s.data.toList.drop a):Nat))/\w=w':=by
 obtain⟨R,hR⟩:∃ R,z3C (s.data.toList.drop a)=R:=⟨_,rfl⟩;have HR:Hid (Unit->z3C (s.data.toList.drop a)=R):=fun _=>hR;rw[hR];clear hR;have cR:=fun(b:Nat) (hb:b<=s.size) W=>z3L s b W hb hs;have cR0:=cR a ha;obtain⟨e1,he1⟩:∃ e,runN (s.data.toList.drop a)=e:=⟨_,rfl⟩;have hl1:=z3o (s.data.toList.drop a);rw[List.length_drop,z1x,he1]at hl1;rw[he1]at cR0;have HE1:Hid (Unit->runN (s.data.toList.drop a)=e1):=fun _=>he1;clear he1;obtain⟨E,hE⟩:∃ E,a+e1=E:=⟨_,rfl⟩;have hE':(a:Int)+e1=E:=by omega
 go_enter Tryz.func69,Tryz.ntmps69;go_wp2_with fail;refine(cR0 _).mono ?_;rintro e w' ⟨rfl,rfl⟩;go_upto_region 2 with fail;go_cut [29] (fun x wx=>∃ d:Bool,x=.bool d/\w=wx/\Hid (Unit->(d=true->z4C s E)/\(d=false->¬z4C s E)))
 case first=>
  by_cases h1:E+1<s.size
  ·obtain⟨F,hF⟩:∃ F,E+1=F:=⟨_,rfl⟩;have hF':(E:Int)+1=F:=by omega
   have hFs:F<s.size:=by omega
   have hFi:(F:Int)<s.size:=by omega
   have hEs:E<s.size:=by omega
   by_cases h2:(s[E]).toNat=46
   ·have h2':((s[E]).toNat:Int)=46:=by omega
    have cF:=fun W=>z3T s[F] W;obtain⟨y,hy⟩:∃ y,z3j s[F]=y:=⟨_,rfl⟩;rw[hy]at cF;have HY:Hid (Unit->z3j (s[E+1]'h1)=y):=fun _=>by simp only[hF];exact hy
    clear hy;go_wp2_with fail;refine(cF _).mono ?_;rintro e w' ⟨rfl,rfl⟩;go_wp2;go_meet
    case rel=>exact⟨y,rfl,rfl,fun _=>⟨fun h=>⟨h1,h2,by rw[HY.out ()];exact h⟩,fun h h'=>by obtain⟨_,_,h3⟩:=h';rw[HY.out (),h]at h3;cases h3⟩⟩
   ·have h2':(((s[E]).toNat:Int)==46)=false:=by rw[yc9];omega
    go_wp2;go_meet
    case rel=>exact⟨false,rfl,rfl,fun _=>⟨fun h=>by simp at h,fun _ h=>h2 h.2.1⟩⟩
  ·have h1':decide ((E:Int)+1<s.size)=false:=by simp;omega
   go_wp2;go_meet
   case rel=>exact⟨false,rfl,rfl,fun _=>⟨fun h=>by simp at h,fun _ h=>h1 h.1⟩⟩
 case rest=>
  obtain⟨d,rfl,rfl,HD⟩:=hcut;go_upto_if 29 with fail;go_cut [5] (fun x wx=>∃ e2:Nat,x=.int .i64 ((a+e2:Nat):Int)/\(a:Int)+e2<=s.size/\w=wx/\Hid (Unit->z3z (s.data.toList.drop a) e1=e2))
  case first=>
   cases d
   ·have HN:Hid (Unit->z3z (s.data.toList.drop a) e1=e1):=fun _=>z4E (by rw[hE];exact(HD.out ()).2 rfl)
    go_wp2;go_meet
    case rel=>exact⟨e1,by go_num,by omega,rfl,HN⟩
   ·have hd:=(HD.out ()).1 rfl;have h1:=hd.1;obtain⟨F,hF⟩:∃ F,E+1=F:=⟨_,rfl⟩;have hF':(E:Int)+1=F:=by omega
    have c1:=cR F (by omega)
    obtain⟨r,hr⟩:∃ r,runN (s.data.toList.drop F)=r:=⟨_,rfl⟩;have hrl:=z3o (s.data.toList.drop F);rw[List.length_drop,z1x,hr]at hrl;rw[hr]at c1;have HN:Hid (Unit->z3z (s.data.toList.drop a) e1=e1+1+r):=fun _=>by rw[z4D (by rw[hE];exact hd),hE,hF,hr]
    clear hd hr;go_wp2_with fail;refine(c1 _).mono ?_;rintro e w' ⟨rfl,rfl⟩;go_wp2;go_meet
    case rel=>exact⟨e1+1+r,by go_num,by omega,rfl,HN⟩
  case rest=>
   clear HD hE' hE;clear d;obtain⟨e2,rfl,he2,rfl,HF2⟩:=hcut;obtain⟨G,hG⟩:∃ G,a+e2=G:=⟨_,rfl⟩;have HT:Hid (Unit->z3B (s.data.toList.drop a) e2=R):=fun _=>by
    rw[←HR.out ()];unfold z3C;rw[HE1.out (),HF2.out ()]
   simp only[hG];have hG':(a:Int)+e2=G:=by omega
   have hGs:(G:Int)<=s.size:=by omega
   clear HR HE1 HF2 he2;go_upto_region 4 with fail;go_cut [47] (fun x wx=>∃ d:Bool,x=.bool d/\w=wx/\Hid (Unit->(d=true->z4F s G)/\(d=false->¬z4F s G)))
   case first=>
    by_cases h1:G+1<s.size
    ·have h1':(G:Int)+1<s.size:=by omega
     have hEs:G<s.size:=by omega
     by_cases h2:(s[G]).toNat=101
     ·have h2':((s[G]).toNat:Int)=101:=by omega
      go_wp2;go_meet
      case rel=>exact⟨true,rfl,rfl,fun _=>⟨fun _=>⟨h1,h2⟩,fun h=>by simp at h⟩⟩
     ·have h2':(((s[G]).toNat:Int)==101)=false:=by rw[yc9];omega
      go_wp2;go_meet
      case rel=>exact⟨false,rfl,rfl,fun _=>⟨fun h=>by simp at h,fun _ h=>h2 h.2⟩⟩
    ·have h1':decide ((G:Int)+1<s.size)=false:=by simp;omega
     go_wp2;go_meet
     case rel=>exact⟨false,rfl,rfl,fun _=>⟨fun h=>by simp at h,fun _ h=>h1 h.1⟩⟩
   case rest=>
    obtain⟨d,rfl,rfl,HD⟩:=hcut;cases d
    ·have HN:Hid (Unit->R=e2):=fun _=>by rw[←HT.out ()];exact z4G (by rw[hG];exact(HD.out ()).2 rfl)
     have hv:(G:Int)-a=e2:=by omega
     go_wp2;go_ret;exact⟨by rw[HN.out ()];rfl,rfl⟩
    ·have hd:=(HD.out ()).1 rfl;have h1:=hd.1;obtain⟨F,hF⟩:∃ F,G+1=F:=⟨_,rfl⟩;have hF':(G:Int)+1=F:=by omega
     have hFs:F<s.size:=by omega
     have hFi:(F:Int)<s.size:=by omega
     obtain⟨sg,hsg⟩:∃ sg,z3A s[F]=sg:=⟨_,rfl⟩;have hsg1:sg<=1:=by rw[←hsg];unfold z3A;split<;>omega
     have HSG:Hid (Unit->sg=if (s[F]).toNat=43\/(s[F]).toNat=45 then 1 else 0):=fun _=>by rw[←hsg];rfl
     have HX:Hid (Unit->∀ k,k=F+sg->z3B (s.data.toList.drop a) e2=if ∃ h:k<s.size,z3j s[k]=true then e2+1+sg+runN (s.data.toList.drop k)else e2):=fun _ k hk=>by
      have hd2:z4F s (a+e2):=by rw[hG];exact hd
      have hs1:z3A (s[a+e2+1]'hd2.1)=sg:=by simp only[hG,hF];exact hsg
      rw[z4H (k:=k) hd2 (by rw[hs1,hG,hF];exact hk),hs1]
     clear hd hsg HD;go_upto_region 6 with fail;go_cut [59] (fun x wx=>∃ d:Bool,x=.bool d/\w=wx/\Hid (Unit->sg=if d=true then 1 else 0))
     case first=>
      by_cases q1:(s[F]).toNat=43
      ·have q1':((s[F]).toNat:Int)=43:=by omega
       go_wp2;go_meet
       case rel=>exact⟨true,rfl,rfl,fun _=>by rw[HSG.out (),if_pos (.inl q1)];rfl⟩
      ·have q1':(((s[F]).toNat:Int)==43)=false:=by rw[yc9];omega
       by_cases q2:(s[F]).toNat=45
       ·have q2':((s[F]).toNat:Int)=45:=by omega
        go_wp2;go_meet
        case rel=>exact⟨true,rfl,rfl,fun _=>by rw[HSG.out (),if_pos (.inr q2)];rfl⟩
       ·have q2':(((s[F]).toNat:Int)==45)=false:=by rw[yc9];omega
        go_wp2;go_meet
        case rel=>exact⟨false,rfl,rfl,fun _=>by rw[HSG.out (),if_neg (by omega)];rfl⟩
     case rest=>
      obtain⟨d,rfl,rfl,HD⟩:=hcut;go_upto_if 59 with fail;go_cut [6] (fun x wx=>∃ k:Nat,x=.int .i64 k/\(k:Int)<=s.size/\w=wx/\(k:Int)=F+sg)
      case first=>
       cases d
       ·have h0:sg=0:=by rw[HD.out ()];rfl
        go_wp2;go_meet
        case rel=>exact⟨F,rfl,by omega,rfl,by omega⟩
       ·have h0:sg=1:=by rw[HD.out ()];rfl
        go_wp2;go_meet
        case rel=>exact⟨F+1,by go_num,by omega,rfl,by omega⟩
      case rest=>
       clear HD HSG;clear d;obtain⟨k,rfl,hk1,rfl,hk2⟩:=hcut;have hX:=HX.out () k (by omega)
       rw[HT.out ()]at hX;have HXX:Hid (R=if ∃ h:k<s.size,z3j s[k]=true then e2+1+sg+runN (s.data.toList.drop k)else e2):=hX
       have HK2:Hid ((k:Int)=F+sg):=hk2;clear hX HX HT hk2;have hv0:(G:Int)-a=e2:=by omega
       by_cases h2:k<s.size
       ·have h2':(k:Int)<s.size:=by omega
        have cF:=fun W=>z3T s[k] W;obtain⟨y,hy⟩:∃ y,z3j s[k]=y:=⟨_,rfl⟩;rw[hy]at cF;cases y
        ·have HQ:Hid (R=e2):=by
          show _=_;rw[HXX.out,if_neg (fun h=>by obtain⟨_,h⟩:=h;rw[hy]at h;cases h)]
         clear hy;go_wp2_with fail;refine(cF _).mono ?_;rintro e w' ⟨rfl,rfl⟩;go_wp2;go_ret;exact⟨by rw[HQ.out];rfl,rfl⟩
        ·have c1:=cR k (by omega)
         obtain⟨r,hr⟩:∃ r,runN (s.data.toList.drop k)=r:=⟨_,rfl⟩;have hrl:=z3o (s.data.toList.drop k);rw[List.length_drop,z1x,hr]at hrl;rw[hr]at c1;have HQ:Hid (R=e2+1+sg+r):=by
          show _=_;rw[HXX.out,if_pos ⟨h2,hy⟩,hr]
         have HV:Hid ((k:Int)+r-a=((e2+1+sg+r:Nat):Int)):=by
          show _=_;have:=HK2.out;omega
         clear hy hr;go_wp2_with fail;refine(cF _).mono ?_;rintro e w' ⟨rfl,rfl⟩;go_wp2_with fail;refine(c1 _).mono ?_;rintro e w' ⟨rfl,rfl⟩;go_wp2;go_ret;exact⟨by rw[HQ.out];exact z00 HV.out,rfl⟩
       ·have h2':decide ((k:Int)<s.size)=false:=by simp;omega
        have HQ:Hid (R=e2):=by
         show _=_;rw[HXX.out,if_neg (fun h=>h2 h.1)]
        go_wp2;go_ret;exact⟨by rw[HQ.out];rfl,rfl⟩
def z4J:List (List UInt8):=[[108,101,116],[112,114,105,110,116],[105,102],[101,108,115,101],[119,104,105,108,101],[114,101,116,117,114,110],[116,104,114,111,119],[116,114,121],[99,97,116,99,104],[102,117,110],[116,114,117,101],[102,97,108,115,101],[110,111,110,101]]
def z4K:Obj:=.cells #[.string ⟨#[108,101,116]⟩,.string ⟨#[112,114,105,110,116]⟩,.string ⟨#[105,102]⟩,.string ⟨#[101,108,115,101]⟩,.string ⟨#[119,104,105,108,101]⟩,.string ⟨#[114,101,116,117,114,110]⟩,.string ⟨#[116,104,114,111,119]⟩,.string ⟨#[116,114,121]⟩,.string ⟨#[99,97,116,99,104]⟩,.string ⟨#[102,117,110]⟩,.string ⟨#[116,114,117,101]⟩,.string ⟨#[102,97,108,115,101]⟩,.string ⟨#[110,111,110,101]⟩] 9
theorem z4L(w:World):
  Calls Tryz.prog 65 #[] w fun e w'=>e=.returned (.slice (some ⟨w.heap.size,0,none⟩) 13 13)/\w'=w.alloc z4K:=by
 unfold z4K;go_enter Tryz.func65,Tryz.ntmps65;go_wp2;go_ret;exact⟨rfl,rfl⟩
theorem z4M(x:ByteArray)(w:World)(g:Nat)(h:w.heap[g]?=some z4K):
  Calls Tryz.prog 64 #[.slice (some ⟨g,0,none⟩) 13 13,.string x] w fun e w'=>e=.returned (.bool (decide (x.data.toList∈z4J)))/\w=w':=by
 have c:=z41 g 13 z4J x w (by decide) (fun j hj=>by
  unfold z4K at h;rw[cell_of_row _ _ _ _ _ _ h];match j,hj with
  | 0,_=>rfl
  | 1,_=>rfl
  | 2,_=>rfl
  | 3,_=>rfl
  | 4,_=>rfl
  | 5,_=>rfl
  | 6,_=>rfl
  | 7,_=>rfl
  | 8,_=>rfl
  | 9,_=>rfl
  | 10,_=>rfl
  | 11,_=>rfl
  | 12,_=>rfl)
 exact c
structure Tok where
 kind:Int
 text:List UInt8
 num:Nat
def tokN(l:List UInt8):Tok × Int:=
 if z3x (l.getD 0 0)=true then
  (⟨if l.take (z3y l)∈z4J then 5 else 1,l.take (z3y l),0⟩,if 12<z3y l then -1 else z3y l)
 else if z3j (l.getD 0 0)=true then
  (⟨2,l.take (z3C l),z3t (l.take (z3C l))⟩,if z3u (l.take (z3C l))=true then z3C l else -1)
 else if (l.getD 0 0).toNat=34 then
  (⟨3,if 0<z3X (l.drop 1)then (l.drop 1).take (z3X (l.drop 1)-2).toNat else [],0⟩,z3X (l.drop 1))
 else
  (⟨4,if 0<z44 l then l.take (z44 l).toNat else [],0⟩,z44 l)
def tokV(t:Tok)(a:Nat):Value:=.agg #[.int .i64 t.kind,.string (txt t.text),.int .u64 (t.num:Int),.int .i64 (a:Int)]
theorem z4N{w:World}{g:Nat}{a b c d a' b' c' d':Value}{t:TypeId}(h:w.heap[g]?=some (.cells #[a,b,c,d] t)):
  ((((w.setCell ⟨g,0,none⟩ a').setCell ⟨g,1,none⟩ b').setCell ⟨g,2,none⟩ c').setCell ⟨g,3,none⟩ d').heap[g]?=some (.cells #[a',b',c',d'] t):=by
 rw[heap_setCell_same _ _ _ _ _ _ (heap_setCell_same _ _ _ _ _ _ (heap_setCell_same _ _ _ _ _ _ (heap_setCell_same _ _ _ _ _ _ h)))];rfl
theorem z4O(l:List UInt8):z3y l<=l.length:=by
 match l with
 | []=>exact yf9 _
 | c::r=>
  show(if z3x c=true then _ else 0)<=_
  split
  ·have:=(List.takeWhile_sublist (fun c=>z3x c||z3j c) (l:=r)).length_le;rw[List.length_cons];omega
  ·exact yj9 _
theorem z4P(s:ByteArray)(a:Nat)(w:World)(ha:a<s.size)(hs:s.size<=1048576)(hc:z3x s[a]=true):
  Calls Tryz.prog 47 #[.string s,.int .i64 a] w fun e w'=>e=.returned (.tuple #[tokV (tokN (s.data.toList.drop a)).1 a,.int .i64 (tokN (s.data.toList.drop a)).2])/\Below w.heap.size w w':=by
 obtain⟨n,hn⟩:∃ n,z3y (s.data.toList.drop a)=n:=⟨_,rfl⟩;have hnl:=z4O (s.data.toList.drop a);rw[List.length_drop,z1x,hn]at hnl;obtain⟨T,hT⟩:∃ T,s.extract a (a+n)=T:=⟨_,rfl⟩;have hTl:T=txt ((s.data.toList.drop a).take n):=by rw[←hT,z3O,z3J]
 have hTd:T.data.toList=(s.data.toList.drop a).take n:=by rw[hTl,z3a]
 have hR:tokN (s.data.toList.drop a)=((⟨if T.data.toList∈z4J then 5 else 1,T.data.toList,0⟩:Tok),(if 12<n then -1 else (n:Int):Int)):=by
  unfold tokN;rw[z46 ha,if_pos hc,hn,←hTd]
 rw[hR];have hV:tokV ⟨if T.data.toList∈z4J then 5 else 1,T.data.toList,0⟩ a=.agg #[.int .i64 (if T.data.toList∈z4J then 5 else 1),.string T,.int .u64 0,.int .i64 a]:=by
  unfold tokV;rw[z3b];rfl
 show Calls _ _ _ _ (fun e w'=>e=.returned (.tuple #[tokV ⟨if T.data.toList∈z4J then 5 else 1,T.data.toList,0⟩ a,.int .i64 (if 12<n then -1 else (n:Int))])/\_)
 rw[hV];have cL:=fun W=>z3U s[a] W;rw[hc]at cL;have cN:=fun W=>z3W s a W (by omega) hs
 rw[hn]at cN;have cI:=fun W g h=>z4M T W g h;obtain⟨q,hq⟩:∃ q,decide (T.data.toList∈z4J)=q:=⟨_,rfl⟩;rw[hq]at cI;have hK:(if T.data.toList∈z4J then (5:Int)else 1)=if q=true then 5 else 1:=by
  rw[←hq];by_cases h:T.data.toList∈z4J
  ·rw[if_pos h,yb9 h];rfl
  ·rw[if_neg h,ya9 h];rfl
 rw[hK];obtain⟨KK,hKK⟩:∃ K:Int,(if q=true then (5:Int)else 1)=K:=⟨_,rfl⟩
 obtain⟨Z,hZ⟩:∃ Z:Int,(if 12<n then -1 else (n:Int))=Z:=⟨_,rfl⟩
 rw[hKK,hZ];have HKK:Hid ((if q=true then (5:Int)else 1)=KK):=hKK
 have HZ:Hid ((if 12<n then -1 else (n:Int))=Z):=hZ
 clear hKK hZ;obtain⟨b,hb⟩:∃ b,a+n=b:=⟨_,rfl⟩;have hb':(a:Int)+n=b:=by omega
 rw[hb]at hT;have hbs:(b:Int)<=s.size:=by omega
 have hab:(a:Int)<=b:=by omega
 have hai:(a:Int)<s.size:=by omega
 clear hn hTl hTd hR hV hc hK hq;go_enter Tryz.func47,Tryz.ntmps47;obtain⟨g0,hg0⟩:∃ g,w.heap.size=g:=⟨_,rfl⟩;obtain⟨W2,hW2⟩:∃ W,(w.alloc (.cells #[.int .i64 0,.string ⟨#[]⟩,.int .u64 0,.int .i64 0] 117)).alloc (.cells #[.int .i64 0,.string ⟨#[]⟩,.int .u64 0,.int .i64 (a:Int)] 117)=W:=⟨_,rfl⟩;have bb:Below w.heap.size w W2:=by rw[←hW2];exact((yg9 _ _).alloc (yf9 _) _).alloc (by simp) _
 have hB1:W2.heap[g0+1]?=some (.cells #[.int .i64 0,.string ⟨#[]⟩,.int .u64 0,.int .i64 (a:Int)] 117):=by
  have h:=heap_alloc_new (w.alloc (.cells #[.int .i64 0,.string ⟨#[]⟩,.int .u64 0,.int .i64 0] 117)) (.cells #[.int .i64 0,.string ⟨#[]⟩,.int .u64 0,.int .i64 (a:Int)] 117);rw[hW2]at h;have e:(w.alloc (.cells #[.int .i64 0,.string ⟨#[]⟩,.int .u64 0,.int .i64 0] 117)).heap.size=g0+1:=by rw[←hg0];simp
  rw[e]at h;exact h
 have hB0:W2.heap[g0]?=some (.cells #[.int .i64 0,.string ⟨#[]⟩,.int .u64 0,.int .i64 0] 117):=by
  have h:=heap_alloc_new w (.cells #[.int .i64 0,.string ⟨#[]⟩,.int .u64 0,.int .i64 0] 117);rw[hg0]at h;have k:Below (w.alloc (.cells #[.int .i64 0,.string ⟨#[]⟩,.int .u64 0,.int .i64 0] 117)).heap.size (w.alloc (.cells #[.int .i64 0,.string ⟨#[]⟩,.int .u64 0,.int .i64 0] 117)) W2:=by rw[←hW2];exact(yg9 _ _).alloc (yf9 _) _
  exact z3g k h
 obtain⟨g1,hg1⟩:∃ g,g0+1=g:=⟨_,rfl⟩;rw[hg1]at hB1;have hne:g0≠g1:=by omega
 have hne':g1≠g0:=by omega
 have hgw:w.heap.size<=g1:=by omega
 go_wp2_with fail;try simp only[hW2,hg0,hg1]
 clear hW2 hg1;refine(cL _).mono ?_;rintro e w' ⟨rfl,rfl⟩;go_wp2_with fail;refine(cN _).mono ?_;rintro e w' ⟨rfl,rfl⟩;have f1:=fun j=>frozen_of_row W2 g1 j _ _ hB1;have f10:=f1 0;have f11:=f1 1;have k0:W2.cell? ⟨g1,0,none⟩=some (.int .i64 0):=by rw[cell_of_row _ _ _ _ _ _ hB1];rfl
 have k1:W2.cell? ⟨g1,1,none⟩=some (.string ⟨#[]⟩):=by rw[cell_of_row _ _ _ _ _ _ hB1];rfl
 clear f1;go_upto_region 11 with fail;obtain⟨W3,hW3⟩:∃ W,(W2.setCell ⟨g1,0,none⟩ (.int .i64 1)).setCell ⟨g1,1,none⟩ (.string T)=W:=⟨_,rfl⟩;have hC1:W3.heap[g1]?=some (.cells #[.int .i64 1,.string T,.int .u64 0,.int .i64 (a:Int)] 117):=by
  rw[←hW3,heap_setCell_same _ _ _ _ _ _ (heap_setCell_same _ _ _ _ _ _ hB1)];rfl
 have hC0:W3.heap[g0]?=some (.cells #[.int .i64 0,.string ⟨#[]⟩,.int .u64 0,.int .i64 0] 117):=by
  rw[←hW3,heap_setCell_other _ _ _ _ hne,heap_setCell_other _ _ _ _ hne];exact hB0
 have bc:Below w.heap.size w W3:=by
  rw[←hW3];exact(bb.setCell (p:=⟨g1,0,none⟩) hgw _).setCell (p:=⟨g1,1,none⟩) hgw _
 try simp only[hW3]
 clear hW3 hB0 hB1 bb f10 f11 k0 k1;clear W2;go_cut [44] (fun x wx=>x=.bool q/\Below w.heap.size w wx/\wx.heap[g1]?=some (.cells #[.int .i64 1,.string T,.int .u64 0,.int .i64 (a:Int)] 117)/\wx.heap[g0]?=some (.cells #[.int .i64 0,.string ⟨#[]⟩,.int .u64 0,.int .i64 0] 117))
 case first=>
  have k1:W3.cell? ⟨g1,1,none⟩=some (.string T):=by rw[cell_of_row _ _ _ _ _ _ hC1];rfl
  have bd:Below w.heap.size w (W3.alloc z4K):=bc.alloc bc.size _;have hD1:(W3.alloc z4K).heap[g1]?=some (.cells #[.int .i64 1,.string T,.int .u64 0,.int .i64 (a:Int)] 117):=z3g (w:=W3) ((yg9 _ _).alloc (yf9 _) _) hC1;have hD0:(W3.alloc z4K).heap[g0]?=some (.cells #[.int .i64 0,.string ⟨#[]⟩,.int .u64 0,.int .i64 0] 117):=z3g (w:=W3) ((yg9 _ _).alloc (yf9 _) _) hC0;have k1':(W3.alloc z4K).cell? ⟨g1,1,none⟩=some (.string T):=by rw[cell_of_row _ _ _ _ _ _ hD1];rfl
  have HD:Hid (Below w.heap.size w (W3.alloc z4K)/\(W3.alloc z4K).heap[g1]?=some (.cells #[.int .i64 1,.string T,.int .u64 0,.int .i64 (a:Int)] 117)/\(W3.alloc z4K).heap[g0]?=some (.cells #[.int .i64 0,.string ⟨#[]⟩,.int .u64 0,.int .i64 0] 117)):=⟨bd,hD1,hD0⟩;clear bd hD1 hD0;go_region_with (first
   | (go_at_call 65;refine(z4L _).mono ?_;rintro e w' ⟨rfl,rfl⟩)
   | (go_at_call 64;refine(cI _ _ ?_).mono ?_;exact heap_alloc_new W3 _;rintro e w' ⟨rfl,rfl⟩))
  all_goals go_wp2
  all_goals go_meet
  all_goals exact⟨rfl,HD.out.1.drew,HD.out.2.1,HD.out.2.2⟩
 case rest=>
  obtain⟨rfl,bd,hD1,hD0⟩:=hcut;clear hC1 hC0 bc cI cL cN;clear W3;go_upto_if 44 with fail;go_cut [] (fun wx=>Below w.heap.size w wx/\wx.heap[g1]?=some (.cells #[.int .i64 KK,.string T,.int .u64 0,.int .i64 (a:Int)] 117)/\wx.heap[g0]?=some (.cells #[.int .i64 0,.string ⟨#[]⟩,.int .u64 0,.int .i64 0] 117))
  case first=>
   have f10:=frozen_of_row wc g1 0 _ _ hD1;obtain⟨k0,k1,k2,k3⟩:=z2u hD1;cases q
   ·have hk1:KK=1:=by rw[←HKK.out];rfl
    subst hk1;go_wp2;go_meet
    case rel=>exact⟨bd,hD1,hD0⟩
   ·have hE1:(wc.setCell ⟨g1,0,none⟩ (.int .i64 5)).heap[g1]?=some (.cells #[.int .i64 5,.string T,.int .u64 0,.int .i64 (a:Int)] 117):=by
     rw[heap_setCell_same _ _ _ _ _ _ hD1];rfl
    have hE0:(wc.setCell ⟨g1,0,none⟩ (.int .i64 5)).heap[g0]?=some (.cells #[.int .i64 0,.string ⟨#[]⟩,.int .u64 0,.int .i64 0] 117):=by
     rw[heap_setCell_other _ _ _ _ hne];exact hD0
    have HE:Hid (Below w.heap.size w (wc.setCell ⟨g1,0,none⟩ (.int .i64 5))/\(wc.setCell ⟨g1,0,none⟩ (.int .i64 5)).heap[g1]?=some (.cells #[.int .i64 5,.string T,.int .u64 0,.int .i64 (a:Int)] 117)/\(wc.setCell ⟨g1,0,none⟩ (.int .i64 5)).heap[g0]?=some (.cells #[.int .i64 0,.string ⟨#[]⟩,.int .u64 0,.int .i64 0] 117)):=⟨bd.setCell (p:=⟨g1,0,none⟩) hgw _,hE1,hE0⟩;clear hE1 hE0;have hk1:KK=5:=by rw[←HKK.out];rfl
    subst hk1;go_wp2;go_meet
    case rel=>exact HE.out
  case rest=>
   clear bd hD1 hD0;obtain⟨bd,hD1,hD0⟩:=hcut;obtain⟨k0,k1,k2,k3⟩:=z2u hD1;obtain⟨m0,m1,m2,m3⟩:=z2u hD0;have f00:=frozen_of_row _ g0 0 _ _ hD0;have f01:=frozen_of_row _ g0 1 _ _ hD0;have f02:=frozen_of_row _ g0 2 _ _ hD0;have f03:=frozen_of_row _ g0 3 _ _ hD0;have hgw0:w.heap.size<=g0:=by omega
   obtain⟨W5,hW5⟩:∃ W,(((wc.setCell ⟨g0,0,none⟩ (.int .i64 KK)).setCell ⟨g0,1,none⟩ (.string T)).setCell ⟨g0,2,none⟩ (.int .u64 0)).setCell ⟨g0,3,none⟩ (.int .i64 (a:Int))=W:=⟨_,rfl⟩;have b5:Below w.heap.size w W5:=by
    rw[←hW5];exact(((bd.setCell (p:=⟨g0,0,none⟩) hgw0 _).setCell (p:=⟨g0,1,none⟩) hgw0 _).setCell (p:=⟨g0,2,none⟩) hgw0 _).setCell (p:=⟨g0,3,none⟩) hgw0 _
   have hF:=z4N (a':=.int .i64 KK) (b':=.string T) (c':=.int .u64 0) (d':=.int .i64 (a:Int)) hD0;rw[hW5]at hF;obtain⟨v0,v1,v2,v3⟩:=z2u hF;clear hF bd hD0 hD1;by_cases h12:12<n
   ·have h12':(12:Int)<n:=by omega
    have hz:Z=-1:=by rw[←HZ.out,if_pos h12]
    subst hz;go_wp2;try simp only[hW5]
    try simp only[Exit.inBlock,Exit.then]
    refine bodyPost_ret (by simp[results,Tryz.results47,go_sem,v0,v1,v2,v3];try rfl) rfl ?_
    exact⟨rfl,b5⟩
   ·have h12':decide ((12:Int)<n)=false:=by simp;omega
    have hz:Z=n:=by rw[←HZ.out,if_neg h12]
    subst hz;go_wp2;try simp only[hW5]
    try simp only[Exit.inBlock,Exit.then]
    refine bodyPost_ret (by simp[results,Tryz.results47,go_sem,v0,v1,v2,v3];try rfl) rfl ?_
    exact⟨rfl,b5⟩
structure z4Q where
 kind:Int
 a:Int
 b:Int
 c:Int
 list:List Int
 names:List ByteArray
 num:Nat
 pos:Int
def z4R(p:z4Q)(lv nv:Value):List Value:=[.int .i64 p.kind,.int .i64 p.a,.int .i64 p.b,.int .i64 p.c,lv,nv,.int .u64 (p.num:Int),.int .i64 p.pos]
def z4S(n:Nat):Prop:=n<2 ^ 64
