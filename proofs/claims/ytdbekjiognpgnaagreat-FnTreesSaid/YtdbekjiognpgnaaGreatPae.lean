/- Part 5. -/
import Derived.Test.YtdbekjiognpgnaaGreatPad
set_option maxHeartbeats 16000000
set_option maxRecDepth 100000
set_option linter.unusedVariables false
namespace Go.Proofs.YtdbekjiognpgnaaGreat
open Go.RowKit
theorem z3G(s:ByteArray)(a k:Nat)(h:a+k<s.size):(s.data.toList.drop a)[k]?=some s[a+k]:=by
 rw[List.getElem?_drop,yd9 (by rw[z1x];exact h)]
 rfl
theorem z3H(s:ByteArray)(a:Nat)(h:a<s.size):s.data.toList.drop a=s[a]::s.data.toList.drop (a+1):=List.drop_eq_getElem_cons (by rw[z1x];exact h)
theorem z3I(s:ByteArray):s.data.toList.drop s.size=[]:=List.drop_eq_nil_of_le (by rw[z1x];exact yf9 _)
theorem z3J(s:ByteArray)(a k:Nat):sl s a (a+k)=(s.data.toList.drop a).take k:=by
 unfold sl;rw[Nat.add_sub_cancel_left]
theorem z3K{s:ByteArray}{a k:Nat}(h:a+k<=s.size)(h1:Figs (sl s a (a+k)))(h2:a+k=s.size\/∃ h:a+k<s.size,¬(48<=(s[a+k]).toNat/\(s[a+k]).toNat<=57)):runN (s.data.toList.drop a)=k:=by
 have hl:(s.data.toList.drop a).length=s.size-a:=by rw[List.length_drop,z1x]
 refine z3p (by omega) (by rw[←z3J];exact h1) ?_
 rcases h2 with h2|⟨h2,h3⟩
 ·left;omega
 ·right
  refine⟨by omega,?_⟩
  have e:=z3G s a k h2;rw[yd9 (by omega)]at e
  rw[Option.some.inj e];exact z3l h3
theorem z3L(s:ByteArray)(a:Nat)(w:World)(ha:a<=s.size)(hs:s.size<=1048576):
  Calls Tryz.prog 93 #[.string s,.int .i64 a] w fun e w'=>e=.returned (.int .i64 (runN (s.data.toList.drop a):Nat))/\w=w':=by
 obtain⟨R,hR⟩:∃ R,runN (s.data.toList.drop a)=R:=⟨_,rfl⟩;have HR:Hid (Unit->runN (s.data.toList.drop a)=R):=fun _=>hR;rw[hR];clear hR;go_enter Tryz.func93,Tryz.ntmps93;go_upto_region 2 with fail;go_loop [5] (fun x=>∃ k:Nat,x=.int .i64 k/\a+k<=s.size/\Hid (Figs (sl s a (a+k)))) (fun x=>s.size-(intOf x).toNat)
 case atStart=>exact⟨0,rfl,by omega,by rw[Nat.add_zero,z0r];exact z1o⟩
 case round=>
  obtain⟨k,rfl,hk,HK⟩:=hrel;obtain⟨K,hK⟩:∃ K,a+k=K:=⟨_,rfl⟩;have hK':(a:Int)+k=K:=by omega
  by_cases hlt:K<s.size
  ·have hlt':(K:Int)<s.size:=by omega
   by_cases hc1:48<=(s[K]).toNat
   ·have hc1':(48:Int)<=((s[K]).toNat:Int):=by omega
    by_cases hc2:(s[K]).toNat<=57
    ·have hc2':((s[K]).toNat:Int)<=57:=by omega
     have HN:Hid (Figs (sl s a (a+(k+1)))):=by
      show Figs _;rw[←Nat.add_assoc,z0t (by omega) (by omega)]
      refine z1p HK.out ?_;simp only[hK];exact⟨hc1,hc2⟩
     go_wp2;go_round
     case rel=>exact⟨k+1,by go_num,by omega,HN⟩
     case measure=>simp[intOf];omega
    ·have hc2':decide (((s[K]).toNat:Int)<=57)=false:=by simp;omega
     have HE:Hid (R=k):=by
      show _=_;rw[←HR.out ()];exact z3K hk HK.out (.inr ⟨by omega,by simp only[hK];omega⟩)
     go_wp2;go_ret;exact⟨by rw[HE.out];rfl,rfl⟩
   ·have hc1':decide ((48:Int)<=((s[K]).toNat:Int))=false:=by simp;omega
    have HE:Hid (R=k):=by
     show _=_;rw[←HR.out ()];exact z3K hk HK.out (.inr ⟨by omega,by simp only[hK];omega⟩)
    go_wp2;go_ret;exact⟨by rw[HE.out];rfl,rfl⟩
  ·have hlt':decide ((K:Int)<s.size)=false:=by simp;omega
   have HE:Hid (R=k):=by
    show _=_;rw[←HR.out ()];exact z3K hk HK.out (.inl (by omega))
   go_wp2;go_ret;exact⟨by rw[HE.out];rfl,rfl⟩
theorem z3M:∀ l:List UInt8,Figs (l.take (runN l))
 | []=>z1o
 | c::l=>by
  unfold runN;rw[List.takeWhile_cons];split
  ·rename_i h
   intro x hx;rw[List.length_cons,List.take_succ_cons,List.mem_cons]at hx;rcases hx with rfl|hx
   ·unfold z3j at h;rw[Bool.and_eq_true,decide_eq_true_eq,decide_eq_true_eq]at h;exact h
   ·exact z3M l x hx
  ·exact z1o
theorem z3N(a b:List UInt8):txt a++txt b=txt (a++b):=by
 apply ByteArray.ext
 simp[txt,ByteArray.data_append]
theorem z3O(s:ByteArray)(a b:Nat):s.extract a b=txt (sl s a b):=by
 rw[Lib.extract_eq];rfl
def z3P(t:List UInt8)(n a b:Nat)(f:List UInt8)(e:Int):Prop:=dotR (t.drop n)=some (f,t.drop a)/\expR (t.drop a)=some (e,t.drop b)
theorem z3Q{t:List UInt8}{n b:Nat}{f:List UInt8}{e:Int}{a:Nat}(hn:runN t=n)(h80:t.length<=80)(h1:1<=n)(h2:n<=30)(h:z3P t n a b f e)(hb:b<=t.length):
  (b=t.length->z3t t=z3s (t.take n++f) (e-f.length)/\z3u t=true)/\(b≠t.length->z3t t=0/\z3u t=false):=by
 have hR:z3r t=if t.drop b=[]then some (t.take n++f,e-f.length)else none:=by
  unfold z3r;rw[hn,if_pos ⟨h80,h1,h2⟩,h.1];simp[h.2]
 constructor
 ·intro hbe;rw[if_pos (List.drop_eq_nil_of_le (by omega))]at hR
  unfold z3t z3u;rw[hR];exact⟨rfl,rfl⟩
 ·intro hbe;rw[if_neg (by rw[List.drop_eq_nil_iff];omega)]at hR
  unfold z3t z3u;rw[hR];exact⟨rfl,rfl⟩
theorem z3R{t:List UInt8}(h:z3r t=none):z3t t=0/\z3u t=false:=by
 unfold z3t z3u;rw[h];exact⟨rfl,rfl⟩
theorem z3S(s:ByteArray)(w:World)(hs:s.size<=1048576):
  Calls Tryz.prog 70 #[.string s] w fun e w'=>e=.returned (.tuple #[.int .u64 (z3t s.data.toList:Nat),.bool (z3u s.data.toList)])/\Below w.heap.size w w':=by
 obtain⟨V,hV⟩:∃ V,z3t s.data.toList=V:=⟨_,rfl⟩;obtain⟨O,hO⟩:∃ V,z3u s.data.toList=V:=⟨_,rfl⟩;have HV:Hid (Unit->z3t s.data.toList=V/\z3u s.data.toList=O):=fun _=>⟨hV,hO⟩;rw[hV,hO];clear hV hO;have HNone:Hid (Unit->z3r s.data.toList=none->V=0/\O=false):=fun _ h=>by
  have:=z3R h;rw[(HV.out ()).1,(HV.out ()).2]at this;exact this
 by_cases h80:80<s.size
 ·have h80':(80:Int)<s.size:=by omega
  obtain⟨hv,ho⟩:=HNone.out () (by unfold z3r;rw[if_neg (fun h=>by rw[z1x]at h;omega)])
  subst hv ho;clear HV HNone;go_enter Tryz.func70,Tryz.ntmps70;go_wp2;go_ret2
  exact⟨rfl,yg9 _ _⟩
 have h80':decide ((80:Int)<s.size)=false:=by simp;omega
 have cR:=fun(a:Nat) (ha:a<=s.size) W=>z3L s a W ha hs;have cR0:=cR 0 (by omega)
 rw[List.drop_zero]at cR0;obtain⟨n,hn⟩:∃ n,runN s.data.toList=n:=⟨_,rfl⟩;have hnl:=z3o s.data.toList;rw[z1x,hn]at hnl;rw[hn]at cR0;have cI:=fun W=>z1D (n:Int) 1 30 W;have HN:Hid (Unit->runN s.data.toList=n):=fun _=>hn;clear hn;by_cases h30:1<=n/\n<=30
 ·rw[yb9 (by omega:(1:Int)<=n),yb9 (by omega:(n:Int)<=30)]at cI
  have hn1:(1:Int)<=n:=by omega
  have hn2:(n:Int)<=30:=by omega
  have hs8:(s.size:Int)<=80:=by omega
  obtain⟨A,hA⟩:∃ A,s.extract 0 n=A:=⟨_,rfl⟩;have hAs:A.size=n:=by rw[←hA,ByteArray.size_extract];omega
  have HA:Hid (Unit->A=txt (s.data.toList.take n)):=fun _=>by
   rw[←hA,z3O];unfold sl;rw[List.drop_zero,Nat.sub_zero]
  go_enter Tryz.func70,Tryz.ntmps70;go_wp2_with fail;refine(cR0 _).mono ?_;rintro e w' ⟨rfl,rfl⟩;go_wp2_with fail;refine(cI _).mono ?_;rintro e w' ⟨rfl,rfl⟩;clear cI cR0;go_upto_region 9 with fail;go_cut [34] (fun x wx=>∃ d:Bool,x=.bool d/\w=wx/\Hid (Unit->(d=true->∃ h:n<s.size,(s[n]).toNat=46)/\(d=false->¬∃ h:n<s.size,(s[n]).toNat=46)))
  case first=>
   by_cases hlt:n<s.size
   ·have hlt':(n:Int)<s.size:=by omega
    by_cases hc:(s[n]).toNat=46
    ·have hc':((s[n]).toNat:Int)=46:=by omega
     go_wp2;go_meet
     case rel=>exact⟨true,rfl,rfl,fun _=>⟨fun _=>⟨hlt,hc⟩,fun h=>by simp at h⟩⟩
    ·have hc':(((s[n]).toNat:Int)==46)=false:=by rw[yc9];omega
     go_wp2;go_meet
     case rel=>exact⟨false,rfl,rfl,fun _=>⟨fun h=>by simp at h,fun _ h=>hc h.2⟩⟩
   ·have hlt':decide ((n:Int)<s.size)=false:=by simp;omega
    go_wp2;go_meet
    case rel=>exact⟨false,rfl,rfl,fun _=>⟨fun h=>by simp at h,fun _ h=>hlt h.1⟩⟩
  case rest=>
   obtain⟨d,rfl,rfl,HD⟩:=hcut;go_upto_if 34 with fail;go_cut [5,6,7] (fun v5 v6 v7 wx=>∃(f:List UInt8) (a:Nat) (B:ByteArray),v5=.string B/\v6=.int .i64 (-(f.length:Int))/\v7=.int .i64 a/\a<=s.size/\(f.length:Int)<=30/\(B.size:Int)<=60/\w=wx/\Hid (Unit->dotR (s.data.toList.drop n)=some (f,s.data.toList.drop a)/\B=txt (s.data.toList.take n++f)))
   case first=>
    cases d
    ·have HF:Hid (Unit->dotR (s.data.toList.drop n)=some ([],s.data.toList.drop n)):=fun _=>by
      have h:=(HD.out ()).2 rfl;by_cases hlt:n<s.size
      ·rw[z3H s n hlt,dotR,if_neg (fun hc=>h ⟨hlt,hc⟩)]
      ·rw[(by omega:n=s.size),z3I];rfl
     go_wp2;go_meet
     case rel=>exact⟨[],n,A,rfl,by simp,rfl,by omega,by simp,by omega,rfl,fun _=>⟨HF.out (),by rw[List.append_nil];exact HA.out ()⟩⟩
    ·obtain⟨hlt,hc⟩:=(HD.out ()).1 rfl;have hc':((s[n]).toNat:Int)=46:=by omega
     obtain⟨k,hk⟩:∃ k,runN (s.data.toList.drop (n+1))=k:=⟨_,rfl⟩;have hkl:=z3o (s.data.toList.drop (n+1));rw[List.length_drop,z1x,hk]at hkl;have c1:∀ W:World,Calls Tryz.prog 93 #[.string s,.int .i64 ((n:Int)+1)] W fun e w'=>e=.returned (.int .i64 (k:Nat))/\W=w':=fun W=>by
      have h:=cR (n+1) (by omega) W
      rw[hk,Int.natCast_add]at h;exact h
     have c2:=fun W=>z1D (k:Int) 1 30 W;have HK:Hid (Unit->dotR (s.data.toList.drop n)=if 1<=k/\k<=30 then some ((s.data.toList.drop (n+1)).take k,s.data.toList.drop (n+1+k))else none):=fun _=>by
      rw[z3H s n hlt,dotR,if_pos hc,hk,List.drop_drop]
     clear hk;by_cases hk30:1<=k/\k<=30
     ·rw[yb9 (by omega:(1:Int)<=k),yb9 (by omega:(k:Int)<=30)]at c2
      obtain⟨b,hb⟩:∃ b,n+1+k=b:=⟨_,rfl⟩;have hb':(n:Int)+1+k=b:=by omega
      obtain⟨m,hm⟩:∃ m,n+1=m:=⟨_,rfl⟩;have hm':(n:Int)+1=m:=by omega
      obtain⟨T,hT⟩:∃ T,s.extract m b=T:=⟨_,rfl⟩;have hTs:T.size=k:=by rw[←hT,ByteArray.size_extract];omega
      have HT:Hid (Unit->T=txt ((s.data.toList.drop (n+1)).take k)):=fun _=>by
       rw[←hT,z3O,←hm,←hb,z3J]
      have hbs:(b:Int)<=s.size:=by omega
      have hmb:(m:Int)<=b:=by omega
      obtain⟨U,hU⟩:∃ U,A++T=U:=⟨_,rfl⟩;have hUs:U.size=n+k:=by rw[←hU,ByteArray.size_append,hAs,hTs]
      have HU:Hid (Unit->U=txt (s.data.toList.take n++(s.data.toList.drop (n+1)).take k)):=fun _=>by
       rw[←hU,HA.out (),HT.out (),z3N]
      have hk3:(k:Int)<=30:=by omega
      have hlenf:((s.data.toList.drop (n+1)).take k).length=k:=by rw[List.length_take,List.length_drop,z1x];omega
      have HLF:Hid (Unit->((s.data.toList.drop (n+1)).take k).length=k):=fun _=>hlenf;clear hlenf;have c1':=c1;rw[hm']at c1';clear c1;go_wp2_with fail;refine(c1' _).mono ?_;rintro e w' ⟨rfl,rfl⟩;go_wp2_with fail;refine(c2 _).mono ?_;rintro e w' ⟨rfl,rfl⟩;go_wp2;go_meet
      case rel=>
       refine⟨(s.data.toList.drop (n+1)).take k,b,U,?_,?_,?_,by omega,?_,by omega,rfl,fun _=>⟨?_,HU.out ()⟩⟩
       ·rw[←hU,←hT,←hb,←hm]
       ·rw[HLF.out ()]
       ·go_num
       ·rw[HLF.out ()];exact hk3
       ·rw[HK.out (),if_pos hk30,hb]
     ·have e1:(decide ((1:Int)<=k)&&decide ((k:Int)<=30))=false:=by
       rw[Bool.and_eq_false_iff,decide_eq_false_iff_not,decide_eq_false_iff_not];omega
      rw[e1]at c2;obtain⟨hv,ho⟩:=HNone.out () (by
       unfold z3r;rw[HN.out (),if_pos ⟨by rw[z1x];omega,h30.1,h30.2⟩,HK.out (),if_neg hk30]
       rfl)
      clear e1;go_wp2_with fail;refine(c1 _).mono ?_;rintro e w' ⟨rfl,rfl⟩;go_wp2_with fail;refine(c2 _).mono ?_;rintro e w' ⟨rfl,rfl⟩;go_wp2;go_ret2
      exact⟨by rw[hv,ho];rfl,yg9 _ _⟩
   case rest=>
    clear HD HA hAs hA;clear A d;obtain⟨f,a,B,rfl,rfl,rfl,ha,hf30,hB60,rfl,HF⟩:=hcut;obtain⟨fl,hfl⟩:∃ fl,f.length=fl:=⟨_,rfl⟩;have HFL:Hid (Unit->f.length=fl):=fun _=>hfl;rw[hfl]at hf30;simp only[hfl];clear hfl;go_upto_region 16 with fail;go_cut [67] (fun x wx=>∃ d:Bool,x=.bool d/\w=wx/\Hid (Unit->(d=true->∃ h:a<s.size,(s[a]).toNat=101)/\(d=false->¬∃ h:a<s.size,(s[a]).toNat=101)))
    case first=>
     by_cases hlt:a<s.size
     ·have hlt':(a:Int)<s.size:=by omega
      by_cases hc:(s[a]).toNat=101
      ·have hc':((s[a]).toNat:Int)=101:=by omega
       go_wp2;go_meet
       case rel=>exact⟨true,rfl,rfl,fun _=>⟨fun _=>⟨hlt,hc⟩,fun h=>by simp at h⟩⟩
      ·have hc':(((s[a]).toNat:Int)==101)=false:=by rw[yc9];omega
       go_wp2;go_meet
       case rel=>exact⟨false,rfl,rfl,fun _=>⟨fun h=>by simp at h,fun _ h=>hc h.2⟩⟩
     ·have hlt':decide ((a:Int)<s.size)=false:=by simp;omega
      go_wp2;go_meet
      case rel=>exact⟨false,rfl,rfl,fun _=>⟨fun h=>by simp at h,fun _ h=>hlt h.1⟩⟩
    case rest=>
     obtain⟨d,rfl,rfl,HD⟩:=hcut;go_upto_if 67 with fail;go_cut [6,7] (fun v6 v7 wx=>∃(e:Int) (b:Nat),v6=.int .i64 (e-fl)/\v7=.int .i64 b/\b<=s.size/\-1000<e/\e<1000/\w=wx/\Hid (Unit->expR (s.data.toList.drop a)=some (e,s.data.toList.drop b)))
     case first=>
      cases d
      ·have HX:Hid (Unit->expR (s.data.toList.drop a)=some (0,s.data.toList.drop a)):=fun _=>by
        have h:=(HD.out ()).2 rfl;by_cases hlt:a<s.size
        ·rw[z3H s a hlt,expR,if_neg (fun hc=>h ⟨hlt,hc⟩)]
        ·rw[(by omega:a=s.size),z3I];rfl
       go_wp2;go_meet
       case rel=>exact⟨0,a,by go_num,rfl,by omega,by omega,by omega,rfl,HX⟩
      ·obtain⟨hlt,hc⟩:=(HD.out ()).1 rfl;obtain⟨q,hq⟩:∃ q,a+1=q:=⟨_,rfl⟩;have hq':(a:Int)+1=q:=by omega
       have HXC:Hid (Unit->s.data.toList.drop a=s[a]::s.data.toList.drop q/\(s[a]).toNat=101):=fun _=>⟨by rw[←hq];exact z3H s a hlt,hc⟩
       clear hc HD;go_upto_region 18 with fail;go_cut [9] (fun x wx=>∃ neg:Bool,x=.bool neg/\w=wx/\Hid (Unit->neg=(z3q (s.data.toList.drop q)).1))
       case first=>
        by_cases hl2:q<s.size
        ·have hl2':(q:Int)<s.size:=by omega
         by_cases hc:(s[q]).toNat=45
         ·have hc':((s[q]).toNat:Int)=45:=by omega
          go_wp2;go_meet
          case rel=>exact⟨true,rfl,rfl,fun _=>by rw[z3H s q hl2,z3q,if_pos hc]⟩
         ·have hc':(((s[q]).toNat:Int)==45)=false:=by rw[yc9];omega
          go_wp2;go_meet
          case rel=>exact⟨false,rfl,rfl,fun _=>by rw[z3H s q hl2,z3q,if_neg hc];split<;>rfl⟩
        ·have hl2':decide ((q:Int)<s.size)=false:=by simp;omega
         go_wp2;go_meet
         case rel=>exact⟨false,rfl,rfl,fun _=>by rw[(by omega:q=s.size),z3I];rfl⟩
       case rest=>
        obtain⟨neg,rfl,rfl,HG⟩:=hcut;go_upto_region 19 with fail;go_cut [95] (fun x wx=>∃ d:Bool,x=.bool d/\w=wx/\Hid (Unit->(d=true->∃ h:q<s.size,(s[q]).toNat=45\/(s[q]).toNat=43)/\(d=false->¬∃ h:q<s.size,(s[q]).toNat=45\/(s[q]).toNat=43)))
        case first=>
         by_cases hl2:q<s.size
         ·have hl2':(q:Int)<s.size:=by omega
          by_cases hc:(s[q]).toNat=45
          ·have hc':((s[q]).toNat:Int)=45:=by omega
           go_wp2;go_meet
           case rel=>exact⟨true,rfl,rfl,fun _=>⟨fun _=>⟨hl2,.inl hc⟩,fun h=>by simp at h⟩⟩
          ·have hc':(((s[q]).toNat:Int)==45)=false:=by rw[yc9];omega
           by_cases hd:(s[q]).toNat=43
           ·have hd':((s[q]).toNat:Int)=43:=by omega
            go_wp2;go_meet
            case rel=>exact⟨true,rfl,rfl,fun _=>⟨fun _=>⟨hl2,.inr hd⟩,fun h=>by simp at h⟩⟩
           ·have hd':(((s[q]).toNat:Int)==43)=false:=by rw[yc9];omega
            go_wp2;go_meet
            case rel=>exact⟨false,rfl,rfl,fun _=>⟨fun h=>by simp at h,fun _ h=>by rcases h.2 with h'|h';exact hc h';exact hd h'⟩⟩
         ·have hl2':decide ((q:Int)<s.size)=false:=by simp;omega
          go_wp2;go_meet
          case rel=>exact⟨false,rfl,rfl,fun _=>⟨fun h=>by simp at h,fun _ h=>hl2 h.1⟩⟩
        case rest=>
         obtain⟨d,rfl,rfl,HD⟩:=hcut;go_upto_if 95 with fail;go_cut [7] (fun v7 wx=>∃ p:Nat,v7=.int .i64 p/\p<=s.size/\w=wx/\Hid (Unit->z3q (s.data.toList.drop q)=(neg,s.data.toList.drop p)))
         case first=>
          cases d
          ·have HP:Hid (Unit->z3q (s.data.toList.drop q)=(neg,s.data.toList.drop q)):=fun _=>by
            have h:=(HD.out ()).2 rfl;rw[HG.out ()];by_cases hl2:q<s.size
            ·rw[z3H s q hl2,z3q,if_neg (fun hc=>h ⟨hl2,.inl hc⟩),if_neg (fun hc=>h ⟨hl2,.inr hc⟩)]
            ·rw[(by omega:q=s.size),z3I];rfl
           go_wp2;go_meet
           case rel=>exact⟨q,rfl,by omega,rfl,HP⟩
          ·have HP:Hid (Unit->z3q (s.data.toList.drop q)=(neg,s.data.toList.drop (q+1))):=fun _=>by
            obtain⟨hl2,hc⟩:=(HD.out ()).1 rfl;rw[HG.out (),z3H s q hl2,z3q];rcases hc with hc|hc
            ·rw[if_pos hc]
            ·rw[if_neg (by omega),if_pos hc]
           have hl2:=((HD.out ()).1 rfl).1;go_wp2;go_meet
           case rel=>exact⟨q+1,by go_num,by omega,rfl,HP⟩
         case rest=>
          clear HD HG;clear d;obtain⟨p,rfl,hp,rfl,HP⟩:=hcut;obtain⟨k,hk⟩:∃ k,runN (s.data.toList.drop p)=k:=⟨_,rfl⟩;have hkl:=z3o (s.data.toList.drop p);rw[List.length_drop,z1x,hk]at hkl;have c1:=cR p hp;rw[hk]at c1;have c2:=fun W=>z1D (k:Int) 1 3 W;have HK:Hid (Unit->expR (s.data.toList.drop a)=if 1<=k/\k<=3 then some (if neg=true then -(digV (sl s p (p+k)):Int)else (digV (sl s p (p+k)):Int),s.data.toList.drop (p+k))else none):=fun _=>by
           rw[(HXC.out ()).1,expR,if_pos (HXC.out ()).2,HP.out ()];simp only[hk,List.drop_drop,z3J]
          have HFK:Hid (Unit->Figs (sl s p (p+k))):=fun _=>by
           rw[z3J,←hk];exact z3M _
          clear hk HXC HP;by_cases hk3:1<=k/\k<=3
          ·rw[yb9 (by omega:(1:Int)<=k),yb9 (by omega:(k:Int)<=3)]at c2
           go_wp2_with fail;refine(c1 _).mono ?_;rintro e w' ⟨rfl,rfl⟩;go_wp2_with fail;refine(c2 _).mono ?_;rintro e w' ⟨rfl,rfl⟩;clear c1 c2 cR;have hpk:(p:Int)+k<=s.size:=by omega
           have hk3':(k:Int)<=3:=by omega
           go_upto_region 26 with fail;go_loop [11,12] (fun x y=>∃ i v:Nat,y=.int .i64 i/\x=.int .i64 v/\(i:Int)<=k/\(v:Int)<1000/\Hid (Unit->v=digV (sl s p (p+i)))) (fun _ y=>(k-(intOf y)).toNat)
           case atStart=>exact⟨0,0,rfl,rfl,by omega,by omega,fun _=>by rw[Nat.add_zero,z0r];rfl⟩
           case round=>
            obtain⟨i,v,rfl,rfl,hik,hv3,HI⟩:=hrel;by_cases hi:(i:Int)<k
            ·obtain⟨j,hj⟩:∃ j,p+i=j:=⟨_,rfl⟩;have hj':(p:Int)+i=j:=by omega
             have hjs:j<s.size:=by omega
             obtain⟨c,hc⟩:∃ c:Nat,(s[j]).toNat=c:=⟨_,rfl⟩;have HS:Hid (Unit->sl s p (p+(i+1))=sl s p (p+i)++[s[j]]):=fun _=>by
              rw[←Nat.add_assoc,z0t (by omega) (by omega)]
              simp only[hj]
             have hc1:48<=c/\c<=57:=by
              rw[←hc];refine HFK.out () _ ?_;have hin:s[j]∈sl s p (p+(i+1)):=by rw[HS.out ()];simp
              rw[z3J]at hin ⊢;exact(List.take_subset_take_left _ (by omega)) hin
             have HV2:Hid (Unit->10*v+(c-48)=digV (sl s p (p+(i+1)))/\10*v+(c-48)<1000):=fun _=>by
              have e1:10*v+(c-48)=digV (sl s p (p+(i+1))):=by rw[HS.out (),z1n,hc,←HI.out ()]
              refine⟨e1,?_⟩;rw[e1];have hF:Figs (sl s p (p+(i+1))):=fun x hx=>HFK.out () x (by
               rw[z3J]at hx ⊢;exact(List.take_subset_take_left _ (by omega)) hx)
              have h1:=z1q hF;rw[z0s (by omega)]at h1
              have h2:10 ^ (p+(i+1)-p)<=10 ^ 3:=Nat.pow_le_pow_right (by decide) (by omega)
              omega
             have hc2:((s[j]).toNat:Int)=c:=by omega
             have q1:(48:Int)<=c:=by omega
             have q2:(c:Int)<=57:=by omega
             clear hc hc1 HS;go_wp2;go_round
             case rel=>exact⟨i+1,10*v+(c-48),by go_num,by go_num,by omega,by have:=(HV2.out ()).2;omega,fun _=>(HV2.out ()).1⟩
             case measure=>simp[intOf];omega
            ·have hie:i=k:=by omega
             subst hie;have hi':decide ((i:Int)<i)=false:=by simp
             cases neg
             ·go_wp2;go_meet
              case rel=>exact⟨v,p+i,by go_num,by go_num,by omega,by omega,by omega,rfl,fun _=>by rw[HK.out (),if_pos hk3,HI.out ()];rfl⟩
             ·go_wp2;go_meet
              case rel=>exact⟨-(v:Int),p+i,by go_num,by go_num,by omega,by omega,by omega,rfl,fun _=>by rw[HK.out (),if_pos hk3,HI.out ()];rfl⟩
          ·have e1:(decide ((1:Int)<=k)&&decide ((k:Int)<=3))=false:=by
            rw[Bool.and_eq_false_iff,decide_eq_false_iff_not,decide_eq_false_iff_not];omega
           rw[e1]at c2;obtain⟨hv,ho⟩:=HNone.out () (by
            unfold z3r;rw[HN.out (),if_pos ⟨by rw[z1x];omega,h30.1,h30.2⟩,(HF.out ()).1]
            show(expR (s.data.toList.drop a)).bind _=none;rw[HK.out (),if_neg hk3];rfl)
           clear e1;go_wp2_with fail;refine(c1 _).mono ?_;rintro e w' ⟨rfl,rfl⟩;go_wp2_with fail;refine(c2 _).mono ?_;rintro e w' ⟨rfl,rfl⟩;go_wp2;go_ret2
           exact⟨by rw[hv,ho];rfl,yg9 _ _⟩
     case rest=>
      clear HD cR;clear d;obtain⟨e,b,rfl,rfl,hb,he1,he2,rfl,HX⟩:=hcut;have hE:=z3Q (t:=s.data.toList) (n:=n) (a:=a) (b:=b) (f:=f) (e:=e) (HN.out ()) (by rw[z1x];omega) h30.1 h30.2 ⟨(HF.out ()).1,HX.out ()⟩ (by rw[z1x];exact hb)
      rw[(HV.out ()).1,(HV.out ()).2,z1x,HFL.out ()]at hE;have HBL:Hid (Unit->B.data.toList=s.data.toList.take n++f):=fun _=>by rw[(HF.out ()).2,z3a]
      rw[←HBL.out ()]at hE;obtain⟨X,hX⟩:∃ X,e-(fl:Int)=X:=⟨_,rfl⟩;rw[hX]at hE;simp only[hX];have hX1:-1100<X:=by omega
      have hX2:X<1100:=by omega
      have HEE:Hid ((b=s.size->V=z3s B.data.toList X/\O=true)/\(b≠s.size->V=0/\O=false)):=hE;clear hE hX HX HF HFL HN HV HNone he1 he2;by_cases hbe:b=s.size
      ·have hbe':(b:Int)=s.size:=by omega
       obtain⟨hv,ho⟩:=HEE.out.1 hbe;subst ho;obtain⟨G,hG⟩:∃ G,txt (z1t B.data.toList)=G:=⟨_,rfl⟩;have hGl:z1t B.data.toList=G.data.toList:=by rw[←hG,z3a]
       have cT:=fun W=>z3f B W (by omega)
       rw[hG]at cT;have hGs:G.size<=1000:=by
        rw[←z1x,←hGl];have h1:∀ l:List UInt8,(z1t l).length<=l.length+1:=by
         intro l;induction l with
         | nil=>simp[z1t]
         | cons x k ih=>
          cases k with
          | nil=>simp[z1t]
          | cons y r=>
           unfold z1t;split
           ·simp at ih ⊢;omega
           ·simp
        have h2:=h1 B.data.toList;rw[z1x]at h2;omega
       have cZ:=fun W=>z2E G W (by omega)
       unfold z3s at hv;rw[hGl]at hv;obtain⟨z,hz⟩:∃ z,z2B G.data.toList=z:=⟨_,rfl⟩;rw[hz]at hv cZ;have cN:=fun W=>z39 G X W (by omega) (by omega) (by omega)
       clear hG hGl hz HEE hbe;cases z
       ·rw[if_neg (by decide)]at hv
        by_cases g1:500<X
        ·rw[if_pos g1]at hv;subst hv;go_wp2_with fail;refine(cT _).mono ?_;rintro e w' ⟨rfl,rfl⟩;go_wp2_with fail;refine(cZ _).mono ?_;rintro e w' ⟨rfl,rfl⟩;go_wp2;go_ret2
         exact⟨rfl,yg9 _ _⟩
        ·rw[if_neg g1]at hv;have d1:decide (500<X)=false:=by simp;omega
         by_cases g2:X < -500
         ·rw[if_pos g2]at hv;subst hv;go_wp2_with fail;refine(cT _).mono ?_;rintro e w' ⟨rfl,rfl⟩;go_wp2_with fail;refine(cZ _).mono ?_;rintro e w' ⟨rfl,rfl⟩;go_wp2;go_ret2
          exact⟨rfl,yg9 _ _⟩
         ·rw[if_neg g2]at hv;have d2:decide (X < -500)=false:=by simp;omega
          rw[←hv]at cN;clear hv;go_wp2_with fail;refine(cT _).mono ?_;rintro e w' ⟨rfl,rfl⟩;go_wp2_with fail;refine(cZ _).mono ?_;rintro e w' ⟨rfl,rfl⟩;go_wp2_with fail;refine(cN _).mono ?_;rintro e w' ⟨rfl,b1⟩;go_wp2;go_ret2
          exact⟨rfl,b1⟩
       ·rw[if_pos rfl]at hv;subst hv;go_wp2_with fail;refine(cT _).mono ?_;rintro e w' ⟨rfl,rfl⟩;go_wp2_with fail;refine(cZ _).mono ?_;rintro e w' ⟨rfl,rfl⟩;go_wp2;go_ret2
        exact⟨rfl,yg9 _ _⟩
      ·obtain⟨hv,ho⟩:=HEE.out.2 hbe;subst hv ho;have hbe':((b:Int)==s.size)=false:=by rw[yc9];omega
       clear HEE;go_wp2;go_ret2
       exact⟨rfl,yg9 _ _⟩
 ·have e1:(decide ((1:Int)<=n)&&decide ((n:Int)<=30))=false:=by
   rw[Bool.and_eq_false_iff,decide_eq_false_iff_not,decide_eq_false_iff_not];omega
  rw[e1]at cI;obtain⟨hv,ho⟩:=HNone.out () (by unfold z3r;rw[HN.out (),if_neg (fun h=>h30 ⟨h.2.1,h.2.2⟩)])
  subst hv ho;clear HV HNone e1 h30;go_enter Tryz.func70,Tryz.ntmps70;go_wp2_with fail;refine(cR0 _).mono ?_;rintro e w' ⟨rfl,rfl⟩;go_wp2_with fail;refine(cI _).mono ?_;rintro e w' ⟨rfl,rfl⟩;go_wp2;go_ret2
  exact⟨rfl,yg9 _ _⟩
theorem z3T(c:UInt8)(w:World):
  Calls Tryz.prog 68 #[.int .u8 (c.toNat:Int)] w fun e w'=>e=.returned (.bool (z3j c))/\w=w':=by
 obtain⟨R,hR⟩:∃ R,z3j c=R:=⟨_,rfl⟩;rw[hR];unfold z3j at hR;obtain⟨n,hn⟩:∃ n,c.toNat=n:=⟨_,rfl⟩;rw[hn]at hR ⊢;clear hn;by_cases h1:48<=n
 ·have h1':(48:Int)<=n:=by omega
  by_cases h2:n<=57
  ·have h2':(n:Int)<=57:=by omega
   rw[yb9 h1,yb9 h2]at hR;subst hR;go_enter Tryz.func68,Tryz.ntmps68;go_wp2;go_ret;exact⟨rfl,rfl⟩
  ·have h2':decide ((n:Int)<=57)=false:=by simp;omega
   rw[yb9 h1,ya9 h2]at hR;subst hR;go_enter Tryz.func68,Tryz.ntmps68;go_wp2;go_ret;exact⟨rfl,rfl⟩
 ·have h1':decide ((48:Int)<=n)=false:=by simp;omega
  rw[ya9 h1]at hR;subst hR;go_enter Tryz.func68,Tryz.ntmps68;go_wp2;go_ret;exact⟨rfl,rfl⟩
theorem z3U(c:UInt8)(w:World):
  Calls Tryz.prog 67 #[.int .u8 (c.toNat:Int)] w fun e w'=>e=.returned (.bool (z3x c))/\w=w':=by
 obtain⟨R,hR⟩:∃ R,z3x c=R:=⟨_,rfl⟩;rw[hR];unfold z3x at hR;obtain⟨n,hn⟩:∃ n,c.toNat=n:=⟨_,rfl⟩;rw[hn]at hR ⊢;clear hn;by_cases h1:97<=n
 ·have h1':(97:Int)<=n:=by omega
  by_cases h2:n<=122
  ·have h2':(n:Int)<=122:=by omega
   rw[yb9 h1,yb9 h2]at hR;subst hR;go_enter Tryz.func67,Tryz.ntmps67;go_wp2;go_ret;exact⟨rfl,rfl⟩
  ·have h2':decide ((n:Int)<=122)=false:=by simp;omega
   have h3':(65:Int)<=n:=by omega
   have h4':decide ((n:Int)<=90)=false:=by simp;omega
   have h5':((n:Int)==95)=false:=by rw[yc9];omega
   rw[ya9 h2,ya9 (by omega:¬n<=90),ya9 (by omega:¬n=95),Bool.and_false,Bool.and_false]at hR
   subst hR;go_enter Tryz.func67,Tryz.ntmps67;go_wp2;go_ret;exact⟨rfl,rfl⟩
 ·have h1':decide ((97:Int)<=n)=false:=by simp;omega
  rw[ya9 h1,Bool.false_and,Bool.false_or]at hR;by_cases h3:65<=n
  ·have h3':(65:Int)<=n:=by omega
   by_cases h4:n<=90
   ·have h4':(n:Int)<=90:=by omega
    rw[yb9 h3,yb9 h4]at hR;subst hR;go_enter Tryz.func67,Tryz.ntmps67;go_wp2;go_ret;exact⟨rfl,rfl⟩
   ·have h4':decide ((n:Int)<=90)=false:=by simp;omega
    rw[ya9 h4,Bool.and_false,Bool.false_or]at hR;by_cases h5:n=95
    ·rw[yb9 h5]at hR;subst hR;have h5':(n:Int)=95:=by omega
     go_enter Tryz.func67,Tryz.ntmps67;go_wp2;go_ret;exact⟨rfl,rfl⟩
    ·rw[ya9 h5]at hR;subst hR;have h5':((n:Int)==95)=false:=by rw[yc9];omega
     go_enter Tryz.func67,Tryz.ntmps67;go_wp2;go_ret;exact⟨rfl,rfl⟩
  ·have h3':decide ((65:Int)<=n)=false:=by simp;omega
   have h5':((n:Int)==95)=false:=by rw[yc9];omega
   rw[ya9 h3,ya9 (by omega:¬n=95)]at hR
   subst hR;go_enter Tryz.func67,Tryz.ntmps67;go_wp2;go_ret;exact⟨rfl,rfl⟩
theorem z3V{s:ByteArray}{a k:Nat}(h:a+k<=s.size)(h0:∀ i,∀ h:i<k,(z3x (s[a+i]'(by omega))||(decide (0<i)&&z3j (s[a+i]'(by omega))))=true)
  (h2:a+k=s.size\/∃ h:a+k<s.size,(z3x s[a+k]||(decide (0<k)&&z3j s[a+k]))=false):z3y (s.data.toList.drop a)=k:=by
 have hl:(s.data.toList.drop a).length=s.size-a:=by rw[List.length_drop,z1x]
 have at_:∀ i,∀ hi:i<(s.data.toList.drop a).length,(s.data.toList.drop a)[i]=s[a+i]'(by omega):=fun i hi=>by
  have e:=z3G s a i (by omega)
  rw[yd9 hi]at e;exact Option.some.inj e
 refine z3F (by omega) (fun hk=>?_) (fun i hi hk=>?_) ?_
 ·have:=h0 0 hk;rw[at_ 0 (by omega)]
  simpa using this
 ·have:=h0 i hk;rw[at_ i (by omega)]
  rw[yb9 hi,Bool.true_and]at this;exact this
 ·rcases h2 with h2|⟨h2,h3⟩
  ·left;omega
  ·right
   refine⟨by omega,?_⟩
   rw[at_ k (by omega)]
   exact h3
theorem z3W(s:ByteArray)(a:Nat)(w:World)(ha:a<=s.size)(hs:s.size<=1048576):
  Calls Tryz.prog 63 #[.string s,.int .i64 a] w fun e w'=>e=.returned (.int .i64 (z3y (s.data.toList.drop a):Nat))/\w=w':=by
 obtain⟨R,hR⟩:∃ R,z3y (s.data.toList.drop a)=R:=⟨_,rfl⟩;have HR:Hid (Unit->z3y (s.data.toList.drop a)=R):=fun _=>hR;rw[hR];clear hR;go_enter Tryz.func63,Tryz.ntmps63;go_upto_region 2 with fail;go_loop [5] (fun x=>∃ k:Nat,x=.int .i64 k/\(a:Int)+k<=s.size/\Hid (Unit->∀ i,∀ h:i<k,∀ hh:a+i<s.size,(z3x (s[a+i])||(decide (0<i)&&z3j (s[a+i])))=true)) (fun x=>s.size-(intOf x).toNat)
 case atStart=>exact⟨0,rfl,by omega,fun _ i h=>by omega⟩
 case round=>
  obtain⟨k,rfl,hk,HK⟩:=hrel;obtain⟨K,hK⟩:∃ K,a+k=K:=⟨_,rfl⟩;have hK':(a:Int)+k=K:=by omega
  have HE:Hid (Unit->(K=s.size\/∃ h:K<s.size,(z3x s[K]||(decide (0<k)&&z3j s[K]))=false)->R=k):=fun _ h=>by
   rw[←HR.out ()];refine z3V (by omega) (fun i hi=>HK.out () i hi (by omega)) ?_
   rcases h with h|⟨h,h'⟩
   ·left;omega
   ·right
    refine⟨by omega,?_⟩
    simp only[hK];exact h'
  have HN:Hid (Unit->(∃ h:K<s.size,(z3x s[K]||(decide (0<k)&&z3j s[K]))=true)->∀ i,∀ h:i<k+1,∀ hh:a+i<s.size,(z3x (s[a+i])||(decide (0<i)&&z3j (s[a+i])))=true):=fun _ h i hi hh=>by
   rcases (by omega:i<k\/i=k)with h'|h'
   ·exact HK.out () i h' hh
   ·subst h';obtain⟨_,h2⟩:=h;simp only[hK];exact h2
  by_cases hlt:K<s.size
  ·have hlt':(K:Int)<s.size:=by omega
   have cL:=fun W=>z3U s[K] W;have cF:=fun W=>z3T s[K] W;obtain⟨x,hx⟩:∃ x,z3x s[K]=x:=⟨_,rfl⟩;obtain⟨y,hy⟩:∃ y,z3j s[K]=y:=⟨_,rfl⟩;rw[hx]at cL;rw[hy]at cF;have HXY:Hid (Unit->z3x s[K]=x/\z3j s[K]=y):=fun _=>⟨hx,hy⟩;clear hx hy HK;cases x
   ·by_cases hk0:0<k
    ·have hk0':(0:Int)<k:=by omega
     cases y
     ·have HQ:Hid (Unit->R=k):=fun _=>HE.out () (.inr ⟨hlt,by rw[(HXY.out ()).1,(HXY.out ()).2];simp⟩)
      go_wp2_with fail;refine(cL _).mono ?_;rintro e w' ⟨rfl,rfl⟩;go_wp2_with fail;refine(cF _).mono ?_;rintro e w' ⟨rfl,rfl⟩;go_wp2;go_ret;exact⟨by rw[HQ.out ()];rfl,rfl⟩
     ·have HQ:Hid (Unit->∀ i,∀ h:i<k+1,∀ hh:a+i<s.size,(z3x (s[a+i])||(decide (0<i)&&z3j (s[a+i])))=true):=fun _=>HN.out () ⟨hlt,by rw[(HXY.out ()).1,(HXY.out ()).2,yb9 hk0];rfl⟩
      go_wp2_with fail;refine(cL _).mono ?_;rintro e w' ⟨rfl,rfl⟩;go_wp2_with fail;refine(cF _).mono ?_;rintro e w' ⟨rfl,rfl⟩;go_wp2;go_round
      case rel=>exact⟨k+1,by go_num,by omega,HQ⟩
      case measure=>simp[intOf];omega
    ·have hk0':k=0:=by omega
     have HQ:Hid (Unit->R=k):=fun _=>HE.out () (.inr ⟨hlt,by rw[(HXY.out ()).1,ya9 hk0];rfl⟩)
     subst hk0';obtain rfl:K=a:=by omega
     clear hK hK' HXY HE HN;go_wp2_with fail;refine(cL _).mono ?_;rintro e w' ⟨rfl,rfl⟩;go_wp2;go_ret;exact⟨by rw[HQ.out ()];rfl,rfl⟩
   ·have HQ:Hid (Unit->∀ i,∀ h:i<k+1,∀ hh:a+i<s.size,(z3x (s[a+i])||(decide (0<i)&&z3j (s[a+i])))=true):=fun _=>HN.out () ⟨hlt,by rw[(HXY.out ()).1];rfl⟩
    go_wp2_with fail;refine(cL _).mono ?_;rintro e w' ⟨rfl,rfl⟩;go_wp2;go_round
    case rel=>exact⟨k+1,by go_num,by omega,HQ⟩
    case measure=>simp[intOf];omega
  ·have hlt':decide ((K:Int)<s.size)=false:=by simp;omega
   have HQ:Hid (Unit->R=k):=fun _=>HE.out () (.inl (by omega))
   go_wp2;go_ret;exact⟨by rw[HQ.out ()];rfl,rfl⟩
def z3X(l:List UInt8):Int:=match z3D l with
 | none=>-1
 | some i=>(i:Int)+2
theorem z3Y{s:ByteArray}{a i:Nat}(h:a+i<s.size)(h0:(s[a+i]).toNat≠34)(h1:32<=(s[a+i]).toNat)(h2:(s[a+i]).toNat<=126):z3D (s.data.toList.drop (a+i))=(z3D (s.data.toList.drop (a+(i+1)))).map (·+1):=by
 rw[z3H s (a+i) h];show(if (s[a+i]).toNat=34 then some 0 else if (s[a+i]).toNat<32\/126<(s[a+i]).toNat then none else (z3D (s.data.toList.drop (a+i+1))).map (·+1))=_
 rw[if_neg h0,if_neg (by omega)]
 rfl
theorem z3Z{s:ByteArray}{a:Nat}(h:a<s.size):((s[a]).toNat=34->z3D (s.data.toList.drop a)=some 0)/\((s[a]).toNat≠34->((s[a]).toNat<32\/126<(s[a]).toNat)->z3D (s.data.toList.drop a)=none):=by
 rw[z3H s a h];show(_->(if (s[a]).toNat=34 then some 0 else if (s[a]).toNat<32\/126<(s[a]).toNat then none else (z3D (s.data.toList.drop (a+1))).map (·+1))=some 0)/\(_->_->(if (s[a]).toNat=34 then some 0 else if (s[a]).toNat<32\/126<(s[a]).toNat then none else (z3D (s.data.toList.drop (a+1))).map (·+1))=none)
 exact⟨fun h=>by rw[if_pos h],fun h h'=>by rw[if_neg h,if_pos h']⟩
theorem z40(s:ByteArray)(a:Nat)(w:World)(ha:a<s.size)(hs:s.size<=1048576):
  Calls Tryz.prog 71 #[.string s,.int .i64 a] w fun e w'=>e=.returned (.int .i64 (z3X (s.data.toList.drop (a+1))))/\w=w':=by
 obtain⟨R,hR⟩:∃ R,z3X (s.data.toList.drop (a+1))=R:=⟨_,rfl⟩;have HR:Hid (Unit->z3X (s.data.toList.drop (a+1))=R):=fun _=>hR;rw[hR];clear hR;obtain⟨b,hb⟩:∃ b,a+1=b:=⟨_,rfl⟩;have hb':(a:Int)+1=b:=by omega
 go_enter Tryz.func71,Tryz.ntmps71;go_upto_region 2 with fail;go_loop [5] (fun x=>∃ k:Nat,x=.int .i64 k/\(b:Int)<=k/\(k:Int)<=s.size/\Hid (Unit->z3D (s.data.toList.drop b)=(z3D (s.data.toList.drop k)).map (·+(k-b)))) (fun x=>s.size-(intOf x).toNat)
 case atStart=>exact⟨b,by go_num,by omega,by omega,fun _=>by simp⟩
 case round=>
  obtain⟨k,rfl,hk1,hk2,HK⟩:=hrel;by_cases hlt:k<s.size
  ·have hlt':(k:Int)<s.size:=by omega
   by_cases hq:(s[k]).toNat=34
   ·have hq':((s[k]).toNat:Int)=34:=by omega
    have HE:Hid (Unit->(k:Int)+1-a=R):=fun _=>by
     rw[←HR.out (),hb];unfold z3X;rw[HK.out (),(z3Z hlt).1 hq];show(k:Int)+1-a=((0+(k-b):Nat):Int)+2;omega
    go_wp2;go_ret;exact⟨by rw[←HE.out ()];rfl,rfl⟩
   ·have hq':(((s[k]).toNat:Int)==34)=false:=by rw[yc9];omega
    by_cases h1:(s[k]).toNat<32
    ·have h1':((s[k]).toNat:Int)<32:=by omega
     have HE:Hid (Unit->R=-1):=fun _=>by
      rw[←HR.out (),hb];unfold z3X;rw[HK.out (),(z3Z hlt).2 hq (.inl h1)];rfl
     go_wp2;go_ret;exact⟨by rw[HE.out ()];rfl,rfl⟩
    ·have h1':decide (((s[k]).toNat:Int)<32)=false:=by simp;omega
     by_cases h2:126<(s[k]).toNat
     ·have h2':(126:Int)<((s[k]).toNat:Int):=by omega
      have HE:Hid (Unit->R=-1):=fun _=>by
       rw[←HR.out (),hb];unfold z3X;rw[HK.out (),(z3Z hlt).2 hq (.inr h2)];rfl
      go_wp2;go_ret;exact⟨by rw[HE.out ()];rfl,rfl⟩
     ·have h2':decide ((126:Int)<((s[k]).toNat:Int))=false:=by simp;omega
      have HQ:Hid (Unit->z3D (s.data.toList.drop b)=(z3D (s.data.toList.drop (k+1))).map (·+(k+1-b))):=fun _=>by
       have h:=z3Y (a:=k) (i:=0) hlt hq (by simpa using Nat.le_of_not_lt h1) (by simpa using Nat.le_of_not_lt h2)
       rw[Nat.add_zero]at h;rw[HK.out (),h,Option.map_map];congr 1
       funext i
       show i+1+(k-b)=i+(k+1-b);omega
      go_wp2;go_round
      case rel=>exact⟨k+1,by go_num,by omega,by omega,HQ⟩
      case measure=>simp[intOf];omega
  ·have hlt':decide ((k:Int)<s.size)=false:=by simp;omega
   have HE:Hid (Unit->R=-1):=fun _=>by
    rw[←HR.out (),hb];unfold z3X;rw[HK.out (),(by omega:k=s.size),z3I]
    rfl
   go_wp2;go_ret;exact⟨by rw[HE.out ()];rfl,rfl⟩
