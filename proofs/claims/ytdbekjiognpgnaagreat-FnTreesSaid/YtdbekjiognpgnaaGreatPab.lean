/- Part 2. -/
import Derived.Test.YtdbekjiognpgnaaGreatPaa
import Derived.Deep.DeepCutAuto
set_option maxHeartbeats 16000000
set_option maxRecDepth 100000
set_option linter.unusedVariables false
namespace Go.Proofs.YtdbekjiognpgnaaGreat
theorem z1l{α:Type}{P:List α->Prop}(h0:P [])(hs:∀ l a,P l->P (l++[a]))(l:List α):P l:=by
 have key:∀ r:List α,P r.reverse:=by
  intro r;induction r with
  | nil=>exact h0
  | cons a r ih=>rw[List.reverse_cons];exact hs _ _ ih
 rw[←List.reverse_reverse l];exact key _
def digV(l:List UInt8):Nat:=l.foldl (fun n c=>10*n+(c.toNat-48)) 0
theorem z1m:digV []=0:=rfl
theorem z1n(l:List UInt8)(c:UInt8):digV (l++[c])=10*digV l+(c.toNat-48):=by simp[digV]
def Figs(l:List UInt8):Prop:=∀ c∈l,48<=c.toNat/\c.toNat<=57
theorem z1o:Figs []:=fun _ h=>by cases h
theorem Figs.left{l m:List UInt8}(h:Figs (l++m)):Figs l:=fun c hc=>h c (List.mem_append_left _ hc)
theorem z1p{l:List UInt8}{c:UInt8}(h:Figs l)(hc:48<=c.toNat/\c.toNat<=57):Figs (l++[c]):=by
 intro d hd;rw[List.mem_append]at hd;rcases hd with hd|hd
 ·exact h d hd
 ·rw[List.mem_singleton]at hd;subst hd;exact hc
theorem z1q{l:List UInt8}(h:Figs l):digV l<10 ^ l.length:=by
 refine z1l (P:=fun l=>Figs l->digV l<10 ^ l.length) ?_ ?_ l h
 ·intro _;simp[z1m]
 ·intro m c ih h;have a:=ih h.left;have b:=h c (by simp)
  rw[z1n,List.length_append,List.length_singleton,Nat.pow_succ];omega
theorem z1r{n:Nat}(h:n<10):Lib.decDigits n=[UInt8.ofNat (48+n)]:=by rw[Lib.decDigits,dif_pos h]
theorem z1s{n d:Nat}(h:n≠0)(hd:d<10):Lib.decDigits (10*n+d)=Lib.decDigits n++[UInt8.ofNat (48+d)]:=by
 rw[Lib.decDigits,dif_neg (by omega),(by omega:(10*n+d)/10=n),(by omega:(10*n+d)%10=d)]
def z1t:List UInt8->List UInt8
 | []=>[48]
 | [c]=>[c]
 | c::d::l=>if c.toNat=48 then z1t (d::l)else c::d::l
theorem z1u(n:Nat):digV (Lib.decDigits n)=n/\Figs (Lib.decDigits n)/\Lib.decDigits n≠[]:=by
 induction n using Nat.strongRecOn with
 | ind n ih=>
  have hc:∀ d,d<10->(UInt8.ofNat (48+d)).toNat=48+d:=fun d hd=>by
   rw[UInt8.toNat_ofNat'];omega
  by_cases h:n<10
  ·rw[z1r h];refine⟨?_,?_,by simp⟩
   ·have:=z1n [] (UInt8.ofNat (48+n));rw[List.nil_append,z1m,hc n h]at this;rw[this];omega
   intro c hm;rw[List.mem_singleton]at hm;subst hm;rw[hc n h];omega
  ·obtain⟨a1,a2,a3⟩:=ih (n/10) (by omega)
   have e:n=10*(n/10)+n%10:=by omega
   have e2:Lib.decDigits n=Lib.decDigits (n/10)++[UInt8.ofNat (48+n%10)]:=by
    conv=>lhs;rw[e]
    exact z1s (by omega) (by omega)
   rw[e2];refine⟨?_,z1p a2 (by rw[hc _ (by omega)];omega),by simp⟩
   rw[z1n,a1,hc _ (by omega)]
   omega
def z1v(l:List UInt8):Bool:=decide (1<=l.length/\l.length<=800)&&(decide (l.length<=1)||decide ((l.getD 0 0).toNat≠48))&&l.all fun c=>decide (48<=c.toNat/\c.toNat<=57)
theorem z1w{l:List UInt8}(h:z1v l=true):Figs l:=by
 intro c hc;unfold z1v at h;simp only[Bool.and_eq_true,List.all_eq_true,decide_eq_true_eq]at h;exact h.2 c hc
end Go.Proofs.YtdbekjiognpgnaaGreat
namespace Go.Proofs.YtdbekjiognpgnaaGreat
open Go.RowKit
theorem z1x(s:ByteArray):s.data.toList.length=s.size:=(Lib.size_eq s).symm
theorem z1y(s:ByteArray)(h:0<s.size):s.data.toList.getD 0 0=s[0]:=by
 rw[List.getD_eq_getElem?_getD,yd9 (by rw[z1x];exact h)]
 rfl
theorem z1z{s:ByteArray}(h:¬(1<=s.size/\s.size<=800)):z1v s.data.toList=false:=by
 unfold z1v;rw[z1x,ya9 h];rfl
theorem z1A{s:ByteArray}(h:1<s.size)(h0:(s[0]).toNat=48):z1v s.data.toList=false:=by
 unfold z1v;rw[z1x,z1y s (by omega),ya9 (by omega:¬s.size<=1),ya9 (by omega:¬(s[0]).toNat≠48)]
 simp
theorem z1B{s:ByteArray}{k:Nat}(h:k<s.size)(hb:¬(48<=(s[k]).toNat/\(s[k]).toNat<=57)):z1v s.data.toList=false:=by
 have hm:s[k]∈s.data.toList:=by
  have:s[k]=s.data.toList[k]'(by rw[z1x];exact h):=rfl
  rw[this];exact List.getElem_mem _
 have ha:(s.data.toList.all fun c=>decide (48<=c.toNat/\c.toNat<=57))=false:=by
  rw[List.all_eq_false];exact⟨_,hm,by simp only[decide_eq_true_eq];exact hb⟩
 unfold z1v;rw[ha,Bool.and_false]
theorem z1C{s:ByteArray}(h1:1<=s.size)(h2:s.size<=800)(h3:s.size<=1\/(s.data.toList.getD 0 0).toNat≠48)(h4:Figs s.data.toList):z1v s.data.toList=true:=by
 have ha:(s.data.toList.all fun c=>decide (48<=c.toNat/\c.toNat<=57))=true:=by
  rw[List.all_eq_true];intro c hc;rw[decide_eq_true_eq];exact h4 c hc
 unfold z1v;rw[ha,z1x,yb9 ⟨h1,h2⟩,Bool.and_true,Bool.true_and];rcases h3 with h|h
 ·rw[yb9 h];rfl
 ·rw[yb9 h,Bool.or_true]
theorem z1D(x a b:Int)(w:World):
  Calls Tryz.prog 22 #[.int .i64 x,.int .i64 a,.int .i64 b] w fun e w'=>e=.returned (.bool (decide (a<=x)&&decide (x<=b)))/\w=w':=by
 by_cases h1:a<=x
 ·by_cases h2:x<=b
  ·have e2:decide (x<=b)=true:=by simpa using h2
   go_enter Tryz.func22,Tryz.ntmps22;go_wp2;go_ret;exact⟨by rw[yb9 h1,e2];rfl,rfl⟩
  ·have e2:decide (x<=b)=false:=by simpa using h2
   go_enter Tryz.func22,Tryz.ntmps22;go_wp2;go_ret;exact⟨rfl,rfl⟩
 ·have e1:decide (a<=x)=false:=by simpa using h1
  go_enter Tryz.func22,Tryz.ntmps22;go_wp2;go_ret;exact⟨rfl,rfl⟩
theorem z1E(s:ByteArray)(w:World):
  Calls Tryz.prog 104 #[.string s] w fun e w'=>e=.returned (.bool (z1v s.data.toList))/\w=w':=by
 have cI:=fun W=>z1D (s.size:Int) 1 800 W;obtain⟨R,hR⟩:∃ R,z1v s.data.toList=R:=⟨_,rfl⟩;by_cases h1:1<=s.size/\s.size<=800
 ·rw[yb9 (by omega:(1:Int)<=s.size),yb9 (by omega:(s.size:Int)<=800)]at cI
  by_cases h2:1<s.size/\(s.data.toList.getD 0 0).toNat=48
  ·have h0:(s[0]'(by omega)).toNat=48:=by rw[←z1y s (by omega)];exact h2.2
   have HR:Hid (Unit->R=false):=fun _=>by rw[←hR];exact z1A h2.1 h0
   have hz:0<s.size:=by omega
   have h3:(1:Int)<s.size:=by omega
   have h0':((s[0]'(by omega)).toNat:Int)=48:=by omega
   rw[hR];clear hR h2 h1 h0;go_enter Tryz.func104,Tryz.ntmps104;go_wp2_with (go_at_call 22;refine(cI _).mono ?_;rintro e w' ⟨rfl,rfl⟩)
   go_ret;exact⟨by rw[HR.out ()];rfl,rfl⟩
  ·have HRR:Hid (z1v s.data.toList=R):=hR;have HG:Hid (s.size<=1\/(s.data.toList.getD 0 0).toNat≠48):=by
    show s.size<=1\/(s.data.toList.getD 0 0).toNat≠48;omega
   rw[hR];clear hR;by_cases hs1:(1:Int)<s.size
   ·have h0:(s[0]'(by omega)).toNat≠48:=by rw[←z1y s (by omega)];exact fun h=>h2 ⟨by omega,h⟩
    have hz:0<s.size:=by omega
    have h0':(((s[0]'(by omega)).toNat:Int)==48)=false:=by rw[yc9];omega
    clear h2 h0;go_enter Tryz.func104,Tryz.ntmps104;go_upto_region 4 with (go_at_call 22;refine(cI _).mono ?_;rintro e w' ⟨rfl,rfl⟩)
    go_loop [3] (fun i=>∃ k:Nat,k<=s.size/\i=.int .i64 k/\Hid (Figs (s.data.toList.take k))) (fun i=>s.size-(intOf i).toNat)
    case atStart=>exact⟨0,yj9 _,rfl,by rw[List.take_zero];exact z1o⟩
    case round=>
     obtain⟨k,hk,rfl,HK⟩:=hrel;by_cases hlt:k<s.size
     ·by_cases hc1:((s[k]).toNat:Int)<48
      ·have HR:Hid (Unit->R=false):=fun _=>by rw[←HRR.out];exact z1B hlt (by omega)
       go_wp2;go_ret;exact⟨by rw[HR.out ()];rfl,rfl⟩
      ·have hc1':decide (((s[k]).toNat:Int)<48)=false:=by simp;omega
       by_cases hc2:(57:Int)<((s[k]).toNat:Int)
       ·have HR:Hid (Unit->R=false):=fun _=>by rw[←HRR.out];exact z1B hlt (by omega)
        go_wp2;go_ret;exact⟨by rw[HR.out ()];rfl,rfl⟩
       ·have hc2':decide ((57:Int)<((s[k]).toNat:Int))=false:=by simp;omega
        have HN:Hid (Figs (s.data.toList.take (k+1))):=by
         show Figs _;rw[z0p s k hlt];exact z1p HK.out (by omega)
        go_wp2;go_round
        case rel=>exact⟨k+1,by omega,by go_num,HN⟩
        case measure=>simp[intOf];omega
     ·have hkk:k=s.size:=by omega
      have HR:Hid (Unit->R=true):=fun _=>by
       rw[←HRR.out];have h4:=HK.out;rw[hkk,z0q]at h4;exact z1C h1.1 h1.2 HG.out h4
      go_wp2;go_ret;exact⟨by rw[HR.out ()];rfl,rfl⟩
   ·have hs1':decide ((1:Int)<s.size)=false:=by simp;omega
    clear h2;go_enter Tryz.func104,Tryz.ntmps104;go_upto_region 4 with (go_at_call 22;refine(cI _).mono ?_;rintro e w' ⟨rfl,rfl⟩)
    go_loop [3] (fun i=>∃ k:Nat,k<=s.size/\i=.int .i64 k/\Hid (Figs (s.data.toList.take k))) (fun i=>s.size-(intOf i).toNat)
    case atStart=>exact⟨0,yj9 _,rfl,by rw[List.take_zero];exact z1o⟩
    case round=>
     obtain⟨k,hk,rfl,HK⟩:=hrel;by_cases hlt:k<s.size
     ·by_cases hc1:((s[k]).toNat:Int)<48
      ·have HR:Hid (Unit->R=false):=fun _=>by rw[←HRR.out];exact z1B hlt (by omega)
       go_wp2;go_ret;exact⟨by rw[HR.out ()];rfl,rfl⟩
      ·have hc1':decide (((s[k]).toNat:Int)<48)=false:=by simp;omega
       by_cases hc2:(57:Int)<((s[k]).toNat:Int)
       ·have HR:Hid (Unit->R=false):=fun _=>by rw[←HRR.out];exact z1B hlt (by omega)
        go_wp2;go_ret;exact⟨by rw[HR.out ()];rfl,rfl⟩
       ·have hc2':decide ((57:Int)<((s[k]).toNat:Int))=false:=by simp;omega
        have HN:Hid (Figs (s.data.toList.take (k+1))):=by
         show Figs _;rw[z0p s k hlt];exact z1p HK.out (by omega)
        go_wp2;go_round
        case rel=>exact⟨k+1,by omega,by go_num,HN⟩
        case measure=>simp[intOf];omega
     ·have hkk:k=s.size:=by omega
      have HR:Hid (Unit->R=true):=fun _=>by
       rw[←HRR.out];have h4:=HK.out;rw[hkk,z0q]at h4;exact z1C h1.1 h1.2 HG.out h4
      go_wp2;go_ret;exact⟨by rw[HR.out ()];rfl,rfl⟩
 ·have HR:Hid (Unit->R=false):=fun _=>by rw[←hR];exact z1z h1
  have e1:(decide ((1:Int)<=s.size)&&decide ((s.size:Int)<=800))=false:=by
   rw[Bool.and_eq_false_iff,decide_eq_false_iff_not,decide_eq_false_iff_not];omega
  rw[e1]at cI;rw[hR];clear hR h1 e1;go_enter Tryz.func104,Tryz.ntmps104;go_wp2_with (go_at_call 22;refine(cI _).mono ?_;rintro e w' ⟨rfl,rfl⟩)
  go_ret;exact⟨by rw[HR.out ()];rfl,rfl⟩
end Go.Proofs.YtdbekjiognpgnaaGreat
namespace Go.Proofs.YtdbekjiognpgnaaGreat
def binV:List Nat->Nat
 | []=>0
 | x::xs=>x+4294967296*binV xs
def z1F(xs:List Nat):Prop:=∀ x∈xs,x<4294967296
theorem z1G(k:Nat):2 ^ (32*(k+1))=4294967296*2 ^ (32*k):=by
 rw[Nat.mul_add,Nat.mul_one,Nat.pow_add,Nat.mul_comm]
theorem z1H(xs:List Nat)(x:Nat):binV (xs++[x])=binV xs+2 ^ (32*xs.length)*x:=by
 induction xs with
 | nil=>simp[binV]
 | cons a l ih=>
  rw[List.cons_append,binV,ih,binV,List.length_cons,z1G,Nat.mul_add,Nat.mul_assoc];omega
theorem z1I(xs ys:List Nat):binV (xs++ys)=binV xs+2 ^ (32*xs.length)*binV ys:=by
 induction xs with
 | nil=>simp[binV]
 | cons a l ih=>
  rw[List.cons_append,binV,ih,binV,List.length_cons,z1G,Nat.mul_add,Nat.mul_assoc];omega
theorem z1J{xs:List Nat}(h:z1F xs):binV xs<2 ^ (32*xs.length):=by
 induction xs with
 | nil=>simp[binV]
 | cons a l ih=>
  have b:=ih fun x hx=>h x (by simp[hx])
  have c:=h a (by simp)
  rw[binV,List.length_cons,z1G];omega
theorem z1K:z1F []:=fun _ h=>by cases h
theorem z1L{xs:List Nat}{x:Nat}(h:z1F xs)(hx:x<4294967296):z1F (xs++[x]):=by
 intro y hy;rw[List.mem_append,List.mem_singleton]at hy;rcases hy with hy|hy
 ·exact h y hy
 ·subst hy;exact hx
theorem z1M{xs:List Nat}(h:z1F xs)(i:Nat):xs.getD i 0<4294967296:=by
 rw[List.getD_eq_getElem?_getD];cases hx:xs[i]? with
 | none=>simp
 | some v=>exact h v (List.mem_of_getElem? hx)
theorem z1N(xs:List Nat)(i:Nat):binV (xs.take (i+1))=binV (xs.take i)+2 ^ (32*i)*xs.getD i 0:=by
 by_cases h:i<xs.length
 ·rw[List.take_succ_eq_append_getElem h,z1H,List.length_take,Nat.min_eq_left (by omega),List.getD_eq_getElem?_getD,yd9 h]
  rfl
 ·rw[List.take_of_length_le (by omega),List.take_of_length_le (by omega),List.getD_eq_getElem?_getD,List.getElem?_eq_none (by omega)]
  simp
theorem z1O(xs:List Nat)(i:Nat):binV xs=binV (xs.take i)+2 ^ (32*i)*binV (xs.drop i):=by
 induction i generalizing xs with
 | zero=>simp[binV]
 | succ i ih=>
  cases xs with
  | nil=>simp[binV]
  | cons a l=>
   rw[List.take_succ_cons,List.drop_succ_cons,binV,binV,ih l,z1G,Nat.mul_add,Nat.mul_assoc];omega
theorem z1P(n:Nat):binV (List.replicate n 0)=0:=by
 induction n with
 | zero=>rfl
 | succ n ih=>rw[List.replicate_succ,binV,ih]
structure z1Q(ls xs:List Nat)(by_ m0 i more:Nat):Prop where
 ok:z1F xs
 len:xs.length=i
 eq:binV xs+2 ^ (32*i)*more=binV (ls.take i)*by_+m0
theorem z1R(ls:List Nat)(by_ m0:Nat):z1Q ls [] by_ m0 0 m0:=⟨z1K,rfl,by simp[binV]⟩
theorem z1S{ls xs:List Nat}{by_ m0 i more X:Nat}(h:z1Q ls xs by_ m0 i more)(hX:ls.getD i 0*by_+more=X):z1Q ls (xs++[X%4294967296]) by_ m0 (i+1) (X/4294967296):=by
 obtain⟨h1,h2,h3⟩:=h;refine⟨z1L h1 (Nat.mod_lt _ (by decide)),by simp[h2],?_⟩
 rw[z1H,z1N,h2,z1G,Nat.add_mul];generalize ls.getD i 0=x at *;generalize 2 ^ (32*i)=P at *;have e:=Nat.div_add_mod X 4294967296;generalize X/4294967296=q at *;generalize X%4294967296=r at *;have e2:P*(4294967296*q+r)=P*(x*by_+more):=by rw[e,hX]
 rw[Nat.mul_add,Nat.mul_add]at e2;have e3:4294967296*P*q=P*(4294967296*q):=by rw[Nat.mul_comm 4294967296,Nat.mul_assoc]
 have e4:P*x*by_=P*(x*by_):=Nat.mul_assoc _ _ _;omega
structure z1T(ls ms xs:List Nat)(i c:Nat):Prop where
 ok:z1F xs
 len:xs.length=i
 eq:binV (ls.take i)+2 ^ (32*i)*c=binV xs+binV (ms.take i)
theorem z1U(ls ms:List Nat):z1T ls ms [] 0 0:=⟨z1K,rfl,by simp[binV]⟩
theorem z1V{ls ms xs:List Nat}{i c c' z:Nat}(h:z1T ls ms xs i c)(hz:z<4294967296)(he:z+ms.getD i 0+c=ls.getD i 0+4294967296*c'):z1T ls ms (xs++[z]) (i+1) c':=by
 obtain⟨h1,h2,h3⟩:=h;refine⟨z1L h1 hz,by simp[h2],?_⟩
 rw[z1H,z1N,z1N,h2,z1G];generalize ls.getD i 0=x at *;generalize ms.getD i 0=y at *;generalize 2 ^ (32*i)=P at *;have e2:P*(z+y+c)=P*(x+4294967296*c'):=by rw[he]
 rw[Nat.mul_add,Nat.mul_add,Nat.mul_add]at e2;have e3:4294967296*P*c'=P*(4294967296*c'):=by rw[Nat.mul_comm 4294967296,Nat.mul_assoc]
 omega
theorem z1W{ls ms xs:List Nat}{c:Nat}(h:z1T ls ms xs ls.length c)(hl:z1F ls)(hle:binV ms<=binV ls):binV xs=binV ls-binV ms:=by
 obtain⟨h1,h2,h3⟩:=h;have a1:=z1J hl;have a2:=z1J h1;rw[h2]at a2;have a3:=z1O ms ls.length;rw[List.take_length]at h3;generalize 2 ^ (32*ls.length)=P at *;have a4:binV (ms.drop ls.length)=0:=by
  rcases Nat.eq_zero_or_pos (binV (ms.drop ls.length))with h'|h'
  ·exact h'
  ·have:P*1<=P*binV (ms.drop ls.length):=Nat.mul_le_mul_left _ h';omega
 rw[a4,Nat.mul_zero,Nat.add_zero]at a3;rw[←a3]at h3;have a5:c=0:=by
  rcases Nat.eq_zero_or_pos c with h'|h'
  ·exact h'
  ·have:P*1<=P*c:=Nat.mul_le_mul_left _ h';omega
 subst a5;omega
theorem z1X{xs:List Nat}{n:Nat}(hn:n<=xs.length)(h0:binV (xs.take n)=binV xs)(ht:n=0\/xs.getD (n-1) 0≠0)(ok:z1F xs):binV xs<2 ^ (32*n)/\(n≠0->2 ^ (32*(n-1))<=binV xs):=by
 refine⟨?_,fun hn0=>?_⟩
 ·rw[←h0];have:=z1J (xs:=xs.take n) (fun x hx=>ok x (List.mem_of_mem_take hx));rw[List.length_take,Nat.min_eq_left hn]at this;exact this
 ·obtain⟨k,rfl⟩:∃ k,n=k+1:=⟨n-1,by omega⟩
  rw[←h0,z1N,Nat.add_sub_cancel];rw[Nat.add_sub_cancel]at ht;have h1:xs.getD k 0≠0:=by omega
  have:2 ^ (32*k)*1<=2 ^ (32*k)*xs.getD k 0:=Nat.mul_le_mul_left _ (by omega)
  omega
end Go.Proofs.YtdbekjiognpgnaaGreat
namespace Go.Proofs.YtdbekjiognpgnaaGreat
open Go.RowKit
theorem Tryz.infoWord:(Tryz.prog.info? 32).map (fun i=>(i.zero,i.size,i.bytes))=some (some (.int .u64 0),1,8):=by kernel_rfl
def RowW(w:World)(B:Nat)(v:Value)(xs:List Nat):Prop:=w.ownsRow B 32 1 v xs.length (xs.map fun x=>Value.int .u64 (x:Nat))
theorem RowW.below{w w':World}{B:Nat}{v:Value}{xs:List Nat}(h:RowW w B v xs)(hb:Below w.heap.size w w'):RowW w' B v xs:=by
 refine⟨h.1,?_⟩;rcases h.2 with hn|⟨g,cap,cur,rfl,h1,h2,rest⟩
 ·exact .inl hn
 ·refine .inr ⟨g,cap,cur,rfl,h1,?_,rest⟩;rw[hb.block g (Array.getElem?_eq_some_iff.1 h2).1];exact h2
theorem RowW.base{w:World}{B B':Nat}{v:Value}{xs:List Nat}(h:RowW w B v xs)(hb:B'<=B):RowW w B' v xs:=by
 refine⟨h.1,?_⟩;rcases h.2 with hn|⟨g,cap,cur,rfl,h1,rest⟩
 ·exact .inl hn
 ·exact .inr ⟨g,cap,cur,rfl,by omega,rest⟩
theorem RowW.cells{w:World}{B:Nat}{v:Value}{xs:List Nat}(h:RowW w B v xs):
  (v=.slice none 0 0/\xs=[])\/∃ g cap,v=.slice (some ⟨g,0,none⟩) xs.length cap/\B<=g/\g<w.heap.size/\∀ j,j<xs.length->w.cell? ⟨g,j,none⟩=some (.int .u64 (xs.getD j 0:Nat)):=by
 have hc:=fun g (hg:v.ownBlock=some g)=>World.ownsRow.cells h hg;have hl:=World.ownsRow.lt h;rcases h.2 with ⟨hv,hn⟩|⟨g,cap,cur,rfl,h1,h2,h3,h4,h5,h6⟩
 ·exact .inl ⟨hv,List.eq_nil_of_length_eq_zero hn⟩
 ·refine .inr ⟨g,cap,rfl,h1,(hl g rfl).2,fun j hj=>?_⟩;have hadd:(⟨g,0,none⟩:Addr).add j=⟨g,j,none⟩:=by unfold Addr.add;split<;>simp_all
  have:=hc g rfl j (.int .u64 (xs.getD j 0:Nat)) (by
   rw[List.getElem?_map,yd9 hj,List.getD_eq_getElem?_getD,yd9 hj];rfl)
  rw[hadd]at this;exact this
theorem RowW.shape{w:World}{B:Nat}{v:Value}{xs:List Nat}(h:RowW w B v xs):∃ p c,v=.slice p xs.length c:=by
 rcases h.cells with ⟨rfl,rfl⟩|⟨g,cap,rfl,_⟩
 ·exact⟨none,0,rfl⟩
 ·exact⟨_,cap,rfl⟩
theorem RowW.at{w:World}{B:Nat}{p:Option Addr}{c i:Nat}{xs:List Nat}(h:RowW w B (.slice p xs.length c) xs)(hi:i<xs.length):∃ ga,p=some ⟨ga,0,none⟩/\w.cell? ⟨ga,i,none⟩=some (.int .u64 (xs.getD i 0:Nat)):=by
 rcases h.cells with ⟨_,h'⟩|⟨ga,cap,h',_,_,h''⟩
 ·rw[h']at hi;simp at hi
 ·injection h' with h' _ _;exact⟨ga,h',h'' i hi⟩
theorem z1Y(v:Value)(ls:List Nat)(b m0 B:Nat)(w:World)(hA:RowW w B v ls)(oa:z1F ls)(hb:b<4294967296)(hm:m0<4294967296)(la:ls.length<=1048576):
  Calls Tryz.prog 106 #[v,.int .u64 b,.int .u64 m0] w fun e w'=>∃(v':Value) (xs:List Nat),e=.returned v'/\RowW w' w.heap.size v' xs/\Below w.heap.size w w'/\binV xs=binV ls*b+m0/\z1F xs/\xs.length<=ls.length+1:=by
 obtain⟨i0,hi,hz0,hz1,hz2⟩:=info_parts Tryz.infoWord;obtain⟨pa,ca,rfl⟩:=hA.shape;have HA:Hid (RowW w B (.slice pa ls.length ca) ls/\z1F ls):=⟨hA,oa⟩;have hb':(b:Int)<4294967296:=by omega
 have hm':(m0:Int)<4294967296:=by omega
 clear hA oa;go_enter Tryz.func106,Tryz.ntmps106;go_upto_region 3 with fail;go_loopw [2,7,8] (fun x u y wr=>∃(i mo:Nat) (xs:List Nat),y=.int .i64 i/\x=.int .u64 mo/\i<=ls.length/\(mo:Int)<4294967296/\wr.ownsRow w.heap.size 32 1 u i (xs.map fun x=>Value.int .u64 (x:Nat))/\Below w.heap.size w wr/\Hid (z1Q ls xs b m0 i mo)) (fun _ _ y _=>ls.length-(intOf y).toNat)
 case atStart=>exact⟨0,m0,[],rfl,rfl,by omega,hm',World.ownsRow_made w #[] 0 (yf9 _) (yj9 _) rfl,(yg9 _ _).alloc (yf9 _) _,z1R ls b m0⟩
 case round=>
  obtain⟨i,mo,xs,rfl,rfl,hil,hmo,hown,hbel,HI⟩:=hrel;have hsz:=hbel.size;by_cases hlt:i<ls.length
  ·obtain⟨ga,rfl,hca⟩:=(HA.out.1.below hbel).at hlt;have o2:=z1M HA.out.2 i;have HS:Hid (∀ X,ls.getD i 0*b+mo=X->z1Q ls (xs++[X%4294967296]) b m0 (i+1) (X/4294967296)):=fun X h=>z1S HI.out h;obtain⟨x,hx⟩:∃ x,ls.getD i 0=x:=⟨_,rfl⟩;rw[hx]at hca o2 HS;obtain⟨p,hp⟩:∃ p,x*b=p:=⟨_,rfl⟩;have hp1:(x:Int)*b=p:=by rw[←hp];simp
   have hp2:(p:Int)<=18446744065119617025:=by
    have:x*b<=4294967295*4294967295:=Nat.mul_le_mul (by omega) (by omega)
    omega
   rw[hp]at HS;obtain⟨X,hX⟩:∃ X,p+mo=X:=⟨_,rfl⟩;have hX1:(p:Int)+mo=X:=by omega
   have hX2:(X:Int)<18446744069414584321:=by omega
   have HN:Hid (z1Q ls (xs++[X%4294967296]) b m0 (i+1) (X/4294967296)):=HS.out X hX;have hil':(i:Int)<ls.length:=by omega
   clear HS hx hp hX o2 HI;go_wp2_with (at_builtin;refine z03 (w0:=w) rfl _ _ 169 rfl w.heap.size 32 i0 (.int .u64 0) 8 Tryz.underlying169 hi hz0 hz1 hz2 rfl _ _ _ rfl hown (.int .u64 ((X:Int)%4294967296)) rfl rfl (by omega) (by decide) hbel hsz ?_)
   intro v' w2 hown' hbel';have hrow:w2.ownsRow w.heap.size 32 1 v' (i+1) ((xs++[X%4294967296]).map fun x=>Value.int .u64 (x:Nat)):=by simpa using hown'
   clear hown' hown;go_wp2;go_roundw
   case rel=>exact⟨i+1,X/4294967296,xs++[X%4294967296],by go_num,by go_num,by omega,by omega,hrow,hbel',HN⟩
   case measure=>simp[intOf];omega
  ·have hie:i=ls.length:=by omega
   subst hie;have hE:=HI.out.eq;rw[List.take_length]at hE;have hxl:=HI.out.len;have hok:=HI.out.ok;by_cases hmz:0<mo
   ·have HE:Hid (binV (xs++[mo])=binV ls*b+m0/\z1F (xs++[mo])/\(xs++[mo]).length=ls.length+1):=⟨by rw[z1H,hxl];exact hE,z1L hok (by omega),by simp[hxl]⟩
    clear HI hE hok hxl;go_wp2_with (at_builtin;refine z03 (w0:=w) rfl _ _ 169 rfl w.heap.size 32 i0 (.int .u64 0) 8 Tryz.underlying169 hi hz0 hz1 hz2 rfl _ _ _ rfl hown (.int .u64 (mo:Int)) rfl rfl (by omega) (by decide) hbel hsz ?_)
    intro v' w2 hown' hbel';have hrow:w2.ownsRow w.heap.size 32 1 v' (ls.length+1) ((xs++[mo]).map fun x=>Value.int .u64 (x:Nat)):=by simpa using hown'
    go_wp2;go_ret;refine⟨_,xs++[mo],rfl,?_,hbel',HE.out.1,HE.out.2.1,by rw[HE.out.2.2];exact yf9 _⟩
    show World.ownsRow _ _ _ _ _ (xs++[mo]).length _;rw[HE.out.2.2];exact hrow
   ·have hm0:mo=0:=by omega
    subst hm0;have HE:Hid (binV xs=binV ls*b+m0/\z1F xs/\xs.length=ls.length):=⟨by rw[Nat.mul_zero,Nat.add_zero]at hE;exact hE,hok,hxl⟩
    clear HI hE hok hxl;go_wp2;go_ret;refine⟨_,xs,rfl,?_,hbel,HE.out.1,HE.out.2.1,by rw[HE.out.2.2];omega⟩
    show World.ownsRow _ _ _ _ _ xs.length _;rw[HE.out.2.2];exact hown
end Go.Proofs.YtdbekjiognpgnaaGreat
namespace Go.Proofs.YtdbekjiognpgnaaGreat
structure z1Z(xs:List Nat)(n:Nat):Prop where
 le:n<=xs.length
 zero:∀ j,n<=j->xs.getD j 0=0
 top:n=0\/xs.getD (n-1) 0≠0
theorem z20{xs:List Nat}{j:Nat}(h:xs.length<=j):xs.getD j 0=0:=by
 rw[List.getD_eq_getElem?_getD,List.getElem?_eq_none h];rfl
theorem z21{xs:List Nat}{n:Nat}(h:∀ j,n<=j->xs.getD j 0=0):binV (xs.take n)=binV xs:=by
 have key:∀ d,binV (xs.take (n+d))=binV (xs.take n):=by
  intro d;induction d with
  | zero=>rfl
  | succ d ih=>rw[←Nat.add_assoc,z1N,ih,h (n+d) (by omega),Nat.mul_zero,Nat.add_zero]
 by_cases hn:n<=xs.length
 ·have:=key (xs.length-n);rw[(by omega:n+(xs.length-n)=xs.length),List.take_length]at this
  exact this.symm
 ·rw[List.take_of_length_le (by omega)]
theorem z1Z.bounds{xs:List Nat}{n:Nat}(h:z1Z xs n)(ok:z1F xs):binV xs<2 ^ (32*n)/\(n≠0->2 ^ (32*(n-1))<=binV xs):=z1X h.le (z21 h.zero) h.top ok
theorem z1Z.nil{xs:List Nat}{n:Nat}(h:z1Z xs n)(ok:z1F xs):(n=0↔binV xs=0):=by
 obtain⟨h1,h2⟩:=h.bounds ok;constructor
 ·intro h0;subst h0;simpa using h1
 ·intro h0;rcases Nat.eq_zero_or_pos n with h'|h'
  ·exact h'
  ·have:=h2 (by omega)
   have:=Nat.two_pow_pos (32*(n-1));omega
theorem z22{xs ys:List Nat}{n m:Nat}(hx:z1Z xs n)(hy:z1Z ys m)(ox:z1F xs)(oy:z1F ys)(h:n<m):binV xs<binV ys:=by
 have h1:=(hx.bounds ox).1;have h2:=(hy.bounds oy).2 (by omega)
 have h3:2 ^ (32*n)<=2 ^ (32*(m-1)):=Nat.pow_le_pow_right (by decide) (by omega)
 omega
def z23(xs ys:List Nat)(i:Nat):Prop:=∀ j,i<=j->xs.getD j 0=ys.getD j 0
theorem z24{xs ys:List Nat}{n:Nat}(hx:∀ j,n<=j->xs.getD j 0=0)(hy:∀ j,n<=j->ys.getD j 0=0):z23 xs ys n:=fun j hj=>by rw[hx j hj,hy j hj]
theorem z25{xs ys:List Nat}{i:Nat}(h:z23 xs ys (i+1))(he:xs.getD i 0=ys.getD i 0):z23 xs ys i:=fun j hj=>by
 rcases Nat.eq_or_lt_of_le hj with h'|h'
 ·rw[←h'];exact he
 ·exact h j h'
theorem z26{xs ys:List Nat}{i:Nat}(h:z23 xs ys i):∃ T,binV xs=binV (xs.take i)+2 ^ (32*i)*T/\binV ys=binV (ys.take i)+2 ^ (32*i)*T:=by
 have key:∀(aS bs:List Nat),(∀ j,aS.getD j 0=bs.getD j 0)->binV aS=binV bs:=by
  intro aS;induction aS with
  | nil=>
   intro bs hb;have:=z21 (xs:=bs) (n:=0) (fun j _=>(hb j).symm.trans (by simp))
   simpa [binV] using this
  | cons a l ih=>
   intro bs hb;cases bs with
   | nil=>
    have:=z21 (xs:=a::l) (n:=0) (fun j _=>(hb j).trans (by simp))
    simpa [binV] using this.symm
   | cons b m=>
    have h0:=hb 0;have h1:=ih m (fun j=>by have:=hb (j+1);simpa using this)
    rw[binV,binV,h1];simp at h0;omega
 refine⟨binV (xs.drop i),z1O xs i,?_⟩;rw[z1O ys i,key (ys.drop i) (xs.drop i) (fun j=>?_)];have:=h (i+j) (by omega)
 rw[List.getD_eq_getElem?_getD,List.getD_eq_getElem?_getD]at this ⊢;rw[List.getElem?_drop,List.getElem?_drop];exact this.symm
theorem z27{xs ys:List Nat}(h:z23 xs ys 0):binV xs=binV ys:=by
 obtain⟨T,h1,h2⟩:=z26 h;simp[binV]at h1 h2;rw[h1,h2]
theorem z29{xs ys:List Nat}{i:Nat}(ox:z1F xs)(h:z23 xs ys (i+1))(hl:xs.getD i 0<ys.getD i 0):binV xs<binV ys:=by
 obtain⟨T,h1,h2⟩:=z26 h;rw[z1N]at h1 h2;have a1:binV (xs.take i)<2 ^ (32*i):=by
  have:=z1J (xs:=xs.take i) (fun x hx=>ox x (List.mem_of_mem_take hx));have h3:2 ^ (32*(xs.take i).length)<=2 ^ (32*i):=Nat.pow_le_pow_right (by decide) (by rw[List.length_take];omega)
  omega
 have a2:2 ^ (32*i)*(xs.getD i 0+1)<=2 ^ (32*i)*ys.getD i 0:=Nat.mul_le_mul_left _ hl;rw[Nat.mul_add,Nat.mul_one]at a2;generalize 2 ^ (32*(i+1))*T=R at *;omega
theorem z2a{xs:List Nat}{n k x:Nat}(h:z1Z xs (n+1))(ok:z1F xs)(hx:xs.getD n 0=x)(hk:k≠0)(h1:2 ^ (k-1)<=x)(h2:x<2 ^ k):z1e (binV xs)=32*n+k:=by
 have hv:=z21 h.zero;rw[z1N,hx]at hv;have a1:binV (xs.take n)<2 ^ (32*n):=by
  have:=z1J (xs:=xs.take n) (fun x hx=>ok x (List.mem_of_mem_take hx));have h3:2 ^ (32*(xs.take n).length)<=2 ^ (32*n):=Nat.pow_le_pow_right (by decide) (by rw[List.length_take];omega)
  omega
 refine z1f (.inr ⟨by omega,?_,?_⟩)
 ·rw[(by omega:32*n+k-1=32*n+(k-1)),Nat.pow_add,←hv]
  have:2 ^ (32*n)*2 ^ (k-1)<=2 ^ (32*n)*x:=Nat.mul_le_mul_left _ h1;omega
 ·rw[Nat.pow_add,←hv];have:2 ^ (32*n)*(x+1)<=2 ^ (32*n)*2 ^ k:=Nat.mul_le_mul_left _ h2;rw[Nat.mul_add,Nat.mul_one]at this;omega
theorem z2b{a k:Nat}(h:a<2 ^ k):z1e a<=k:=by
 by_cases h0:a=0
 ·unfold z1e;rw[if_pos h0];omega
 ·obtain⟨h1,h2,_⟩:=z1g h0;rcases Nat.lt_or_ge k (z1e a)with h'|h'
  ·have:2 ^ k<=2 ^ (z1e a-1):=Nat.pow_le_pow_right (by decide) (by omega)
   omega
  ·exact h'
end Go.Proofs.YtdbekjiognpgnaaGreat
namespace Go.Proofs.YtdbekjiognpgnaaGreat
open Go.RowKit
theorem z2c(v:Value)(ls:List Nat)(B:Nat)(w:World)(hA:RowW w B v ls)(la:ls.length<=1048576):
  Calls Tryz.prog 117 #[v] w fun e w'=>(∃ n:Nat,e=.returned (.int .i64 n)/\z1Z ls n)/\w=w':=by
 obtain⟨pa,ca,rfl⟩:=hA.shape;have HA:Hid (RowW w B (.slice pa ls.length ca) ls):=hA;clear hA;go_enter Tryz.func117,Tryz.ntmps117;go_wp2_with fail;go_loop [3] (fun x=>∃ n:Nat,x=.int .i64 n/\n<=ls.length/\Hid (∀ j,n<=j->ls.getD j 0=0)) (fun x=>(intOf x).toNat)
 case atStart=>exact⟨ls.length,rfl,yf9 _,fun j hj=>z20 hj⟩
 case round=>
  obtain⟨n,rfl,hn,HI⟩:=hrel;by_cases h0:0<n
  ·obtain⟨ga,rfl,hca⟩:=HA.out.at (i:=n-1) (by omega)
   obtain⟨k,hk⟩:∃ k,n=k+1:=⟨n-1,by omega⟩
   subst hk;rw[Nat.add_sub_cancel]at hca;have HT:Hid (ls.getD k 0=ls.getD k 0):=rfl;obtain⟨x,hx⟩:∃ x,ls.getD k 0=x:=⟨_,rfl⟩;rw[hx]at hca;have HX:Hid (ls.getD k 0=x):=hx;clear hx HT;by_cases hz:x=0
   ·subst hz;go_wp2;go_round
    case rel=>exact⟨k,by go_num,by omega,fun j hj=>by
     rcases Nat.eq_or_lt_of_le hj with h'|h'
     ·rw[←h'];exact HX.out
     ·exact HI.out j h'⟩
    case measure=>simp[intOf]
   ·have dz:((x:Int)==0)=false:=by rw[yc9];omega
    go_wp2;go_ret;exact⟨⟨k+1,by go_num,⟨hn,HI.out,.inr (by rw[Nat.add_sub_cancel,HX.out];exact hz)⟩⟩,rfl⟩
  ·have h0':n=0:=by omega
   subst h0';go_wp2;go_ret;exact⟨⟨0,rfl,⟨hn,HI.out,.inl rfl⟩⟩,rfl⟩
theorem z2d(v u:Value)(ls ms:List Nat)(B C:Nat)(w:World)(hA:RowW w B v ls)(hB:RowW w C u ms)(oa:z1F ls)(ob:z1F ms)(la:ls.length<=1048576)(lb:ms.length<=1048576):
  Calls Tryz.prog 114 #[v,u] w fun e w'=>e=.returned (.bool (decide (binV ls<binV ms)))/\Below w.heap.size w w':=by
 have cA:=fun W (h:RowW W B v ls)=>z2c v ls B W h la;have cB:=fun W (h:RowW W C u ms)=>z2c u ms C W h lb;have cA:=cA w hA;have cB:=cB w hB;obtain⟨pa,ca,rfl⟩:=hA.shape;obtain⟨pb,cb,rfl⟩:=hB.shape;have HA:Hid (RowW w B (.slice pa ls.length ca) ls/\z1F ls):=⟨hA,oa⟩;have HB:Hid (RowW w C (.slice pb ms.length cb) ms/\z1F ms):=⟨hB,ob⟩;obtain⟨R,hR⟩:∃ R,decide (binV ls<binV ms)=R:=⟨_,rfl⟩;rw[hR];have HR:Hid (Unit->decide (binV ls<binV ms)=R):=fun _=>hR;clear hA hB oa ob hR;go_enter Tryz.func114,Tryz.ntmps114;go_wp2_with fail;refine cA.mono ?_;rintro e w' ⟨⟨n,rfl,hn⟩,rfl⟩;have HN:Hid (z1Z ls n):=hn;have hn1:(n:Int)<=ls.length:=by have:=hn.le;omega
 clear hn cA;go_wp2_with fail;refine cB.mono ?_;rintro e w' ⟨⟨m,rfl,hm⟩,rfl⟩;have HM:Hid (z1Z ms m):=hm;have hm1:(m:Int)<=ms.length:=by have:=hm.le;omega
 clear hm cB;by_cases hnm:n=m
 ·subst hnm;go_wp2_with fail;go_loopw [7] (fun x wr=>∃ k:Nat,x=.int .i64 ((k:Int)-1)/\(k:Int)<=n/\Below w.heap.size w wr/\Hid (z23 ls ms k)) (fun x _=>(intOf x+1).toNat)
  case atStart=>exact⟨n,rfl,by omega,yg9 _ _,z24 HN.out.zero HM.out.zero⟩
  case round=>
   obtain⟨k,rfl,hk,hbel,HI⟩:=hrel;by_cases h0:k=0
   ·have HZ:Hid (Unit->R=false):=fun _=>by
     subst h0;rw[←HR.out (),z27 HI.out];simp
    subst h0;clear HI;go_wp2;go_ret;exact⟨by rw[HZ.out ()];rfl,hbel⟩
   ·obtain⟨j,hj⟩:∃ j,k=j+1:=⟨k-1,by omega⟩
    subst hj;obtain⟨ga,rfl,hca⟩:=(HA.out.1.below hbel).at (i:=j) (by omega)
    obtain⟨gb,rfl,hcb⟩:=(HB.out.1.below hbel).at (i:=j) (by omega)
    obtain⟨x,hx⟩:∃ x,ls.getD j 0=x:=⟨_,rfl⟩;obtain⟨y,hy⟩:∃ y,ms.getD j 0=y:=⟨_,rfl⟩;rw[hx]at hca;rw[hy]at hcb;have HS:Hid (x=y->z23 ls ms j):=fun e=>z25 HI.out (by rw[hx,hy];exact e)
    have HL:Hid (Unit->x≠y->R=decide (x<y)):=fun _ hne=>by
     rw[←HR.out ()];rcases Nat.lt_or_ge x y with h|h
     ·rw[yb9 h,yb9];exact z29 HA.out.2 HI.out (by rw[hx,hy];exact h)
     ·rw[ya9 (by omega:¬x<y),ya9]
      have:=z29 HB.out.2 (fun j hj=>(HI.out j hj).symm) (by rw[hx,hy];omega:ms.getD j 0<ls.getD j 0)
      omega
    clear hx hy HI;by_cases hxy:x=y
    ·subst hxy;have HS2:Hid (z23 ls ms j):=HS.out rfl;clear HS HL;go_wp2_with fail;go_quiet (fail)
     go_wp2;go_roundw
     case rel=>exact⟨j,by go_num,by omega,below_drewN hbel _,HS2⟩
     case measure=>simp[intOf]
    ·have dxy:((x:Int)==y)=false:=by rw[yc9];omega
     have HZ:=HL.out () hxy;subst HZ;clear HL HS hxy;go_wp2_with fail;go_quiet (fail)
     go_wp2_with fail;go_quiet (fail)
     go_wp2;go_ret;exact⟨by simp,below_drewN (below_drewN hbel _) _⟩
 ·have dnm:((n:Int)==m)=false:=by rw[yc9];omega
  have HZ:Hid (Unit->R=decide (n<m)):=fun _=>by
   rw[←HR.out ()];rcases Nat.lt_or_ge n m with h|h
   ·rw[yb9 h,yb9];exact z22 HN.out HM.out HA.out.2 HB.out.2 h
   ·rw[ya9 (by omega:¬n<m),ya9]
    have:=z22 HM.out HN.out HB.out.2 HA.out.2 (by omega)
    omega
  clear hnm;go_wp2;go_ret;exact⟨by rw[HZ.out ()];simp,yg9 _ _⟩
structure z2e(x k y:Nat):Prop where
 eq:y=x/2 ^ k
 lt:k=0\/2 ^ (k-1)<=x
theorem z2f(x:Nat):z2e x 0 x:=⟨by simp,.inl rfl⟩
theorem z2g{x k y:Nat}(h:z2e x k y)(hy:0<y):z2e x (k+1) (y/2):=by
 refine⟨by rw[h.eq,Nat.pow_succ,Nat.div_div_eq_div_mul],.inr ?_⟩
 rw[Nat.add_sub_cancel];have h1:=h.eq;rcases Nat.lt_or_ge x (2 ^ k)with h2|h2
 ·rw[Nat.div_eq_of_lt h2]at h1;omega
 ·exact h2
theorem z2h{x k:Nat}(h:z2e x k 0)(hx:x≠0):k≠0/\2 ^ (k-1)<=x/\x<2 ^ k:=by
 have h1:=h.eq;have h2:x<2 ^ k:=by
  rcases Nat.lt_or_ge x (2 ^ k)with h2|h2
  ·exact h2
  ·have:=Nat.div_pos h2 (Nat.two_pow_pos k);omega
 have h3:k≠0:=by
  intro h0;subst h0;rw[Nat.pow_zero]at h2;omega
 rcases h.lt with h4|h4
 ·exact absurd h4 h3
 ·exact⟨h3,h4,h2⟩
theorem z2i(v:Value)(ls:List Nat)(B:Nat)(w:World)(hA:RowW w B v ls)(oa:z1F ls)(la:ls.length<=1048576):
  Calls Tryz.prog 112 #[v] w fun e w'=>e=.returned (.int .i64 (z1e (binV ls):Nat))/\w=w':=by
 have cA:=z2c v ls B w hA la;obtain⟨pa,ca,rfl⟩:=hA.shape;have HA:Hid (RowW w B (.slice pa ls.length ca) ls/\z1F ls):=⟨hA,oa⟩;obtain⟨R,hR⟩:∃ R,z1e (binV ls)=R:=⟨_,rfl⟩;rw[hR];have HR:Hid (Unit->z1e (binV ls)=R):=fun _=>hR;clear hA oa hR;go_enter Tryz.func112,Tryz.ntmps112;go_wp2_with fail;refine cA.mono ?_;rintro e w' ⟨⟨n,rfl,hn⟩,rfl⟩;have hn1:(n:Int)<=ls.length:=by have:=hn.le;omega
 by_cases h0:n=0
 ·have HZ:Hid (Unit->R=0):=fun _=>by
   rw[←HR.out (),(hn.nil HA.out.2).mp h0];rfl
  subst h0;clear hn;go_wp2;go_ret;exact⟨by rw[HZ.out ()];rfl,rfl⟩
 ·obtain⟨j,hj⟩:∃ j,n=j+1:=⟨n-1,by omega⟩
  subst hj;obtain⟨ga,rfl,hca⟩:=HA.out.1.at (i:=j) (by omega)
  have o1:=z1M HA.out.2 j;obtain⟨x,hx⟩:∃ x,ls.getD j 0=x:=⟨_,rfl⟩;rw[hx]at hca o1;have HX:Hid (x≠0/\∀ k,(k≠0/\2 ^ (k-1)<=x/\x<2 ^ k)->R=32*j+k):=by
   refine⟨?_,fun k hk=>?_⟩
   ·rcases hn.top with h|h
    ·omega
    ·rw[Nat.add_sub_cancel,hx]at h;exact h
   ·rw[←HR.out ()];exact z2a hn HA.out.2 hx hk.1 hk.2.1 hk.2.2
  have X2:Hid (Unit->(x:Int)<4294967296):=fun _=>by omega
  have d0:(((j:Int)+1)==0)=false:=by rw[yc9];omega
  clear hn hx o1 h0;go_wp2_with fail;go_loop [4,5] (fun u y=>∃ k z:Nat,u=.int .i64 k/\y=.int .u64 z/\(k:Int)<=32/\(z:Int)<4294967296/\Hid (z2e x k z)) (fun _ y=>(intOf y).toNat)
  case atStart=>exact⟨0,x,rfl,rfl,by omega,X2.out (),z2f x⟩
  case round=>
   obtain⟨k,z,rfl,rfl,hk,hz,HI⟩:=hrel;by_cases hz0:0<z
   ·have HN:Hid (z2e x (k+1) (z/2)):=z2g HI.out hz0;have hk2:(k:Int)+1<=32:=by
     rcases HN.out.lt with h|h
     ·omega
     ·rw[Nat.add_sub_cancel]at h;rcases Nat.lt_or_ge k 32 with h'|h'
      ·omega
      ·have:2 ^ 32<=2 ^ k:=Nat.pow_le_pow_right (by decide) h'
       have:=X2.out ();omega
    clear HI;go_wp2;go_round
    case rel=>exact⟨k+1,z/2,by go_num,by go_num,by omega,by omega,HN⟩
    case measure=>simp[intOf];omega
   ·have hz1:z=0:=by omega
    subst hz1;have HZ:=HX.out.2 k (z2h HI.out HX.out.1);subst HZ;clear HI HX;go_wp2;go_ret;exact⟨by go_num,rfl⟩
theorem z2j(v u:Value)(ls ms:List Nat)(B C:Nat)(w:World)(hA:RowW w B v ls)(hB:RowW w C u ms)(oa:z1F ls)(ob:z1F ms)(la:ls.length<=1048576)(lb:ms.length<=1048576)(hle:binV ms<=binV ls):
  Calls Tryz.prog 115 #[v,u] w fun e w'=>∃(v':Value) (xs:List Nat),e=.returned v'/\RowW w' w.heap.size v' xs/\Below w.heap.size w w'/\binV xs=binV ls-binV ms/\z1F xs/\xs.length=ls.length:=by
 obtain⟨i0,hi,hz0,hz1,hz2⟩:=info_parts Tryz.infoWord;obtain⟨pa,ca,rfl⟩:=hA.shape;obtain⟨pb,cb,rfl⟩:=hB.shape;have HA:Hid (RowW w B (.slice pa ls.length ca) ls/\z1F ls):=⟨hA,oa⟩;have HB:Hid (RowW w C (.slice pb ms.length cb) ms/\z1F ms):=⟨hB,ob⟩;have HL:Hid (Unit->binV ms<=binV ls):=fun _=>hle;clear hA hB oa ob hle;go_enter Tryz.func115,Tryz.ntmps115;go_upto_region 4 with fail;go_loopw [5,6,7] (fun u x y wr=>∃(i c:Nat) (xs:List Nat),y=.int .i64 i/\x=.int .u64 c/\i<=ls.length/\(c:Int)<=1/\wr.ownsRow w.heap.size 32 1 u i (xs.map fun x=>Value.int .u64 (x:Nat))/\Below w.heap.size w wr/\Hid (z1T ls ms xs i c)) (fun _ _ y _=>ls.length-(intOf y).toNat)
 case atStart=>exact⟨0,0,[],rfl,rfl,by omega,by omega,World.ownsRow_made w #[] 0 (yf9 _) (yj9 _) rfl,(yg9 _ _).alloc (yf9 _) _,z1U ls ms⟩
 case round=>
  obtain⟨i,c,xs,rfl,rfl,hil,hc,hown,hbel,HI⟩:=hrel;have hsz:=hbel.size;by_cases hlt:i<ls.length
  ·obtain⟨ga,rfl,hca⟩:=(HA.out.1.below hbel).at hlt;have o2:=z1M HA.out.2 i;have o3:=z1M HB.out.2 i;have hil':(i:Int)<ls.length:=by omega
   by_cases hmb:i<ms.length
   ·obtain⟨gb,rfl,hcb⟩:=(HB.out.1.below hbel).at hmb;have hmb':(i:Int)<ms.length:=by omega
    have HS:Hid (∀ c' z,z<4294967296->z+ms.getD i 0+c=ls.getD i 0+4294967296*c'->z1T ls ms (xs++[z]) (i+1) c'):=fun c' z h1 h2=>z1V HI.out h1 h2;obtain⟨x,hx⟩:∃ x,ls.getD i 0=x:=⟨_,rfl⟩;obtain⟨b,hb⟩:∃ b,ms.getD i 0=b:=⟨_,rfl⟩;rw[hx]at hca o2 HS;rw[hb]at hcb o3 HS;obtain⟨y,hy⟩:∃ y,c+b=y:=⟨_,rfl⟩;have hyv:(c:Int)+b=y:=by omega
    have x2:(x:Int)<4294967296:=by omega
    have y2:(y:Int)<=4294967296:=by omega
    have HS:Hid (∀ c' z,z<4294967296->z+y=x+4294967296*c'->z1T ls ms (xs++[z]) (i+1) c'):=fun c' z h1 h2=>HS.out c' z h1 (by omega)
    clear hx hb HI o2 o3 hy;by_cases hxy:x<y
    ·obtain⟨z,hz⟩:∃ z,x+4294967296-y=z:=⟨_,rfl⟩;have hzv:(x:Int)+4294967296-y=z:=by omega
     have HN:Hid (z1T ls ms (xs++[z]) (i+1) 1):=HS.out 1 z (by omega) (by omega)
     clear HS hz;go_wp2_with (at_builtin;refine z03 (w0:=w) rfl _ _ 169 rfl w.heap.size 32 i0 (.int .u64 0) 8 Tryz.underlying169 hi hz0 hz1 hz2 rfl _ _ _ rfl hown (.int .u64 (z:Int)) rfl rfl (by omega) (by decide) hbel hsz ?_)
     intro v' w2 hown' hbel';have hrow:w2.ownsRow w.heap.size 32 1 v' (i+1) ((xs++[z]).map fun x=>Value.int .u64 (x:Nat)):=by simpa using hown'
     clear hown' hown;go_wp2;go_roundw
     case rel=>exact⟨i+1,1,xs++[z],by go_num,rfl,by omega,by omega,hrow,hbel',HN⟩
     case measure=>simp[intOf];omega
    ·have dxy:decide ((x:Int)<y)=false:=by simp;omega
     obtain⟨z,hz⟩:∃ z,x-y=z:=⟨_,rfl⟩;have hzv:(x:Int)-y=z:=by omega
     have HN:Hid (z1T ls ms (xs++[z]) (i+1) 0):=HS.out 0 z (by omega) (by omega)
     clear HS hz;go_wp2_with (at_builtin;refine z03 (w0:=w) rfl _ _ 169 rfl w.heap.size 32 i0 (.int .u64 0) 8 Tryz.underlying169 hi hz0 hz1 hz2 rfl _ _ _ rfl hown (.int .u64 (z:Int)) rfl rfl (by omega) (by decide) hbel hsz ?_)
     intro v' w2 hown' hbel';have hrow:w2.ownsRow w.heap.size 32 1 v' (i+1) ((xs++[z]).map fun x=>Value.int .u64 (x:Nat)):=by simpa using hown'
     clear hown' hown;go_wp2;go_roundw
     case rel=>exact⟨i+1,0,xs++[z],by go_num,rfl,by omega,by omega,hrow,hbel',HN⟩
     case measure=>simp[intOf];omega
   ·have hmb':decide (i<ms.length)=false:=by simp;omega
    have HS:Hid (∀ c' z,z<4294967296->z+c=ls.getD i 0+4294967296*c'->z1T ls ms (xs++[z]) (i+1) c'):=fun c' z h1 h2=>z1V HI.out h1 (by rw[z20 (by omega:ms.length<=i)];omega)
    obtain⟨x,hx⟩:∃ x,ls.getD i 0=x:=⟨_,rfl⟩;rw[hx]at hca o2 HS;have x2:(x:Int)<4294967296:=by omega
    clear hx HI o2 o3 hmb;by_cases hxy:x<c
    ·obtain⟨z,hz⟩:∃ z,x+4294967296-c=z:=⟨_,rfl⟩;have hzv:(x:Int)+4294967296-c=z:=by omega
     have HN:Hid (z1T ls ms (xs++[z]) (i+1) 1):=HS.out 1 z (by omega) (by omega)
     clear HS hz;go_wp2_with (at_builtin;refine z03 (w0:=w) rfl _ _ 169 rfl w.heap.size 32 i0 (.int .u64 0) 8 Tryz.underlying169 hi hz0 hz1 hz2 rfl _ _ _ rfl hown (.int .u64 (z:Int)) rfl rfl (by omega) (by decide) hbel hsz ?_)
     intro v' w2 hown' hbel';have hrow:w2.ownsRow w.heap.size 32 1 v' (i+1) ((xs++[z]).map fun x=>Value.int .u64 (x:Nat)):=by simpa using hown'
     clear hown' hown;go_wp2;go_roundw
     case rel=>exact⟨i+1,1,xs++[z],by go_num,rfl,by omega,by omega,hrow,hbel',HN⟩
     case measure=>simp[intOf];omega
    ·have dxy:decide ((x:Int)<c)=false:=by simp;omega
     obtain⟨z,hz⟩:∃ z,x-c=z:=⟨_,rfl⟩;have hzv:(x:Int)-c=z:=by omega
     have HN:Hid (z1T ls ms (xs++[z]) (i+1) 0):=HS.out 0 z (by omega) (by omega)
     clear HS hz;go_wp2_with (at_builtin;refine z03 (w0:=w) rfl _ _ 169 rfl w.heap.size 32 i0 (.int .u64 0) 8 Tryz.underlying169 hi hz0 hz1 hz2 rfl _ _ _ rfl hown (.int .u64 (z:Int)) rfl rfl (by omega) (by decide) hbel hsz ?_)
     intro v' w2 hown' hbel';have hrow:w2.ownsRow w.heap.size 32 1 v' (i+1) ((xs++[z]).map fun x=>Value.int .u64 (x:Nat)):=by simpa using hown'
     clear hown' hown;go_wp2;go_roundw
     case rel=>exact⟨i+1,0,xs++[z],by go_num,rfl,by omega,by omega,hrow,hbel',HN⟩
     case measure=>simp[intOf];omega
  ·have hie:i=ls.length:=by omega
   subst hie;have HE:Hid (binV xs=binV ls-binV ms/\z1F xs/\xs.length=ls.length):=⟨z1W HI.out HA.out.2 (HL.out ()),HI.out.ok,HI.out.len⟩;clear HI;go_wp2;go_ret;refine⟨_,xs,rfl,?_,hbel,HE.out.1,HE.out.2.1,HE.out.2.2⟩;show World.ownsRow _ _ _ _ _ xs.length _;rw[HE.out.2.2];exact hown
