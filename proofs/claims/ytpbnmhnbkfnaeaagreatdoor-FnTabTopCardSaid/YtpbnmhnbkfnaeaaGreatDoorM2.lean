/- A part of the proof, put together out of smaller texts. -/
import Derived.Test.YtpbnmhnbkfnaeaaGreatDoorM0
import Derived.Test.YtpbnmhnbkfnaeaaGreatDoorM1
import Derived.Deep.RegionWith
import Derived.Deep.RegionLaw
import Derived.Deep.AppendLies
import Derived.Deep.RegionHeldLaw
set_option linter.all false
set_option maxRecDepth 100000
set_option maxHeartbeats 32000000
namespace Go.Proofs.YtpbnmhnbkfnaeaaGreatDoor
open Go.RowKit Nt
theorem Xx(l:List UInt8)(n:Nat)(w:World)(hs:l.length<=1000000000)(h:vS l=qj 10 n):
  Calls Tryz.prog 125 #[.string (B l)] w fun e w'=>e=.returned (.string (zr n))/\w'=w:=by
 have:=xY l w hs;rw[h]at this;exact this
theorem zdF(R c:Nat)(hc:c<10):vS (qj 10 R++[sg c])=qj 10 (10*R+c):=by
 by_cases h:R=0
 . subst h
   rw[qK,Nat.mul_zero,Uz,yr 10 (by omega) c hc];simp[vS]
 . have:=QF 10 (by omega) (10*R+c) (by omega)
   rw[show(10*R+c)/10=R from by omega,show(10*R+c)%10=c from by omega]at this;rw[<-this,zai]
def Qv(a i:Nat):Nat:=a/10^((zr a).size-i)
theorem ZI(a:Nat):Qv a 0=0:=wY (jE a)
theorem Qw(a:Nat):Qv a (zr a).size=a:=by simp[Qv]
theorem Q6(a i:Nat)(h:i<(zr a).size):Qv a (i+1)=10*Qv a i+a/10^((zr a).size-1-i)%10:=by
 unfold Qv;rw[show(zr a).size-i=((zr a).size-1-i)+1 from by omega,show(zr a).size-(i+1)=(zr a).size-1-i from by omega,uZ,<-Nat.div_div_eq_div_mul];omega
theorem zfB(a i:Nat)(h:i<(zr a).size):(zr a).extract i (i+1)=B [sg (a/10^((zr a).size-1-i)%10)]:=by
 have h1:i<(qj 10 a).length:=by rw[<-zJ];exact h
 have e:=zaz a ((qj 10 a).length-1-i) (by omega);rw[List.getElem_reverse]at e;have e2:(qj 10 a).length-1-((qj 10 a).length-1-i)=i:=by omega
 simp only[e2]at e;rw[zJ,<-e];unfold zr jB;rw[qp,uQ h1,List.drop_append_of_le_length (by simp;omega)];simp
theorem zee{A b q R c m:Nat}(hq:A/b=q)(hR:A%b=R)(hm:(10*R+c)/b=m)(hb:0<b):(10*A+c)/b=m+10*q/\(10*A+c)%b=(10*R+c)%b:=by
 have hA:=WS A b;rw[hq,hR]at hA;have e:10*A+c=10*R+c+b*(10*q):=by
  rw[<-hA,uS,UT];omega
 rw[e,Nat.add_mul_div_left _ _ hb,Nat.add_mul_mod_self_left,hm];exact⟨rfl,rfl⟩
theorem zef{ρ m b X:Nat}(h:ρ+m*b=X)(hlt:ρ<b):X/b=m/\X%b=ρ:=by
 have hb:0<b:=by omega
 rw[<-h,uE m b,Nat.add_mul_div_left _ _ hb,Nat.add_mul_mod_self_left,wY hlt,Uu hlt];exact⟨by omega,rfl⟩
theorem za1{m b X ρ:Nat}(h:ρ+m*b=X)(hX:X<10*b)(hge:b<=ρ):m+1<=9:=by
 have h1:(m+1)*b<10*b:=by rw[wP];omega
 have:=Nat.lt_of_mul_lt_mul_right h1;omega
theorem kw{m n:Nat}(h:m<=n):(zr m).size<=(zr n).size:=by
 have:=qW (b:=10) (by omega) (jV n) (wQ h (jE n));rw[zJ m];exact this
theorem Y3{ρ b:Nat}(h:ρ<10*b):(zr ρ).size<=(zr b).size+1:=by
 rw[zJ ρ];apply qW (by omega) (by omega);have:=jE b;rw[uZ];omega
theorem zgS{a b:Nat}(h:b<=a):0<=kP a b:=by unfold kP;rw[ul (by omega)];split<;>omega
theorem zgT{a b:Nat}(h:a<b):kP a b<0:=by unfold kP;rw[uj h];omega
theorem JJ(a b:Nat)(w:World)(hb0:0<b)(hsa:(zr a).size<=50000)(hsb:(zr b).size<=50000):
  Calls Tryz.prog 123 #[.string (zr a),.string (zr b)] w fun e w'=>e=.returned (.tuple #[.string (zr (a/b)),.string (zr (a%b))])/\Below w.heap.size w w':=by
 obtain⟨i0,hi,hz0,hz1,hz2⟩:=Ue Tryz.infoByte;go_enter Tryz.func123,Tryz.ntmps123;go_wp2
 go_loopw [6,7,8,9] (fun q r i _ wr=>∃(i' R:Nat)(Q:List Nat),i'<=(zr a).size/\i=.int .i64 i'/\r=.string (zr R)/\R<b/\Q.length=i'/\wr.ownsRow w.heap.size 5 1 q i' ((Q.map sg).map ZM)/\Below w.heap.size w wr/\
   Hid (∀d∈Q,d<10)/\Hid (Qv a i'/b=zG 10 Q.reverse)/\Hid (Qv a i'%b=R))
  (fun _ _ i _ _=>(zr a).size-(intOf i).toNat)
 case atStart=>
  refine⟨0,0,[],uD _,rfl,rfl,hb0,rfl,Wt w #[] 0 (ud _) (by decide) (by simp),(ue _ _).alloc (ud _) _,zb (by simp),?_,?_⟩
  . show _=_;rw[ZI];simp[zG]
  . show _=_;rw[ZI];simp
 case round=>
  obtain⟨i',R,Q,hi',rfl,rfl,hR,hQl,hown,hb,hdg,hqv,hrv⟩:=hrel;by_cases hlt:i'<(zr a).size
  . have hc:a/10^((zr a).size-1-i')%10<10:=Ua _ (by omega)
    have hcut:=zfB a i' hlt;have hps:=Q6 a i' hlt;generalize a/10^((zr a).size-1-i')%10=c at *;have Hps:=zb hps;clear hps;have hRs:(zr R).size<=(zr b).size:=kw (by omega);have hcs:(B [sg c]).size<=1:=by rw[zj];simp
    have hcat:zr R++B [sg c]=B (qj 10 R++[sg c]):=by unfold zr jB;rw[qf]
    have hlen:(qj 10 R++[sg c]).length<=1000000000:=by rw[uG,<-zJ];simp;omega
    have hns:¬9223372036854775807<(zr R).size+(B [sg c]).size:=by omega
    have Htp:=zb (zdF R c hc);go_wp2_with fail;refine(Xx _ (10*R+c) _ hlen (za Htp)).mono ?_;rintro e w1⟨rfl,rfl⟩;go_wp2_with fail;have hX:10*R+c<10*b:=by omega
    generalize hXd:10*R+c=X at *;have HXd:=zb hXd;clear hXd hcut hcat hns Htp hlen
    go_loopw [7,9] (fun r n wr=>∃(ρ m:Nat),r=.string (zr ρ)/\n=.int .u8 (48+(m:Int))/\m<=9/\ρ<10*b/\wr.ownsRow w.heap.size 5 1 u6 i' ((Q.map sg).map ZM)/\Below w.heap.size w wr/\Hid (ρ+m*b=X))
     (fun _ n _=>60-(intOf n).toNat)
    case atStart=>exact⟨X,0,rfl,rfl,by omega,hX,hown,hb,zb (by simp)⟩
    case round=>
     clear hown hb;obtain⟨ρ,m,rfl,rfl,hm9,hρ,hown,hb,hinv⟩:=hrel;have hρs:=Y3 hρ;by_cases hge:b<=ρ
     . have hcg:=zgS hge
       have hm1:=za1 (za hinv) hX hge;go_wp2_with fail;refine(Kd ρ b _ (by omega) (by omega)).mono ?_;rintro e w1⟨rfl,rfl⟩;go_wp2_with fail;refine(zfQ ρ b _ hge (by omega)).mono ?_;rintro e w2⟨rfl,hb2⟩;go_wp2_with fail;go_roundw
       case rel=>
        exact⟨ρ-b,m+1,rfl,by go_num,by omega,by omega,zu hown hb2,hb.trans (hb2.mono hb.size),zb (by have:=za hinv;rw[wP];omega)⟩
       case measure=>simp[intOf];omega
     . have hρb:ρ<b:=by omega
       have hcl:=zgT hρb;go_wp2_with fail;refine(Kd ρ b _ (by omega) (by omega)).mono ?_;rintro e w1⟨rfl,rfl⟩;have hw:=hb.size;go_wp2_with (at_builtin;refine wG _ rfl (.tmp 34) (.tmp 36) 22 rfl w.heap.size 5 i0 (.int .u8 0) 1 1 Ug hi hz0 hz1 hz2 rfl (by decide) _ _ _ rfl (hown.alloc _) ⟨w1.heap.size,0,none⟩ 1 1 [.int .u8 (48+(m:Int))] rfl rfl (cell_one_new _ _ _) (by intro u hu;simp at hu;subst hu;rfl) (by unfold maxLen;omega) (by omega) (by simp;omega) ?_;intro v2 w2 hown2 hg2 _);have hbX:=qh (hb.alloc hw _) (hown.alloc _) hg2 (by simp<;>omega);have hds:=zef (za hinv) hρb;have hpush:=zee (c:=c) (m:=m) (za hqv) (za hrv) (by rw[za HXd];exact hds.1) hb0;go_roundw
       case rel=>
        refine⟨i'+1,ρ,Q++[m],by omega,by go_num,rfl,hρb,by simp[hQl],?_,hbX,kV hdg (by omega),?_,?_⟩
        . rw[UF,UF]
          simp only[UU,di,KO (show m<10 by omega)];exact hown2
        . show _=_
          rw[za Hps,hpush.1,List.reverse_append];simp[zG]
        . show _=_
          rw[za Hps,hpush.2,za HXd];exact hds.2
       case measure=>simp[intOf];omega
  . have hil:i'=(zr a).size:=by omega
    subst hil;have hQ0:Q≠[]:=fun h=>by have:=jV a;rw[h]at hQl;simp at hQl;omega
    have hconv:=qV (dst:=9) Ug Ux Uf hown;have htr:vS (Q.map sg)=qj 10 (a/b):=by
     have h1:=kj Q.reverse (fun d hd=>za hdg d (by simpa using hd)) (by simpa using hQ0);rw[List.map_reverse,WD]at h1;rw[h1,<-za hqv,Qw]
    have Htr:=zb htr;have hrv2:=za hrv;rw[Qw]at hrv2;have Hrv2:=zb hrv2;clear hrv2 htr;go_wp2_with fail;refine(Xx _ (a/b) _ (by simp;omega) (za Htr)).mono ?_;rintro e w1⟨rfl,rfl⟩;go_wp2
    go_ret2
    exact⟨by rw[za Hrv2];rfl,hb⟩
theorem qw(n:Nat):zC (qj 10 n)=n:=by
 have:=qR (ZA n);exact(zck (by omega) (by omega) this).symm
theorem Ke(a b:Nat)(w:World)(hsa:(zr a).size<=50000)(hsb:(zr b).size<=50000):
  Calls Tryz.prog 122 #[.string (zr a),.string (zr b)] w fun e w'=>e=.returned (.string (zr (Nat.gcd a b)))/\Below w.heap.size w w':=by
 go_enter Tryz.func122,Tryz.ntmps122;go_wp2
 go_loopw [0,1] (fun x y wr=>∃(a' b':Nat),x=.string (zr a')/\y=.string (zr b')/\(zr a').size<=50000/\(zr b').size<=50000/\Below w.heap.size w wr/\Hid (Nat.gcd a' b'=Nat.gcd a b))
  (fun _ y _=>zC (match y with| .string s=>s.data.toList|_=>[]))
 case atStart=>exact⟨a,b,rfl,rfl,hsa,hsb,ue _ _,zb rfl⟩
 case round=>
  obtain⟨a',b',rfl,rfl,ha',hb',hb,hg⟩:=hrel;by_cases hz:b'=0
  . subst hz
    have h0:((zr 0).toList== [48])=true:=by unfold zr jB;rw[jg,qK];rfl
    go_wp2;go_ret;have:=za hg;rw[Nat.gcd_zero_right]at this;exact⟨qm (by rw[this]),hb⟩
  . have h0:((zr b').toList== [48])=false:=by
     have:=JI b' 0;rw[uw hz]at this;rw[show(zr 0).toList=[48]from by unfold zr jB;rw[jg,qK]]at this;exact this
    go_wp2_with fail;refine(JJ a' b' _ (by omega) ha' hb').mono ?_;rintro e w1⟨rfl,hb1⟩;go_wp2_with fail;go_roundw
    case rel=>
     refine⟨b',a'%b',rfl,rfl,hb',?_,hb.trans (hb1.mono hb.size),zb ?_⟩
     . have:=kw (dh (Ua a' (show 0<b' by omega)));omega
     . rw[Nat.gcd_comm b',<-Nat.gcd_rec b' a',Nat.gcd_comm,za hg]
    case measure=>
     show zC (qj 10 (a'%b'))<zC (qj 10 b');rw[qw,qw];exact Ua _ (by omega)
def Zk(b:Nat)(l:List UInt8):Nat:=l.foldl (fun n c=>n*b+vU c) 0
def yq(b:Nat)(l:List UInt8):Bool:= !l.isEmpty&&l.all (fun c=>vU c<b)
theorem VD(b:Nat)(l:List UInt8)(c:UInt8):Zk b (l++[c])=Zk b l*b+vU c:=by simp[Zk]
theorem zbj(b:Nat)(l:List UInt8)(h:∀c∈l,vU c<b):Zk b l<b^l.length:=by
 have key:∀(n:Nat)(l:List UInt8),l.length=n->(∀c∈l,vU c<b)->Zk b l<b^n:=by
  intro n
  induction n with
  |zero=>intro l hl _;have:l=[]:=ur hl
         subst this;simp[Zk]
  |succ n ih=>
   intro l hl hc;have hne:l≠[]:=fun hh=>by rw[hh]at hl;simp at hl
   have e:=List.dropLast_concat_getLast hne;rw[<-e,VD];have h1:=ih l.dropLast (by simp[hl]) (fun c hc'=>hc c (List.dropLast_subset l hc'));have h2:=hc (l.getLast hne) (List.getLast_mem hne);rw[uZ];have h3:(Zk b l.dropLast+1)*b<=b^n*b:=U5 b h1;rw[wP]at h3;omega
 exact key l.length l rfl h
theorem xx{n b k:Nat}(hb:b<=16)(h:n<b^k):(zr n).size<=2*k+1:=by
 rw[zJ];apply qW (by omega) (by omega);have h1:b^k<=100^k:=Nat.pow_le_pow_left (by omega) k;have h2:(100:Nat)^k=10^(2*k):=by rw[Nat.pow_mul]
 have h3:(10:Nat)^(2*k)<=10^(2*k+1):=UC (by omega) (by omega);omega
theorem ja{n:Nat}(h:n<1000):(zr n).size<=3:=by rw[zJ];exact qW (by omega) (by omega) (by omega)
theorem VP(l:List UInt8)(k:Nat)(h:k<l.length):l.take (k+1)=l.take k++[l[k]]:=uQ h
theorem Ko{b:Nat}{l:List UInt8}(k:Nat)(h:k<l.length)(hb:b<=vU l[k]):yq b l=false:=by
 cases hh:yq b l with
 |false=>rfl
 |true=>
  unfold yq at hh;simp only[ux]at hh;have:=uI.1 hh.2 l[k] (uF h);simp at this;omega
theorem Vs{b:Nat}{l:List UInt8}(h0:0<l.length)(h:∀c∈l,vU c<b):yq b l=true:=by
 unfold yq;simp only[ux];refine⟨?_,uI.2 (fun c hc=>by simpa using h c hc)⟩;cases l with
 |nil=>simp at h0
 |cons _ _=>rfl
def qZ(b:Nat)(l:List UInt8):Nat:=if yq b l then Zk b l else 0
def vw(b:Nat)(l:List UInt8):Value:=.tuple #[.string (zr (qZ b l)),.bool (yq b l)]
theorem vH(l:List UInt8)(b:Nat)(w:World)(hb2:2<=b)(hb16:b<=16)(hs:l.length<=10000):
  Calls Tryz.prog 107 #[.string (B l),.int .i64 b] w fun e w'=>e=.returned (vw b l)/\Below w.heap.size w w':=by
 have hsz:(B l).size<=10000:=by rw[zj];exact hs
 have hd0:zr 0=⟨#[48]⟩:=by unfold zr jB;rw[qK];rfl
 have Hd0:=zb hd0;clear hd0;by_cases hz:l.length=0
 . have:l=[]:=ur hz
   subst this;clear hs hsz hz;have h0:((B []).toList== [])=true:=by rw[jg];rfl
   have h1:(B []).toList.isEmpty=true:=by rw[jg];rfl
   go_enter Tryz.func107,Tryz.ntmps107;go_wp2
   go_ret2
   refine⟨?_,ue _ _⟩;unfold vw qZ;simp[yq,za Hd0]
 . have hne:l≠[]:=fun hh=>by rw[hh]at hz;simp at hz
   have h1:(B l).toList.isEmpty=false:=by rw[jg];simpa using hne
   go_enter Tryz.func107,Tryz.ntmps107;go_wp2
   go_loopw [6,7] (fun n i wr=>∃k:Nat,k<=l.length/\i=.int .i64 k/\n=.string (zr (Zk b (l.take k)))/\Below w.heap.size w wr/\Hid (∀c∈l.take k,vU c<b))
    (fun _ i _=>l.length-(intOf i).toNat)
   case atStart=>
    exact⟨0,uD _,rfl,by rw[List.take_zero];simp[Zk,za Hd0],ue _ _,zb (by simp)⟩
   case round=>
    obtain⟨k,hk,rfl,rfl,hb,hdg⟩:=hrel;by_cases hlt:k<l.length
    . have hlt2:k<(B l).size:=by rw[zj];exact hlt
      have hgk:((B l)[k]'hlt2).toNat=(l[k]'hlt).toNat:=by rw[j4]
      have hbad:=@Ko b l k hlt;have hsn:=VP l k hlt;have hlk:=zbj b (l.take k) (za hdg);rw[uH,Uq hk]at hlk;have hsk:=xx hb16 hlk;generalize hn:Zk b (l.take k)=n at *;have Hn:=zb hn;generalize hcc:l[k]'hlt=c at *;have Hbad:=zb hbad;have Hsn:=zb hsn;clear hbad hsn hlk hn hcc;go_wp2_with fail;refine(zc2 c _).mono ?_;rintro e w1⟨rfl,rfl⟩;have hdc:vU c<100:=by unfold vU;split<;>(try split)<;>omega
      by_cases hge:b<=vU c
      . go_wp2
        go_ret2
        refine⟨?_,hb⟩;unfold vw qZ;rw[za Hbad hge];simp[za Hd0]
      . go_wp2_with fail
        refine(yR b (by omega) _).mono ?_;rintro e w2⟨rfl,hb2'⟩;go_wp2_with fail;have hbs:=ja (n:=b) (by omega);have hds:=ja (n:=vU c) (by omega);refine(Kf n b _ (by omega) (by omega)).mono ?_;rintro e w3⟨rfl,hb3⟩;go_wp2_with fail;refine(yR (vU c) (by omega) _).mono ?_;rintro e w4⟨rfl,hb4⟩;have hsm:(zr (n*b)).size<=100000:=by
         have h1:n*b<10^((zr n).size+(zr b).size):=by
          rw[da];exact Nat.mul_lt_mul'' (jE n) (jE b)
         have:=jV n;have:=qW (b:=10) (by omega) (by omega) h1;rw[zJ];omega
        go_wp2_with fail;refine(zfP (n*b) (vU c) _ hsm (by omega)).mono ?_;rintro e w5⟨rfl,hb5⟩;go_wp2_with fail;have hbX:=(((hb.trans (hb2'.mono hb.size)).trans (hb3.mono (by have:=hb.size;have:=hb2'.size;omega))).trans (hb4.mono (by have:=hb.size;have:=hb2'.size;have:=hb3.size;omega))).trans (hb5.mono (by have:=hb.size;have:=hb2'.size;have:=hb3.size;have:=hb4.size;omega));go_roundw
        case rel=>
         refine⟨k+1,by omega,by go_num,?_,hbX,?_⟩
         . rw[za Hsn,VD,za Hn]
         . show ∀x∈_,_
           rw[za Hsn];intro x hx;rcases uA.1 hx with h|h
           . exact za hdg x h
           . simp at h;subst h;omega
        case measure=>simp[intOf];omega
    . have hkl:k=l.length:=by omega
      subst hkl;have hlt2:¬l.length<(B l).size:=by rw[zj];omega
      have htk:l.take l.length=l:=Uh;have hok:=Vs (show 0<l.length by omega) (by have:=za hdg;rwa[htk]at this);have Hok:=zb hok;have Htk:=zb htk;clear hok htk;go_wp2
      go_ret2
      refine⟨?_,hb⟩;unfold vw qZ;rw[za Hok];simp[Uh]
def zQ(r:Int):Bool:=r==2||r==8||r==10||r==16
theorem vB(r:Int)(w:World):
  Calls Tryz.prog 93 #[.int .i64 r] w fun e w'=>e=.returned (.bool (zQ r))/\w'=w:=by
 unfold zQ;by_cases h2:(r==2)=true
 . go_enter Tryz.func93,Tryz.ntmps93
   go_wp2;go_ret;exact⟨zF (by simp[h2]),rfl⟩
 . have h2':(r==2)=false:=by simpa using h2
   clear h2;by_cases h8:(r==8)=true
   . go_enter Tryz.func93,Tryz.ntmps93
     go_wp2;go_ret;exact⟨zF (by simp[h8,h2']),rfl⟩
   . have h8':(r==8)=false:=by simpa using h8
     clear h8;by_cases h10:(r==10)=true
     . go_enter Tryz.func93,Tryz.ntmps93
       go_wp2;go_ret;exact⟨zF (by simp[h8',h2',h10]),rfl⟩
     . have h10':(r==10)=false:=by simpa using h10
       clear h10;by_cases h16:(r==16)=true
       . go_enter Tryz.func93,Tryz.ntmps93
         go_wp2;go_ret;exact⟨zF (by simp[h8',h2',h10',h16]),rfl⟩
       . have h16':(r==16)=false:=by simpa using h16
         clear h16;go_enter Tryz.func93,Tryz.ntmps93;go_wp2;go_ret;exact⟨zF (by simp[h8',h2',h10',h16']),rfl⟩
def zZ(c:UInt8):List UInt8->Option Nat
 | []=>none
 |d::r=>if d=c then some 0 else(zZ c r).map (· +1)
def zW(c:UInt8)(l:List UInt8):Int:=match zZ c l with|some k=>(k:Int)|none=> -1
theorem zaE{c:UInt8}:∀ {l:List UInt8}{k:Nat},(h:k<l.length)->l[k]=c->(∀j(hj:j<l.length),j<k->l[j]≠c)->zZ c l=some k:=by
 intro l
 induction l with
 |nil=>intro k h;simp at h
 |cons d r ih=>
  intro k h hk hlt;cases k with
  |zero=>simp only[List.getElem_cons_zero]at hk;simp[zZ,hk]
  |succ k=>
   have hd:d≠c:=hlt 0 (by simp) (by omega);have:=ih (k:=k) (by simpa using h) (by simpa using hk) (fun j hj hjk=>by have:=hlt (j+1) (by simpa using hj) (by omega);simpa using this);simp[zZ,hd,this]
theorem zaD{c:UInt8}:∀ {l:List UInt8},(∀j(hj:j<l.length),l[j]≠c)->zZ c l=none:=by
 intro l
 induction l with
 |nil=>intro _;rfl
 |cons d r ih=>
  intro h;have hd:d≠c:=h 0 (by simp);have:=ih (fun j hj=>by have:=h (j+1) (by simpa using hj);simpa using this);simp[zZ,hd,this]
theorem zeu(l:List UInt8)(c:UInt8)(w:World)(hs:l.length<=1000000000):
  Calls Tryz.prog 104 #[.string (B l),.int .u8 c.toNat] w fun e w'=>e=.returned (.int .i64 (zW c l))/\w'=w:=by
 have hsz:(B l).size<=1000000000:=by rw[zj];exact hs
 go_enter Tryz.func104,Tryz.ntmps104;go_wp2
 go_loop [5] (fun i=>∃k:Nat,k<=l.length/\i=.int .i64 k/\Hid (∀j(hj:j<l.length),j<k->l[j]≠c)) (fun i=>l.length-(intOf i).toNat)
 case atStart=>exact⟨0,uD _,rfl,zb (fun j _ h=>by omega)⟩
 case round=>
  obtain⟨k,hk,rfl,hv⟩:=hrel;by_cases hlt:k<l.length
  . have hlt2:k<(B l).size:=by rw[zj];exact hlt
    have hgk:((B l)[k]'hlt2).toNat=(l[k]'hlt).toNat:=by rw[j4]
    by_cases heq:l[k]'hlt=c
    . have hf:zW c l=(k:Int):=by unfold zW;rw[zaE hlt heq (za hv)]
      have Hf:=zb hf;have ht:(((l[k]'hlt).toNat:Int)==(c.toNat:Int))=true:=by rw[heq];simp
      clear hf heq;go_wp2;go_ret;exact⟨zK (za Hf).symm,rfl⟩
    . have ht:(((l[k]'hlt).toNat:Int)==(c.toNat:Int))=false:=by
       rw[ug];intro hh;exact heq (wM.1 (by omega))
      have hv2:Hid (∀j(hj:j<l.length),j<k+1->l[j]≠c):=by
       intro j hj hjk;by_cases hjk2:j<k
       . exact za hv j hj hjk2
       . have:j=k:=by omega
         subst this;exact heq
      clear heq;go_wp2;go_round
      case rel=>exact⟨k+1,by omega,by go_num,hv2⟩
      case measure=>simp[intOf];omega
  . have hlt2:¬k<(B l).size:=by rw[zj];exact hlt
    have hf:zW c l= -1:=by unfold zW;rw[zaD (fun j hj=>za hv j hj (by omega))]
    have Hf:=zb hf;clear hf;go_wp2;go_ret;exact⟨zK (za Hf).symm,rfl⟩
def zH(neg:Bool)(u d:ByteArray):Value:=.agg #[.bool neg,.string u,.string d]
def qF:Value:=zH false ⟨#[]⟩ ⟨#[]⟩
def zB(neg:Bool)(u d:Nat):Option (Bool×Nat×Nat):=
 if d=0\/60<(zr (u/Nat.gcd u d)).size\/60<(zr (d/Nat.gcd u d)).size then none else some (neg&&u/Nat.gcd u d != 0,u/Nat.gcd u d,d/Nat.gcd u d)
def qe:Option (Bool×Nat×Nat)->Value
 |none=>qF
 |some (n,u,d)=>zH n (zr u) (zr d)
def zg(o:Option (Bool×Nat×Nat)):Value:=.tuple #[qe o,.bool o.isSome]
theorem zd8:zr 0=⟨#[48]⟩:=by unfold zr jB;rw[qK];rfl
theorem xw(n:Nat):((zr n).toList== [48])=decide (n=0):=by
 have:=JI n 0;rwa[show(zr 0).toList=[48]from by unfold zr jB;rw[jg,qK]]at this
theorem jt(neg:Bool)(u d:Nat)(w:World)(hsu:(zr u).size<=50000)(hsd:(zr d).size<=50000):
  Calls Tryz.prog 96 #[.bool neg,.string (zr u),.string (zr d)] w fun e w'=>e=.returned (zg (zB neg u d))/\Below w.heap.size w w':=by
 have hd0:=xw d;by_cases hz:d=0
 . rw[uy hz]at hd0
   have hl:zB neg u d=none:=by simp[zB,hz]
   rw[hl];clear hl hz;go_enter Tryz.func96,Tryz.ntmps96;go_wp2;refine um (v:=zg none) (by simp[results,db,go_sem,zg,qe,qF,zH]) rfl ⟨rfl,(ue _ _).alloc (ud _) _⟩
 . rw[uw hz]at hd0
   have hg:0<Nat.gcd u d:=WE _ (by omega);have hg1:(zr (Nat.gcd u d)).size<=50000:=by have:=kw (Nat.gcd_le_right u (show 0<d by omega));omega
   go_enter Tryz.func96,Tryz.ntmps96;go_wp2_with fail;refine(Ke u d _ hsu hsd).mono ?_;rintro e w1⟨rfl,hb1⟩;go_wp2_with fail;refine(JJ u _ _ hg hsu hg1).mono ?_;rintro e w2⟨rfl,hb2⟩;go_wp2_with fail;refine(JJ d _ _ hg hsd hg1).mono ?_;rintro e w3⟨rfl,hb3⟩;have hb0:=zn hb1;have h2:=zk hb0 (by have:=hb1.size;simpa using this) hb2;have h3:=zk h2.1 h2.2 hb3;have c0:=ze h3.1 0;have c1:=ze h3.1 1;have c2:=ze h3.1 2;have f0:=zh h3.1 0;have f1:=zh h3.1 1;have f2:=zh h3.1 2;have hbX:=zm h3.1;simp at c0 c1 c2;have hqz:=xw (u/Nat.gcd u d);generalize hqu:u/Nat.gcd u d=qu at *;generalize hqd:d/Nat.gcd u d=qd at *;have Hlow:Hid (zB neg u d=if 60<(zr qu).size\/60<(zr qd).size then none else some (neg&&qu != 0,qu,qd)):=by
    show _=_;unfold zB;rw[hqu,hqd];by_cases h:60<(zr qu).size\/60<(zr qd).size
    . rw[uj (by rcases h with h|h<;>simp[h]),uj h]
    . rw[ul (by rintro(h1|h1);exact hz h1;exact h h1),ul h]
   clear hb1 hb2 hb3 h2 h3 hb0 hqu hqd;by_cases h1:60<(zr qu).size
   . rw[uj (.inl h1)]at Hlow
     go_wp2;refine um (v:=zg none) (by simp[results,db,go_sem,zg,qe,qF,zH,c0,c1,c2]) rfl ⟨by rw[za Hlow],?_⟩;exact((hbX.setCell (by simp) _).setCell (by simp) _).setCell (by simp) _
   . by_cases h2:60<(zr qd).size
     . rw[uj (.inr h2)]at Hlow
       go_wp2;refine um (v:=zg none) (by simp[results,db,go_sem,zg,qe,qF,zH,c0,c1,c2]) rfl ⟨by rw[za Hlow],?_⟩;exact((hbX.setCell (by simp) _).setCell (by simp) _).setCell (by simp) _
     . rw[ul (by rintro(h|h);exact h1 h;exact h2 h)]at Hlow
       by_cases hq0:qu=0
       . rw[uy hq0]at hqz
         have Hq0:=zb hq0;clear hq0;cases neg
         case false=>
          go_wp2;refine um (v:=zg (some (false,qu,qd))) (by simp[results,db,go_sem,zg,qe,zH,c0,c1,c2]) rfl ⟨by rw[za Hlow];rfl,?_⟩;exact((hbX.setCell (by simp) _).setCell (by simp) _).setCell (by simp) _
         case true=>
          go_wp2;refine um (v:=zg (some (false,qu,qd))) (by simp[results,db,go_sem,zg,qe,zH,c0,c1,c2]) rfl ⟨by rw[za Hlow,za Hq0];rfl,?_⟩;exact((hbX.setCell (by simp) _).setCell (by simp) _).setCell (by simp) _
       . rw[uw hq0]at hqz
         have Hq0:=zb hq0;clear hq0;cases neg
         case false=>
          go_wp2;refine um (v:=zg (some (false,qu,qd))) (by simp[results,db,go_sem,zg,qe,zH,c0,c1,c2]) rfl ⟨by rw[za Hlow];rfl,?_⟩;exact((hbX.setCell (by simp) _).setCell (by simp) _).setCell (by simp) _
         case true=>
          go_wp2;refine um (v:=zg (some (true,qu,qd))) (by simp[results,db,go_sem,zg,qe,zH,c0,c1,c2]) rfl ⟨by rw[za Hlow,WL.2 (za Hq0)];rfl,?_⟩;exact((hbX.setCell (by simp) _).setCell (by simp) _).setCell (by simp) _
theorem Yb{P:Program}{src dst e:TypeId}(hs:P.underlying src=some (.slice e))(he:P.underlying e=some (.int .u8))(hd:P.underlying dst=some .string)(W w1:World)(c:UInt8)
  (hb:Below (W.heap.size+1) (W.alloc (.cells #[.int .u8 c.toNat] e)) w1):
  (convert src dst (.slice (some ⟨W.heap.size,0,none⟩) 1 1)).run P w1=.ok (.string (B [c])) w1:=by
 have h0:=wh (base:=0) (e:=e) (size:=1) W #[.int .u8 c.toNat] 1 (uD _) (by decide) (by simp);have h1:=zu h0 (by simpa using hb);have e1:(#[Value.int .u8 c.toNat]:Array Value).toList=[c].map ZM:=by simp[ZM]
 rw[e1]at h1;exact qV hs he hd h1
theorem Xd(n k:Nat)(h:k<(zr n).size):((zr n)[k]'h).toNat=48+n/10^((zr n).size-1-k)%10:=by
 have h1:k<(qj 10 n).length:=by rw[<-zJ];exact h
 have e:=zaz n ((qj 10 n).length-1-k) (by omega);rw[List.getElem_reverse]at e;have e2:(qj 10 n).length-1-((qj 10 n).length-1-k)=k:=by omega
 simp only[e2]at e;have hm:n/10^((qj 10 n).length-1-k)%10<10:=Ua _ (by omega);rw[zJ];have e3:((zr n)[k]'h)=(qj 10 n)[k]'h1:=by simp only[zr,jB,j4]
 rw[e3,e,jw (by omega),uj hm]
def xy:ByteArray:=⟨#[48,49,50,51,52,53,54,55,56,57,97,98,99,100,101,102]⟩
theorem V2(d:Nat)(h:d<16)(h':d<xy.size):(xy[d]'h').toNat=(sg d).toNat:=by
 have:∀d:Fin 16,(xy[d.val]'d.isLt).toNat=(sg d.val).toNat:=by decide
 exact this ⟨d,h⟩
theorem Kg(N b:Nat)(w:World)(hb2:2<=b)(hb16:b<=16)(hs:(zr N).size<=5000)(ht:(qj b N).length<=50000):
  Calls Tryz.prog 94 #[.string (zr N),.int .i64 b] w fun e w'=>e=.returned (.string (jB b N))/\Below w.heap.size w w':=by
 have hbs:=ja (n:=b) (by omega);go_enter Tryz.func94,Tryz.ntmps94;go_wp2
 go_loopw [0,5] (fun n o wr=>∃(m:Nat)(t:List UInt8),n=.string (zr m)/\o=.string (B t)/\m<=N/\t.length<=50000/\Below w.heap.size w wr/\Hid (qj b m++t=qj b N))
  (fun n _ _=>zC (match n with| .string s=>s.data.toList|_=>[]))
 case atStart=>exact⟨N,[],rfl,rfl,ud _,by simp,ue _ _,zb (by simp)⟩
 case round=>
  obtain⟨m,t,rfl,rfl,hmN,htl,hb,htx⟩:=hrel;have hms:=kw hmN;have hmod:m%b<b:=Ua _ (by omega);go_wp2_with fail;refine(yR b (by omega) _).mono ?_;rintro e w1⟨rfl,hb1⟩;go_wp2_with fail;refine(JJ m b _ (by omega) (by omega) (by omega)).mono ?_;rintro e w2⟨rfl,hb2'⟩;have hbA:=zk hb hb.size hb1;have hbB:=zk hbA.1 hbA.2 hb2';clear hbA hb1 hb2';obtain⟨q,hq⟩:∃q,m/b=q:=⟨_,rfl⟩
  obtain⟨r,hr⟩:∃r,m%b=r:=⟨_,rfl⟩
  rw[hr]at hmod;have hrs:=ja (n:=r) (by omega);have Hq:=zb hq;have Hr:=zb hr;rw[hq,hr];clear hq hr;go_wp2_with fail
  go_loopw [8,9] (fun d i wr=>∃k:Nat,k<=(zr r).size/\i=.int .i64 k/\d=.int .i64 (Qv r k:Nat)/\Below w.heap.size w wr) (fun _ i _=>(zr r).size-(intOf i).toNat)
  case atStart=>exact⟨0,uD _,rfl,by rw[ZI];rfl,hbB.1⟩
  case round=>
   obtain⟨k,hk,rfl,rfl,hbC⟩:=hrel;by_cases hlt:k<(zr r).size
   . have hby:=Xd r k hlt
     have hm10:r/10^((zr r).size-1-k)%10<10:=Ua _ (by omega);have hps:=Q6 r k hlt;have hpl:Qv r k<=r:=WR _ _;generalize r/10^((zr r).size-1-k)%10=c at *;generalize Qv r k=p at *;have Hps:=zb hps;clear hps;go_wp2;go_roundw
     case rel=>exact⟨k+1,by omega,by go_num,by rw[za Hps];go_num,hbC⟩
     case measure=>simp[intOf];omega
   . have hkl:k=(zr r).size:=by omega
     subst hkl;have hpa:=Qw r;have hd16:r<16:=by omega
     have hg:=V2 r hd16 hd16;unfold xy at hg;have hconv:=Yb (P:=Tryz.prog) (src:=22) (dst:=9) Ug Ux Uf wr _ (sg r) (ue _ _);have hcat:B [sg r]++B t=B (sg r::t):=by rw[qf];rfl
     have hs1:(B [sg r]).size<=1:=by rw[zj];simp
     have hs2:(B t).size<=50000:=by rw[zj];exact htl
     have hns:¬9223372036854775807<(B [sg r]).size+(B t).size:=by omega
     have hbD:=hbC.alloc (by have:=hbC.size;exact this) (.cells #[.int .u8 (sg r).toNat] 5);have hq0:=xw q;by_cases hz:q=0
     . rw[uy hz]at hq0
       have hmb:m<b:=by
        have:=za Hq;rw[hz]at this;rcases Nat.div_eq_zero_iff.1 this with h|h
        . omega
        . exact h
       have hfin:B (sg r::t)=jB b N:=by
        unfold jB;rw[<-za htx,yr b hb2 m hmb,<-za Hr,Uu hmb];rfl
       have Hfin:=zb hfin;clear hfin hz;go_wp2;go_ret;exact⟨qm (za Hfin),hbD⟩
     . rw[uw hz]at hq0
       have hmb:b<=m:=by
        apply dk;intro h;apply hz;rw[<-za Hq];exact wY h
       have htx2:qj b q++(sg r::t)=qj b N:=by
        rw[<-za htx,QF b hb2 m hmb,za Hq,za Hr];simp
       have Htx2:=zb htx2;have hl2:(sg r::t).length<=50000:=by
        have:=uB List.length htx2;rw[uG]at this;omega
       have hqm:q<m:=by rw[<-za Hq];exact WB (by omega) (by omega)
       clear htx2;go_wp2;go_roundw
       case rel=>exact⟨q,sg r::t,rfl,rfl,by omega,hl2,hbD,Htx2⟩
       case measure=>
        show zC (qj 10 q)<zC (qj 10 m);rw[qw,qw];exact hqm
def kd(neg:Bool)(b:Nat)(x y:List UInt8):Option (Bool×Nat×Nat):=
 if yq b x&&yq b y then zB neg (Zk b x) (Zk b y)else none
theorem yC{b:Nat}{l:List UInt8}(hb16:b<=16)(h:yq b l=true):(zr (Zk b l)).size<=2*l.length+1:=by
 unfold yq at h;simp only[ux]at h;exact xx hb16 (zbj b l (fun c hc=>by simpa using uI.1 h.2 c hc))
theorem zv{w w3:World}{b:Nat}(h:Below b w w3)(g:Nat)(hg:b<=g)(x y z:Value):Below b w (((w3.setCell ⟨g,0,none⟩ x).setCell ⟨g,1,none⟩ y).setCell ⟨g,2,none⟩ z):=
 ((h.setCell hg _).setCell hg _).setCell hg _
theorem Qo(neg:Bool)(l:List UInt8)(k b:Nat)(w:World)(hk:k<l.length)(hs:l.length<=5000)(hb2:2<=b)(hb16:b<=16):
  Calls Tryz.prog 105 #[.bool neg,.string (B l),.int .i64 k,.int .i64 b] w fun e w'=>e=.returned (zg (kd neg b (l.take k) (l.drop (k+1))))/\Below w.heap.size w w':=by
 have hsz:(B l).size<=5000:=by rw[zj];exact hs
 have hkz:k<(B l).size:=by rw[zj];exact hk
 have he1:(B l).extract 0 k=B (l.take k):=by rw[qp];simp
 have he2:(B l).extract (k+1) (B l).size=B (l.drop (k+1)):=by rw[qp,zj,Uh]
 generalize hx:l.take k=x at *;generalize hy:l.drop (k+1)=y at *;have hxl:x.length<=5000:=by rw[<-hx];simp;omega
 have hyl:y.length<=5000:=by rw[<-hy];simp;omega
 clear hx hy;go_enter Tryz.func105,Tryz.ntmps105;go_wp2_with fail;refine(vH x b _ hb2 hb16 (by omega)).mono ?_;rintro e w1⟨rfl,hb1⟩;unfold vw;go_wp2_with fail;refine(vH y b _ hb2 hb16 (by omega)).mono ?_;rintro e w2⟨rfl,hb2'⟩;unfold vw;have hb0:=zn hb1;have hn2:=zk hb0 (by have:=hb1.size;simpa using this) hb2';have hsx:=fun h=>yC (l:=x) hb16 h
 have hsy:=fun h=>yC (l:=y) hb16 h
 have hvx:yq b x=true->qZ b x=Zk b x:=fun h=>by unfold qZ;rw[uj h]
 have hvy:yq b y=true->qZ b y=Zk b y:=fun h=>by unfold qZ;rw[uj h]
 have Hov:Hid (kd neg b x y=if yq b x&&yq b y then zB neg (Zk b x) (Zk b y)else none):=zb rfl;generalize qZ b x=vx at *;generalize qZ b y=vy at *;generalize yq b x=ox at *;generalize yq b y=oy at *;cases ox
 .
  have c0:=ze hn2.1 0;have c1:=ze hn2.1 1;have c2:=ze hn2.1 2;have f0:=zh hn2.1 0;have f1:=zh hn2.1 1;have f2:=zh hn2.1 2;have hbX:=zm hn2.1;simp at c0 c1 c2;clear hb1 hb2' hb0 hn2 hsx hsy he1 he2 hvx hvy;go_wp2;refine um (v:=zg none) (by simp[results,Tryz.results105,go_sem,zg,qe,qF,zH,c0,c1,c2]) rfl ⟨by rw[za Hov];rfl,?_⟩;exact zv hbX _ (ud _) _ _ _
 . cases oy
   .
    have c0:=ze hn2.1 0;have c1:=ze hn2.1 1;have c2:=ze hn2.1 2;have f0:=zh hn2.1 0;have f1:=zh hn2.1 1;have f2:=zh hn2.1 2;have hbX:=zm hn2.1;simp at c0 c1 c2;clear hb1 hb2' hb0 hn2 hsx hsy he1 he2 hvx hvy;go_wp2;refine um (v:=zg none) (by simp[results,Tryz.results105,go_sem,zg,qe,qF,zH,c0,c1,c2]) rfl ⟨by rw[za Hov];rfl,?_⟩;exact zv hbX _ (ud _) _ _ _
   . have h1:=hsx rfl
     have h2:=hsy rfl;rw[<-hvx rfl]at h1;rw[<-hvy rfl]at h2;have Hov2:Hid (kd neg b x y=zB neg vx vy):=by rw[hvx rfl,hvy rfl];exact Hov
     clear hsx hsy he1 he2 hvx hvy Hov;go_wp2_with fail;refine(jt neg vx vy _ (by omega) (by omega)).mono ?_;rintro e w3⟨rfl,hb3⟩;have hn3:=zk hn2.1 hn2.2 hb3;have c0:=ze hn3.1 0;have c1:=ze hn3.1 1;have c2:=ze hn3.1 2;have f0:=zh hn3.1 0;have f1:=zh hn3.1 1;have f2:=zh hn3.1 2;have hbX:=zm hn3.1;simp at c0 c1 c2;clear hb1 hb2' hb0 hn2 hb3 hn3;generalize zB neg vx vy=o at *;unfold zg;obtain⟨n3,u3,d3,ho⟩:∃n3 u3 d3,qe o=zH n3 u3 d3:=by
      cases o with
      |none=>exact⟨_,_,_,rfl⟩
      |some p=>exact⟨_,_,_,rfl⟩
     have Ho:=zb ho;rw[ho];unfold zH;clear ho;go_wp2;refine um (v:=zg o) (by simp[results,Tryz.results105,go_sem,zg,za Ho,zH,c0,c1,c2]) rfl ⟨by rw[za Hov2],?_⟩;exact zv hbX _ (ud _) _ _ _
def vO(neg:Bool)(x y:List UInt8):Option (Bool×Nat×Nat):=
 if yq 10 (x++y)then zB neg (Zk 10 (x++y)) (10^y.length)else none
theorem Zw:zr 1=⟨#[49]⟩:=by unfold zr jB;rw[yr 10 (by omega) 1 (by omega)];rfl
theorem zd7(j:Nat):zr (10^j)++⟨#[48]⟩=zr (10^(j+1)):=by
 have h1:0<10^j:=Nat.pow_pos (by omega);have h:10<=10^(j+1):=by rw[uZ];omega
 have e:=QF 10 (by omega) (10^(j+1)) h;rw[show 10^(j+1)/10=10^j from by rw[uZ];omega,show 10^(j+1)%10=0 from by rw[uZ];omega]at e;unfold zr jB;rw[e,show(⟨#[48]⟩:ByteArray)=B [sg 0]from rfl,qf]
theorem V1(j:Nat):(zr (10^j)).size<=j+1:=by
 rw[zJ];exact qW (by omega) (by omega) (Nat.pow_lt_pow_right (by omega) (by omega))
theorem ZC(neg:Bool)(l:List UInt8)(k:Nat)(w:World)(hk:k<l.length)(hs:l.length<=5000):
  Calls Tryz.prog 106 #[.bool neg,.string (B l),.int .i64 k] w fun e w'=>e=.returned (zg (vO neg (l.take k) (l.drop (k+1))))/\Below w.heap.size w w':=by
 have hsz:(B l).size<=5000:=by rw[zj];exact hs
 have hszI:((B l).size:Int)=l.length:=by rw[zj]
 have hkz:k<(B l).size:=by rw[zj];exact hk
 have he1:(B l).extract 0 k=B (l.take k):=by rw[qp];simp
 have he2:(B l).extract (k+1) (B l).size=B (l.drop (k+1)):=by rw[qp,zj,Uh]
 have hyl:(l.drop (k+1)).length=l.length-(k+1):=by simp
 have hxl:(l.take k).length=k:=by simp;omega
 generalize hx:l.take k=x at *;generalize hy:l.drop (k+1)=y at *;have hcat:B x++B y=B (x++y):=qf x y;have hxs:(B x).size=x.length:=zj x;have hys:(B y).size=y.length:=zj y;have hns:¬9223372036854775807<(B x).size+(B y).size:=by omega
 have hns2:¬(9223372036854775807<((B x).size:Int)+((B y).size:Int)):=by omega
 have hxyl:(x++y).length<=10000:=by rw[uG];omega
 have e1:=qX ((k:Int)+1) (by omega) (by omega);have e2:((k:Int)+1).toNat=k+1:=by omega
 clear hx hy;have Hyl:=zb hyl;clear hyl hxl hxs hys;go_enter Tryz.func106,Tryz.ntmps106;go_wp2
 go_region_with (go_at_call 107;refine(vH (x++y) 10 _ (by omega) (by omega) hxyl).mono ?_;rintro e w1⟨rfl,hb1⟩;unfold vw)
 all_goals
  have hb0:Below (w.heap.size+1) (w.alloc (.cells #[.bool false,.string ⟨#[]⟩,.string ⟨#[]⟩] 79)) w1:=by
   have:=jx hb1;simpa using this
  have hzz:w.heap.size+1<=w1.heap.size:=by have:=hb1.size;simpa using this
  have hsx:=fun h=>yC (b:=10) (l:=x++y) (by omega) h
  have hvx:yq 10 (x++y)=true->qZ 10 (x++y)=Zk 10 (x++y):=fun h=>by unfold qZ;rw[uj h]
  have Hov:Hid (vO neg x y=if yq 10 (x++y)then zB neg (Zk 10 (x++y)) (10^y.length)else none):=zb rfl;generalize qZ 10 (x++y)=vx at *;generalize yq 10 (x++y)=ox at *;clear hb1 he1 he2 hcat hns hns2 e1;cases ox
  case' false=>
   have c0:=ze hb0 0;have c1:=ze hb0 1;have c2:=ze hb0 2;have f0:=zh hb0 0;have f1:=zh hb0 1;have f2:=zh hb0 2;have hbX:=zm hb0;simp at c0 c1 c2;clear hb0 hsx hvx;go_wp2;refine um (v:=zg none) (by simp[results,Tryz.results106,go_sem,zg,qe,qF,zH,c0,c1,c2]) rfl ⟨by rw[za Hov];rfl,?_⟩;exact zv hbX _ (ud _) _ _ _
  case' true=>
   have h1:=hsx rfl;rw[<-hvx rfl]at h1;have Hov2:Hid (vO neg x y=zB neg vx (10^y.length)):=by rw[hvx rfl];exact Hov
   clear hsx hvx Hov;go_wp2
   go_loopw [10,11] (fun dn i wr=>∃j:Nat,k+1+j<=l.length/\dn=.string (zr (10^j))/\i=.int .i64 ((k+1+j:Nat):Int)/\wr=w1) (fun _ i _=>l.length-(intOf i).toNat)
   case atStart=>exact⟨0,by omega,by rw[Nat.pow_zero,Zw],by go_num,rfl⟩
   case round=>
    obtain⟨j,hj,rfl,rfl,rfl⟩:=hrel;have hds:=V1 j;by_cases hlt:k+1+j<l.length
    . have htn:=zd7 j
      have hns:¬9223372036854775807<(zr (10^j)).size+1:=by omega
      go_wp2;go_roundw
      case rel=>exact⟨j+1,by omega,rfl,by go_num,trivial⟩
      case measure=>simp[intOf];omega
    . have hjy:j=y.length:=by have:=za Hyl;omega
      go_wp2_with fail;have hds2:(zr (10^y.length)).size<=50000:=by rw[<-hjy];omega
      clear hjy;refine(jt neg vx (10^y.length) _ (by omega) hds2).mono ?_;rintro e w3⟨rfl,hb3⟩;have hn3:=zk hb0 hzz hb3;have c0:=ze hn3.1 0;have c1:=ze hn3.1 1;have c2:=ze hn3.1 2;have f0:=zh hn3.1 0;have f1:=zh hn3.1 1;have f2:=zh hn3.1 2;have hbX:=zm hn3.1;simp at c0 c1 c2;clear hb0 hb3 hn3;generalize zB neg vx (10^y.length)=o at *;unfold zg;obtain⟨n3,u3,d3,ho⟩:∃n3 u3 d3,qe o=zH n3 u3 d3:=by
       cases o with
       |none=>exact⟨_,_,_,rfl⟩
       |some p=>exact⟨_,_,_,rfl⟩
      have Ho:=zb ho;rw[ho];unfold zH;clear ho;go_wp2;refine um (v:=zg o) (by simp[results,Tryz.results106,go_sem,zg,za Ho,zH,c0,c1,c2]) rfl ⟨by rw[za Hov2],?_⟩;exact zv hbX _ (ud _) _ _ _
def vN(neg:Bool)(b:Nat)(l:List UInt8):Option (Bool×Nat×Nat):=if yq b l then zB neg (Zk b l) 1 else none
def qT(neg:Bool)(b:Nat)(l:List UInt8):Option (Bool×Nat×Nat):=
 match zZ 47 l with
 |some k=>kd neg b (l.take k) (l.drop (k+1))
 |none=>match zZ 46 l with
  |some k=>if b=10 then vO neg (l.take k) (l.drop (k+1))else vN neg b l
  |none=>vN neg b l
def YM(b:Nat):List UInt8->Option (Bool×Nat×Nat)
 | []=>qT false b []
 |c::t=>if c=45 then qT true b t else if c=43 then qT false b t else qT false b (c::t)
def zw(l:List UInt8)(r:Int):Option (Bool×Nat×Nat):=if zQ r&&decide (l.length<=240)then YM r.toNat l else none
theorem vf{c:UInt8}:∀ {l:List UInt8}{k:Nat},zZ c l=some k->k<l.length:=by
 intro l
 induction l with
 |nil=>intro k h;simp[zZ]at h
 |cons d r ih=>
  intro k h;simp only[zZ]at h
  split at h
  . simp at h;subst h;simp
  . cases hr:zZ c r with
    |none=>rw[hr]at h;simp at h
    |some j=>rw[hr]at h;simp at h;subst h;have:=ih hr;simp;omega
theorem vA(l:List UInt8)(c:UInt8)(n:Int)(hn:(c.toNat:Int)=n)(w:World)(hs:l.length<=1000000000):
  Calls Tryz.prog 104 #[.string (B l),.int .u8 n] w fun e w'=>e=.returned (.int .i64 (zW c l))/\w'=w:=by
 subst hn;exact zeu l c w hs
theorem yx{r:Int}(h:zQ r=true):∃b:Nat,r=b/\(b=2\/b=8\/b=10\/b=16):=by
 unfold zQ at h;simp only[Ur,Um]at h;exact⟨r.toNat,by omega,by omega⟩
theorem YG(l:List UInt8)(r:Int)(h:zQ r=false\/240<l.length):zw l r=none:=by
 unfold zw;rcases h with h|h
 . simp[h]
 . rw[uw (by omega)];simp
theorem JE(l:List UInt8)(r:Int)(w:World)(hs:l.length<=1000000000)(h:zQ r=false\/240<l.length):
  Calls Tryz.prog 64 #[.string (B l),.int .i64 r] w fun e w'=>e=.returned (zg (zw l r))/\Below w.heap.size w w':=by
 rw[YG l r h];have hsz:(B l).size<=1000000000:=by rw[zj];exact hs
 by_cases hr:zQ r=false
 . clear h
   go_enter Tryz.func64,Tryz.ntmps64;go_wp2_with fail;refine(vB r _).mono ?_;rintro e w1⟨rfl,rfl⟩;rw[hr];go_wp2;refine um (v:=zg none) (by simp[results,Ub,go_sem,zg,qe,qF,zH]) rfl ⟨rfl,?_⟩;exact(ue _ _).alloc (ud _) _
 . have hr':zQ r=true:=by simpa using hr
   have hl:240<(B l).size:=by rw[zj];rcases h with h|h;exact absurd h hr;exact h
   clear h hr;go_enter Tryz.func64,Tryz.ntmps64;go_wp2_with fail;refine(vB r _).mono ?_;rintro e w1⟨rfl,rfl⟩;rw[hr'];go_wp2;refine um (v:=zg none) (by simp[results,Ub,go_sem,zg,qe,qF,zH]) rfl ⟨rfl,?_⟩;exact(ue _ _).alloc (ud _) _
theorem vZ(l:List UInt8)(b:Nat)(hb4:b=2\/b=8\/b=10\/b=16)(hl:l.length<=240):zw l (b:Int)=YM b l:=by
 have hr:zQ (b:Int)=true:=by rcases hb4 with rfl|rfl|rfl|rfl<;>rfl
 unfold zw;rw[hr,uy hl];simp
theorem QD(b:Nat)(w:World)(hb4:b=2\/b=8\/b=10\/b=16):
  Calls Tryz.prog 64 #[.string (B []),.int .i64 b] w fun e w'=>e=.returned (zg (zw [] b))/\Below w.heap.size w w':=by
 obtain⟨l,hl⟩:∃l:List UInt8,l=[]:=⟨_,rfl⟩
 rw[<-hl];have hr:zQ (b:Int)=true:=by rcases hb4 with rfl|rfl|rfl|rfl<;>rfl
 have hl2:l.length<=240:=by rw[hl];simp
 have Hm:Hid (zw l (b:Int)=qT false b l):=by show _=_;rw[vZ l b hb4 hl2,hl];rfl
 have hz:(B l).size<=0:=by rw[zj,hl];simp
 clear hl;go_enter Tryz.func64,Tryz.ntmps64;go_wp2_with fail;refine(vB b _).mono ?_;rintro e w1⟨rfl,rfl⟩;rw[hr];go_wp2_with fail;refine(vA l 47 47 rfl _ (by omega)).mono ?_;rintro e w1⟨rfl,rfl⟩;cases hf:zZ 47 l with
 |some k=>
  have hfi:zW 47 l=(k:Int):=by unfold zW;rw[hf]
  have hk:=vf hf;have Hov2:Hid (zw l (b:Int)=kd false b ((l).take k) ((l).drop (k+1))):=by
   show _=_;rw[za Hm];unfold qT;rw[hf]
  rw[hfi];clear hfi hf;go_wp2_with fail;refine(Qo false l k b _ hk (by omega) (by omega) (by omega)).mono ?_;rintro e w2⟨rfl,hb2⟩;have hb0:=zn hb2;have c0:=ze hb0 0;have c1:=ze hb0 1;have c2:=ze hb0 2;have f0:=zh hb0 0;have f1:=zh hb0 1;have f2:=zh hb0 2;have hbX:=zm hb0;simp at c0 c1 c2;clear hb2 hb0;generalize kd false b ((l).take k) ((l).drop (k+1))=o at *;unfold zg;obtain⟨n3,u3,d3,ho⟩:∃n3 u3 d3,qe o=zH n3 u3 d3:=by
   cases o with
   |none=>exact⟨_,_,_,rfl⟩
   |some p=>exact⟨_,_,_,rfl⟩
  have Ho:=zb ho;rw[ho];unfold zH;clear ho;go_wp2;refine um (v:=zg o) (by simp[results,Ub,go_sem,zg,za Ho,zH,c0,c1,c2]) rfl ⟨by rw[za Hov2],?_⟩;exact zv hbX _ (ud _) _ _ _
 |none=>
  have hfi:zW 47 l= -1:=by unfold zW;rw[hf]
  rw[hfi];clear hfi;go_wp2_with fail;refine(vA l 46 46 rfl _ (by omega)).mono ?_;rintro e w2⟨rfl,rfl⟩;have Hf:=zb hf;clear hf;by_cases hpt:b=10/\∃k,zZ 46 l=some k
  . obtain⟨hb10,k,hfk⟩:=hpt
    have hfi:zW 46 l=(k:Int):=by unfold zW;rw[hfk]
    have hk:=vf hfk;have Hov2:Hid (zw l (b:Int)=vO false ((l).take k) ((l).drop (k+1))):=by
     show _=_;rw[za Hm];unfold qT;rw[za Hf];simp only[hfk];rw[uj hb10]
    rw[hfi];have hbq:((b:Int)==10)=true:=by rw[Um];omega
    clear hfi hfk hb10;go_wp2_with fail;refine(ZC false l k _ hk (by omega)).mono ?_;rintro e w3⟨rfl,hb3⟩;have hb0:=zn hb3;have c0:=ze hb0 0;have c1:=ze hb0 1;have c2:=ze hb0 2;have f0:=zh hb0 0;have f1:=zh hb0 1;have f2:=zh hb0 2;have hbX:=zm hb0;simp at c0 c1 c2;clear hb3 hb0;generalize vO false ((l).take k) ((l).drop (k+1))=o at *;unfold zg;obtain⟨n3,u3,d3,ho⟩:∃n3 u3 d3,qe o=zH n3 u3 d3:=by
     cases o with
     |none=>exact⟨_,_,_,rfl⟩
     |some p=>exact⟨_,_,_,rfl⟩
    have Ho:=zb ho;rw[ho];unfold zH;clear ho;go_wp2;refine um (v:=zg o) (by simp[results,Ub,go_sem,zg,za Ho,zH,c0,c1,c2]) rfl ⟨by rw[za Hov2],?_⟩;exact zv hbX _ (ud _) _ _ _
  . have Hpl:Hid (zw l (b:Int)=vN false b l):=by
     show _=_;rw[za Hm];unfold qT;rw[za Hf];cases hfk:zZ 46 l with
     |none=>rfl
     |some k=>
      simp only;rw[ul (fun h=>hpt ⟨h,k,hfk⟩)]
    have hsn:=fun h=>yC (b:=b) (l:=l) (by omega) h
    have hvn:yq b l=true->qZ b l=Zk b l:=fun h=>by unfold qZ;rw[uj h]
    have Hpo:Hid (vN false b l=if yq b l then zB false (Zk b l) 1 else none):=zb rfl;have d1:zr 1=⟨#[49]⟩:=Zw;by_cases hfz:0<=zW 46 l
    . have hbq:((b:Int)==10)=false:=by
       rw[ug];intro hh;apply hpt;refine⟨by omega,?_⟩;unfold zW at hfz;cases hfk:zZ 46 l with
       |none=>rw[hfk]at hfz;simp at hfz
       |some k=>exact⟨k,rfl⟩
      clear hpt;go_wp2_with fail;refine(vH l b _ (by omega) (by omega) (by omega)).mono ?_;rintro e w3⟨rfl,hb3⟩;unfold vw;have hb0:=zn hb3;have hzz:w.heap.size+1<=w3.heap.size:=by have:=hb3.size;simpa using this
      generalize qZ b l=vx at *;generalize yq b l=ox at *;cases ox with
      |false=>
       have c0:=ze hb0 0;have c1:=ze hb0 1;have c2:=ze hb0 2;have f0:=zh hb0 0;have f1:=zh hb0 1;have f2:=zh hb0 2;have hbX:=zm hb0;simp at c0 c1 c2;clear hb3 hb0 hsn hvn d1;go_wp2;refine um (v:=zg none) (by simp[results,Ub,go_sem,zg,qe,qF,zH,c0,c1,c2]) rfl ⟨by rw[za Hpl,za Hpo];rfl,?_⟩;exact zv hbX _ (ud _) _ _ _
      |true=>
       have h1:=hsn rfl;rw[<-hvn rfl]at h1;have Hov2:Hid (zw l (b:Int)=zB false vx 1):=by rw[hvn rfl];exact(za Hpl).trans (za Hpo)
       have d1s:=ja (n:=1) (by omega);clear hsn hvn;go_wp2_with fail;rw[<-d1];clear d1;refine(jt false vx 1 _ (by omega) (by omega)).mono ?_;rintro e w4⟨rfl,hb4'⟩;have hn4:=zk hb0 hzz hb4';have c0:=ze hn4.1 0;have c1:=ze hn4.1 1;have c2:=ze hn4.1 2;have f0:=zh hn4.1 0;have f1:=zh hn4.1 1;have f2:=zh hn4.1 2;have hbX:=zm hn4.1;simp at c0 c1 c2;clear hb3 hb0 hb4' hn4;generalize zB false vx 1=o at *;unfold zg;obtain⟨n3,u3,d3,ho⟩:∃n3 u3 d3,qe o=zH n3 u3 d3:=by
        cases o with
        |none=>exact⟨_,_,_,rfl⟩
        |some p=>exact⟨_,_,_,rfl⟩
       have Ho:=zb ho;rw[ho];unfold zH;clear ho;go_wp2;refine um (v:=zg o) (by simp[results,Ub,go_sem,zg,za Ho,zH,c0,c1,c2]) rfl ⟨by rw[za Hov2],?_⟩;exact zv hbX _ (ud _) _ _ _
    . clear hpt
      go_wp2_with fail;refine(vH l b _ (by omega) (by omega) (by omega)).mono ?_;rintro e w3⟨rfl,hb3⟩;unfold vw;have hb0:=zn hb3;have hzz:w.heap.size+1<=w3.heap.size:=by have:=hb3.size;simpa using this
      generalize qZ b l=vx at *;generalize yq b l=ox at *;cases ox with
      |false=>
       have c0:=ze hb0 0;have c1:=ze hb0 1;have c2:=ze hb0 2;have f0:=zh hb0 0;have f1:=zh hb0 1;have f2:=zh hb0 2;have hbX:=zm hb0;simp at c0 c1 c2;clear hb3 hb0 hsn hvn d1;go_wp2;refine um (v:=zg none) (by simp[results,Ub,go_sem,zg,qe,qF,zH,c0,c1,c2]) rfl ⟨by rw[za Hpl,za Hpo];rfl,?_⟩;exact zv hbX _ (ud _) _ _ _
      |true=>
       have h1:=hsn rfl;rw[<-hvn rfl]at h1;have Hov2:Hid (zw l (b:Int)=zB false vx 1):=by rw[hvn rfl];exact(za Hpl).trans (za Hpo)
       have d1s:=ja (n:=1) (by omega);clear hsn hvn;go_wp2_with fail;rw[<-d1];clear d1;refine(jt false vx 1 _ (by omega) (by omega)).mono ?_;rintro e w4⟨rfl,hb4'⟩;have hn4:=zk hb0 hzz hb4';have c0:=ze hn4.1 0;have c1:=ze hn4.1 1;have c2:=ze hn4.1 2;have f0:=zh hn4.1 0;have f1:=zh hn4.1 1;have f2:=zh hn4.1 2;have hbX:=zm hn4.1;simp at c0 c1 c2;clear hb3 hb0 hb4' hn4;generalize zB false vx 1=o at *;unfold zg;obtain⟨n3,u3,d3,ho⟩:∃n3 u3 d3,qe o=zH n3 u3 d3:=by
        cases o with
        |none=>exact⟨_,_,_,rfl⟩
        |some p=>exact⟨_,_,_,rfl⟩
       have Ho:=zb ho;rw[ho];unfold zH;clear ho;go_wp2;refine um (v:=zg o) (by simp[results,Ub,go_sem,zg,za Ho,zH,c0,c1,c2]) rfl ⟨by rw[za Hov2],?_⟩;exact zv hbX _ (ud _) _ _ _
theorem Qb(t:List UInt8)(b:Nat)(w:World)(hb4:b=2\/b=8\/b=10\/b=16)(c:UInt8)(hc:c=45)(hlen:(c::t).length<=240):
  Calls Tryz.prog 64 #[.string (B (c::t)),.int .i64 b] w fun e w'=>e=.returned (zg (zw (c::t) b))/\Below w.heap.size w w':=by
 obtain⟨l,hl⟩:∃l:List UInt8,l=c::t:=⟨_,rfl⟩
 rw[<-hl];have hr:zQ (b:Int)=true:=by rcases hb4 with rfl|rfl|rfl|rfl<;>rfl
 have hl2:l.length<=240:=by rw[hl];exact hlen
 have htl:t.length<=240:=by simp at hlen;omega
 have hpos:0<(B l).size:=by rw[zj,hl];simp
 have hposI:(0:Int)<((B l).size:Int):=by omega
 have hsz:(B l).size<=240:=by rw[zj];exact hl2
 have hc0:((B l)[0]'hpos).toNat=c.toNat:=by rw[j4];simp[hl]
 have hcut:(B l).extract 1 (B l).size=B t:=by rw[qp,zj,Uh,hl];rfl
 have Hm:Hid (zw l (b:Int)=qT true b t):=by show _=_;rw[vZ l b hb4 hl2,hl];simp[YM,hc]
 have hq:(((B l)[0]'hpos).toNat:Int)==45:=by rw[hc0,hc];rfl
 clear hl hc hc0 hlen;go_enter Tryz.func64,Tryz.ntmps64;go_wp2_with fail;refine(vB b _).mono ?_;rintro e w1⟨rfl,rfl⟩;rw[hr];go_wp2_with fail;refine(vA t 47 47 rfl _ (by omega)).mono ?_;rintro e w1⟨rfl,rfl⟩;cases hf:zZ 47 t with
 |some k=>
  have hfi:zW 47 t=(k:Int):=by unfold zW;rw[hf]
  have hk:=vf hf;have Hov2:Hid (zw l (b:Int)=kd true b ((t).take k) ((t).drop (k+1))):=by
   show _=_;rw[za Hm];unfold qT;rw[hf]
  rw[hfi];clear hfi hf;go_wp2_with fail;refine(Qo true t k b _ hk (by omega) (by omega) (by omega)).mono ?_;rintro e w2⟨rfl,hb2⟩;have hb0:=zn hb2;have c0:=ze hb0 0;have c1:=ze hb0 1;have c2:=ze hb0 2;have f0:=zh hb0 0;have f1:=zh hb0 1;have f2:=zh hb0 2;have hbX:=zm hb0;simp at c0 c1 c2;clear hb2 hb0;generalize kd true b ((t).take k) ((t).drop (k+1))=o at *;unfold zg;obtain⟨n3,u3,d3,ho⟩:∃n3 u3 d3,qe o=zH n3 u3 d3:=by
   cases o with
   |none=>exact⟨_,_,_,rfl⟩
   |some p=>exact⟨_,_,_,rfl⟩
  have Ho:=zb ho;rw[ho];unfold zH;clear ho;go_wp2;refine um (v:=zg o) (by simp[results,Ub,go_sem,zg,za Ho,zH,c0,c1,c2]) rfl ⟨by rw[za Hov2],?_⟩;exact zv hbX _ (ud _) _ _ _
 |none=>
  have hfi:zW 47 t= -1:=by unfold zW;rw[hf]
  rw[hfi];clear hfi;go_wp2_with fail;refine(vA t 46 46 rfl _ (by omega)).mono ?_;rintro e w2⟨rfl,rfl⟩;have Hf:=zb hf;clear hf;by_cases hpt:b=10/\∃k,zZ 46 t=some k
  . obtain⟨hb10,k,hfk⟩:=hpt
    have hfi:zW 46 t=(k:Int):=by unfold zW;rw[hfk]
    have hk:=vf hfk;have Hov2:Hid (zw l (b:Int)=vO true ((t).take k) ((t).drop (k+1))):=by
     show _=_;rw[za Hm];unfold qT;rw[za Hf];simp only[hfk];rw[uj hb10]
    rw[hfi];have hbq:((b:Int)==10)=true:=by rw[Um];omega
    clear hfi hfk hb10;go_wp2_with fail;refine(ZC true t k _ hk (by omega)).mono ?_;rintro e w3⟨rfl,hb3⟩;have hb0:=zn hb3;have c0:=ze hb0 0;have c1:=ze hb0 1;have c2:=ze hb0 2;have f0:=zh hb0 0;have f1:=zh hb0 1;have f2:=zh hb0 2;have hbX:=zm hb0;simp at c0 c1 c2;clear hb3 hb0;generalize vO true ((t).take k) ((t).drop (k+1))=o at *;unfold zg;obtain⟨n3,u3,d3,ho⟩:∃n3 u3 d3,qe o=zH n3 u3 d3:=by
     cases o with
     |none=>exact⟨_,_,_,rfl⟩
     |some p=>exact⟨_,_,_,rfl⟩
    have Ho:=zb ho;rw[ho];unfold zH;clear ho;go_wp2;refine um (v:=zg o) (by simp[results,Ub,go_sem,zg,za Ho,zH,c0,c1,c2]) rfl ⟨by rw[za Hov2],?_⟩;exact zv hbX _ (ud _) _ _ _
  . have Hpl:Hid (zw l (b:Int)=vN true b t):=by
     show _=_;rw[za Hm];unfold qT;rw[za Hf];cases hfk:zZ 46 t with
     |none=>rfl
     |some k=>
      simp only;rw[ul (fun h=>hpt ⟨h,k,hfk⟩)]
    have hsn:=fun h=>yC (b:=b) (l:=t) (by omega) h
    have hvn:yq b t=true->qZ b t=Zk b t:=fun h=>by unfold qZ;rw[uj h]
    have Hpo:Hid (vN true b t=if yq b t then zB true (Zk b t) 1 else none):=zb rfl;have d1:zr 1=⟨#[49]⟩:=Zw;by_cases hfz:0<=zW 46 t
    . have hbq:((b:Int)==10)=false:=by
       rw[ug];intro hh;apply hpt;refine⟨by omega,?_⟩;unfold zW at hfz;cases hfk:zZ 46 t with
       |none=>rw[hfk]at hfz;simp at hfz
       |some k=>exact⟨k,rfl⟩
      clear hpt;go_wp2_with fail;refine(vH t b _ (by omega) (by omega) (by omega)).mono ?_;rintro e w3⟨rfl,hb3⟩;unfold vw;have hb0:=zn hb3;have hzz:w.heap.size+1<=w3.heap.size:=by have:=hb3.size;simpa using this
      generalize qZ b t=vx at *;generalize yq b t=ox at *;cases ox with
      |false=>
       have c0:=ze hb0 0;have c1:=ze hb0 1;have c2:=ze hb0 2;have f0:=zh hb0 0;have f1:=zh hb0 1;have f2:=zh hb0 2;have hbX:=zm hb0;simp at c0 c1 c2;clear hb3 hb0 hsn hvn d1;go_wp2;refine um (v:=zg none) (by simp[results,Ub,go_sem,zg,qe,qF,zH,c0,c1,c2]) rfl ⟨by rw[za Hpl,za Hpo];rfl,?_⟩;exact zv hbX _ (ud _) _ _ _
      |true=>
       have h1:=hsn rfl;rw[<-hvn rfl]at h1;have Hov2:Hid (zw l (b:Int)=zB true vx 1):=by rw[hvn rfl];exact(za Hpl).trans (za Hpo)
       have d1s:=ja (n:=1) (by omega);clear hsn hvn;go_wp2_with fail;rw[<-d1];clear d1;refine(jt true vx 1 _ (by omega) (by omega)).mono ?_;rintro e w4⟨rfl,hb4'⟩;have hn4:=zk hb0 hzz hb4';have c0:=ze hn4.1 0;have c1:=ze hn4.1 1;have c2:=ze hn4.1 2;have f0:=zh hn4.1 0;have f1:=zh hn4.1 1;have f2:=zh hn4.1 2;have hbX:=zm hn4.1;simp at c0 c1 c2;clear hb3 hb0 hb4' hn4;generalize zB true vx 1=o at *;unfold zg;obtain⟨n3,u3,d3,ho⟩:∃n3 u3 d3,qe o=zH n3 u3 d3:=by
        cases o with
        |none=>exact⟨_,_,_,rfl⟩
        |some p=>exact⟨_,_,_,rfl⟩
       have Ho:=zb ho;rw[ho];unfold zH;clear ho;go_wp2;refine um (v:=zg o) (by simp[results,Ub,go_sem,zg,za Ho,zH,c0,c1,c2]) rfl ⟨by rw[za Hov2],?_⟩;exact zv hbX _ (ud _) _ _ _
    . clear hpt
      go_wp2_with fail;refine(vH t b _ (by omega) (by omega) (by omega)).mono ?_;rintro e w3⟨rfl,hb3⟩;unfold vw;have hb0:=zn hb3;have hzz:w.heap.size+1<=w3.heap.size:=by have:=hb3.size;simpa using this
      generalize qZ b t=vx at *;generalize yq b t=ox at *;cases ox with
      |false=>
       have c0:=ze hb0 0;have c1:=ze hb0 1;have c2:=ze hb0 2;have f0:=zh hb0 0;have f1:=zh hb0 1;have f2:=zh hb0 2;have hbX:=zm hb0;simp at c0 c1 c2;clear hb3 hb0 hsn hvn d1;go_wp2;refine um (v:=zg none) (by simp[results,Ub,go_sem,zg,qe,qF,zH,c0,c1,c2]) rfl ⟨by rw[za Hpl,za Hpo];rfl,?_⟩;exact zv hbX _ (ud _) _ _ _
      |true=>
       have h1:=hsn rfl;rw[<-hvn rfl]at h1;have Hov2:Hid (zw l (b:Int)=zB true vx 1):=by rw[hvn rfl];exact(za Hpl).trans (za Hpo)
       have d1s:=ja (n:=1) (by omega);clear hsn hvn;go_wp2_with fail;rw[<-d1];clear d1;refine(jt true vx 1 _ (by omega) (by omega)).mono ?_;rintro e w4⟨rfl,hb4'⟩;have hn4:=zk hb0 hzz hb4';have c0:=ze hn4.1 0;have c1:=ze hn4.1 1;have c2:=ze hn4.1 2;have f0:=zh hn4.1 0;have f1:=zh hn4.1 1;have f2:=zh hn4.1 2;have hbX:=zm hn4.1;simp at c0 c1 c2;clear hb3 hb0 hb4' hn4;generalize zB true vx 1=o at *;unfold zg;obtain⟨n3,u3,d3,ho⟩:∃n3 u3 d3,qe o=zH n3 u3 d3:=by
        cases o with
        |none=>exact⟨_,_,_,rfl⟩
        |some p=>exact⟨_,_,_,rfl⟩
       have Ho:=zb ho;rw[ho];unfold zH;clear ho;go_wp2;refine um (v:=zg o) (by simp[results,Ub,go_sem,zg,za Ho,zH,c0,c1,c2]) rfl ⟨by rw[za Hov2],?_⟩;exact zv hbX _ (ud _) _ _ _
theorem QE(t:List UInt8)(b:Nat)(w:World)(hb4:b=2\/b=8\/b=10\/b=16)(c:UInt8)(hc:c=43)(hlen:(c::t).length<=240):
  Calls Tryz.prog 64 #[.string (B (c::t)),.int .i64 b] w fun e w'=>e=.returned (zg (zw (c::t) b))/\Below w.heap.size w w':=by
 obtain⟨l,hl⟩:∃l:List UInt8,l=c::t:=⟨_,rfl⟩
 rw[<-hl];have hr:zQ (b:Int)=true:=by rcases hb4 with rfl|rfl|rfl|rfl<;>rfl
 have hl2:l.length<=240:=by rw[hl];exact hlen
 have htl:t.length<=240:=by simp at hlen;omega
 have hpos:0<(B l).size:=by rw[zj,hl];simp
 have hposI:(0:Int)<((B l).size:Int):=by omega
 have hsz:(B l).size<=240:=by rw[zj];exact hl2
 have hc0:((B l)[0]'hpos).toNat=c.toNat:=by rw[j4];simp[hl]
 have hcut:(B l).extract 1 (B l).size=B t:=by rw[qp,zj,Uh,hl];rfl
 have Hm:Hid (zw l (b:Int)=qT false b t):=by show _=_;rw[vZ l b hb4 hl2,hl];simp[YM,hc]
 have hq:((((B l)[0]'hpos).toNat:Int)==45)=false:=by rw[hc0,hc];rfl
 have hq2:((((B l)[0]'hpos).toNat:Int)==43)=true:=by rw[hc0,hc];rfl
 clear hl hc hc0 hlen;go_enter Tryz.func64,Tryz.ntmps64;go_wp2_with fail;refine(vB b _).mono ?_;rintro e w1⟨rfl,rfl⟩;rw[hr];go_wp2_with fail;refine(vA t 47 47 rfl _ (by omega)).mono ?_;rintro e w1⟨rfl,rfl⟩;cases hf:zZ 47 t with
 |some k=>
  have hfi:zW 47 t=(k:Int):=by unfold zW;rw[hf]
  have hk:=vf hf;have Hov2:Hid (zw l (b:Int)=kd false b ((t).take k) ((t).drop (k+1))):=by
   show _=_;rw[za Hm];unfold qT;rw[hf]
  rw[hfi];clear hfi hf;go_wp2_with fail;refine(Qo false t k b _ hk (by omega) (by omega) (by omega)).mono ?_;rintro e w2⟨rfl,hb2⟩;have hb0:=zn hb2;have c0:=ze hb0 0;have c1:=ze hb0 1;have c2:=ze hb0 2;have f0:=zh hb0 0;have f1:=zh hb0 1;have f2:=zh hb0 2;have hbX:=zm hb0;simp at c0 c1 c2;clear hb2 hb0;generalize kd false b ((t).take k) ((t).drop (k+1))=o at *;unfold zg;obtain⟨n3,u3,d3,ho⟩:∃n3 u3 d3,qe o=zH n3 u3 d3:=by
   cases o with
   |none=>exact⟨_,_,_,rfl⟩
   |some p=>exact⟨_,_,_,rfl⟩
  have Ho:=zb ho;rw[ho];unfold zH;clear ho;go_wp2;refine um (v:=zg o) (by simp[results,Ub,go_sem,zg,za Ho,zH,c0,c1,c2]) rfl ⟨by rw[za Hov2],?_⟩;exact zv hbX _ (ud _) _ _ _
 |none=>
  have hfi:zW 47 t= -1:=by unfold zW;rw[hf]
  rw[hfi];clear hfi;go_wp2_with fail;refine(vA t 46 46 rfl _ (by omega)).mono ?_;rintro e w2⟨rfl,rfl⟩;have Hf:=zb hf;clear hf;by_cases hpt:b=10/\∃k,zZ 46 t=some k
  . obtain⟨hb10,k,hfk⟩:=hpt
    have hfi:zW 46 t=(k:Int):=by unfold zW;rw[hfk]
    have hk:=vf hfk;have Hov2:Hid (zw l (b:Int)=vO false ((t).take k) ((t).drop (k+1))):=by
     show _=_;rw[za Hm];unfold qT;rw[za Hf];simp only[hfk];rw[uj hb10]
    rw[hfi];have hbq:((b:Int)==10)=true:=by rw[Um];omega
    clear hfi hfk hb10;go_wp2_with fail;refine(ZC false t k _ hk (by omega)).mono ?_;rintro e w3⟨rfl,hb3⟩;have hb0:=zn hb3;have c0:=ze hb0 0;have c1:=ze hb0 1;have c2:=ze hb0 2;have f0:=zh hb0 0;have f1:=zh hb0 1;have f2:=zh hb0 2;have hbX:=zm hb0;simp at c0 c1 c2;clear hb3 hb0;generalize vO false ((t).take k) ((t).drop (k+1))=o at *;unfold zg;obtain⟨n3,u3,d3,ho⟩:∃n3 u3 d3,qe o=zH n3 u3 d3:=by
     cases o with
     |none=>exact⟨_,_,_,rfl⟩
     |some p=>exact⟨_,_,_,rfl⟩
    have Ho:=zb ho;rw[ho];unfold zH;clear ho;go_wp2;refine um (v:=zg o) (by simp[results,Ub,go_sem,zg,za Ho,zH,c0,c1,c2]) rfl ⟨by rw[za Hov2],?_⟩;exact zv hbX _ (ud _) _ _ _
  . have Hpl:Hid (zw l (b:Int)=vN false b t):=by
     show _=_;rw[za Hm];unfold qT;rw[za Hf];cases hfk:zZ 46 t with
     |none=>rfl
     |some k=>
      simp only;rw[ul (fun h=>hpt ⟨h,k,hfk⟩)]
    have hsn:=fun h=>yC (b:=b) (l:=t) (by omega) h
    have hvn:yq b t=true->qZ b t=Zk b t:=fun h=>by unfold qZ;rw[uj h]
    have Hpo:Hid (vN false b t=if yq b t then zB false (Zk b t) 1 else none):=zb rfl;have d1:zr 1=⟨#[49]⟩:=Zw;by_cases hfz:0<=zW 46 t
    . have hbq:((b:Int)==10)=false:=by
       rw[ug];intro hh;apply hpt;refine⟨by omega,?_⟩;unfold zW at hfz;cases hfk:zZ 46 t with
       |none=>rw[hfk]at hfz;simp at hfz
       |some k=>exact⟨k,rfl⟩
      clear hpt;go_wp2_with fail;refine(vH t b _ (by omega) (by omega) (by omega)).mono ?_;rintro e w3⟨rfl,hb3⟩;unfold vw;have hb0:=zn hb3;have hzz:w.heap.size+1<=w3.heap.size:=by have:=hb3.size;simpa using this
      generalize qZ b t=vx at *;generalize yq b t=ox at *;cases ox with
      |false=>
       have c0:=ze hb0 0;have c1:=ze hb0 1;have c2:=ze hb0 2;have f0:=zh hb0 0;have f1:=zh hb0 1;have f2:=zh hb0 2;have hbX:=zm hb0;simp at c0 c1 c2;clear hb3 hb0 hsn hvn d1;go_wp2;refine um (v:=zg none) (by simp[results,Ub,go_sem,zg,qe,qF,zH,c0,c1,c2]) rfl ⟨by rw[za Hpl,za Hpo];rfl,?_⟩;exact zv hbX _ (ud _) _ _ _
      |true=>
       have h1:=hsn rfl;rw[<-hvn rfl]at h1;have Hov2:Hid (zw l (b:Int)=zB false vx 1):=by rw[hvn rfl];exact(za Hpl).trans (za Hpo)
       have d1s:=ja (n:=1) (by omega);clear hsn hvn;go_wp2_with fail;rw[<-d1];clear d1;refine(jt false vx 1 _ (by omega) (by omega)).mono ?_;rintro e w4⟨rfl,hb4'⟩;have hn4:=zk hb0 hzz hb4';have c0:=ze hn4.1 0;have c1:=ze hn4.1 1;have c2:=ze hn4.1 2;have f0:=zh hn4.1 0;have f1:=zh hn4.1 1;have f2:=zh hn4.1 2;have hbX:=zm hn4.1;simp at c0 c1 c2;clear hb3 hb0 hb4' hn4;generalize zB false vx 1=o at *;unfold zg;obtain⟨n3,u3,d3,ho⟩:∃n3 u3 d3,qe o=zH n3 u3 d3:=by
        cases o with
        |none=>exact⟨_,_,_,rfl⟩
        |some p=>exact⟨_,_,_,rfl⟩
       have Ho:=zb ho;rw[ho];unfold zH;clear ho;go_wp2;refine um (v:=zg o) (by simp[results,Ub,go_sem,zg,za Ho,zH,c0,c1,c2]) rfl ⟨by rw[za Hov2],?_⟩;exact zv hbX _ (ud _) _ _ _
    . clear hpt
      go_wp2_with fail;refine(vH t b _ (by omega) (by omega) (by omega)).mono ?_;rintro e w3⟨rfl,hb3⟩;unfold vw;have hb0:=zn hb3;have hzz:w.heap.size+1<=w3.heap.size:=by have:=hb3.size;simpa using this
      generalize qZ b t=vx at *;generalize yq b t=ox at *;cases ox with
      |false=>
       have c0:=ze hb0 0;have c1:=ze hb0 1;have c2:=ze hb0 2;have f0:=zh hb0 0;have f1:=zh hb0 1;have f2:=zh hb0 2;have hbX:=zm hb0;simp at c0 c1 c2;clear hb3 hb0 hsn hvn d1;go_wp2;refine um (v:=zg none) (by simp[results,Ub,go_sem,zg,qe,qF,zH,c0,c1,c2]) rfl ⟨by rw[za Hpl,za Hpo];rfl,?_⟩;exact zv hbX _ (ud _) _ _ _
      |true=>
       have h1:=hsn rfl;rw[<-hvn rfl]at h1;have Hov2:Hid (zw l (b:Int)=zB false vx 1):=by rw[hvn rfl];exact(za Hpl).trans (za Hpo)
       have d1s:=ja (n:=1) (by omega);clear hsn hvn;go_wp2_with fail;rw[<-d1];clear d1;refine(jt false vx 1 _ (by omega) (by omega)).mono ?_;rintro e w4⟨rfl,hb4'⟩;have hn4:=zk hb0 hzz hb4';have c0:=ze hn4.1 0;have c1:=ze hn4.1 1;have c2:=ze hn4.1 2;have f0:=zh hn4.1 0;have f1:=zh hn4.1 1;have f2:=zh hn4.1 2;have hbX:=zm hn4.1;simp at c0 c1 c2;clear hb3 hb0 hb4' hn4;generalize zB false vx 1=o at *;unfold zg;obtain⟨n3,u3,d3,ho⟩:∃n3 u3 d3,qe o=zH n3 u3 d3:=by
        cases o with
        |none=>exact⟨_,_,_,rfl⟩
        |some p=>exact⟨_,_,_,rfl⟩
       have Ho:=zb ho;rw[ho];unfold zH;clear ho;go_wp2;refine um (v:=zg o) (by simp[results,Ub,go_sem,zg,za Ho,zH,c0,c1,c2]) rfl ⟨by rw[za Hov2],?_⟩;exact zv hbX _ (ud _) _ _ _
theorem QC(t:List UInt8)(b:Nat)(w:World)(hb4:b=2\/b=8\/b=10\/b=16)(c:UInt8)(hc:c≠45)(hc2:c≠43)(hlen:(c::t).length<=240):
  Calls Tryz.prog 64 #[.string (B (c::t)),.int .i64 b] w fun e w'=>e=.returned (zg (zw (c::t) b))/\Below w.heap.size w w':=by
 obtain⟨l,hl⟩:∃l:List UInt8,l=c::t:=⟨_,rfl⟩
 rw[<-hl];have hr:zQ (b:Int)=true:=by rcases hb4 with rfl|rfl|rfl|rfl<;>rfl
 have hl2:l.length<=240:=by rw[hl];exact hlen
 have htl:t.length<=240:=by simp at hlen;omega
 have hpos:0<(B l).size:=by rw[zj,hl];simp
 have hposI:(0:Int)<((B l).size:Int):=by omega
 have hsz:(B l).size<=240:=by rw[zj];exact hl2
 have hc0:((B l)[0]'hpos).toNat=c.toNat:=by rw[j4];simp[hl]
 have hcut:(B l).extract 1 (B l).size=B t:=by rw[qp,zj,Uh,hl];rfl
 have Hm:Hid (zw l (b:Int)=qT false b l):=by show _=_;rw[vZ l b hb4 hl2,hl];simp[YM,hc,hc2]
 have hq:((((B l)[0]'hpos).toNat:Int)==45)=false:=by
  rw[hc0,ug];intro hh;apply hc;apply wM.1;simp only[We];omega
 have hq2:((((B l)[0]'hpos).toNat:Int)==43)=false:=by
  rw[hc0,ug];intro hh;apply hc2;apply wM.1;simp only[We];omega
 clear hl hc hc2 hc0 hlen hcut;go_enter Tryz.func64,Tryz.ntmps64;go_wp2_with fail;refine(vB b _).mono ?_;rintro e w1⟨rfl,rfl⟩;rw[hr];go_wp2_with fail;refine(vA l 47 47 rfl _ (by omega)).mono ?_;rintro e w1⟨rfl,rfl⟩;cases hf:zZ 47 l with
 |some k=>
  have hfi:zW 47 l=(k:Int):=by unfold zW;rw[hf]
  have hk:=vf hf;have Hov2:Hid (zw l (b:Int)=kd false b ((l).take k) ((l).drop (k+1))):=by
   show _=_;rw[za Hm];unfold qT;rw[hf]
  rw[hfi];clear hfi hf;go_wp2_with fail;refine(Qo false l k b _ hk (by omega) (by omega) (by omega)).mono ?_;rintro e w2⟨rfl,hb2⟩;have hb0:=zn hb2;have c0:=ze hb0 0;have c1:=ze hb0 1;have c2:=ze hb0 2;have f0:=zh hb0 0;have f1:=zh hb0 1;have f2:=zh hb0 2;have hbX:=zm hb0;simp at c0 c1 c2;clear hb2 hb0;generalize kd false b ((l).take k) ((l).drop (k+1))=o at *;unfold zg;obtain⟨n3,u3,d3,ho⟩:∃n3 u3 d3,qe o=zH n3 u3 d3:=by
   cases o with
   |none=>exact⟨_,_,_,rfl⟩
   |some p=>exact⟨_,_,_,rfl⟩
  have Ho:=zb ho;rw[ho];unfold zH;clear ho;go_wp2;refine um (v:=zg o) (by simp[results,Ub,go_sem,zg,za Ho,zH,c0,c1,c2]) rfl ⟨by rw[za Hov2],?_⟩;exact zv hbX _ (ud _) _ _ _
 |none=>
  have hfi:zW 47 l= -1:=by unfold zW;rw[hf]
  rw[hfi];clear hfi;go_wp2_with fail;refine(vA l 46 46 rfl _ (by omega)).mono ?_;rintro e w2⟨rfl,rfl⟩;have Hf:=zb hf;clear hf;by_cases hpt:b=10/\∃k,zZ 46 l=some k
  . obtain⟨hb10,k,hfk⟩:=hpt
    have hfi:zW 46 l=(k:Int):=by unfold zW;rw[hfk]
    have hk:=vf hfk;have Hov2:Hid (zw l (b:Int)=vO false ((l).take k) ((l).drop (k+1))):=by
     show _=_;rw[za Hm];unfold qT;rw[za Hf];simp only[hfk];rw[uj hb10]
    rw[hfi];have hbq:((b:Int)==10)=true:=by rw[Um];omega
    clear hfi hfk hb10;go_wp2_with fail;refine(ZC false l k _ hk (by omega)).mono ?_;rintro e w3⟨rfl,hb3⟩;have hb0:=zn hb3;have c0:=ze hb0 0;have c1:=ze hb0 1;have c2:=ze hb0 2;have f0:=zh hb0 0;have f1:=zh hb0 1;have f2:=zh hb0 2;have hbX:=zm hb0;simp at c0 c1 c2;clear hb3 hb0;generalize vO false ((l).take k) ((l).drop (k+1))=o at *;unfold zg;obtain⟨n3,u3,d3,ho⟩:∃n3 u3 d3,qe o=zH n3 u3 d3:=by
     cases o with
     |none=>exact⟨_,_,_,rfl⟩
     |some p=>exact⟨_,_,_,rfl⟩
    have Ho:=zb ho;rw[ho];unfold zH;clear ho;go_wp2;refine um (v:=zg o) (by simp[results,Ub,go_sem,zg,za Ho,zH,c0,c1,c2]) rfl ⟨by rw[za Hov2],?_⟩;exact zv hbX _ (ud _) _ _ _
  . have Hpl:Hid (zw l (b:Int)=vN false b l):=by
     show _=_;rw[za Hm];unfold qT;rw[za Hf];cases hfk:zZ 46 l with
     |none=>rfl
     |some k=>
      simp only;rw[ul (fun h=>hpt ⟨h,k,hfk⟩)]
    have hsn:=fun h=>yC (b:=b) (l:=l) (by omega) h
    have hvn:yq b l=true->qZ b l=Zk b l:=fun h=>by unfold qZ;rw[uj h]
    have Hpo:Hid (vN false b l=if yq b l then zB false (Zk b l) 1 else none):=zb rfl;have d1:zr 1=⟨#[49]⟩:=Zw;by_cases hfz:0<=zW 46 l
    . have hbq:((b:Int)==10)=false:=by
       rw[ug];intro hh;apply hpt;refine⟨by omega,?_⟩;unfold zW at hfz;cases hfk:zZ 46 l with
       |none=>rw[hfk]at hfz;simp at hfz
       |some k=>exact⟨k,rfl⟩
      clear hpt;go_wp2_with fail;refine(vH l b _ (by omega) (by omega) (by omega)).mono ?_;rintro e w3⟨rfl,hb3⟩;unfold vw;have hb0:=zn hb3;have hzz:w.heap.size+1<=w3.heap.size:=by have:=hb3.size;simpa using this
      generalize qZ b l=vx at *;generalize yq b l=ox at *;cases ox with
      |false=>
       have c0:=ze hb0 0;have c1:=ze hb0 1;have c2:=ze hb0 2;have f0:=zh hb0 0;have f1:=zh hb0 1;have f2:=zh hb0 2;have hbX:=zm hb0;simp at c0 c1 c2;clear hb3 hb0 hsn hvn d1;go_wp2;refine um (v:=zg none) (by simp[results,Ub,go_sem,zg,qe,qF,zH,c0,c1,c2]) rfl ⟨by rw[za Hpl,za Hpo];rfl,?_⟩;exact zv hbX _ (ud _) _ _ _
      |true=>
       have h1:=hsn rfl;rw[<-hvn rfl]at h1;have Hov2:Hid (zw l (b:Int)=zB false vx 1):=by rw[hvn rfl];exact(za Hpl).trans (za Hpo)
       have d1s:=ja (n:=1) (by omega);clear hsn hvn;go_wp2_with fail;rw[<-d1];clear d1;refine(jt false vx 1 _ (by omega) (by omega)).mono ?_;rintro e w4⟨rfl,hb4'⟩;have hn4:=zk hb0 hzz hb4';have c0:=ze hn4.1 0;have c1:=ze hn4.1 1;have c2:=ze hn4.1 2;have f0:=zh hn4.1 0;have f1:=zh hn4.1 1;have f2:=zh hn4.1 2;have hbX:=zm hn4.1;simp at c0 c1 c2;clear hb3 hb0 hb4' hn4;generalize zB false vx 1=o at *;unfold zg;obtain⟨n3,u3,d3,ho⟩:∃n3 u3 d3,qe o=zH n3 u3 d3:=by
        cases o with
        |none=>exact⟨_,_,_,rfl⟩
        |some p=>exact⟨_,_,_,rfl⟩
       have Ho:=zb ho;rw[ho];unfold zH;clear ho;go_wp2;refine um (v:=zg o) (by simp[results,Ub,go_sem,zg,za Ho,zH,c0,c1,c2]) rfl ⟨by rw[za Hov2],?_⟩;exact zv hbX _ (ud _) _ _ _
    . clear hpt
      go_wp2_with fail;refine(vH l b _ (by omega) (by omega) (by omega)).mono ?_;rintro e w3⟨rfl,hb3⟩;unfold vw;have hb0:=zn hb3;have hzz:w.heap.size+1<=w3.heap.size:=by have:=hb3.size;simpa using this
      generalize qZ b l=vx at *;generalize yq b l=ox at *;cases ox with
      |false=>
       have c0:=ze hb0 0;have c1:=ze hb0 1;have c2:=ze hb0 2;have f0:=zh hb0 0;have f1:=zh hb0 1;have f2:=zh hb0 2;have hbX:=zm hb0;simp at c0 c1 c2;clear hb3 hb0 hsn hvn d1;go_wp2;refine um (v:=zg none) (by simp[results,Ub,go_sem,zg,qe,qF,zH,c0,c1,c2]) rfl ⟨by rw[za Hpl,za Hpo];rfl,?_⟩;exact zv hbX _ (ud _) _ _ _
      |true=>
       have h1:=hsn rfl;rw[<-hvn rfl]at h1;have Hov2:Hid (zw l (b:Int)=zB false vx 1):=by rw[hvn rfl];exact(za Hpl).trans (za Hpo)
       have d1s:=ja (n:=1) (by omega);clear hsn hvn;go_wp2_with fail;rw[<-d1];clear d1;refine(jt false vx 1 _ (by omega) (by omega)).mono ?_;rintro e w4⟨rfl,hb4'⟩;have hn4:=zk hb0 hzz hb4';have c0:=ze hn4.1 0;have c1:=ze hn4.1 1;have c2:=ze hn4.1 2;have f0:=zh hn4.1 0;have f1:=zh hn4.1 1;have f2:=zh hn4.1 2;have hbX:=zm hn4.1;simp at c0 c1 c2;clear hb3 hb0 hb4' hn4;generalize zB false vx 1=o at *;unfold zg;obtain⟨n3,u3,d3,ho⟩:∃n3 u3 d3,qe o=zH n3 u3 d3:=by
        cases o with
        |none=>exact⟨_,_,_,rfl⟩
        |some p=>exact⟨_,_,_,rfl⟩
       have Ho:=zb ho;rw[ho];unfold zH;clear ho;go_wp2;refine um (v:=zg o) (by simp[results,Ub,go_sem,zg,za Ho,zH,c0,c1,c2]) rfl ⟨by rw[za Hov2],?_⟩;exact zv hbX _ (ud _) _ _ _
theorem jT(l:List UInt8)(r:Int)(w:World)(hs:l.length<=1000000000):
  Calls Tryz.prog 64 #[.string (B l),.int .i64 r] w fun e w'=>e=.returned (zg (zw l r))/\Below w.heap.size w w':=by
 by_cases h:zQ r=false\/240<l.length
 . exact JE l r w hs h
 . have hr:zQ r=true:=by cases hh:zQ r with
    |true=>rfl
    |false=>exact absurd (.inl hh) h
   obtain⟨b,rfl,hb4⟩:=yx hr;have hl:l.length<=240:=by
    rcases df 240 l.length with h1|h1
    . exact absurd (.inr h1) h
    . exact h1
   cases l with
   |nil=>exact QD b w hb4
   |cons c t=>
    by_cases h1:c=45
    . exact Qb t b w hb4 c h1 hl
    . by_cases h2:c=43
      . exact QE t b w hb4 c h2 hl
      . exact QC t b w hb4 c h1 h2 hl
def vC(neg:Bool)(u d:List UInt8):Bool:=
 decide (u.length<=60)&&decide (d.length<=60)&&qO u&&qO d&&decide (zC d≠0)&& !(neg&&decide (zC u=0))&&decide (Nat.gcd (zC u) (zC d)=1)
def xD(neg:Bool)(u d:List UInt8):Value:=.agg #[.bool neg,.string (B u),.string (B d)]
theorem Y2(n:Nat):((zr n).toList== [49])=decide (n=1):=by
 have:=JI n 1;rwa[show(zr 1).toList=[49]from by rw[Zw];exact jg [49]]at this
theorem kJ(neg:Bool)(u d:List UInt8)(w:World)(hsu:u.length<=1000000000)(hsd:d.length<=1000000000):
  Calls Tryz.prog 92 #[xD neg u d] w fun e w'=>e=.returned (.bool (vC neg u d))/\Below w.heap.size w w':=by
 unfold xD;have hzu:(B u).size=u.length:=zj u;have hzd:(B d).size=d.length:=zj d;by_cases h1:u.length<=60
 . by_cases h2:d.length<=60
   . by_cases h3:qO u=true
     . by_cases h4:qO d=true
       . have eu:=qR h3
         have ed:=qR h4;have Hok:Hid (vC neg u d=(decide (zC d≠0)&& !(neg&&decide (zC u=0))&&decide (Nat.gcd (zC u) (zC d)=1))):=by
          show _=_;unfold vC;rw[uy h1,uy h2,h3,h4];simp
         have Bu:B u=zr (zC u):=by unfold zr jB;rw[<-eu]
         have Bd:B d=zr (zC d):=by unfold zr jB;rw[<-ed]
         have h3d:=@vG u;have h4d:=@vG d;rw[h3]at h3d;rw[h4]at h4d;rw[Bu]at h3d hzu;rw[Bd]at h4d hzd;rw[Bu,Bd];have H3:=zb h3d;have H4:=zb h4d;generalize zC u=a at *;generalize zC d=b at *;have hau:(zr a).size<=60:=by omega
         have hbd:(zr b).size<=60:=by omega
         have ha0:=xw a;have hb0:=xw b;clear h3d h4d eu ed Bu Bd h3 h4;by_cases hb:b=0
         . rw[uy hb]at hb0
           have Hok:Hid (vC neg u d=false):=by show _=_;rw[za Hok];simp[hb]
           clear hb;go_enter dD,dd;go_wp2_with fail;refine(za H3 _ (by omega)).mono ?_;rintro e w1⟨rfl,rfl⟩;go_wp2_with fail;refine(za H4 _ (by omega)).mono ?_;rintro e w1⟨rfl,rfl⟩;go_wp2;go_ret;exact⟨zF (za Hok).symm,(ue _ _).alloc (ud _) _⟩
         . rw[uw hb]at hb0
           by_cases hn:neg=true/\a=0
           . obtain⟨hn1,ha⟩:=hn
             rw[uy ha]at ha0;subst hn1;have Hok:Hid (vC true u d=false):=by show _=_;rw[za Hok];simp[ha]
             clear hb ha;go_enter dD,dd;go_wp2_with fail;refine(za H3 _ (by omega)).mono ?_;rintro e w1⟨rfl,rfl⟩;go_wp2_with fail;refine(za H4 _ (by omega)).mono ?_;rintro e w1⟨rfl,rfl⟩;go_wp2;go_ret;exact⟨zF (za Hok).symm,(ue _ _).alloc (ud _) _⟩
           . have Hok:Hid (vC neg u d=decide (Nat.gcd a b=1)):=by
              show _=_;rw[za Hok];cases neg
              . simp[hb]
              . simp at hn;simp[hb,hn]
             have hg1:=Y2 (Nat.gcd a b);have hcase:neg=false\/(neg=true/\a≠0):=by cases neg<;>simp_all
             rcases hcase with rfl|⟨rfl,ha⟩
             . clear hn hb
               go_enter dD,dd;go_wp2_with fail;refine(za H3 _ (by omega)).mono ?_;rintro e w1⟨rfl,rfl⟩;go_wp2_with fail;refine(za H4 _ (by omega)).mono ?_;rintro e w1⟨rfl,rfl⟩;go_wp2_with fail;refine(Ke a b _ (by omega) (by omega)).mono ?_;rintro e w2⟨rfl,hb2⟩;go_wp2;go_ret;exact⟨zF (za Hok).symm,zm (zn hb2)⟩
             . rw[uw ha]at ha0
               clear hn hb ha;go_enter dD,dd;go_wp2_with fail;refine(za H3 _ (by omega)).mono ?_;rintro e w1⟨rfl,rfl⟩;go_wp2_with fail;refine(za H4 _ (by omega)).mono ?_;rintro e w1⟨rfl,rfl⟩;go_wp2_with fail;refine(Ke a b _ (by omega) (by omega)).mono ?_;rintro e w2⟨rfl,hb2⟩;go_wp2;go_ret;exact⟨zF (za Hok).symm,zm (zn hb2)⟩
       . have h4':qO d=false:=by simpa using h4
         have Hok:Hid (vC neg u d=false):=by show _=_;unfold vC;rw[h4'];simp
         have h3d:=@vG u;have h4d:=@vG d;rw[h3]at h3d;rw[h4']at h4d;have H3:=zb h3d;have H4:=zb h4d;clear h3d h4d h3 h4 h4';go_enter dD,dd;go_wp2_with fail;refine(za H3 _ (by omega)).mono ?_;rintro e w1⟨rfl,rfl⟩;go_wp2_with fail;refine(za H4 _ (by omega)).mono ?_;rintro e w1⟨rfl,rfl⟩;go_wp2;go_ret;exact⟨zF (za Hok).symm,(ue _ _).alloc (ud _) _⟩
     . have h3':qO u=false:=by simpa using h3
       have Hok:Hid (vC neg u d=false):=by show _=_;unfold vC;rw[h3'];simp
       have h3d:=@vG u;rw[h3']at h3d;have H3:=zb h3d;clear h3d h3 h3';go_enter dD,dd;go_wp2_with fail;refine(za H3 _ (by omega)).mono ?_;rintro e w1⟨rfl,rfl⟩;go_wp2;go_ret;exact⟨zF (za Hok).symm,(ue _ _).alloc (ud _) _⟩
   . have Hok:Hid (vC neg u d=false):=by show _=_;unfold vC;simp[h2]
     go_enter dD,dd;go_wp2;go_ret;exact⟨zF (za Hok).symm,(ue _ _).alloc (ud _) _⟩
 . have Hok:Hid (vC neg u d=false):=by show _=_;unfold vC;simp[h1]
   go_enter dD,dd;go_wp2;go_ret;exact⟨zF (za Hok).symm,(ue _ _).alloc (ud _) _⟩
def prM(neg:Bool)(a d b:Nat):List UInt8:=(if neg then [45]else [])++qj b a++(if d=1 then []else 47::qj b d)
def qo(neg:Bool)(u d:List UInt8)(r:Int):List UInt8:=if vC neg u d&&zQ r then prM neg (zC u) (zC d) r.toNat else []
theorem ju{neg:Bool}{u d:List UInt8}(h:vC neg u d=true):qO u=true/\qO d=true/\u.length<=60/\d.length<=60/\zC d≠0/\(neg=true->zC u≠0)/\Nat.gcd (zC u) (zC d)=1:=by
 unfold vC at h;simp only[ux,ut,Bool.not_eq_true',Ww,wn]at h;obtain⟨⟨⟨⟨⟨⟨h1,h2⟩,h3⟩,h4⟩,h5⟩,h6⟩,h7⟩:=h;exact⟨h3,h4,h1,h2,h5,fun hn=>by rcases h6 with h6|h6;rw[hn]at h6;cases h6;exact h6,h7⟩
theorem xh{b n:Nat}(hb2:2<=b)(h:(zr n).size<=60):(jB b n).size<=240:=by
 unfold jB;rw[zj];apply qW hb2 (by omega);have h1:=jE n;have h2:(10:Nat)^(zr n).size<=16^60:=uC (Nat.pow_le_pow_left (by omega) _) (UC (by omega) h);have h3:(16:Nat)^60=2^240:=by rw[show(16:Nat)=2^4 from rfl,<-Nat.pow_mul]
 have h4:(2:Nat)^240<=b^240:=Nat.pow_le_pow_left hb2 _;omega
theorem JF(neg:Bool)(u d:List UInt8)(r:Int)(w:World)(hsu:u.length<=1000000000)(hsd:d.length<=1000000000)(h:(vC neg u d&&zQ r)=false):
  Calls Tryz.prog 57 #[xD neg u d,.int .i64 r] w fun e w'=>e=.returned (.string (B (qo neg u d r)))/\Below w.heap.size w w':=by
 have Hf:Hid (B (qo neg u d r)=⟨#[]⟩):=by show _=_;unfold qo;rw[h];rfl
 have h1:=fun w=>kJ neg u d w hsu hsd
 have H1:=zb h1;clear h1;unfold xD at *;cases hok:vC neg u d with
 |false=>
  rw[hok]at H1;clear h hok;go_enter Tryz.func57,Tryz.ntmps57;go_wp2_with fail;refine(za H1 _).mono ?_;rintro e w1⟨rfl,hb1⟩;have hb0:=zn hb1;have hz0:w.heap.size+1<=w1.heap.size:=by have:=hb1.size;simpa using this
  have c0:=ze hb0 0;have c1:=ze hb0 1;have c2:=ze hb0 2;simp at c0 c1 c2;go_wp2;go_ret;exact⟨qm (za Hf).symm,zm hb0⟩
 |true=>
  rw[hok]at H1 h;have hr:zQ r=false:=by simpa using h
  clear h hok;go_enter Tryz.func57,Tryz.ntmps57;go_wp2_with fail;refine(za H1 _).mono ?_;rintro e w1⟨rfl,hb1⟩;have hb0:=zn hb1;have hz0:w.heap.size+1<=w1.heap.size:=by have:=hb1.size;simpa using this
  have c0:=ze hb0 0;have c1:=ze hb0 1;have c2:=ze hb0 2;simp at c0 c1 c2;go_wp2_with fail;refine(vB r _).mono ?_;rintro e w2⟨rfl,rfl⟩;rw[hr];go_wp2;go_ret;exact⟨qm (za Hf).symm,zm hb0⟩
theorem Q9(neg:Bool)(u d:List UInt8)(b:Nat)(w:World)(hok:vC neg u d=true)(hb4:b=2\/b=8\/b=10\/b=16):
  Calls Tryz.prog 57 #[xD neg u d,.int .i64 b] w fun e w'=>e=.returned (.string (B (qo neg u d b)))/\Below w.heap.size w w':=by
 have hr:zQ (b:Int)=true:=by rcases hb4 with rfl|rfl|rfl|rfl<;>rfl
 obtain⟨h3,h4,hu,hd,hd0,hn0,_⟩:=ju hok;have h1:=fun w=>kJ neg u d w (by omega) (by omega)
 rw[hok]at h1;have Hf:Hid (qo neg u d b=prM neg (zC u) (zC d) b):=by show _=_;unfold qo;rw[hok,hr];simp
 have Bu:B u=zr (zC u):=by unfold zr jB;rw[<-qR h3]
 have Bd:B d=zr (zC d):=by unfold zr jB;rw[<-qR h4]
 have hau:=zj u;have had:=zj d;unfold xD at *;rw[Bu,Bd]at h1;rw[Bu]at hau;rw[Bd]at had;rw[Bu,Bd];generalize zC u=a at *;generalize zC d=q at *;have hau60:(zr a).size<=60:=by omega
 have had60:(zr q).size<=60:=by omega
 have hq1:=Y2 q;have hta:=xh (b:=b) (by omega) hau60;have htq:=xh (b:=b) (by omega) had60;have hta':(qj b a).length<=240:=by unfold jB at hta;rwa[zj]at hta
 have htq':(qj b q).length<=240:=by unfold jB at htq;rwa[zj]at htq
 have H1:=zb h1;clear h1 Bu Bd h3 h4 hok hau had hn0;go_enter Tryz.func57,Tryz.ntmps57;go_wp2_with fail;refine(za H1 _).mono ?_;rintro e w1⟨rfl,hb1⟩;have hb0:=zn hb1;have hz0:w.heap.size+1<=w1.heap.size:=by have:=hb1.size;simpa using this
 have c0:=ze hb0 0;have c1:=ze hb0 1;have c2:=ze hb0 2;simp at c0 c1 c2;go_wp2_with fail;refine(vB b _).mono ?_;rintro e w2⟨rfl,rfl⟩;rw[hr];go_wp2_with fail;refine(Kg a b _ (by omega) (by omega) (by omega) (by omega)).mono ?_;rintro e w3⟨rfl,hb3⟩;have hn3:=zk hb0 hz0 hb3;clear c0 c1 c2 hb1 hb0 hz0 hb3;have c0:=ze hn3.1 0;have c1:=ze hn3.1 1;have c2:=ze hn3.1 2;simp at c0 c1 c2;by_cases hone:q=1
 . rw[uy hone]at hq1
   cases neg with
   |false=>
    have Hf2:Hid (B (qo false u d b)=jB b a):=by show _=_;rw[za Hf];simp[prM,hone,jB]
    clear hone;go_wp2;go_ret;exact⟨qm (za Hf2).symm,zm hn3.1⟩
   |true=>
    have Hf2:Hid (B (qo true u d b)=⟨#[45]⟩++jB b a):=by
     show _=_;rw[za Hf,show(⟨#[45]⟩:ByteArray)=B [45]from rfl];unfold jB;rw[qf];simp[prM,hone]
    have hns:¬9223372036854775807<1+(jB b a).size:=by omega
    clear hone;go_wp2;go_ret;exact⟨qm (za Hf2).symm,zm hn3.1⟩
 . rw[uw hone]at hq1
   cases neg with
   |false=>
    have Hf2:Hid (B (qo false u d b)=(jB b a++⟨#[47]⟩)++jB b q):=by
     show _=_;rw[za Hf,show(⟨#[47]⟩:ByteArray)=B [47]from rfl];unfold jB;rw[qf,qf];simp[prM,hone]
    clear hone;go_wp2_with fail;refine(Kg q b _ (by omega) (by omega) (by omega) (by omega)).mono ?_;rintro e w4⟨rfl,hb4'⟩;have hn4:=zk hn3.1 hn3.2 hb4';go_wp2;go_ret;exact⟨qm (za Hf2).symm,zm hn4.1⟩
   |true=>
    have Hf2:Hid (B (qo true u d b)=((⟨#[45]⟩++jB b a)++⟨#[47]⟩)++jB b q):=by
     show _=_;rw[za Hf,show(⟨#[47]⟩:ByteArray)=B [47]from rfl,show(⟨#[45]⟩:ByteArray)=B [45]from rfl];unfold jB;rw[qf,qf,qf];simp[prM,hone]
    have hns:¬9223372036854775807<1+(jB b a).size:=by omega
    clear hone;go_wp2_with fail;refine(Kg q b _ (by omega) (by omega) (by omega) (by omega)).mono ?_;rintro e w4⟨rfl,hb4'⟩;have hn4:=zk hn3.1 hn3.2 hb4';go_wp2;go_ret;exact⟨qm (za Hf2).symm,zm hn4.1⟩
theorem kh(neg:Bool)(u d:List UInt8)(r:Int)(w:World)(hsu:u.length<=1000000000)(hsd:d.length<=1000000000):
  Calls Tryz.prog 57 #[xD neg u d,.int .i64 r] w fun e w'=>e=.returned (.string (B (qo neg u d r)))/\Below w.heap.size w w':=by
 cases h:vC neg u d&&zQ r with
 |false=>exact JF neg u d r w hsu hsd h
 |true=>
  simp only[ux]at h;obtain⟨b,rfl,hb4⟩:=yx h.2;exact Q9 neg u d b w h.1 hb4
theorem zc6{neg:Bool}{a q:Nat}(hq:q≠0)(hg:Nat.gcd a q=1)(ha:(zr a).size<=60)(hqs:(zr q).size<=60)(hn:neg=true->a≠0):zB neg a q=some (neg,a,q):=by
 unfold zB;rw[hg,Nat.div_one,Nat.div_one,ul (by omega)];cases neg with
 |false=>rfl
 |true=>simp[hn rfl]
theorem zg9{neg:Bool}{u d:List UInt8}(h1:u.length<=60)(h2:d.length<=60)(h3:qO u=true)(h4:qO d=true)(h5:zC d≠0)(h6:neg=true->zC u≠0)(h7:Nat.gcd (zC u) (zC d)=1):vC neg u d=true:=by
 unfold vC;simp only[ux,ut,Bool.not_eq_true',Ww,wn];refine⟨⟨⟨⟨⟨⟨h1,h2⟩,h3⟩,h4⟩,h5⟩,?_⟩,h7⟩;cases neg with
 |false=>exact .inl rfl
 |true=>exact .inr (h6 rfl)
theorem QV{neg n:Bool}{u d x y:Nat}(h:zB neg u d=some (n,x,y)):vC n (qj 10 x) (qj 10 y)=true:=by
 unfold zB at h
 split at h
 . cases h
 . rename_i hh
   simp only[US,wS]at h;obtain⟨rfl,rfl,rfl⟩:=h;have hd:d≠0:=fun hd=>hh (.inl hd)
   have h1:¬60<(zr (u/Nat.gcd u d)).size:=fun k=>hh (.inr (.inl k))
   have h2:¬60<(zr (d/Nat.gcd u d)).size:=fun k=>hh (.inr (.inr k))
   rw[zJ]at h1 h2;have hgp:0<Nat.gcd u d:=WE _ (by omega);have hdd:d/Nat.gcd u d≠0:=by
    have:=Nat.div_pos (Nat.le_of_dvd (by omega) (Nat.gcd_dvd_right u d)) hgp;omega
   have hco:Nat.gcd (u/Nat.gcd u d) (d/Nat.gcd u d)=1:=Nat.coprime_div_gcd_div_gcd hgp;refine zg9 (by omega) (by omega) (ZA _) (ZA _) (by rw[qw];exact hdd) ?_ (by rw[qw,qw];exact hco);intro hh;rw[qw];intro h0;rw[h0]at hh;simp at hh
theorem K3{neg:Bool}{b:Nat}{l:List UInt8}{p:Bool×Nat×Nat}(h:qT neg b l=some p):∃u d,zB neg u d=some p:=by
 unfold qT kd vO vN at h
 split at h
 . split at h
   . exact⟨_,_,h⟩
   . cases h
 . split at h
   . split at h
     . split at h
       . exact⟨_,_,h⟩
       . cases h
     . split at h
       . exact⟨_,_,h⟩
       . cases h
   . split at h
     . exact⟨_,_,h⟩
     . cases h
theorem Qt{l:List UInt8}{r:Int}{n:Bool}{x y:Nat}(h:zw l r=some (n,x,y)):vC n (qj 10 x) (qj 10 y)=true:=by
 have key:∀neg b l,qT neg b l=some (n,x,y)->vC n (qj 10 x) (qj 10 y)=true:=by
  intro neg b l h;obtain⟨u,d,h⟩:=K3 h;exact QV h
 unfold zw at h
 split at h
 . unfold YM at h
   split at h
   . exact key _ _ _ h
   . split at h
     . exact key _ _ _ h
     . split at h
       . exact key _ _ _ h
       . exact key _ _ _ h
 . cases h
def zhN(o:Option (Bool×Nat×Nat)):Bool:=match o with|some (n,_,_)=>n|none=>false
def zgO(o:Option (Bool×Nat×Nat)):List UInt8:=match o with|some (_,u,_)=>qj 10 u|none=>[]
def zgN(o:Option (Bool×Nat×Nat)):List UInt8:=match o with|some (_,_,d)=>qj 10 d|none=>[]
theorem zfu(l:List UInt8)(r:Int):(zgO (zw l r)).length<=60/\(zgN (zw l r)).length<=60:=by
 cases h:zw l r with
 |none=>exact⟨by simp[zgO],by simp[zgN]⟩
 |some p=>
  obtain⟨n,x,y⟩:=p;have:=ju (Qt h);exact⟨this.2.2.1,this.2.2.2.1⟩
theorem zd6:zr 0=⟨#[48]⟩/\zr 1=⟨#[49]⟩/\zr 2=⟨#[50]⟩/\zr 10=⟨#[49,48]⟩/\zr 100=⟨#[49,48,48]⟩/\zr 999=⟨#[57,57,57]⟩/\zr 1000=⟨#[49,48,48,48]⟩:=by
 refine⟨rfl,rfl,rfl,rfl,rfl,rfl,rfl⟩
theorem Z3(g p n cap:Nat)(a:Option Addr)(w:World)(h:Rd w g p a n cap)(hp:p<=900000000):
  Calls Tryz.prog 95 #[.pointer (some ⟨g,0,none⟩)] w fun e w'=>(∃x,e=.returned (.string (zr x))/\(zr x).size<=60)/\Drawn w g p n cap a 100 w':=by
 unfold Drawn;have H:=zb h;clear h;go_enter Tryz.func95,Tryz.ntmps95;go_wp2_with fail;refine(xF g p n cap a 4 _ (za H) (by omega) (by omega)).mono ?_;rintro e w1⟨⟨i1,rfl,hi1⟩,hr1,hk1⟩;have hi1':i1<4:=by rcases hi1 with h|h<;>omega
 have HR1:=zb hr1;have HK1:=zb hk1;clear hr1 hk1 hi1;go_wp2_with fail;refine(xF g (p+1) n cap a 8 _ (za HR1) (by omega) (by omega)).mono ?_;rintro e w2⟨⟨i2,rfl,hi2⟩,hr2,hk2⟩;have HR2:=zb hr2;have HK2:=zb ((za HK1).trans hk2);clear hr2 hk2 hi2;by_cases h0:i2=0
 . subst h0
   go_wp2_with fail;refine(xF g (p+1+1) n cap a 30 _ (za HR2) (by omega) (by omega)).mono ?_;rintro e w2'⟨⟨i3,rfl,hi3⟩,hr3,hk3⟩;have hi3':i3<30:=by rcases hi3 with h|h<;>omega
   have HR3:=zb hr3;have HK3:=zb ((za HK2).trans hk3);clear hr3 hk3 hi3;go_wp2
   go_loopw [4,5] (fun vo vi wr=>∃(xs:List Nat)(p':Nat),vi=.int .i64 (xs.length:Int)/\vo=.string (B ((xs.map sg).reverse))/\Hid (∀d∈xs,d<10)/\(xs.length:Int)<=(1+(i3:Int))/\p'<=(p+1+1+1)+xs.length/\Rd wr g p' a n cap/\Keeps g w wr) (fun _ vi _=>((1+(i3:Int))-intOf vi).toNat)
   case atStart=>exact⟨[],(p+1+1+1),rfl,rfl,zb (by simp),by simp;omega,by simp,(za HR3),(za HK3)⟩
   case round=>
    obtain⟨xs,p',rfl,rfl,hd,hle,hp',hr',hk'⟩:=hrel;have HR':=zb hr';have HK':=zb hk';clear hr' hk';have hBx:=zj ((xs.map sg).reverse);simp only[wE,Ud]at hBx;by_cases hlt:(xs.length:Int)<(1+(i3:Int))
    . go_wp2_with fail
      refine(xF g p' n cap a 10 _ (za HR') (by omega) (by omega)).mono ?_;rintro e w3⟨⟨d,rfl,hd10⟩,hr3,hk3⟩;have hd9:d<10:=by rcases hd10 with h|h<;>omega
      have HR3:=zb hr3;have HK3:=zb hk3;clear hr3 hk3 hd10;go_wp2_with fail;refine(yR d (by omega) _).mono ?_;rintro e w4⟨rfl,hb4⟩;have hds:(zr d).size=1:=by unfold zr jB;rw[yr 10 (by omega) d hd9,zj];rfl
      have happ:Hid (B ((xs.map sg).reverse)++zr d=B (((d::xs).map sg).reverse)):=by
       show _=_;unfold zr jB;rw[yr 10 (by omega) d hd9,qf];simp
      go_wp2;go_roundw
      case rel=>exact⟨d::xs,p'+1,by simp,by rw[za happ],zb (by intro x hx;rcases uX.1 hx with rfl|hx;exact hd9;exact za hd x hx),by simp;omega,by simp;omega,(za HR3).keep hb4,((za HK').trans (za HK3)).trans (Keeps.of_below hb4)⟩
      case measure=>simp[intOf];omega
    . have hne:xs≠[]:=by intro h;subst h;simp at hlt;omega
      have htr:=kj xs (za hd) hne;have hlen:(xs.map sg).reverse.length<=60:=by simp;omega
      have htl:=kM ((xs.map sg).reverse);rw[htr]at htl;have Htr:=zb htr;clear htr;go_wp2_with fail;refine(xY ((xs.map sg).reverse) _ (by omega)).mono ?_;rintro e w3⟨rfl,rfl⟩;go_wp2;go_ret;exact⟨⟨zG 10 xs,qm (by rw[za Htr];rfl),by rw[zJ];omega⟩,⟨p',by omega,za HR'⟩,za HK'⟩
 . by_cases h1:i2=1
   . subst h1
     go_wp2_with fail;refine(xF g (p+1+1) n cap a 3 _ (za HR2) (by omega) (by omega)).mono ?_;rintro e w2'⟨⟨i3,rfl,hi3⟩,hr3,hk3⟩;have hi3':i3<3:=by rcases hi3 with h|h<;>omega
     have HR3:=zb hr3;have HK3:=zb ((za HK2).trans hk3);clear hr3 hk3 hi3;go_wp2
     go_loopw [4,5] (fun vo vi wr=>∃(xs:List Nat)(p':Nat),vi=.int .i64 (xs.length:Int)/\vo=.string (B ((xs.map sg).reverse))/\Hid (∀d∈xs,d<10)/\(xs.length:Int)<=(60-(i3:Int))/\p'<=(p+1+1+1)+xs.length/\Rd wr g p' a n cap/\Keeps g w wr) (fun _ vi _=>((60-(i3:Int))-intOf vi).toNat)
     case atStart=>exact⟨[],(p+1+1+1),rfl,rfl,zb (by simp),by simp;omega,by simp,(za HR3),(za HK3)⟩
     case round=>
      obtain⟨xs,p',rfl,rfl,hd,hle,hp',hr',hk'⟩:=hrel;have HR':=zb hr';have HK':=zb hk';clear hr' hk';have hBx:=zj ((xs.map sg).reverse);simp only[wE,Ud]at hBx;by_cases hlt:(xs.length:Int)<(60-(i3:Int))
      . go_wp2_with fail
        refine(xF g p' n cap a 10 _ (za HR') (by omega) (by omega)).mono ?_;rintro e w3⟨⟨d,rfl,hd10⟩,hr3,hk3⟩;have hd9:d<10:=by rcases hd10 with h|h<;>omega
        have HR3:=zb hr3;have HK3:=zb hk3;clear hr3 hk3 hd10;go_wp2_with fail;refine(yR d (by omega) _).mono ?_;rintro e w4⟨rfl,hb4⟩;have hds:(zr d).size=1:=by unfold zr jB;rw[yr 10 (by omega) d hd9,zj];rfl
        have happ:Hid (B ((xs.map sg).reverse)++zr d=B (((d::xs).map sg).reverse)):=by
         show _=_;unfold zr jB;rw[yr 10 (by omega) d hd9,qf];simp
        go_wp2;go_roundw
        case rel=>exact⟨d::xs,p'+1,by simp,by rw[za happ],zb (by intro x hx;rcases uX.1 hx with rfl|hx;exact hd9;exact za hd x hx),by simp;omega,by simp;omega,(za HR3).keep hb4,((za HK').trans (za HK3)).trans (Keeps.of_below hb4)⟩
        case measure=>simp[intOf];omega
      . have hne:xs≠[]:=by intro h;subst h;simp at hlt;omega
        have htr:=kj xs (za hd) hne;have hlen:(xs.map sg).reverse.length<=60:=by simp;omega
        have htl:=kM ((xs.map sg).reverse);rw[htr]at htl;have Htr:=zb htr;clear htr;go_wp2_with fail;refine(xY ((xs.map sg).reverse) _ (by omega)).mono ?_;rintro e w3⟨rfl,rfl⟩;go_wp2;go_ret;exact⟨⟨zG 10 xs,qm (by rw[za Htr];rfl),by rw[zJ];omega⟩,⟨p',by omega,za HR'⟩,za HK'⟩
   . have z0:((i2:Int)==0)=false:=by rw[ug];omega
     have z1:((i2:Int)==1)=false:=by rw[ug];omega
     by_cases h2:i2=2
     . subst h2
       have hr2:=(za HR2)
       have hlt:=hr2.lt;go_wp2_with fail;refine(zhD g (p+1+1) n cap w2.heap.size a #[.string ⟨#[48]⟩,.string ⟨#[49]⟩,.string ⟨#[50]⟩,.string ⟨#[49,48]⟩,.string ⟨#[49,48,48]⟩,.string ⟨#[57,57,57]⟩,.string ⟨#[49,48,48,48]⟩] 7 _ (hr2.keep ((ue _ _).alloc (ud _) _)) (by omega) rfl (by omega) (by omega) (by show(w2.heap.push _)[w2.heap.size]? =_;rw[WG,uj rfl]) (by omega)).mono ?_;rintro e w3⟨⟨v,rfl,hv⟩,⟨p3,hp3,hr3⟩,hk3⟩;have hx:∃x,v=.string (zr x)/\(zr x).size<=60:=by
        obtain⟨d0,d1,d2,d3,d4,d5,d6⟩:=zd6;simp at hv;rcases hv with rfl|rfl|rfl|rfl|rfl|rfl|rfl
        . exact⟨0,by rw[d0],by rw[d0];decide⟩
        . exact⟨1,by rw[d1],by rw[d1];decide⟩
        . exact⟨2,by rw[d2],by rw[d2];decide⟩
        . exact⟨10,by rw[d3],by rw[d3];decide⟩
        . exact⟨100,by rw[d4],by rw[d4];decide⟩
        . exact⟨999,by rw[d5],by rw[d5];decide⟩
        . exact⟨1000,by rw[d6],by rw[d6];decide⟩
       obtain⟨x,rfl,hx60⟩:=hx;have HR3:=zb hr3;have HK3:=zb ((za HK2).trans ((Keeps.refl _ _).alloc _ |>.trans hk3));clear hr3 hk3 hr2 hv;go_wp2;go_ret;exact⟨⟨x,rfl,hx60⟩,⟨p3,by omega,za HR3⟩,za HK3⟩
     . have z2:((i2:Int)==2)=false:=by rw[ug];omega
       go_wp2
       go_loopw [4,5] (fun vo vi wr=>∃(xs:List Nat)(p':Nat),vi=.int .i64 (xs.length:Int)/\vo=.string (B ((xs.map sg).reverse))/\Hid (∀d∈xs,d<10)/\(xs.length:Int)<=(1+(i1:Int))/\p'<=(p+1+1)+xs.length/\Rd wr g p' a n cap/\Keeps g w wr) (fun _ vi _=>((1+(i1:Int))-intOf vi).toNat)
       case atStart=>exact⟨[],(p+1+1),rfl,rfl,zb (by simp),by simp;omega,by simp,(za HR2),(za HK2)⟩
       case round=>
        obtain⟨xs,p',rfl,rfl,hd,hle,hp',hr',hk'⟩:=hrel;have HR':=zb hr';have HK':=zb hk';clear hr' hk';have hBx:=zj ((xs.map sg).reverse);simp only[wE,Ud]at hBx;by_cases hlt:(xs.length:Int)<(1+(i1:Int))
        . go_wp2_with fail
          refine(xF g p' n cap a 10 _ (za HR') (by omega) (by omega)).mono ?_;rintro e w3⟨⟨d,rfl,hd10⟩,hr3,hk3⟩;have hd9:d<10:=by rcases hd10 with h|h<;>omega
          have HR3:=zb hr3;have HK3:=zb hk3;clear hr3 hk3 hd10;go_wp2_with fail;refine(yR d (by omega) _).mono ?_;rintro e w4⟨rfl,hb4⟩;have hds:(zr d).size=1:=by unfold zr jB;rw[yr 10 (by omega) d hd9,zj];rfl
          have happ:Hid (B ((xs.map sg).reverse)++zr d=B (((d::xs).map sg).reverse)):=by
           show _=_;unfold zr jB;rw[yr 10 (by omega) d hd9,qf];simp
          go_wp2;go_roundw
          case rel=>exact⟨d::xs,p'+1,by simp,by rw[za happ],zb (by intro x hx;rcases uX.1 hx with rfl|hx;exact hd9;exact za hd x hx),by simp;omega,by simp;omega,(za HR3).keep hb4,((za HK').trans (za HK3)).trans (Keeps.of_below hb4)⟩
          case measure=>simp[intOf];omega
        . have hne:xs≠[]:=by intro h;subst h;simp at hlt;omega
          have htr:=kj xs (za hd) hne;have hlen:(xs.map sg).reverse.length<=60:=by simp;omega
          have htl:=kM ((xs.map sg).reverse);rw[htr]at htl;have Htr:=zb htr;clear htr;go_wp2_with fail;refine(xY ((xs.map sg).reverse) _ (by omega)).mono ?_;rintro e w3⟨rfl,rfl⟩;go_wp2;go_ret;exact⟨⟨zG 10 xs,qm (by rw[za Htr];rfl),by rw[zJ];omega⟩,⟨p',by omega,za HR'⟩,za HK'⟩
theorem zbV(g p n cap:Nat)(a:Option Addr)(w:World)(h:Rd w g p a n cap)(hp:p<=800000000):
  Calls Tryz.prog 58 #[.pointer (some ⟨g,0,none⟩)] w fun e w'=>(∃neg x y,e=.returned (zH neg (zr x) (zr y))/\(zr x).size<=60/\(zr y).size<=60)/\Drawn w g p n cap a 300 w':=by
 have hlt:=h.lt;have Hlt:=zb hlt;have HR:=zb (h.alloc (.cells #[.bool false,.string ⟨#[]⟩,.string ⟨#[]⟩] 79));clear h;go_enter Tryz.func58,Tryz.ntmps58;go_wp2_with fail;refine(qk g p n cap a 2 _ (za HR) (by omega) (by omega)).mono ?_;rintro e w1⟨⟨i,rfl,hi⟩,⟨p1,hp1,hr1⟩,hk1⟩;have HR1:=zb hr1;have HK1:=zb hk1;clear hr1 hk1 hi;by_cases hi0:i=0
 . have z0:((i:Int)==0)=true:=by rw[Um];omega
   have HK:=zb hi0;clear hi0;go_wp2_with fail;have h:=Z3 g p1 n cap a w1 (za HR1) (by omega);refine h.mono ?_;clear h;rintro e w2⟨⟨d,rfl,hd60⟩,⟨p2,hp2,hr2⟩,hk2⟩;have HR2:=zb hr2;have HK2:=zb ((za HK1).trans hk2);clear hr2 hk2;go_wp2_with fail;refine(qk g p2 n cap a 2 _ (za HR2) (by omega) (by omega)).mono ?_;rintro e w3⟨⟨j,rfl,hj⟩,⟨p3,hp3,hr3⟩,hk3⟩;have HR3:=zb hr3;have HK3:=zb (((za HK2)).trans hk3);clear hr3 hk3 hj;go_wp2_with fail;have h:=Z3 g p3 n cap a w3 (za HR3) (by omega);refine h.mono ?_;clear h;rintro e w4⟨⟨u,rfl,hu60⟩,⟨p4,hp4,hr4⟩,hk4⟩;have HR4:=zb hr4;have HK4:=zb ((za HK3).trans hk4);clear hr4 hk4;go_wp2_with fail;have h:=jt ((j:Int)==0) u d w4 (by omega) (by omega);refine h.mono ?_;clear h;rintro e w5⟨rfl,hb5⟩;have hr5:=(za HR4).keep hb5;have hk5:=(za HK4).trans (Keeps.of_below hb5);have hA:=(At3.new w (.bool false) (.string ⟨#[]⟩) (.string ⟨#[]⟩)).keeps hk5 (by omega);have hsz:=hA.lt;have c0:=hA.c0;have c1:=hA.c1;have c2:=hA.c2;have f:=hA.f;have Hfin:Hid (Drawn w g p n cap a 300 w5):=⟨⟨p4,by omega,hr5⟩,((Keeps.refl g w).alloc _).trans hk5⟩
   clear hr5 hk5 hA HR3 HK3 HR4 HK4 HR1 HK1 HR2 HK2 HR HK;have hne:w5.heap.size≠w.heap.size:=by omega
   cases hl:zB ((j:Int)==0) u d with
   |none=>
    unfold zg qe qF zH;go_wp2;refine um (v:=.agg #[.bool false,.string ⟨#[55]⟩,.string ⟨#[49]⟩]) (by simp[results,Tryz.results58,go_sem,c0,c1,c2,hsz]) rfl ⟨⟨false,7,1,rfl,by decide,by decide⟩,?_⟩;exact(za Hfin).more (za Hlt) ((zv (ue _ _) w.heap.size (by omega) _ _ _).alloc (by simp;omega) _)
   |some r=>
    obtain⟨nn,x,y⟩:=r;have hok:=ju (QV hl);have hx60:(zr x).size<=60:=by rw[zJ];exact hok.2.2.1
    have hy60:(zr y).size<=60:=by rw[zJ];exact hok.2.2.2.1
    clear hok;unfold zg qe zH;go_wp2;refine um (v:=zH nn (zr x) (zr y)) (by simp[results,Tryz.results58,go_sem,zH,c0,c1,c2,hsz]) rfl ⟨⟨nn,x,y,rfl,hx60,hy60⟩,?_⟩;exact(za Hfin).more (za Hlt) ((zv (ue _ _) w.heap.size (by omega) _ _ _).alloc (by simp;omega) _)
 . have z0:((i:Int)==0)=false:=by rw[ug];omega
   have HK:=zb hi0;have HR2:=HK;have HK2:=HK;clear hi0;have hd60:(zr 1).size<=60:=by decide
   rw[show(Value.string ⟨#[49]⟩)=.string (zr 1)from rfl];go_wp2_with fail;refine(qk g p1 n cap a 2 _ (za HR1) (by omega) (by omega)).mono ?_;rintro e w3⟨⟨j,rfl,hj⟩,⟨p3,hp3,hr3⟩,hk3⟩;have HR3:=zb hr3;have HK3:=zb (((za HK1)).trans hk3);clear hr3 hk3 hj;go_wp2_with fail;have h:=Z3 g p3 n cap a w3 (za HR3) (by omega);refine h.mono ?_;clear h;rintro e w4⟨⟨u,rfl,hu60⟩,⟨p4,hp4,hr4⟩,hk4⟩;have HR4:=zb hr4;have HK4:=zb ((za HK3).trans hk4);clear hr4 hk4;go_wp2_with fail;have h:=jt ((j:Int)==0) u 1 w4 (by omega) (by omega);refine h.mono ?_;clear h;rintro e w5⟨rfl,hb5⟩;have hr5:=(za HR4).keep hb5;have hk5:=(za HK4).trans (Keeps.of_below hb5);have hA:=(At3.new w (.bool false) (.string ⟨#[]⟩) (.string ⟨#[]⟩)).keeps hk5 (by omega);have hsz:=hA.lt;have c0:=hA.c0;have c1:=hA.c1;have c2:=hA.c2;have f:=hA.f;have Hfin:Hid (Drawn w g p n cap a 300 w5):=⟨⟨p4,by omega,hr5⟩,((Keeps.refl g w).alloc _).trans hk5⟩
   clear hr5 hk5 hA HR3 HK3 HR4 HK4 HR1 HK1 HR2 HK2 HR HK;have hne:w5.heap.size≠w.heap.size:=by omega
   cases hl:zB ((j:Int)==0) u 1 with
   |none=>
    unfold zg qe qF zH;go_wp2;refine um (v:=.agg #[.bool false,.string ⟨#[55]⟩,.string ⟨#[49]⟩]) (by simp[results,Tryz.results58,go_sem,c0,c1,c2,hsz]) rfl ⟨⟨false,7,1,rfl,by decide,by decide⟩,?_⟩;exact(za Hfin).more (za Hlt) ((zv (ue _ _) w.heap.size (by omega) _ _ _).alloc (by simp;omega) _)
   |some r=>
    obtain⟨nn,x,y⟩:=r;have hok:=ju (QV hl);have hx60:(zr x).size<=60:=by rw[zJ];exact hok.2.2.1
    have hy60:(zr y).size<=60:=by rw[zJ];exact hok.2.2.2.1
    clear hok;unfold zg qe zH;go_wp2;refine um (v:=zH nn (zr x) (zr y)) (by simp[results,Tryz.results58,go_sem,zH,c0,c1,c2,hsz]) rfl ⟨⟨nn,x,y,rfl,hx60,hy60⟩,?_⟩;exact(za Hfin).more (za Hlt) ((zv (ue _ _) w.heap.size (by omega) _ _ _).alloc (by simp;omega) _)
theorem zb0(neg:Bool)(u d:List UInt8)(r:Int):(qo neg u d r).length<=482:=by
 unfold qo
 split
 . rename_i h
   simp only[ux]at h;obtain⟨b,rfl,hb4⟩:=yx h.2;obtain⟨h3,h4,hu,hd,_⟩:=ju h.1;have e1:=xh (b:=b) (n:=zC u) (by omega) (by rw[zJ,<-qR h3];exact hu);have e2:=xh (b:=b) (n:=zC d) (by omega) (by rw[zJ,<-qR h4];exact hd);unfold jB at e1 e2;rw[zj]at e1;rw[zj]at e2;unfold prM;rw[UI];cases neg<;>by_cases h1:zC d=1<;>simp[h1]<;>omega
 . simp
theorem zg8{l:List Value}{v:Value}{M:Nat}(h:l.all (isS M)=true)(hv:v∈l):∃s,v=.string s/\s.size<=M:=zfL (uI.1 h v hv)
theorem Vq(g p n cap:Nat)(a:Option Addr)(cs:Array Value)(L M:Nat)(w:World)(h:Rd w g p a n cap)(hp:p<=1000000000)(hL:L=cs.size)(hL0:0<L)(hL9:L<=1000000)(hM:cs.toList.all (isS M)=true):
  Calls Tryz.prog 119 #[.pointer (some ⟨g,0,none⟩),.slice (some ⟨w.heap.size,0,none⟩) L L] (w.alloc (.cells cs 9)) fun e w'=>(∃s,e=.returned (.string s)/\s.size<=M)/\Drawn w g p n cap a 1 w':=by
 have hlt:=h.lt;refine(zhD g p n cap w.heap.size a cs L _ (h.alloc _) hp hL hL0 hL9 (Un w _) (by omega)).mono ?_;rintro e w'⟨⟨v,rfl,hv⟩,hd⟩;obtain⟨s,rfl,hs⟩:=zg8 hM hv;exact⟨⟨s,rfl,hs⟩,hd.made⟩
theorem zc0(g p n cap:Nat)(a:Option Addr)(w:World)(h:Rd w g p a n cap)(hp:p<=900000000):
  Calls Tryz.prog 151 #[.pointer (some ⟨g,0,none⟩)] w fun e w'=>(∃s,e=.returned (.string s)/\s.size<=10)/\Drawn w g p n cap a 1 w':=by
 have hlt:=h.lt;have HR:=zb h;clear h;go_enter Tryz.func151,Tryz.ntmps151;go_wp2_with fail;refine(Vq g p n cap a _ _ 10 w (za HR) (by omega) (by rfl) (by omega) (by omega) (by rfl)).mono ?_;rintro e w1⟨⟨s,rfl,hs⟩,hd⟩;have HD:=zb hd;clear hd;go_wp2_with fail;go_ret;exact⟨⟨s,rfl,hs⟩,za HD⟩
theorem zcZ(g p n cap:Nat)(a:Option Addr)(m:Int)(w:World)(h:Rd w g p a n cap)(hp:p<=700000000)(hm:m<=1000000):
  Calls Tryz.prog 118 #[.pointer (some ⟨g,0,none⟩),.int .i64 m] w fun e w'=>(∃x s kv k,e=.returned (.agg #[.int .i64 x,.string s,kv])/\s.size<=1000/\k<=4/\SI w' w.heap.size kv k)/\Drawn w g p n cap a 500 w':=by
 have hlt:=h.lt;have Hlt:=zb hlt;have HR:=zb (h.alloc (.cells #[.int .i64 0,.string ⟨#[]⟩,.slice none 0 0] 56));have HA:=zb (AtC3.new w (.int .i64 0) (.string ⟨#[]⟩) (.slice none 0 0) 56);clear h;go_enter Tryz.func118,Tryz.ntmps118;go_wp2_with fail;refine(qk g p n cap a 12 _ (za HR) (by omega) (by omega)).mono ?_;rintro e w1⟨⟨i,rfl,hi⟩,⟨p1,hp1,hr1⟩,hk1⟩;have HR1:=zb hr1;have HK1:=zb hk1;clear hr1 hk1;have hi12:i<12:=by rcases hi with h|h<;>omega
 clear hi;have hcs:i=0\/i=1\/i=2\/i=3\/i=4\/i=5\/i=6\/i=7\/i=8\/9<=i:=by omega
 rcases hcs with rfl|rfl|rfl|rfl|rfl|rfl|rfl|rfl|rfl|h9
 . go_wp2_with fail
   have h:=zbV g p1 n cap a w1 (za HR1) (by omega);refine h.mono ?_;clear h;rintro e w2⟨⟨neg,x,y,rfl,hx,hy⟩,⟨p2,hp2,hr2⟩,hk2⟩;have HR2:=zb hr2;have HK2:=zb ((za HK1).trans hk2);clear hr2 hk2;go_wp2_with fail;have h:=kh neg (qj 10 x) (qj 10 y) 10 w2 (by rw[<-zJ];omega) (by rw[<-zJ];omega);refine h.mono ?_;clear h;rintro e w3⟨rfl,hb3⟩;have HR3:=zb ((za HR2).keep hb3);have HK3:=zb ((za HK2).trans (Keeps.of_below hb3));have hl:=zb0 neg (qj 10 x) (qj 10 y) 10;rw[<-zj]at hl;obtain⟨t,ht⟩:∃t,B (qo neg (qj 10 x) (qj 10 y) 10)=t:=⟨_,rfl⟩
   rw[ht]at hl⊢;clear hb3 ht;have hA:=(za HA).keeps (za HK3) (by omega);have c0:=hA.n0;have c1:=hA.n1;have c2:=hA.n2;have f:=hA.f;have hZ:=hA.put3 (.int .i64 1) (.string t) (.slice none 0 0);have z0:=hZ.n0;have z1:=hZ.n1;have z2:=hZ.n2;have HSI:=zb (SI.put3 (jq w3 w.heap.size) hA (by decide) (.int .i64 1) (.string t) (.slice none 0 0));have HZ:=zb (And.intro z0 (And.intro z1 z2));have hD:Drawn w g p n cap a 500 w3:=⟨⟨p2,by omega,(za HR3)⟩,((Keeps.refl g w).alloc _).trans (za HK3)⟩
   have HD:=zb (hD.more (za Hlt) (((((ue w.heap.size w3).setCell (p:=⟨w.heap.size,0,none⟩) (ud _) (.int .i64 1)).setCell (p:=⟨w.heap.size,1,none⟩) (ud _) (.string t)).setCell (p:=⟨w.heap.size,2,none⟩) (ud _) (.slice none 0 0))));clear z0 z1 z2 hZ hD hA;go_wp2_with fail;have hz:=za HZ;refine um (v:=.agg #[.int .i64 1,.string t,(.slice none 0 0)]) (by simp[results,wX,go_sem,hz]) rfl ⟨⟨1,t,(.slice none 0 0),0,rfl,by omega,by omega,za HSI⟩,za HD⟩
 .
  go_wp2_with fail;refine(Vq g p1 n cap a #[.string ⟨#[97]⟩,.string ⟨#[98]⟩,.string ⟨#[102,111,111]⟩,.string ⟨#[43]⟩,.string ⟨#[46,46,46]⟩,.string ⟨#[97,46,98]⟩,.string ⟨#[115,101,116,33]⟩,.string ⟨#[206,187]⟩,.string ⟨#[113,117,111,116,101]⟩,.string ⟨#[45,120]⟩,.string ⟨#[45,62,121]⟩] 11 10 w1 (za HR1) (by omega) (by rfl) (by omega) (by omega) (by rfl)).mono ?_;rintro e w2⟨⟨s,rfl,hs⟩,⟨p2,hp2,hr2⟩,hk2⟩;have HR2:=zb hr2;have HK2:=zb ((za HK1).trans hk2);clear hr2 hk2;have hA:=(za HA).keeps (za HK2) (by omega);have c0:=hA.n0;have c1:=hA.n1;have c2:=hA.n2;have f:=hA.f;have hZ:=hA.put3 (.int .i64 2) (.string s) (.slice none 0 0);have z0:=hZ.n0;have z1:=hZ.n1;have z2:=hZ.n2;have HSI:=zb (SI.put3 (jq w2 w.heap.size) hA (by decide) (.int .i64 2) (.string s) (.slice none 0 0));have HZ:=zb (And.intro z0 (And.intro z1 z2));have hD:Drawn w g p n cap a 500 w2:=⟨⟨p2,by omega,(za HR2)⟩,((Keeps.refl g w).alloc _).trans (za HK2)⟩
  have HD:=zb (hD.more (za Hlt) (((((ue w.heap.size w2).setCell (p:=⟨w.heap.size,0,none⟩) (ud _) (.int .i64 2)).setCell (p:=⟨w.heap.size,1,none⟩) (ud _) (.string s)).setCell (p:=⟨w.heap.size,2,none⟩) (ud _) (.slice none 0 0))));clear z0 z1 z2 hZ hD hA;go_wp2_with fail;have hz:=za HZ;refine um (v:=.agg #[.int .i64 2,.string s,(.slice none 0 0)]) (by simp[results,wX,go_sem,hz]) rfl ⟨⟨2,s,(.slice none 0 0),0,rfl,by omega,by omega,za HSI⟩,za HD⟩
 .
  go_wp2_with fail;refine(Vq g p1 n cap a #[.string ⟨#[97]⟩,.string ⟨#[98]⟩,.string ⟨#[102,111,111]⟩,.string ⟨#[43]⟩,.string ⟨#[46,46,46]⟩,.string ⟨#[97,46,98]⟩,.string ⟨#[115,101,116,33]⟩,.string ⟨#[206,187]⟩,.string ⟨#[113,117,111,116,101]⟩,.string ⟨#[45,120]⟩,.string ⟨#[45,62,121]⟩] 11 10 w1 (za HR1) (by omega) (by rfl) (by omega) (by omega) (by rfl)).mono ?_;rintro e w2⟨⟨s,rfl,hs⟩,⟨p2,hp2,hr2⟩,hk2⟩;have HR2:=zb hr2;have HK2:=zb ((za HK1).trans hk2);clear hr2 hk2;have hA:=(za HA).keeps (za HK2) (by omega);have c0:=hA.n0;have c1:=hA.n1;have c2:=hA.n2;have f:=hA.f;have hZ:=hA.put3 (.int .i64 2) (.string s) (.slice none 0 0);have z0:=hZ.n0;have z1:=hZ.n1;have z2:=hZ.n2;have HSI:=zb (SI.put3 (jq w2 w.heap.size) hA (by decide) (.int .i64 2) (.string s) (.slice none 0 0));have HZ:=zb (And.intro z0 (And.intro z1 z2));have hD:Drawn w g p n cap a 500 w2:=⟨⟨p2,by omega,(za HR2)⟩,((Keeps.refl g w).alloc _).trans (za HK2)⟩
  have HD:=zb (hD.more (za Hlt) (((((ue w.heap.size w2).setCell (p:=⟨w.heap.size,0,none⟩) (ud _) (.int .i64 2)).setCell (p:=⟨w.heap.size,1,none⟩) (ud _) (.string s)).setCell (p:=⟨w.heap.size,2,none⟩) (ud _) (.slice none 0 0))));clear z0 z1 z2 hZ hD hA;go_wp2_with fail;have hz:=za HZ;refine um (v:=.agg #[.int .i64 2,.string s,(.slice none 0 0)]) (by simp[results,wX,go_sem,hz]) rfl ⟨⟨2,s,(.slice none 0 0),0,rfl,by omega,by omega,za HSI⟩,za HD⟩
 . go_wp2_with fail
   have h:=zc0 g p1 n cap a w1 (za HR1) (by omega);refine h.mono ?_;clear h;rintro e w2⟨⟨s,rfl,hs⟩,⟨p2,hp2,hr2⟩,hk2⟩;have HR2:=zb hr2;have HK2:=zb ((za HK1).trans hk2);clear hr2 hk2;have hA:=(za HA).keeps (za HK2) (by omega);have c0:=hA.n0;have c1:=hA.n1;have c2:=hA.n2;have f:=hA.f;have hZ:=hA.put3 (.int .i64 3) (.string s) (.slice none 0 0);have z0:=hZ.n0;have z1:=hZ.n1;have z2:=hZ.n2;have HSI:=zb (SI.put3 (jq w2 w.heap.size) hA (by decide) (.int .i64 3) (.string s) (.slice none 0 0));have HZ:=zb (And.intro z0 (And.intro z1 z2));have hD:Drawn w g p n cap a 500 w2:=⟨⟨p2,by omega,(za HR2)⟩,((Keeps.refl g w).alloc _).trans (za HK2)⟩
   have HD:=zb (hD.more (za Hlt) (((((ue w.heap.size w2).setCell (p:=⟨w.heap.size,0,none⟩) (ud _) (.int .i64 3)).setCell (p:=⟨w.heap.size,1,none⟩) (ud _) (.string s)).setCell (p:=⟨w.heap.size,2,none⟩) (ud _) (.slice none 0 0))));clear z0 z1 z2 hZ hD hA;go_wp2_with fail;have hz:=za HZ;refine um (v:=.agg #[.int .i64 3,.string s,(.slice none 0 0)]) (by simp[results,wX,go_sem,hz]) rfl ⟨⟨3,s,(.slice none 0 0),0,rfl,by omega,by omega,za HSI⟩,za HD⟩
 .
  go_wp2_with fail;refine(Vq g p1 n cap a #[.string ⟨#[97]⟩,.string ⟨#[32]⟩,.string ⟨#[10]⟩,.string ⟨#[40]⟩,.string ⟨#[41]⟩,.string ⟨#[59]⟩,.string ⟨#[34]⟩,.string ⟨#[39]⟩,.string ⟨#[120]⟩,.string ⟨#[195,169]⟩,.string ⟨#[0]⟩,.string ⟨#[127]⟩,.string ⟨#[35]⟩,.string ⟨#[92]⟩,.string ⟨#[124]⟩] 15 10 w1 (za HR1) (by omega) (by rfl) (by omega) (by omega) (by rfl)).mono ?_;rintro e w2⟨⟨s,rfl,hs⟩,⟨p2,hp2,hr2⟩,hk2⟩;have HR2:=zb hr2;have HK2:=zb ((za HK1).trans hk2);clear hr2 hk2;have hA:=(za HA).keeps (za HK2) (by omega);have c0:=hA.n0;have c1:=hA.n1;have c2:=hA.n2;have f:=hA.f;have hZ:=hA.put3 (.int .i64 4) (.string s) (.slice none 0 0);have z0:=hZ.n0;have z1:=hZ.n1;have z2:=hZ.n2;have HSI:=zb (SI.put3 (jq w2 w.heap.size) hA (by decide) (.int .i64 4) (.string s) (.slice none 0 0));have HZ:=zb (And.intro z0 (And.intro z1 z2));have hD:Drawn w g p n cap a 500 w2:=⟨⟨p2,by omega,(za HR2)⟩,((Keeps.refl g w).alloc _).trans (za HK2)⟩
  have HD:=zb (hD.more (za Hlt) (((((ue w.heap.size w2).setCell (p:=⟨w.heap.size,0,none⟩) (ud _) (.int .i64 4)).setCell (p:=⟨w.heap.size,1,none⟩) (ud _) (.string s)).setCell (p:=⟨w.heap.size,2,none⟩) (ud _) (.slice none 0 0))));clear z0 z1 z2 hZ hD hA;go_wp2_with fail;have hz:=za HZ;refine um (v:=.agg #[.int .i64 4,.string s,(.slice none 0 0)]) (by simp[results,wX,go_sem,hz]) rfl ⟨⟨4,s,(.slice none 0 0),0,rfl,by omega,by omega,za HSI⟩,za HD⟩
 .
  go_wp2_with fail;refine(Vq g p1 n cap a #[.string ⟨#[116]⟩,.string ⟨#[102]⟩] 2 10 w1 (za HR1) (by omega) (by rfl) (by omega) (by omega) (by rfl)).mono ?_;rintro e w2⟨⟨s,rfl,hs⟩,⟨p2,hp2,hr2⟩,hk2⟩;have HR2:=zb hr2;have HK2:=zb ((za HK1).trans hk2);clear hr2 hk2;have hA:=(za HA).keeps (za HK2) (by omega);have c0:=hA.n0;have c1:=hA.n1;have c2:=hA.n2;have f:=hA.f;have hZ:=hA.put3 (.int .i64 5) (.string s) (.slice none 0 0);have z0:=hZ.n0;have z1:=hZ.n1;have z2:=hZ.n2;have HSI:=zb (SI.put3 (jq w2 w.heap.size) hA (by decide) (.int .i64 5) (.string s) (.slice none 0 0));have HZ:=zb (And.intro z0 (And.intro z1 z2));have hD:Drawn w g p n cap a 500 w2:=⟨⟨p2,by omega,(za HR2)⟩,((Keeps.refl g w).alloc _).trans (za HK2)⟩
  have HD:=zb (hD.more (za Hlt) (((((ue w.heap.size w2).setCell (p:=⟨w.heap.size,0,none⟩) (ud _) (.int .i64 5)).setCell (p:=⟨w.heap.size,1,none⟩) (ud _) (.string s)).setCell (p:=⟨w.heap.size,2,none⟩) (ud _) (.slice none 0 0))));clear z0 z1 z2 hZ hD hA;go_wp2_with fail;have hz:=za HZ;refine um (v:=.agg #[.int .i64 5,.string s,(.slice none 0 0)]) (by simp[results,wX,go_sem,hz]) rfl ⟨⟨5,s,(.slice none 0 0),0,rfl,by omega,by omega,za HSI⟩,za HD⟩
 .
  go_wp2_with fail;refine(Vq g p1 n cap a #[.string ⟨#[]⟩,.string ⟨#[0]⟩,.string ⟨#[97,98]⟩,.string ⟨#[255,254]⟩] 4 10 w1 (za HR1) (by omega) (by rfl) (by omega) (by omega) (by rfl)).mono ?_;rintro e w2⟨⟨s,rfl,hs⟩,⟨p2,hp2,hr2⟩,hk2⟩;have HR2:=zb hr2;have HK2:=zb ((za HK1).trans hk2);clear hr2 hk2;have hA:=(za HA).keeps (za HK2) (by omega);have c0:=hA.n0;have c1:=hA.n1;have c2:=hA.n2;have f:=hA.f;have hZ:=hA.put3 (.int .i64 9) (.string s) (.slice none 0 0);have z0:=hZ.n0;have z1:=hZ.n1;have z2:=hZ.n2;have HSI:=zb (SI.put3 (jq w2 w.heap.size) hA (by decide) (.int .i64 9) (.string s) (.slice none 0 0));have HZ:=zb (And.intro z0 (And.intro z1 z2));have hD:Drawn w g p n cap a 500 w2:=⟨⟨p2,by omega,(za HR2)⟩,((Keeps.refl g w).alloc _).trans (za HK2)⟩
  have HD:=zb (hD.more (za Hlt) (((((ue w.heap.size w2).setCell (p:=⟨w.heap.size,0,none⟩) (ud _) (.int .i64 9)).setCell (p:=⟨w.heap.size,1,none⟩) (ud _) (.string s)).setCell (p:=⟨w.heap.size,2,none⟩) (ud _) (.slice none 0 0))));clear z0 z1 z2 hZ hD hA;go_wp2_with fail;have hz:=za HZ;refine um (v:=.agg #[.int .i64 9,.string s,(.slice none 0 0)]) (by simp[results,wX,go_sem,hz]) rfl ⟨⟨9,s,(.slice none 0 0),0,rfl,by omega,by omega,za HSI⟩,za HD⟩
 . go_wp2_with fail
   have hA1:=AtC3.new w1 (.int .i64 8) (.string ⟨#[]⟩) (.slice none 0 0) 56;refine(qk g p1 n cap a 4 _ ((za HR1).alloc _) (by omega) (by omega)).mono ?_;rintro e w2⟨⟨k0,rfl,hk0⟩,⟨p2,hp2,hr2⟩,hk2⟩;have hk4:k0<4:=by rcases hk0 with h|h<;>omega
   have hs1:w.heap.size+1<=w1.heap.size:=by have:=(za HK1).size;simpa using this
   have HR2:=zb hr2;have HK2:=zb (((za HK1).alloc _).trans hk2);have HA2:=zb (hA1.keeps hk2 (by omega));have HGB:Hid (g<w1.heap.size):=zb (by omega);have HB1:Hid (w.heap.size+1<=w1.heap.size):=zb hs1;clear hr2 hk2 hk0 hA1 hs1;go_wp2_with fail;obtain⟨B1,hB1⟩:∃B,w1.heap.size=B:=⟨_,rfl⟩
   rw[hB1]at HA2 HGB HB1⊢;clear hB1
   go_loopw [6] (fun v wr=>∃(k j p':Nat)(kv:Value),v=.int .i64 k/\j+k<=4/\p'<=p2+j/\AtC3 wr B1 (.int .i64 8) (.string ⟨#[]⟩) kv 56/\SI wr B1 kv j/\B1<wr.heap.size/\Rd wr g p' a n cap/\Keeps g (w.alloc (.cells #[.int .i64 0,.string ⟨#[]⟩,.slice none 0 0] 56)) wr) (fun v _=>(intOf v).toNat)
   case atStart=>exact⟨k0,0,p2,_,rfl,by omega,by omega,za HA2,jq _ _,(za HA2).lt,za HR2,za HK2⟩
   case round=>
    obtain⟨k,j,p',kv,rfl,hjk,hp',hA,hS,hlt',hR,hK⟩:=hrel;have HAr:=zb hA;have HSr:=zb hS;have HRr:=zb hR;have HKr:=zb hK;have HLr:=zb hlt';clear hA hR hK hlt';obtain⟨ka,kc,rfl,_,_⟩:=hS.form;clear hS;by_cases hk:0<k
    . have a2:=(za HAr).n2
      go_wp2_with fail
      go_region_law (first|((refine jr (by rfl) _ _ (by rfl) 1000 B1 (.slice ka j kc) j w5.heap.size (x:Int) (by rfl) (by rfl) (za HS5) (by with_reducible exact q5) (by omega) (za HL5) (some 60) (by rfl) ?_;intro g6 c6 w6 hs6 hg6;have HS6:=zb hs6;have HG6:=zb hg6;have f2:=((za HA5).gr hg6 (by decide)).n2;have f3:=((za HA5).gr hg6 (by decide)).f;clear hs6 hg6))|(go_simp;go_at_call 27;refine(qk g p' n cap a m wr.drew (by exact(za HRr).drew) (by omega) (by omega)).mono ?_;rintro e w5⟨⟨x,rfl,_⟩,⟨p5,hp5,hr5⟩,hk5⟩;have hk5:=(Keeps.refl g wr).drew.trans hk5;have HR5:=zb (hr5.alloc (.cells #[.int .i64 (x:Int)] 3));have HK5:=zb (((za HKr).trans hk5).alloc (.cells #[.int .i64 (x:Int)] 3));have HA5:=zb (((za HAr).keeps hk5 (by have:=za HGB;omega)).below (zf (ue _ _) (.cells #[.int .i64 (x:Int)] 3)));have HS5:=zb (((za HSr).ty (Ty.keeps (K:=1000) hk5 (za HGB))).ty (Ty.below (K:=1000) (zf (ue w5.heap.size w5) (.cells #[.int .i64 (x:Int)] 3))));have HL5:Hid (B1<=(w5.alloc (.cells #[.int .i64 (x:Int)] 3)).heap.size):=zb (by have h1:=hk5.size;have h2:=za HLr;rw[uk];omega);have e2:=((za HAr).keeps hk5 (by have:=za HGB;omega)).n2;have e3:=(za HA5).n2;have q5:(w5.alloc (.cells #[.int .i64 (x:Int)] 3)).cell? ⟨w5.heap.size,0,none⟩=some (.int .i64 (x:Int)):=World.news_of_block (Un w5 (.cells #[.int .i64 (x:Int)] 3)) 0 _ rfl;clear hr5 hk5;(try dsimp only)))
      .
       have hZ:=((za HA5).gr (za HG6) (by decide)).put2 (.slice (some ⟨g6,0,none⟩) (j+1) c6);have hl6:B1<(w6.setCell ⟨B1,2,none⟩ (.slice (some ⟨g6,0,none⟩) (j+1) c6)).heap.size:=hZ.lt;have HS7:=zb ((za HS6).oth (i:=2) ((za HA5).gr (za HG6) (by decide)) (by decide) (.slice (some ⟨g6,0,none⟩) (j+1) c6));have HB7:Hid (Below B1 (w5.alloc (.cells #[.int .i64 (x:Int)] 3)) (w6.setCell ⟨B1,2,none⟩ (.slice (some ⟨g6,0,none⟩) (j+1) c6))):=zb ((za HG6).low.setCell (p:=⟨B1,2,none⟩) (ud _) _);have HR7:=zb ((za HR5).below ((za HB7).mono (by have:=za HGB;omega)));have HK7:=zb ((za HK5).more ((za HB7).mono (by rw[uk];exact za HB1)));have HZ:=zb hZ;have HL7:=zb hl6;clear hZ hl6 f2 f3 e2 e3 a2;go_wp2_with fail;go_roundw
       case rel=>exact⟨k-1,j+1,p5,_,by go_num,by omega,by omega,za HZ,za HS7,za HL7,za HR7,za HK7⟩
       case measure=>simp[intOf];omega
      .
       have hZ:=((za HA5).gr (za HG6) (by decide)).put2 (.slice (some ⟨g6,0,none⟩) (j+1) c6);have hl6:B1<(w6.setCell ⟨B1,2,none⟩ (.slice (some ⟨g6,0,none⟩) (j+1) c6)).heap.size:=hZ.lt;have HS7:=zb ((za HS6).oth (i:=2) ((za HA5).gr (za HG6) (by decide)) (by decide) (.slice (some ⟨g6,0,none⟩) (j+1) c6));have HB7:Hid (Below B1 (w5.alloc (.cells #[.int .i64 (x:Int)] 3)) (w6.setCell ⟨B1,2,none⟩ (.slice (some ⟨g6,0,none⟩) (j+1) c6))):=zb ((za HG6).low.setCell (p:=⟨B1,2,none⟩) (ud _) _);have HR7:=zb ((za HR5).below ((za HB7).mono (by have:=za HGB;omega)));have HK7:=zb ((za HK5).more ((za HB7).mono (by rw[uk];exact za HB1)));have HZ:=zb hZ;have HL7:=zb hl6;clear hZ hl6 f2 f3 e2 e3 a2;go_wp2_with fail;go_roundw
       case rel=>exact⟨k-1,j+1,p5,_,by go_num,by omega,by omega,za HZ,za HS7,za HL7,za HR7,za HK7⟩
       case measure=>simp[intOf];omega
      .
       have hZ:=((za HA5).gr (za HG6) (by decide)).put2 (.slice (some ⟨g6,0,none⟩) (j+1) c6);have hl6:B1<(w6.setCell ⟨B1,2,none⟩ (.slice (some ⟨g6,0,none⟩) (j+1) c6)).heap.size:=hZ.lt;have HS7:=zb ((za HS6).oth (i:=2) ((za HA5).gr (za HG6) (by decide)) (by decide) (.slice (some ⟨g6,0,none⟩) (j+1) c6));have HB7:Hid (Below B1 (w5.alloc (.cells #[.int .i64 (x:Int)] 3)) (w6.setCell ⟨B1,2,none⟩ (.slice (some ⟨g6,0,none⟩) (j+1) c6))):=zb ((za HG6).low.setCell (p:=⟨B1,2,none⟩) (ud _) _);have HR7:=zb ((za HR5).below ((za HB7).mono (by have:=za HGB;omega)));have HK7:=zb ((za HK5).more ((za HB7).mono (by rw[uk];exact za HB1)));have HZ:=zb hZ;have HL7:=zb hl6;clear hZ hl6 f2 f3 e2 e3 a2;go_wp2_with fail;go_roundw
       case rel=>exact⟨k-1,j+1,p5,_,by go_num,by omega,by omega,za HZ,za HS7,za HL7,za HR7,za HK7⟩
       case measure=>simp[intOf];omega
    . obtain rfl:k=0:=by omega
      have a0:=(za HAr).n0;have a1:=(za HAr).n1;have a2:=(za HAr).n2;have HSw:Hid (SI wr w.heap.size (.slice ka j kc) j):=zb ((za HSr).base (by have:=za HB1;omega));have hA:=(za HA).keeps (za HKr) (by omega);have c0:=hA.n0;have c1:=hA.n1;have c2:=hA.n2;have f:=hA.f;have hZ:=hA.put3 (.int .i64 8) (.string ⟨#[]⟩) (.slice ka j kc);have z0:=hZ.n0;have z1:=hZ.n1;have z2:=hZ.n2;have HSI:=zb (SI.put3 (za HSw) hA (by decide) (.int .i64 8) (.string ⟨#[]⟩) (.slice ka j kc));have HZ:=zb (And.intro z0 (And.intro z1 z2));have hD:Drawn w g p n cap a 500 wr:=⟨⟨p',by omega,(za HRr)⟩,((Keeps.refl g w).alloc _).trans (za HKr)⟩
      have HD:=zb (hD.more (za Hlt) (((((ue w.heap.size wr).setCell (p:=⟨w.heap.size,0,none⟩) (ud _) (.int .i64 8)).setCell (p:=⟨w.heap.size,1,none⟩) (ud _) (.string ⟨#[]⟩)).setCell (p:=⟨w.heap.size,2,none⟩) (ud _) (.slice ka j kc))));clear z0 z1 z2 hZ hD hA;go_wp2_with fail;have hz:=za HZ;refine um (v:=.agg #[.int .i64 8,.string ⟨#[]⟩,(.slice ka j kc)]) (by simp[results,wX,go_sem,hz]) rfl ⟨⟨8,⟨#[]⟩,(.slice ka j kc),j,rfl,by decide,by omega,za HSI⟩,za HD⟩
 .
  have hA:=(za HA).keeps (za HK1) (by omega);have c0:=hA.n0;have c1:=hA.n1;have c2:=hA.n2;have f:=hA.f;have hZ:=hA.put3 (.int .i64 6) (.string ⟨#[]⟩) (.slice none 0 0);have z0:=hZ.n0;have z1:=hZ.n1;have z2:=hZ.n2;have HSI:=zb (SI.put3 (jq w1 w.heap.size) hA (by decide) (.int .i64 6) (.string ⟨#[]⟩) (.slice none 0 0));have HZ:=zb (And.intro z0 (And.intro z1 z2));have hD:Drawn w g p n cap a 500 w1:=⟨⟨p1,by omega,(za HR1)⟩,((Keeps.refl g w).alloc _).trans (za HK1)⟩
  have HD:=zb (hD.more (za Hlt) (((((ue w.heap.size w1).setCell (p:=⟨w.heap.size,0,none⟩) (ud _) (.int .i64 6)).setCell (p:=⟨w.heap.size,1,none⟩) (ud _) (.string ⟨#[]⟩)).setCell (p:=⟨w.heap.size,2,none⟩) (ud _) (.slice none 0 0))));clear z0 z1 z2 hZ hD hA;go_wp2_with fail;have hz:=za HZ;refine um (v:=.agg #[.int .i64 6,.string ⟨#[]⟩,(.slice none 0 0)]) (by simp[results,wX,go_sem,hz]) rfl ⟨⟨6,⟨#[]⟩,(.slice none 0 0),0,rfl,by decide,by omega,za HSI⟩,za HD⟩
 . have e0:((i:Int)==0)=false:=by rw[ug];omega
   have e1:((i:Int)==1)=false:=by rw[ug];omega
   have e2:((i:Int)==2)=false:=by rw[ug];omega
   have e3:((i:Int)==3)=false:=by rw[ug];omega
   have e4:((i:Int)==4)=false:=by rw[ug];omega
   have e5:((i:Int)==5)=false:=by rw[ug];omega
   have e6:((i:Int)==6)=false:=by rw[ug];omega
   have e7:((i:Int)==7)=false:=by rw[ug];omega
   have e8:((i:Int)==8)=false:=by rw[ug];omega
   go_wp2_with fail;refine(qk g p1 n cap a m _ (za HR1) (by omega) (by omega)).mono ?_;rintro e w2⟨⟨k1,rfl,_⟩,⟨p2,hp2,hr2⟩,hk2⟩;have HR2:=zb hr2;have HK2:=zb ((za HK1).trans hk2);clear hr2 hk2;go_wp2_with fail;refine(qk g p2 n cap a m _ (za HR2) (by omega) (by omega)).mono ?_;rintro e w3⟨⟨k2,rfl,_⟩,⟨p3,hp3,hr3⟩,hk3⟩;have HR3:=zb (hr3.alloc (.cells #[.int .i64 (k1:Int),.int .i64 (k2:Int)] 3));have HK3:=zb (((za HK2).trans hk3).alloc (.cells #[.int .i64 (k1:Int),.int .i64 (k2:Int)] 3));have HS3:=zb (SI.base (ze3 w3 #[.int .i64 (k1:Int),.int .i64 (k2:Int)] 2 rfl (by decide) (by intro u hu;simp at hu;rcases hu with rfl|rfl<;>exact⟨_,rfl⟩)) (show w.heap.size<=w3.heap.size from uC (by simp) ((za HK2).trans hk3).size));clear hr3 hk3 e0 e1 e2 e3 e4 e5 e6 e7 e8;have hA:=(za HA).keeps (za HK3) (by omega);have c0:=hA.n0;have c1:=hA.n1;have c2:=hA.n2;have f:=hA.f;have hZ:=hA.put3 (.int .i64 7) (.string ⟨#[]⟩) (.slice (some ⟨w3.heap.size,0,none⟩) 2 2);have z0:=hZ.n0;have z1:=hZ.n1;have z2:=hZ.n2;have HSI:=zb (SI.put3 (za HS3) hA (by decide) (.int .i64 7) (.string ⟨#[]⟩) (.slice (some ⟨w3.heap.size,0,none⟩) 2 2));have HZ:=zb (And.intro z0 (And.intro z1 z2));have hD:Drawn w g p n cap a 500 (w3.alloc (.cells #[.int .i64 (k1:Int),.int .i64 (k2:Int)] 3)):=⟨⟨p3,by omega,(za HR3)⟩,((Keeps.refl g w).alloc _).trans (za HK3)⟩
   have HD:=zb (hD.more (za Hlt) (((((ue w.heap.size (w3.alloc (.cells #[.int .i64 (k1:Int),.int .i64 (k2:Int)] 3))).setCell (p:=⟨w.heap.size,0,none⟩) (ud _) (.int .i64 7)).setCell (p:=⟨w.heap.size,1,none⟩) (ud _) (.string ⟨#[]⟩)).setCell (p:=⟨w.heap.size,2,none⟩) (ud _) (.slice (some ⟨w3.heap.size,0,none⟩) 2 2))));clear z0 z1 z2 hZ hD hA;go_wp2_with fail;have hz:=za HZ;refine um (v:=.agg #[.int .i64 7,.string ⟨#[]⟩,(.slice (some ⟨w3.heap.size,0,none⟩) 2 2)]) (by simp[results,wX,go_sem,hz]) rfl ⟨⟨7,⟨#[]⟩,(.slice (some ⟨w3.heap.size,0,none⟩) 2 2),2,rfl,by decide,by omega,za HSI⟩,za HD⟩
end Go.Proofs.YtpbnmhnbkfnaeaaGreatDoor
namespace Go.Proofs.YtpbnmhnbkfnaeaaGreatDoor
open Go.RowKit Nt
structure DSt(K g B b:Nat)(W0:World)(nv rv:Value)(i m:Nat)(w:World):Prop where
 box:AtC2 w b nv rv 26
 nodes:SN K w B nv i
 roots:SI w B rv m
 keep:Keeps g W0 w
 low:W0.heap.size<=B/\W0.heap.size<=b/\g<B/\b≠g/\B<=w.heap.size
variable {K g B b i m:Nat} {W0 w w':World} {nv rv:Value}
theorem DSt.keeps(h:DSt K g B b W0 nv rv i m w)(k:Keeps g w w'):DSt K g B b W0 nv rv i m w':=
 have t:=Ty.keeps (K:=K) k h.low.2.2.1
 ⟨h.box.keeps k h.low.2.2.2.1,h.nodes.ty t,h.roots.ty t,h.keep.trans k,h.low.1,h.low.2.1,h.low.2.2.1,h.low.2.2.2.1,uC h.low.2.2.2.2 k.size⟩
theorem DSt.below(h:DSt K g B b W0 nv rv i m w)(k:Below w.heap.size w w'):DSt K g B b W0 nv rv i m w':=h.keeps (Keeps.of_below k)
theorem DSt.alloc(h:DSt K g B b W0 nv rv i m w)(o:Obj):DSt K g B b W0 nv rv i m (w.alloc o):=h.below (zf (ue _ _) o)
theorem DSt.setI{q c k j:Nat}{x:Int}(h:DSt K g B b W0 nv rv i m w)(hq:BI w q c k)(hB:B<=q):DSt K g B b W0 nv rv i m (w.setCell ⟨q,j,none⟩ (.int .i64 x)):=by
 have t:Ty K B w (w.setCell ⟨q,j,none⟩ (.int .i64 x)):=Ty.setI hq;refine⟨h.box.far (a:=⟨q,j,none⟩) (fun e=>?_) _,h.nodes.ty t,h.roots.ty t,h.keep.more ((ue _ _).setCell (uC h.low.1 hB) _),h.low.1,h.low.2.1,h.low.2.2.1,h.low.2.2.2.1,by rw[show(w.setCell ⟨q,j,none⟩ (.int .i64 x)).heap.size=w.heap.size from by simp[World.setCell]];exact h.low.2.2.2.2⟩;obtain⟨cs,k1,_⟩:=hq;have k2:=h.box;unfold AtC2 at k2;simp only at e;rw[e]at k1;rw[k1]at k2;simp only[US,WA]at k2;exact absurd k2.2.1 (by decide)
theorem vP(w:World)(a:Addr)(u:Value):(w.setCell a u).heap.size=w.heap.size:=by simp[World.setCell]
theorem DSt.setN{q c k j:Nat}{x:Value}(h:DSt K g B b W0 nv rv i m w)(hq:BN K w B q c k)(hB:B<=q)(hx:qN K w B (j%3) x):DSt K g B b W0 nv rv i m (w.setCell ⟨q,j,none⟩ x):=by
 have t:Ty K B w (w.setCell ⟨q,j,none⟩ x):=Ty.setN hq hx;refine⟨h.box.far (a:=⟨q,j,none⟩) (fun e=>?_) _,h.nodes.ty t,h.roots.ty t,h.keep.more ((ue _ _).setCell (uC h.low.1 hB) _),h.low.1,h.low.2.1,h.low.2.2.1,h.low.2.2.2.1,by rw[vP];exact h.low.2.2.2.2⟩;obtain⟨cs,k1,_⟩:=hq;have k2:=h.box;unfold AtC2 at k2;simp only at e;rw[e]at k1;rw[k1]at k2;simp only[US,WA]at k2;exact absurd k2.2.1 (by decide)
theorem DSt.appN{v':Value}{j:Nat}(h:DSt K g B b W0 nv rv i m w)(hg:yI 56 K B w w')(hv:SN K w' B v' j):DSt K g B b W0 v' rv j m (w'.setCell ⟨b,0,none⟩ v'):=by
 have hb':=h.box.gr hg (by decide);have t:Ty K B w' (w'.setCell ⟨b,0,none⟩ v'):=Ty.box hb' (by decide) (by decide) _;exact⟨hb'.st0 _,hv.ty t,(h.roots.ty hg.ty).ty t,(h.keep.more (hg.low.mono h.low.1)).more ((ue _ _).setCell h.low.2.1 _),h.low.1,h.low.2.1,h.low.2.2.1,h.low.2.2.2.1,by rw[vP];exact uC h.low.2.2.2.2 hg.low.size⟩
theorem DSt.appI{v':Value}{j:Nat}(h:DSt K g B b W0 nv rv i m w)(hg:yI 3 K B w w')(hv:SI w' B v' j):DSt K g B b W0 nv v' i j (w'.setCell ⟨b,1,none⟩ v'):=by
 have hb':=h.box.gr hg (by decide);have t:Ty K B w' (w'.setCell ⟨b,1,none⟩ v'):=Ty.box hb' (by decide) (by decide) _;exact⟨hb'.st1 _,(h.nodes.ty hg.ty).ty t,hv.ty t,(h.keep.more (hg.low.mono h.low.1)).more ((ue _ _).setCell h.low.2.1 _),h.low.1,h.low.2.1,h.low.2.2.1,h.low.2.2.2.1,by rw[vP];exact uC h.low.2.2.2.2 hg.low.size⟩
theorem DSt.grI(h:DSt K g B b W0 nv rv i m w)(hg:yI 3 K B w w'):DSt K g B b W0 nv rv i m w':=
 ⟨h.box.gr hg (by decide),h.nodes.ty hg.ty,h.roots.ty hg.ty,h.keep.more (hg.low.mono h.low.1),h.low.1,h.low.2.1,h.low.2.2.1,h.low.2.2.2.1,uC h.low.2.2.2.2 hg.low.size⟩
theorem Rd.from{p n cap:Nat}{a:Option Addr}(h:Rd w g p a n cap)(hg:g<B)(hb:Below B w w'):Rd w' g p a n cap:=h.below (hb.mono hg)
structure NSt(K B q:Nat)(x:Int)(s:ByteArray)(kv:Value)(kl:Nat)(w:World):Prop where
 box:AtC3 w q (.int .i64 x) (.string s) kv 56
 kids:SI w B kv kl
 small:s.size<=K/\kl<=K
 low:B<=q
variable {q kl:Nat} {x:Int} {s:ByteArray} {kv:Value}
theorem NSt.keeps(h:NSt K B q x s kv kl w)(k:Keeps g w w')(hg:g<B):NSt K B q x s kv kl w':=
 ⟨h.box.keeps k (by have:=h.low;omega),h.kids.ty (Ty.keeps (K:=K) k hg),h.small,h.low⟩
theorem NSt.bn(h:NSt K B q x s kv kl w):BN K w B q 1 1:=zdV w q x s kv kl h.small.1 h.small.2 h.box h.kids
theorem NSt.setI{c k j o:Nat}{y:Int}(h:NSt K B q x s kv kl w)(hq:BI w o c k):NSt K B q x s kv kl (w.setCell ⟨o,j,none⟩ (.int .i64 y)):=by
 have hne:q≠o:=Row.ne h.bn hq (by decide);refine⟨?_,h.kids.ty (Ty.setI (K:=K) (base:=B) hq),h.small,h.low⟩;have hb:=h.box;unfold AtC3 at hb⊢;rw[Uj _ _ _ _ hne];exact hb
theorem NSt.put{y:Int}{t:ByteArray}{lv:Value}{ll:Nat}(h:NSt K B q x s kv kl w)(ht:t.size<=K)(hl:ll<=K)(hv:SI w B lv ll):NSt K B q y t lv ll (((w.setCell ⟨q,0,none⟩ (.int .i64 y)).setCell ⟨q,1,none⟩ (.string t)).setCell ⟨q,2,none⟩ lv):=
 ⟨h.box.put3 _ _ _,hv.put3 h.box (by decide) _ _ _,⟨ht,hl⟩,h.low⟩
theorem DSt.put{y:Int}{t:ByteArray}{lv:Value}{ll:Nat}(h:DSt K g B b W0 nv rv i m w)(hx:NSt K B q x s kv kl w)(ht:t.size<=K)(hl:ll<=K)(hv:SI w B lv ll):DSt K g B b W0 nv rv i m (((w.setCell ⟨q,0,none⟩ (.int .i64 y)).setCell ⟨q,1,none⟩ (.string t)).setCell ⟨q,2,none⟩ lv):=by
 have h1:=h.setN hx.bn hx.low (j:=0) (x:=.int .i64 y) ⟨fun _=>⟨y,rfl⟩,fun e=>by simp at e,fun e=>by simp at e⟩;have b1:BN K (w.setCell ⟨q,0,none⟩ (.int .i64 y)) B q 1 1:=(Ty.setN (K:=K) (base:=B) hx.bn (i:=0) (x:=.int .i64 y) ⟨fun _=>⟨y,rfl⟩,fun e=>by simp at e,fun e=>by simp at e⟩).bn _ _ _ hx.low hx.bn;have h2:=h1.setN b1 hx.low (j:=1) (x:=.string t) ⟨fun e=>by simp at e,fun _=>⟨t,rfl,ht⟩,fun e=>by simp at e⟩;have b2:=(Ty.setN (K:=K) (base:=B) b1 (i:=1) (x:=.string t) ⟨fun e=>by simp at e,fun _=>⟨t,rfl,ht⟩,fun e=>by simp at e⟩).bn _ _ _ hx.low b1;have hv2:=(hv.oth (i:=0) hx.box (by decide) (.int .i64 y)).oth (i:=1) (kr (i:=0) hx.box (.int .i64 y)) (by decide) (.string t);exact h2.setN b2 hx.low (j:=2) ⟨fun e=>by simp at e,fun e=>by simp at e,fun _=>⟨ll,hl,hv2⟩⟩
end Go.Proofs.YtpbnmhnbkfnaeaaGreatDoor
