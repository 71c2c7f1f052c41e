/- A part of the proof, put together out of smaller texts. -/
import Derived.Test.YtpbnmhnbkfnaeaaGreatDoorM0
import Derived.Below
import Derived.WalkKit
import Derived.WalkSpells
import Derived.WalkLawsBesides
import Derived.Test.YtpbnmhnbkfnaeaaGreatDoorProg
import Derived.Deep.QuietTactic
import Derived.BigQuiet
import Derived.Deep.RegionHeld3
import Derived.Deep.AppendLies
import Derived.Deep.RegionWith
set_option linter.all false
set_option maxRecDepth 100000
set_option maxHeartbeats 32000000
namespace Go.Proofs.YtpbnmhnbkfnaeaaGreatDoor.Nt
def zG(b:Nat):List Nat->Nat
 | []=>0
 |d::r=>d+b*zG b r
def dgf(b:Nat):Nat->Nat->List Nat
 |0,_=>[]
 |f+1,n=>if n=0 then []else n%b::dgf b f (n/b)
def dg(b n:Nat):List Nat:=dgf b n n
theorem zaA{b:Nat}(hb:2<=b):∀(f g n:Nat),n<=f->n<=g->dgf b f n=dgf b g n:=by
 intro f
 induction f with
 |zero=>intro g n h1 h2;have:n=0:=by omega
        subst this;cases g<;>simp[dgf]
 |succ f ih=>
  intro g n h1 h2;cases g with
  |zero=>have:n=0:=by omega
         subst this;simp[dgf]
  |succ g=>
   simp only[dgf];by_cases h:n=0
   . simp[h]
   . have hlt:n/b<n:=WB (by omega) (by omega)
     simp only[h,if_false];rw[ih g (n/b) (by omega) (by omega)]
theorem jH(b:Nat):dg b 0=[]:=by simp[dg,dgf]
theorem yF{b n:Nat}(hb:2<=b)(hn:0<n):dg b n=n%b::dg b (n/b):=by
 unfold dg;cases n with
 |zero=>omega
 |succ m=>
  have hlt:(m+1)/b<m+1:=WB (by omega) (by omega);simp only[dgf];rw[ul (by omega),zaA hb m ((m+1)/b) ((m+1)/b) (by omega) (by omega)]
theorem Zf{b:Nat}(hb:2<=b):∀n,zG b (dg b n)=n:=by
 intro n
 induction n using Nat.strongRecOn with
 |_ n ih=>
  by_cases h:n=0
  . subst h;simp[jH,zG]
  . rw[yF hb (by omega),zG,ih _ (WB (by omega) (by omega))]
    exact Nat.mod_add_div n b
theorem Ym{b:Nat}(hb:2<=b):∀n,∀d∈dg b n,d<b:=by
 intro n
 induction n using Nat.strongRecOn with
 |_ n ih=>
  by_cases h:n=0
  . subst h;simp[jH]
  . rw[yF hb (by omega)]
    intro d hd;rcases uX.1 hd with rfl|hd
    . exact Ua _ (by omega)
    . exact ih _ (WB (by omega) (by omega)) d hd
def can(b:Nat)(l:List Nat):Prop:=(∀d∈l,d<b)/\(∀d,l.getLast?=some d->d≠0)
theorem Zh{b:Nat}(hb:2<=b):∀l,can b l->l≠[]->0<zG b l:=by
 intro l
 induction l with
 |nil=>intro _ h;exact absurd rfl h
 |cons d r ih=>
  intro hc _;simp only[zG];by_cases hr:r=[]
  . subst hr
    have:=hc.2 d (by simp);simp only[zG];omega
  . have hc':can b r:=⟨fun x hx=>hc.1 x (Uw _ hx),fun x hx=>hc.2 x (by rw[List.getLast?_cons];rw[hx];rfl)⟩
    have h1:=ih hc' hr;have h2:=Nat.mul_pos (show 0<b by omega) h1;omega
theorem zdW{b d:Nat}{r:List Nat}(h:can b (d::r)):can b r:=
 ⟨fun x hx=>h.1 x (Uw _ hx),fun x hx=>h.2 x (by rw[List.getLast?_cons];rw[hx];rfl)⟩
theorem zeb{b:Nat}(hb:2<=b):∀l,can b l->dg b (zG b l)=l:=by
 intro l
 induction l with
 |nil=>intro _;simp[zG,jH]
 |cons d r ih=>
  intro hc;have hp:=Zh hb (d::r) hc (by simp);have hd:d<b:=hc.1 d (by simp);rw[yF hb hp];simp only[zG];rw[Nat.add_mul_mod_self_left,Uu hd,Nat.add_mul_div_left _ _ (by omega),wY hd,Uz,ih (zdW hc)]
theorem zd9{b:Nat}(hb:2<=b):∀n,can b (dg b n):=by
 intro n;refine⟨Ym hb n,?_⟩
 induction n using Nat.strongRecOn with
 |_ n ih=>
  by_cases h:n=0
  . subst h;simp[jH]
  . rw[yF hb (by omega)]
    intro d hd;have hlt:n/b<n:=WB (by omega) (by omega);by_cases hr:dg b (n/b)=[]
    . rw[hr]at hd
      simp at hd;have hz:n/b=0:=by rw[<-Zf hb (n/b),hr];rfl
      rcases(Nat.div_eq_zero_iff).1 hz with h0|h0
      . omega
      . rw[<-hd,Uu h0];omega
    . rw[List.getLast?_cons]at hd
      have:(dg b (n/b)).getLast?=some d:=by
       cases hg:(dg b (n/b)).getLast? with
       |none=>exact absurd (List.getLast?_eq_none_iff.1 hg) hr
       |some y=>rw[hg]at hd;simpa using hd
      exact ih _ hlt d this
theorem vX(b:Nat)(l m:List Nat):zG b (l++m)=zG b l+b^l.length*zG b m:=by
 induction l with
 |nil=>simp[zG]
 |cons d r ih=>simp only[UD,zG,ih,Uv,uZ];rw[uS,<-Nat.add_assoc,uE (b^r.length) b,Ut]
theorem Zg{b:Nat}(l:List Nat)(h:∀d∈l,d<b):zG b l<b^l.length:=by
 induction l with
 |nil=>simp[zG]
 |cons d r ih=>
  have h1:=ih (fun x hx=>h x (Uw _ hx));have h2:=h d (by simp);simp only[zG,Uv,uZ];have h3:b*(zG b r+1)<=b*b^r.length:=UP _ h1;rw[uS]at h3;rw[uE (b^r.length) b];omega
theorem qD(b k:Nat):zG b (List.replicate k 0)=0:=by
 induction k with
 |zero=>rfl
 |succ k ih=>simp[List.replicate_succ,zG,ih]
def qQ:List Nat->List Nat
 | []=>[]
 |d::r=>match qQ r with
  | []=>if d=0 then []else [d]
  |x::y=>d::x::y
theorem zdd(b:Nat)(l:List Nat):zG b (qQ l)=zG b l:=by
 induction l with
 |nil=>rfl
 |cons d r ih=>
  simp only[qQ,zG];rw[<-ih];cases h:qQ r with
  |nil=>by_cases hd:d=0<;>simp[hd,zG]
  |cons x y=>simp[zG]
theorem zdw{l:List Nat}{d:Nat}(h:d∈qQ l):d∈l:=by
 induction l with
 |nil=>simp[qQ]at h
 |cons x r ih=>
  simp only[qQ]at h;cases hs:qQ r with
  |nil=>
   rw[hs]at h;by_cases hx:x=0
   . simp[hx]at h
   . simp[hx]at h;simp[h]
  |cons y z=>
   rw[hs]at h ih;rcases uX.1 h with h|h
   . simp[h]
   . exact Uw _ (ih h)
theorem zbA{l:List Nat}{d:Nat}(h:(qQ l).getLast?=some d):d≠0:=by
 induction l with
 |nil=>simp[qQ]at h
 |cons x r ih=>
  simp only[qQ]at h;cases hs:qQ r with
  |nil=>
   rw[hs]at h;by_cases hx:x=0
   . simp[hx]at h
   . simp[hx]at h;omega
  |cons y z=>
   rw[hs]at h ih;exact ih (by simpa[List.getLast?_cons]using h)
theorem zdv{b:Nat}{l:List Nat}(h:∀d∈l,d<b):can b (qQ l):=
 ⟨fun d hd=>h d (zdw hd),fun _ hd=>zbA hd⟩
theorem Jr{b:Nat}(hb:2<=b){l:List Nat}(h:∀d∈l,d<b):qQ l=dg b (zG b l):=by
 rw[<-zdd,zeb hb _ (zdv h)]
theorem xM(l:List Nat):qQ (l++[0])=qQ l:=by
 induction l with
 |nil=>simp[qQ]
 |cons d r ih=>simp only[UD,qQ,ih]
theorem ki(l:List Nat)(d:Nat)(hd:d≠0):qQ (l++[d])=l++[d]:=by
 induction l with
 |nil=>simp[qQ,hd]
 |cons x r ih=>
  simp only[UD,qQ,ih];cases h:r++[d]with
  |nil=>simp at h
  |cons _ _=>rfl
theorem Zx{b:Nat}(hb:2<=b){n:Nat}:dg b n=[]↔n=0:=by
 constructor
 . intro h;rw[<-Zf hb n,h];rfl
 . intro h;subst h;exact jH b
theorem vV{b:Nat}(hb:2<=b)(n:Nat):n<b^(dg b n).length:=by
 have:=Zg _ (Ym hb n);rwa[Zf hb]at this
theorem yO{b:Nat}(hb:2<=b){k:Nat}:∀ {n:Nat},n<b^k->(dg b n).length<=k:=by
 induction k with
 |zero=>intro n h;have:n=0:=by simpa using h
        subst this;simp[jH]
 |succ k ih=>
  intro n h;by_cases h0:n=0
  . subst h0;simp[jH]
  . rw[yF hb (by omega),Uv]
    have:n/b<b^k:=by
     rw[Nat.div_lt_iff_lt_mul (by omega)];rwa[uZ]at h
    have:=ih this;omega
theorem zea{b:Nat}(hb:2<=b):∀(k n:Nat),(dg b n).getD k 0=n/b^k%b:=by
 intro k
 induction k with
 |zero=>
  intro n;by_cases h0:n=0
  . subst h0;simp[jH]
  . rw[yF hb (by omega)];simp
 |succ k ih=>
  intro n;by_cases h0:n=0
  . subst h0;simp[jH]
  . rw[yF hb (by omega)]
    have:=ih (n/b);rw[List.getD_cons_succ,this,Nat.div_div_eq_div_mul,uZ,uE (b^k) b]
theorem jd(b n k:Nat):n%b^(k+1)=n%b^k+b^k*(n/b^k%b):=by
 rw[uZ,Nat.mod_mul]
theorem zad{a b k X l ak bk d l':Nat}(h:X+b%10^k=a%10^k+l*10^k)(ha:a/10^k%10=ak)(hb:b/10^k%10=bk)(hd:d+bk+l=ak+10*l'):
  X+10^k*d+b%10^(k+1)=a%10^(k+1)+l'*10^(k+1):=by
 rw[jd,jd,ha,hb,uZ];generalize 10^k=p at *;have e:p*d+p*bk+l*p=p*ak+l'*(p*10):=by
  have:=uB (p* ·) hd;simp only[uS]at this;rw[uE l p,this,uE l' (p*10),Ut]
 omega
theorem JU{a b k X c ak bk d c':Nat}(h:X+c*10^k=a%10^k+b%10^k)(ha:a/10^k%10=ak)(hb:b/10^k%10=bk)(hd:d+10*c'=ak+bk+c):
  X+10^k*d+c'*10^(k+1)=a%10^(k+1)+b%10^(k+1):=by
 rw[jd,jd,ha,hb,uZ];generalize 10^k=p at *;have e:p*d+c'*(p*10)=p*ak+p*bk+c*p:=by
  have:=uB (p* ·) hd;simp only[uS]at this;rw[uE c p,<-this,uE c' (p*10),Ut]
 omega
theorem ym(b:Nat)(l:List Nat)(j v:Nat)(h:j<l.length):zG b (l.set j v)+b^j*l[j]=zG b l+b^j*v:=by
 induction l generalizing j with
 |nil=>simp at h
 |cons d r ih=>
  cases j with
  |zero=>simp[zG];omega
  |succ j=>
   have:=ih j (by simpa using h);simp only[List.set_cons_succ,zG,List.getElem_cons_succ];have h2:=uB (b* ·) this;simp only[uS]at h2;rw[uZ,uE (b^j) b,Ut,Ut];omega
theorem za4(b:Nat)(l:List Nat)(j:Nat)(h:j<l.length):b^j*l[j]<=zG b l:=by
 have:=ym b l j 0 h;omega
theorem zeH{a b i k X ai bk x:Nat}(ha:a/10^i%10=ai)(hb:b/10^k%10=bk)(h:X=a%10^i*b+10^i*(ai*(b%10^k))){Y:Nat}(hY:Y+10^(i+k)*x=X+10^(i+k)*(x+ai*bk)):
  Y=a%10^i*b+10^i*(ai*(b%10^(k+1))):=by
 rw[jd,hb];have e:10^i*(ai*(b%10^k+10^k*bk))=10^i*(ai*(b%10^k))+10^(i+k)*(ai*bk):=by
  rw[uS,uS,da]
  congr 1
  simp only[Ut,uE,UT]
 rw[uS]at hY;subst ha;omega
theorem zf0{a b i ai:Nat}(ha:a/10^i%10=ai):a%10^i*b+10^i*(ai*b)=a%10^(i+1)*b:=by
 rw[jd,ha,wP,Ut]
theorem zav{X x y j Y Z:Nat}(hY:Y+10^(j+1)*y=X+10^(j+1)*(y+x/10))(hZ:Z+10^j*x=Y+10^j*(x%10)):Z=X:=by
 have e:10^j*x=10^j*(x%10)+10^(j+1)*(x/10):=by
  rw[uZ,Ut,<-uS];congr 1;omega
 rw[uS]at hY;omega
theorem qz(b:Nat)(l:List Nat)(d:Nat):zG b (l++[d])=zG b l+b^l.length*d:=by
 rw[vX];simp[zG]
end Go.Proofs.YtpbnmhnbkfnaeaaGreatDoor.Nt
namespace Go.Proofs.YtpbnmhnbkfnaeaaGreatDoor
open Go Nt
open Go.RowKit in
theorem zb{p:Prop}(h:p):Hid p:=h
open Go.RowKit in
theorem za{p:Prop}(h:Hid p):p:=h
def B(l:List UInt8):ByteArray:=⟨l.toArray⟩
theorem zj(l:List UInt8):(B l).size=l.length:=by simp[B,ByteArray.size]
theorem JS(l:List UInt8):(B l).data.toList=l:=by simp[B]
theorem j4(l:List UInt8)(k:Nat)(h:k<(B l).size):(B l)[k]=l[k]'(by rw[zj]at h;exact h):=by
 simp[B,Wj]
theorem qp(l:List UInt8)(i j:Nat):(B l).extract i j=B ((l.take j).drop i):=by
 apply ByteArray.ext;simp[B,ByteArray.data_extract,List.extract_toArray];simp[List.drop_take]
theorem qf(l m:List UInt8):B l++B m=B (l++m):=by
 apply ByteArray.ext;simp[B,ByteArray.data_append]
def sg(d:Nat):UInt8:=if d<10 then UInt8.ofNat (48+d)else UInt8.ofNat (87+d)
theorem jw{d:Nat}(h:d<16):(sg d).toNat=if d<10 then 48+d else 87+d:=by
 unfold sg;split
 . simp[dw];omega
 . simp[dw];omega
theorem zhf{c d:Nat}(hc:c<16)(hd:d<16)(h:sg c=sg d):c=d:=by
 have:=uB UInt8.toNat h;rw[jw hc,jw hd]at this
 split at this<;>split at this<;>omega
def qj(b n:Nat):List UInt8:=if n=0 then [48]else((dg b n).map sg).reverse
def jB(b n:Nat):ByteArray:=B (qj b n)
def zr(n:Nat):ByteArray:=jB 10 n
theorem qK(b:Nat):qj b 0=[48]:=by simp[qj]
theorem jZ{b n:Nat}(h:n≠0):qj b n=((dg b n).map sg).reverse:=by simp[qj,h]
theorem Zq{b:Nat}(hb:2<=b)(n:Nat):0<(qj b n).length:=by
 by_cases h:n=0
 . subst h;simp[qK]
 . rw[jZ h];simp only[wE,Ud]
   rw[yF hb (by omega)];simp
theorem Vl{b:Nat}(hb:2<=b)(n:Nat):n<b^(qj b n).length:=by
 by_cases h:n=0
 . subst h;simp only[qK,List.length_singleton,Nat.pow_one];omega
 . rw[jZ h];simp only[wE,Ud];exact vV hb n
theorem qW{b:Nat}(hb:2<=b){k n:Nat}(hk:0<k)(h:n<b^k):(qj b n).length<=k:=by
 by_cases h0:n=0
 . subst h0;simp only[qK,List.length_singleton];omega
 . rw[jZ h0];simp only[wE,Ud];exact yO hb h
theorem zck{b:Nat}(hb:2<=b)(hb16:b<=16){m n:Nat}(h:qj b m=qj b n):m=n:=by
 have key:∀m,zG b (((qj b m).reverse).map fun c=>if c.toNat<58 then c.toNat-48 else c.toNat-87)=m:=by
  intro m;by_cases h0:m=0
  . subst h0;simp[qK,zG]
  . rw[jZ h0,WD,List.map_map]
    have:(dg b m).map ((fun c:UInt8=>if c.toNat<58 then c.toNat-48 else c.toNat-87) ∘ sg)=(dg b m).map id:=by
     apply List.map_congr_left;intro d hd;have hd':=Ym hb m d hd;simp only[Function.comp];rw[jw (by omega)]
     split<;>simp<;>omega
    rw[this,List.map_id,Zf hb]
 rw[<-key m,h,key]
theorem jV(n:Nat):0<(zr n).size:=by
 unfold zr jB;rw[zj];exact Zq (by omega) n
theorem zaz(n k:Nat)(h:k<(qj 10 n).length):((qj 10 n).reverse)[k]'(by simpa using h)=sg (n/10^k%10):=by
 by_cases h0:n=0
 . subst h0
   have:k=0:=by simp[qK]at h;omega
   subst this;simp[qK,sg]
 . have hl:k<(dg 10 n).length:=by rw[jZ h0]at h;simpa using h
   have e:(qj 10 n).reverse=(dg 10 n).map sg:=by rw[jZ h0,WD]
   have g:=zea (b:=10) (by omega) k n;rw[uq,uf hl]at g;simp only[e,WI];rw[<-g];rfl
theorem Yl(n k:Nat)(h:(qj 10 n).length<=k):n/10^k=0:=by
 apply wY;exact uJ (Vl (by omega) n) (UC (by omega) h)
def vS:List UInt8->List UInt8
 | []=>[]
 |c::r=>if c=48/\r≠[]then vS r else c::r
theorem kj(l:List Nat)(h:∀d∈l,d<10)(hl:l≠[]):vS ((l.map sg).reverse)=qj 10 (zG 10 l):=by
 have key:∀(n:Nat)(l:List Nat),l.length=n->(∀d∈l,d<10)->l≠[]->vS ((l.map sg).reverse)=qj 10 (zG 10 l):=by
  intro n
  induction n with
  |zero=>intro l hn _ hl;exact absurd (ur hn) hl
  |succ n ih=>
   intro l hn hd hl;have hdec:=List.dropLast_concat_getLast hl;generalize hm:l.dropLast=m at hdec;generalize hx:l.getLast hl=x at hdec;have hxl:x<10:=hd x (by rw[<-hdec];simp);have hml:m.length=n:=by rw[<-hdec]at hn;simpa using hn
   have hmd:∀d∈m,d<10:=fun d h=>hd d (by rw[<-hdec];simp[h])
   rw[<-hdec,UF,List.reverse_append];simp only[UU,di,List.reverse_cons,List.reverse_nil,UE,UD,vS];by_cases hx0:x=0
   . subst hx0
     rw[vX];simp only[zG,Nat.mul_zero,wC];by_cases hmn:m=[]
     . subst hmn;simp[zG,qK,sg]
     . rw[uj ⟨by simp[sg],by simpa using hmn⟩]
       exact ih m hml hmd hmn
   . have hs:sg x≠48:=by
      intro hc;have:=uB UInt8.toNat hc;rw[jw (by omega),uj hxl]at this;simp at this;omega
     rw[ul (fun hh=>hs hh.1)];have hcan:can 10 (m++[x]):=⟨fun d h=>hd d (by rw[<-hdec];exact h),fun d h=>by simp at h;omega⟩
     have hpos:=Zh (by omega) _ hcan (by simp);rw[jZ (by omega),zeb (by omega) _ hcan];simp
 exact key l.length l rfl h hl
theorem zai(n:Nat):vS (qj 10 n)=qj 10 n:=by
 by_cases h0:n=0
 . subst h0;simp[qK,vS]
 . have:=kj (dg 10 n) (Ym (by omega) n) (fun h=>h0 ((Zx (by omega)).1 h))
   rw[Zf (by omega)]at this;rwa[jZ h0]at this⊢
theorem kM(l:List UInt8):(vS l).length<=l.length:=by
 induction l with
 |nil=>simp[vS]
 |cons c r ih=>simp only[vS];split<;>simp<;>omega
theorem zdE(l:List UInt8)(k:Nat)(h:k+1<l.length)(hz:l[k]'(by omega)=48):vS (l.drop k)=vS (l.drop (k+1)):=by
 rw[Uk (by omega),hz];simp only[vS];rw[uj ⟨by trivial,by simp;omega⟩]
theorem YQ(l:List UInt8)(h:l.length<=1\/∃c r,l=c::r/\c≠48):vS l=l:=by
 rcases h with h|⟨c,r,rfl,hc⟩
 . match l,h with
   | [],_=>rfl
   | [c],_=>simp[vS]
 . simp[vS,hc]
end Go.Proofs.YtpbnmhnbkfnaeaaGreatDoor
namespace Go.Proofs.YtpbnmhnbkfnaeaaGreatDoor
open Go.RowKit Nt
theorem qm{a b:ByteArray}(h:a=b):Ending.returned (.string a)=.returned (.string b):=by rw[h]
theorem zK{k:IntKind}{a b:Int}(h:a=b):Ending.returned (.int k a)=.returned (.int k b):=by rw[h]
theorem zF{a b:Bool}(h:a=b):Ending.returned (.bool a)=.returned (.bool b):=by rw[h]
def ZM(c:UInt8):Value:=.int .u8 c.toNat
def ints(l:List Nat):List Value:=l.map fun(d:Nat)=>Value.int .i64 (d:Int)
theorem qX(x:Int)(h0: -9223372036854775808<=x)(h1:x<=9223372036854775807):IntKind.i64.wrap x=x:=by rw[IntKind.wrap_i64];omega
theorem wu8(x:Int)(h0:0<=x)(h1:x<=255):IntKind.u8.wrap x=x:=by rw[IntKind.wrap_u8];omega
theorem yN(x:Int)(h0:0<=x)(h1:x<=18446744073709551615):IntKind.u64.wrap x=x:=by rw[IntKind.wrap_u64];omega
theorem jx{n:Nat}{a w:World}(h:Below n a.drew w):Below n a w:=⟨h.os,h.tape,h.output,h.size,h.block⟩
theorem zu{w w':World}{base:Nat}{e:TypeId}{size:Nat}{v:Value}{n:Nat}{xs:List Value}(h:w.ownsRow base e size v n xs)(hb:Below w.heap.size w w'):
  w'.ownsRow base e size v n xs:=by
 refine⟨h.1,?_⟩;rcases h.2 with hn|⟨g,cap,cur,rfl,hbg,hgg,rest⟩
 . exact .inl hn
 . exact .inr ⟨g,cap,cur,rfl,hbg,by rw[hb.block g (uu.1 hgg).1];exact hgg,rest⟩
theorem zV{w:World}{base base':Nat}{e:TypeId}{size:Nat}{v:Value}{n:Nat}{xs:List Value}(h:w.ownsRow base e size v n xs)(hb:base'<=base):
  w.ownsRow base' e size v n xs:=by
 refine⟨h.1,?_⟩;rcases h.2 with hn|⟨g,cap,cur,rfl,hbg,rest⟩
 . exact .inl hn
 . exact .inr ⟨g,cap,cur,rfl,by omega,rest⟩
theorem qh{B:Nat}{w w':World}{v:Value}{e:TypeId}{size n:Nat}{xs:List Value}{a:World}(h:Below B a w)(own:w.ownsRow B e size v n xs)(hg:w.grownBy w' v.ownBlock)(hB:B<=w.heap.size):Below B a w':=
 h.grown hg hB (fun k hk=>(own.lt k hk).1)
theorem kV{b d:Nat}{xs:List Nat}(h:Hid (∀x∈xs,x<b))(hd:d<b):Hid (∀x∈xs++[d],x<b):=by
 intro x hx;rcases uA.1 hx with h1|h1
 . exact za h x h1
 . simp at h1;omega
theorem qV{P:Program}{w:World}{src dst e:TypeId}{base sz:Nat}{v:Value}{n:Nat}{l:List UInt8}
  (hs:P.underlying src=some (.slice e))(he:P.underlying e=some (.int .u8))(hd:P.underlying dst=some .string)
  (h:w.ownsRow base sz 1 v n (l.map ZM)):(convert src dst v).run P w=.ok (.string (B l)) w:=by
 have hl:l.length=n:=by simpa using h.1
 have fold:∀(ns:List UInt8)(s:ByteArray),(ns.map (fun c=>(c.toNat:Int))).foldl (fun r n=>r.push (UInt8.ofNat n.toNat)) s=s++B ns:=by
  intro ns
  induction ns with
  |nil=>intro s;apply ByteArray.ext;simp[B,ByteArray.data_append]
  |cons c r ih=>
   intro s;simp only[UU,List.foldl_cons,ih];apply ByteArray.ext;simp[B,ByteArray.data_append,ByteArray.data_push]
 have fold0:(l.map (fun c=>(c.toNat:Int))).foldl (fun r n=>r.push (UInt8.ofNat n.toNat)) ByteArray.empty=B l:=by
  rw[fold];apply ByteArray.ext;simp
 rcases h.2 with⟨rfl,hn⟩|⟨g,cap,cur,rfl,_,hg,hnc,_,hcs,htake⟩
 . have:l=[]:=ur (by omega)
   subst this;rw[run_convert_bytes_string w src dst e none 0 0 hs he hd];rfl
 . rw[run_convert_bytes_string w src dst e _ _ _ hs he hd]
   have hc:=h.cells (g:=g) rfl;have hload:=run_loadCells_list (P:=P) (w:=w) ⟨g,0,none⟩ (l.map ZM) hc;have e1:(l.map ZM)=(l.map (fun c=>(c.toNat:Int))).map (Value.int .u8):=by simp[ZM,Function.comp]
   rw[Ud,hl]at hload;rw[e1]at hload;have:=run_bytesToString (P:=P) w ⟨g,0,none⟩ n cap (l.map (fun c=>(c.toNat:Int))) hload;rw[this,fold0]
theorem qP{w:World}{base:Nat}{e:TypeId}{g n cap:Nat}{xs:List Value}(h:w.ownsRow base e 1 (.slice (some ⟨g,0,none⟩) n cap) n xs)(j:Nat)(hj:j<n):
  ∃v,w.cell? ⟨g,j,none⟩=some v:=by
 have hx:xs.length=n:=by simpa using h.1
 exact⟨xs[j],by rw[h.cellAt j (by omega)];exact uf (by omega)⟩
theorem KO{d:Nat}(h:d<10):ZM (sg d)=.int .u8 (48+(d:Int)):=by
 unfold ZM;rw[jw (by omega),uj h];simp
theorem kY(l:List Nat)(d:Nat):ints l++[.int .i64 (d:Int)]=ints (l++[d]):=by simp[ints]
abbrev Nd:=Int×List UInt8×List Int
abbrev Dt:=List Nd×List Int
def IntsAt(w:World)(v:Value)(xs:List Int):Prop:=
 ∃a cap,v=.slice a xs.length cap/\xs.length<=cap/\cap<=maxLen/\(0<xs.length->∃b off,a=some ⟨b,off,none⟩/\b<w.heap.size/\∀j x,xs[j]? =some x->w.cell? ⟨b,off+j,none⟩=some (.int .i64 x))
theorem IntsAt.below{w w':World}{v:Value}{xs:List Int}(h:IntsAt w v xs)(k:Below w.heap.size w w'):IntsAt w' v xs:=by
 obtain⟨a,cap,rfl,h1,h2,h3⟩:=h;refine⟨a,cap,rfl,h1,h2,fun h0=>?_⟩;obtain⟨b,off,rfl,hb,hc⟩:=h3 h0;exact⟨b,off,rfl,uJ hb k.size,fun j x hx=>by rw[k.cell (p:=⟨b,off+j,none⟩) hb];exact hc j x hx⟩
def NodesAt(w:World)(v:Value)(ns:List Nd):Prop:=
 ∃a cap,v=.slice a ns.length cap/\ns.length<=cap/\cap<=maxLen/\(0<ns.length->∃b off,a=some ⟨b,off,none⟩/\b<w.heap.size/\∀j nd,ns[j]? =some nd->
  w.cell? ⟨b,off+j*3,none⟩=some (.int .i64 nd.1)/\w.cell? ⟨b,off+j*3+1,none⟩=some (.string (B nd.2.1))/\nd.2.1.length<=maxLen/\∃kv,w.cell? ⟨b,off+j*3+2,none⟩=some kv/\IntsAt w kv nd.2.2)
theorem NodesAt.below{w w':World}{v:Value}{ns:List Nd}(h:NodesAt w v ns)(k:Below w.heap.size w w'):NodesAt w' v ns:=by
 obtain⟨a,cap,rfl,h1,h2,h3⟩:=h;refine⟨a,cap,rfl,h1,h2,fun h0=>?_⟩;obtain⟨b,off,rfl,hb,hc⟩:=h3 h0;refine⟨b,off,rfl,uJ hb k.size,fun j nd hx=>?_⟩;obtain⟨c0,c1,hl,kv,c2,hk⟩:=hc j nd hx;exact⟨by rw[k.cell (p:=⟨b,off+j*3,none⟩) hb];exact c0,by rw[k.cell (p:=⟨b,off+j*3+1,none⟩) hb];exact c1,hl,kv,by rw[k.cell (p:=⟨b,off+j*3+2,none⟩) hb];exact c2,hk.below k⟩
def DataAt(w:World)(v:Value)(d:Dt):Prop:=∃nv rv,v=.agg #[nv,rv]/\NodesAt w nv d.1/\IntsAt w rv d.2
theorem DataAt.below{w w':World}{v:Value}{d:Dt}(h:DataAt w v d)(k:Below w.heap.size w w'):DataAt w' v d:=by
 obtain⟨nv,rv,rfl,h1,h2⟩:=h;exact⟨nv,rv,rfl,h1.below k,h2.below k⟩
theorem ze{w w3:World}{cs:Array Value}{T:TypeId}(h:Below (w.heap.size+1) (w.alloc (.cells cs T)) w3)(j:Nat):w3.cell? ⟨w.heap.size,j,none⟩=cs[j]? :=by
 rw[h.cell (p:=⟨w.heap.size,j,none⟩) (Nat.lt_succ_self _)];exact World.cell?_alloc_at cs T _ j rfl
theorem zh{w w3:World}{cs:Array Value}{T:TypeId}(h:Below (w.heap.size+1) (w.alloc (.cells cs T)) w3)(j:Nat):w3.frozen? ⟨w.heap.size,j,none⟩=false:=by
 rw[h.frozen (p:=⟨w.heap.size,j,none⟩) (Nat.lt_succ_self _)];exact World.frozen?_alloc_at cs T _ j rfl
theorem zm{w w3:World}{o:Obj}(h:Below (w.heap.size+1) (w.alloc o) w3):Below w.heap.size w w3:=
 ((ue _ _).alloc (ud _) _).trans (h.mono (by omega))
theorem zn{w w1:World}{o:Obj}(h:Below (w.alloc o).heap.size (w.alloc o) w1):Below (w.heap.size+1) (w.alloc o) w1:=by simpa using h
theorem zk{B:Nat}{a b c:World}(h:Below B a b)(hB:B<=b.heap.size)(k:Below b.heap.size b c):Below B a c/\B<=c.heap.size:=
 ⟨h.trans (k.mono hB),uC hB k.size⟩
def zO(l:List Nat):List Value:=l.map fun(d:Nat)=>Value.int .u64 (d:Int)
theorem qi(l:List Nat):(zO l).length=l.length:=by simp[zO]
theorem zz(l:List Nat)(j:Nat)(h:j<l.length):(zO l)[j]? =some (.int .u64 (l[j]:Nat)):=by simp[zO,h]
theorem jU(l:List Nat)(j d:Nat)(v:Int)(h:v=(d:Int)):(zO l).set j (.int .u64 v)=zO (l.set j d):=by rw[h];simp[zO,List.map_set]
theorem jC(n:Nat):List.replicate n (Value.int .u64 0)=zO (List.replicate n 0):=by simp[zO]
theorem Vy{w:World}{base:Nat}{e:TypeId}{g n cap:Nat}{xs:List Value}(h:w.ownsRow base e 1 (.slice (some ⟨g,0,none⟩) n cap) n xs)(k:Nat)(hk:k<=n):
  w.ownsRow base e 1 (.slice (some ⟨g,0,none⟩) k cap) k (xs.take k):=by
 have hx:xs.length=n:=by simpa using h.1
 refine⟨by simp;omega,?_⟩;rcases h.2 with⟨h',_⟩|⟨g',cap',cur,h',hb,hg,hnc,hcm,hcs,htake⟩
 . simp at h'
 . simp only[wm,US,Addr.mk.injEq,and_true,WJ]at h'
   obtain⟨rfl,rfl⟩:=h';refine .inr ⟨g,cap,cur,rfl,hb,hg,by omega,hcm,hcs,?_⟩;rw[<-htake,List.take_take];simp;omega
theorem vY{w:World}{base:Nat}{e:TypeId}{v:Value}{n:Nat}{xs:List Value}(h:w.ownsRow base e 1 v n xs):
  (v=.slice none 0 0/\n=0/\xs=[])\/∃g cap,v=.slice (some ⟨g,0,none⟩) n cap/\n<=cap/\base<=g/\g<w.heap.size:=by
 rcases h.2 with⟨rfl,hn⟩|⟨g,cap,cur,rfl,hb,hg,hnc,_⟩
 . left
   exact⟨rfl,hn,ur (by have:=h.1;omega)⟩
 . right
   exact⟨g,cap,rfl,hnc,hb,(uu.1 hg).1⟩
theorem zq{w:World}{base:Nat}{e:TypeId}{v:Value}{n:Nat}{xs:List Value}(h:w.ownsRow base e 1 v n xs):∃p cap,v=.slice p n cap:=by
 rcases vY h with⟨rfl,rfl,_⟩|⟨g,cap,rfl,_⟩
 . exact⟨_,_,rfl⟩
 . exact⟨_,_,rfl⟩
theorem zY{w:World}{base:Nat}{e:TypeId}{v:Value}{n:Nat}{xs:List Value}(h:w.ownsRow base e 1 v n xs)(hn:0<n):
  ∃g cap,v=.slice (some ⟨g,0,none⟩) n cap/\n<=cap/\base<=g/\g<w.heap.size:=by
 rcases vY h with⟨_,rfl,_⟩|hh
 . omega
 . exact hh
theorem jp{p:Nat->Prop}{l:List Nat}{j v:Nat}(h:∀d∈l,p d)(hv:p v):∀d∈l.set j v,p d:=by
 intro d hd;rcases List.mem_or_eq_of_mem_set hd with h1|h1
 . exact h d h1
 . rw[h1];exact hv
theorem ke{w:World}{base e g n:Nat}{xs:List Value}(h:w.ownsRow base e 1 (.slice (some ⟨g,0,none⟩) n n) n xs):w.heap[g]? =some (.cells xs.toArray e (0,0)):=by
 rcases h.2 with⟨h',_⟩|⟨g',cap',cur,h',hb,hg,hnc,hcm,hcs,htake⟩
 . simp at h'
 . simp only[wm,US,Addr.mk.injEq,and_true,WJ]at h'
   obtain⟨rfl,rfl⟩:=h';rw[hg];have:cur.toList=xs:=by
    rw[<-htake,uz];rw[WF,hcs];exact ud _
   rw[<-this]
theorem vM{w:World}{base e g n:Nat}{xs:List Value}(h:w.heap[g]? =some (.cells xs.toArray e (0,0)))(hl:xs.length=n)(hn:n<=maxLen)(hb:base<=g):
  w.ownsRow base e 1 (.slice (some ⟨g,0,none⟩) n n) n xs:=by
 refine⟨by omega,.inr ⟨g,n,xs.toArray,rfl,hb,h,ud _,hn,by simp;omega,?_⟩⟩;rw[uz (by simp;omega)]
theorem VT(l:List Nat):∀u∈zO l,u.oneCell'=true:=by
 intro u hu;obtain⟨d,_,rfl⟩:=UB.1 hu;rfl
theorem Zr(l m:List Nat):zO (l++m)=zO l++zO m:=by simp[zO]
theorem Jb(l:List Nat)(k:Nat):zO (l.drop k)=(zO l).drop k:=by simp[zO,List.map_drop]
theorem zhK(x:Int)(h0: -2147483648<=x)(h1:x<=2147483647):IntKind.i32.wrap x=x:=by rw[IntKind.wrap_i32];omega
def AtC2(w:World)(b:Nat)(x y:Value)(T:TypeId):Prop:=w.heap[b]? =some (.cells #[x,y] T (0,0))
theorem AtC2.lt{w:World}{b:Nat}{x y:Value}{T:TypeId}(h:AtC2 w b x y T):b<w.heap.size:=(uu.1 h).1
theorem AtC2.new(w:World)(x y:Value)(T:TypeId):AtC2 (w.alloc (.cells #[x,y] T)) w.heap.size x y T:=by
 show(w.heap.push _)[w.heap.size]? =_;rw[WG,uj rfl]
theorem AtC2.below{w w':World}{b:Nat}{x y:Value}{T:TypeId}(h:AtC2 w b x y T)(k:Below w.heap.size w w'):AtC2 w' b x y T:=(k.block b h.lt).trans h
theorem AtC2.n0{w:World}{b:Nat}{x y:Value}{T:TypeId}(h:AtC2 w b x y T):w.cell? ⟨b,0,none⟩=some x:=by unfold AtC2 at h;simp[World.cell?,h]
theorem AtC2.n1{w:World}{b:Nat}{x y:Value}{T:TypeId}(h:AtC2 w b x y T):w.cell? ⟨b,1,none⟩=some y:=by unfold AtC2 at h;simp[World.cell?,h]
theorem AtC2.f{w:World}{b:Nat}{x y:Value}{T:TypeId}(h:AtC2 w b x y T)(j:Nat):w.frozen? ⟨b,j,none⟩=false:=by unfold AtC2 at h;simp[World.frozen?,h]
theorem AtC2.far{w:World}{b:Nat}{x y:Value}{T:TypeId}(h:AtC2 w b x y T){a:Addr}(ha:a.block≠b)(u:Value):AtC2 (w.setCell a u) b x y T:=by
 unfold AtC2;obtain⟨g,o,sp⟩:=a;rw[Uj _ _ _ _ (U8 ha)];exact h
theorem AtC2.st0{w:World}{b:Nat}{x y:Value}{T:TypeId}(h:AtC2 w b x y T)(u:Value):AtC2 (w.setCell ⟨b,0,none⟩ u) b u y T:=by
 show(w.heap.modify b _)[b]? =_;rw[UN,uj rfl,show w.heap[b]? =_ from h];rfl
theorem AtC2.st1{w:World}{b:Nat}{x y:Value}{T:TypeId}(h:AtC2 w b x y T)(u:Value):AtC2 (w.setCell ⟨b,1,none⟩ u) b x u T:=by
 show(w.heap.modify b _)[b]? =_;rw[UN,uj rfl,show w.heap[b]? =_ from h];rfl
theorem zi{a w w':World}(h:Below a.heap.size a w)(hb:Below w.heap.size w w'):Below a.heap.size a w':=h.trans (hb.mono h.size)
theorem zf{a w:World}(h:Below a.heap.size a w)(o:Obj):Below a.heap.size a (w.alloc o):=h.alloc h.size o
structure Kept(S:Nat->Prop)(w w':World):Prop where
 os:w'.os=w.os
 tape:w'.tape=w.tape
 output:w'.output=w.output
 size:w.heap.size<=w'.heap.size
 block:∀b,b<w.heap.size->¬S b->w'.heap[b]? =w.heap[b]?
theorem Kept.refl(S:Nat->Prop)(w:World):Kept S w w:=⟨rfl,rfl,rfl,ud _,fun _ _ _=>rfl⟩
theorem Kept.trans{S:Nat->Prop}{w w' w'':World}(h:Kept S w w')(k:Kept S w' w''):Kept S w w'':=
 ⟨k.os.trans h.os,k.tape.trans h.tape,k.output.trans h.output,uC h.size k.size,fun b hb ho=>(k.block b (uJ hb h.size) ho).trans (h.block b hb ho)⟩
theorem Kept.of_below{S:Nat->Prop}{w w':World}(h:Below w.heap.size w w'):Kept S w w':=⟨h.os,h.tape,h.output,h.size,fun b hb _=>h.block b hb⟩
theorem Kept.of_grown{S:Nat->Prop}{w w':World}{row:Option Nat}(h:w.grownBy w' row)(hr:∀i,row=some i->S i):Kept S w w':=
 ⟨h.os,h.tape,h.output,h.size,fun b hb ho=>h.block b hb (fun e=>ho (hr b e.symm))⟩
theorem Kept.set{S:Nat->Prop}{w:World}{a:Addr}(h:S a.block)(u:Value):Kept S w (w.setCell a u):=
 ⟨rfl,rfl,rfl,by simp,fun b _ ho=>WM w a b u (fun e=>ho (by rw[e];exact h))⟩
theorem Kept.mono{S S':Nat->Prop}{w w':World}(h:Kept S w w')(hs:∀b,S b->S' b):Kept S' w w':=⟨h.os,h.tape,h.output,h.size,fun b hb ho=>h.block b hb (fun e=>ho (hs b e))⟩
theorem Kept.below{S:Nat->Prop}{base:Nat}{w w':World}(h:Kept S w w')(hb:base<=w.heap.size)(hs:∀b,S b->base<=b):Below base w w':=
 ⟨h.os,h.tape,h.output,h.size,fun b hlt=>h.block b (by omega) (fun e=>by have:=hs b e;omega)⟩
theorem AtC2.kept{S:Nat->Prop}{w w':World}{b:Nat}{x y:Value}{T:TypeId}(h:AtC2 w b x y T)(k:Kept S w w')(hb:¬S b):AtC2 w' b x y T:=(k.block b h.lt hb).trans h
theorem AtC2.alloc{w:World}{b:Nat}{x y:Value}{T:TypeId}(h:AtC2 w b x y T)(o:Obj):AtC2 (w.alloc o) b x y T:=h.below ((ue _ _).alloc (ud _) o)
theorem qq(w:World)(n:Nat):Below w.heap.size w (w.drewN n):=by
 induction n with
 |zero=>exact ue _ _
 |succ n ih=>exact ih.drew
def zhG(w:World)(v:Value)(nd:Nd):Prop:=∃kv,v=.agg #[.int .i64 nd.1,.string (B nd.2.1),kv]/\nd.2.1.length<=maxLen/\IntsAt w kv nd.2.2
def qr(ns:List Nd):Prop:=∀nd∈ns,nd.2.1.length<=1048576/\nd.2.2.length<=1048576
theorem NodesAt.node{w:World}{b off n cap:Nat}{ns:List Nd}(h:NodesAt w (.slice (some ⟨b,off,none⟩) n cap) ns){k:Nat}{nd:Nd}(hk:ns[k]? =some nd):
  ∃kv,w.cell? ⟨b,off+k*3,none⟩=some (.int .i64 nd.1)/\w.cell? ⟨b,off+k*3+1,none⟩=some (.string (B nd.2.1))/\w.cell? ⟨b,off+k*3+2,none⟩=some kv/\nd.2.1.length<=maxLen/\IntsAt w kv nd.2.2:=by
 obtain⟨a,c,hv,h1,h2,h3⟩:=h;have h0:0<ns.length:=by
  have:=(ui.1 hk).1;omega
 obtain⟨b',off',rfl,hb,hc⟩:=h3 h0;injection hv with e1 e2 e3;injection e1 with e1;injection e1 with e4 e5;subst e4 e5;obtain⟨c0,c1,hl,kv,c2,hk'⟩:=hc k nd hk;exact⟨kv,c0,c1,c2,hl,hk'⟩
theorem NodesAt.form{w:World}{v:Value}{ns:List Nd}(h:NodesAt w v ns)(h0:0<ns.length):∃b off cap,v=.slice (some ⟨b,off,none⟩) ns.length cap/\ns.length<=cap/\cap<=maxLen/\b<w.heap.size:=by
 obtain⟨a,c,hv,h1,h2,h3⟩:=h;obtain⟨b',off',rfl,hb,hc⟩:=h3 h0;exact⟨b',off',c,hv,h1,h2,hb⟩
theorem jI{B:Nat}{a w:World}(h:Below B a w)(n:Nat):Below B a (w.drewN n):=⟨h.os,h.tape,h.output,h.size,h.block⟩
theorem IntsAt.form{w:World}{v:Value}{xs:List Int}(h:IntsAt w v xs):∃a cap,v=.slice a xs.length cap/\xs.length<=cap/\cap<=maxLen:=by
 obtain⟨a,cap,hv,h1,h2,_⟩:=h;exact⟨a,cap,hv,h1,h2⟩
theorem IntsAt.cell{w:World}{a:Option Addr}{n cap:Nat}{xs:List Int}(h:IntsAt w (.slice a n cap) xs){k:Nat}{x:Int}(hk:xs[k]? =some x):∃b off,a=some ⟨b,off,none⟩/\b<w.heap.size/\w.cell? ⟨b,off+k,none⟩=some (.int .i64 x):=by
 obtain⟨a',c,hv,h1,h2,h3⟩:=h;have h0:0<xs.length:=by
  have:=(ui.1 hk).1;omega
 obtain⟨b,off,rfl,hb,hc⟩:=h3 h0;injection hv with e1 e2 e3;subst e1;exact⟨b,off,rfl,hb,hc k x hk⟩
def AtC3(w:World)(b:Nat)(x y z:Value)(T:TypeId):Prop:=w.heap[b]? =some (.cells #[x,y,z] T (0,0))
theorem AtC3.lt{w:World}{b:Nat}{x y z:Value}{T:TypeId}(h:AtC3 w b x y z T):b<w.heap.size:=(uu.1 h).1
theorem AtC3.new(w:World)(x y z:Value)(T:TypeId):AtC3 (w.alloc (.cells #[x,y,z] T)) w.heap.size x y z T:=by
 show(w.heap.push _)[w.heap.size]? =_;rw[WG,uj rfl]
theorem AtC3.below{w w':World}{b:Nat}{x y z:Value}{T:TypeId}(h:AtC3 w b x y z T)(k:Below w.heap.size w w'):AtC3 w' b x y z T:=(k.block b h.lt).trans h
theorem AtC3.n0{w:World}{b:Nat}{x y z:Value}{T:TypeId}(h:AtC3 w b x y z T):w.cell? ⟨b,0,none⟩=some x:=by unfold AtC3 at h;simp[World.cell?,h]
theorem AtC3.n1{w:World}{b:Nat}{x y z:Value}{T:TypeId}(h:AtC3 w b x y z T):w.cell? ⟨b,1,none⟩=some y:=by unfold AtC3 at h;simp[World.cell?,h]
theorem AtC3.n2{w:World}{b:Nat}{x y z:Value}{T:TypeId}(h:AtC3 w b x y z T):w.cell? ⟨b,2,none⟩=some z:=by unfold AtC3 at h;simp[World.cell?,h]
theorem AtC3.f{w:World}{b:Nat}{x y z:Value}{T:TypeId}(h:AtC3 w b x y z T)(j:Nat):w.frozen? ⟨b,j,none⟩=false:=by unfold AtC3 at h;simp[World.frozen?,h]
theorem NodesAt.form0{w:World}{v:Value}{ns:List Nd}(h:NodesAt w v ns):∃a cap,v=.slice a ns.length cap/\ns.length<=cap/\cap<=maxLen:=by
 obtain⟨a,cap,hv,h1,h2,_⟩:=h;exact⟨a,cap,hv,h1,h2⟩
theorem NodesAt.addr{w:World}{a:Option Addr}{n cap:Nat}{ns:List Nd}(h:NodesAt w (.slice a n cap) ns)(h0:0<ns.length):∃b off,a=some ⟨b,off,none⟩/\b<w.heap.size:=by
 obtain⟨a',c,hv,h1,h2,h3⟩:=h;obtain⟨b,off,rfl,hb,hc⟩:=h3 h0;injection hv with e1 e2 e3;subst e1;exact⟨b,off,rfl,hb⟩
theorem KN(l:List UInt8)(k:Nat)(hk:k<l.length)(h:k+1<l.length->l[k]≠48):vS (l.drop k)=l.drop k:=by
 apply YQ;by_cases hl:k+1<l.length
 . right
   exact⟨l[k],l.drop (k+1),Uk (by omega),h hl⟩
 . left;simp;omega
theorem xY(l:List UInt8)(w:World)(hs:l.length<=1000000000):
  Calls Tryz.prog 125 #[.string (B l)] w fun e w'=>e=.returned (.string (B (vS l)))/\w'=w:=by
 have hsz:(B l).size<=1000000000:=by rw[zj];exact hs
 go_enter Tryz.func125,Tryz.ntmps125;go_wp2
 go_loop [3] (fun i=>∃k:Nat,k<=l.length/\(k=0\/k<l.length)/\i=.int .i64 k/\Hid (vS l=vS (l.drop k))) (fun i=>l.length-(intOf i).toNat)
 case atStart=>exact⟨0,uD _,.inl rfl,rfl,rfl⟩
 case round=>
  obtain⟨k,hk,hk',rfl,ht⟩:=hrel;have fin:(k+1<l.length->∀h,l[k]'h≠48)->(B l).extract k (B l).size=B (vS l):=by
   intro h;rw[qp,zj,Uh,ht.out];by_cases h0:k<l.length
   . rw[KN l k h0 (fun hh=>h hh h0)]
   . have:l=[]:=by apply ur;omega
     subst this;simp[vS]
  have Fin:=zb fin;clear fin;by_cases hlt:k+1<l.length
  . have hlt2:k+1<(B l).size:=by rw[zj];exact hlt
    go_wp2
    . have hz:l[k]=48:=by
       have h:=‹(((B l)[k].toNat:Int)==48)=true›;rw[j4]at h;apply wM.1;have:=Um.1 h;simp only[We];omega
      go_round
      case rel=>exact⟨k+1,by omega,by omega,by go_num,by show vS l=_;rw[ht.out];exact zdE l k (by omega) hz⟩
      case measure=>simp[intOf];omega
    . have hz:∀h:k<l.length,l[k]≠48:=by
       have h:=ug.1 ‹(((B l)[k].toNat:Int)==48)=false›;rw[j4]at h;intro hh hc;rw[hc]at h;exact h rfl
      go_ret;exact⟨qm (za Fin (fun _ h=>hz h)),rfl⟩
  . have hlt2:¬k+1<(B l).size:=by rw[zj];exact hlt
    have hkk:k<=(B l).size:=by rw[zj];exact hk
    go_wp2;go_ret;exact⟨qm (za Fin (fun h=>absurd h hlt)),rfl⟩
theorem zg1(n k:Nat)(w:World)(hs:(zr n).size<=1000000000)(hk:k<=1000000000):
  Calls Tryz.prog 163 #[.string (zr n),.int .i64 k] w fun e w'=>e=.returned (.int .i64 ((n/10^k%10:Nat):Int))/\w'=w:=by
 by_cases h:k<(zr n).size
 . have hb:(n/10^k%10)<10:=Ua _ (by omega)
   have hd:(zr n)[(zr n).size-1-k]'(by omega)=sg (n/10^k%10):=by
    have h1:k<(qj 10 n).length:=by simpa[zr,jB,zj]using h
    have:=zaz n k h1;rw[List.getElem_reverse]at this;rw[<-this];simp only[zr,jB,j4,zj]
   have hn:((zr n)[(zr n).size-1-k]'(by omega)).toNat=48+n/10^k%10:=by rw[hd,jw (by omega),uj hb]
   generalize hg:n/10^k%10=d at *;have Hn:=zb hn;clear hn hd hg;go_enter Tryz.func163,Tryz.ntmps163;go_wp2;go_ret;exact⟨zK (by rw[za Hn];omega),rfl⟩
 . have hz:n/10^k%10=0:=by
    rw[Yl n k (by simpa[zr,jB,zj]using h)]
   rw[hz];go_enter Tryz.func163,Tryz.ntmps163;go_wp2;go_ret;exact⟨rfl,rfl⟩
theorem kR(n k d:Nat)(w:World)(hd:n/10^k%10=d)(hs:(zr n).size<=1000000000)(hk:k<=1000000000):
  Calls Tryz.prog 163 #[.string (zr n),.int .i64 k] w fun e w'=>e=.returned (.int .i64 (d:Int))/\w'=w:=by
 subst hd;exact zg1 n k w hs hk
theorem Tryz.infoInt:(Tryz.prog.info? 3).map (fun i=>(i.zero,i.size,i.bytes))=some (some (.int .i64 0),1,8):=by kernel_rfl
theorem Tryz.infoByte:(Tryz.prog.info? 5).map (fun i=>(i.zero,i.size,i.bytes))=some (some (.int .u8 0),1,1):=by kernel_rfl
def jA(xs:List Nat)(n k:Nat):List UInt8:=List.replicate (n-k) 0++((xs.take k).map sg).reverse
theorem Ye(xs:List Nat)(k:Nat)(h:k<xs.length):
  (jA xs xs.length k).set (xs.length-1-k) (sg xs[k])=jA xs xs.length (k+1):=by
 unfold jA;have e:xs.length-k=(xs.length-1-k)+1:=by omega
 rw[e,List.replicate_succ',U4,List.set_append_right _ _ (by simp)];have e2:xs.length-(k+1)=xs.length-1-k:=by omega
 rw[e2,Wv,Nat.sub_self,uQ h,UF,List.reverse_append];simp
theorem Yd(xs:List Nat):jA xs xs.length xs.length=(xs.map sg).reverse:=by simp[jA]
theorem VQ(xs:List Nat):jA xs xs.length 0=List.replicate xs.length 0:=by simp[jA]
theorem ze8(xs:List Nat)(hd:∀d∈xs,d<10)(hx:xs≠[]):vS (jA xs xs.length xs.length)=qj 10 (zG 10 xs):=by
 rw[Yd];exact kj xs hd hx
theorem Vi(xs:List Nat)(v:Value)(w:World)(hd:∀d∈xs,d<10)(hs:xs.length<=1000000000)(h:w.ownsRow 0 3 1 v xs.length (ints xs)):
  Calls Tryz.prog 164 #[v] w fun e w'=>e=.returned (.string (zr (zG 10 xs)))/\Below w.heap.size w w':=by
 obtain⟨i0,hi,hz0,hz1,hz2⟩:=Ue Tryz.infoByte;rcases h.2 with⟨rfl,hn⟩|⟨g,cap,cur,rfl,hbg,hgg,hnc,hcm,hcs,htake⟩
 . have hx:xs=[]:=ur hn
   subst hx;clear h hs hd hn;go_enter Tryz.func164,Tryz.ntmps164;go_wp2_with (refine UY _ rfl (.tmp 6) (.tmp 6) 22 rfl w.heap.size 5 i0 (.int .u8 0) 1 Ug hi hz0 hz1 .i64 .i64 0 0 0 rfl rfl rfl rfl (by rw[hz2];omega) (by decide) (ud _) ?_;intro w1 hown1 hg1);have hb:=(ue w.heap.size w).grown hg1 (ud _) (fun _ h=>by cases h);clear hown1 hg1;refine wp_loop_rounds 1 ?_;rw[W9];go_wp2;go_ret;exact⟨rfl,hb⟩
 . clear htake hcs hcm hgg hbg
   have Hd:=zb hd;clear hd;go_enter Tryz.func164,Tryz.ntmps164;go_wp2_with (refine UY _ rfl (.tmp 6) (.tmp 6) 22 rfl w.heap.size 5 i0 (.int .u8 0) 1 Ug hi hz0 hz1 .i64 .i64 xs.length xs.length xs.length rfl rfl rfl rfl (by rw[hz2];omega) (by unfold maxLen;omega) (ud _) ?_;intro w1 hown1 hg1)
   go_loopw [4] (fun i wr=>∃k:Nat,k<=xs.length/\i=.int .i64 k/\wr.ownsRow w.heap.size 5 1 (.slice (some ⟨w.heap.size,0,none⟩) xs.length xs.length) xs.length ((jA xs xs.length k).map ZM)/\Below w.heap.size w wr)
    (fun i _=>xs.length-(intOf i).toNat)
   case atStart=>
    refine⟨0,uD _,rfl,?_,(ue _ _).grown hg1 (ud _) (fun _ h=>by cases h)⟩;rw[VQ];simpa[Value.cells,Ul,ZM]using hown1
   case round=>
    obtain⟨k,hk,rfl,hown,hb⟩:=hrel;by_cases hlt:k<xs.length
    . have hc1:wr.cell? ⟨g,k,none⟩=some (.int .i64 (xs[k]:Nat)):=by
       rw[(zu h hb).cellAt k (by omega)];simp[ints,hlt]
      have hf:=hown.frozenAt (xs.length-1-k);obtain⟨v0,hv0⟩:=qP hown (xs.length-1-k) (by omega);have hst:=hown.stored (xs.length-1-k) (ZM (sg xs[k]));have hdk:xs[k]<10:=za Hd _ (uF hlt);rw[<-List.map_set,Ye xs k hlt,KO hdk]at hst;have Hst:=zb hst;clear hst;go_wp2;go_roundw
      case rel=>exact⟨k+1,by omega,by go_num,(za Hst).1,hb.setCell (by simp) _⟩
      case measure=>simp[intOf];omega
    . have hkn:k=xs.length:=by omega
      subst hkn;by_cases hx:xs=[]
      . subst hx
        go_wp2;go_ret;exact⟨rfl,hb⟩
      . have hx0:((xs.length:Int)==0)=false:=by
         have:xs.length≠0:=fun h=>hx (ur h)
         rw[ug];omega
        have hconv:=qV (dst:=9) Ug Ux Uf hown;have Fin:=zb (ze8 xs (za Hd) hx);go_wp2_with (go_at_call 125;refine(xY _ _ (by simp[jA];omega)).mono ?_;rintro e w'⟨rfl,rfl⟩);go_ret;exact⟨qm (by rw[za Fin];rfl),hb⟩
def iv(xs:List Int):List Value:=xs.map (Value.int .i64)
theorem Ve(xs:List Int)(j:Nat):(iv xs)[j]? =(xs[j]?).map (Value.int .i64):=by simp[iv]
theorem zaN(xs:List Int)(j:Nat)(x:Int):(iv xs).set j (.int .i64 x)=iv (xs.set j x):=by simp[iv,List.map_set]
theorem ZH{w:World}{base:Nat}{v:Value}{xs:List Int}(h:w.ownsRow base 3 1 v xs.length (iv xs)):IntsAt w v xs:=by
 rcases h.2 with⟨rfl,h0⟩|⟨g,cap,cur,rfl,hb,hg,h1,h2,h3,h4⟩
 . exact⟨none,0,by rw[h0],by omega,by unfold maxLen;omega,fun h=>absurd h (by omega)⟩
 . refine⟨_,cap,rfl,h1,h2,fun _=>⟨g,0,rfl,(uu.1 hg).1,fun j x hx=>?_⟩⟩
   have hj:=(ui.1 hx).1;have:=h.cellAt j (by omega);rw[Ve,hx]at this;simpa using this
def zaj(xs:List Int)(k:Nat):List Int:=xs.take k++List.replicate (xs.length-k) 0
theorem zdH(xs:List Int):zaj xs 0=List.replicate xs.length 0:=by simp[zaj]
theorem zfd(xs:List Int):zaj xs xs.length=xs:=by simp[zaj]
theorem zfe{xs:List Int}{k:Nat}{x:Int}(h:xs[k]? =some x):(zaj xs k).set k x=zaj xs (k+1):=by
 have hk:=(ui.1 h).1;apply List.ext_getElem?;intro j;unfold zaj;rw[List.getElem?_set];by_cases hj:k=j
 . subst hj
   rw[uj rfl,uj (by simp;omega),uL (by simp;omega),dl (by omega),h]
 . rw[ul hj]
   rcases df j k with h1|h1
   . rw[uL (by simp;omega),uL (by simp;omega)]
     rw[dl h1,dl (by omega)]
   . rw[uO (by simp;omega),uO (by simp;omega)]
     simp only[uH,Wc];have e1:min k xs.length=k:=by omega
     have e2:min (k+1) xs.length=k+1:=by omega
     rw[e1,e2];by_cases hjl:j<xs.length
     . rw[uj (by omega),uj (by omega)]
     . rw[ul (by omega),ul (by omega)]
theorem Tryz.infoNode:(Tryz.prog.info? 56).map (fun i=>(i.zero,i.size,i.bytes))=some (some (.agg #[.int .i64 0,.string ⟨#[]⟩,.slice none 0 0]),3,48):=by kernel_rfl
structure Keeps(g:Nat)(w w':World):Prop where
 os:w'.os=w.os
 tape:w'.tape=w.tape
 output:w'.output=w.output
 size:w.heap.size<=w'.heap.size
 block:∀k,k<w.heap.size->k≠g->w'.heap[k]? =w.heap[k]?
theorem Keeps.refl(g:Nat)(w:World):Keeps g w w:=⟨rfl,rfl,rfl,ud _,fun _ _ _=>rfl⟩
theorem Keeps.trans{g:Nat}{a b c:World}(h:Keeps g a b)(k:Keeps g b c):Keeps g a c:=
 ⟨k.os.trans h.os,k.tape.trans h.tape,k.output.trans h.output,uC h.size k.size,fun i hi hg=>(k.block i (uJ hi h.size) hg).trans (h.block i hi hg)⟩
theorem Keeps.of_below{g:Nat}{w w':World}(h:Below w.heap.size w w'):Keeps g w w':=⟨h.os,h.tape,h.output,h.size,fun k hk _=>h.block k hk⟩
theorem Keeps.below{g B:Nat}{w w':World}(h:Keeps g w w')(hg:B<=g)(hB:B<=w.heap.size):Below B w w':=⟨h.os,h.tape,h.output,h.size,fun k hk=>h.block k (by omega) (by omega)⟩
theorem Keeps.drew{g:Nat}{a w:World}(h:Keeps g a w):Keeps g a w.drew:=⟨h.os,h.tape,h.output,h.size,h.block⟩
theorem Keeps.drewN{g:Nat}{a w:World}(h:Keeps g a w)(n:Nat):Keeps g a (w.drewN n):=⟨h.os,h.tape,h.output,h.size,h.block⟩
theorem Keeps.alloc{g:Nat}{a w:World}(h:Keeps g a w)(o:Obj):Keeps g a (w.alloc o):=h.trans (Keeps.of_below ((ue _ _).alloc (ud _) o))
theorem Keeps.setOwn{g:Nat}{a w:World}(h:Keeps g a w){p:Addr}(hp:p.block=g)(u:Value):Keeps g a (w.setCell p u):=
 h.trans ⟨rfl,rfl,rfl,by simp[World.setCell],fun k _ hg=>Uj _ _ _ _ (by omega)⟩
theorem Keeps.cell{g:Nat}{w w':World}(h:Keeps g w w'){p:Addr}(hp:p.block<w.heap.size)(hg:p.block≠g):w'.cell? p=w.cell? p:=World.cell?_of_block (w:=w) (h.block p.block hp hg)
def Byts(w:World)(g:Nat)(a:Option Addr)(n:Nat):Prop:=
 0<n->∃q o,a=some ⟨q,o,none⟩/\q<g/\q<w.heap.size/\∀j,j<n->∃x:Nat,x<=255/\w.cell? ⟨q,o+j,none⟩=some (.int .u8 (x:Int))
theorem Byts.keeps{w w':World}{g:Nat}{a:Option Addr}{n:Nat}(h:Byts w g a n)(k:Keeps g w w'):Byts w' g a n:=by
 intro hn;obtain⟨q,o,rfl,hqg,hq,hc⟩:=h hn;refine⟨q,o,rfl,hqg,uJ hq k.size,fun j hj=>?_⟩;obtain⟨x,hx,hcj⟩:=hc j hj;exact⟨x,hx,by rw[k.cell hq (Nat.ne_of_lt hqg)];exact hcj⟩
structure Rd(w:World)(g p:Nat)(a:Option Addr)(n cap:Nat):Prop where
 heap:w.heap[g]? =some (.cells #[.slice a n cap,.int .i64 (p:Int)] 76 (0,0))
 byts:Byts w g a n
 len:n<=2000
theorem Rd.keep{w w':World}{g p:Nat}{a:Option Addr}{n cap:Nat}(h:Rd w g p a n cap)(hb:Below w.heap.size w w'):Rd w' g p a n cap:=
 ⟨by rw[hb.block g (uu.1 h.heap).1];exact h.heap,h.byts.keeps (Keeps.of_below hb),h.len⟩
theorem Rd.drewN{w:World}{g p:Nat}{a:Option Addr}{n cap:Nat}(h:Rd w g p a n cap)(k:Nat):Rd (w.drewN k) g p a n cap:=⟨h.heap,h.byts,h.len⟩
theorem Rd.drew{w:World}{g p:Nat}{a:Option Addr}{n cap:Nat}(h:Rd w g p a n cap):Rd w.drew g p a n cap:=⟨h.heap,h.byts,h.len⟩
theorem Rd.lt{w:World}{g p:Nat}{a:Option Addr}{n cap:Nat}(h:Rd w g p a n cap):g<w.heap.size:=(uu.1 h.heap).1
theorem Rd.c0{w:World}{g p:Nat}{a:Option Addr}{n cap:Nat}(h:Rd w g p a n cap):w.cell? ⟨g,0,none⟩=some (.slice a n cap):=by simp[World.cell?,h.heap]
theorem Rd.c1{w:World}{g p:Nat}{a:Option Addr}{n cap:Nat}(h:Rd w g p a n cap):w.cell? ⟨g,1,none⟩=some (.int .i64 (p:Int)):=by simp[World.cell?,h.heap]
theorem Rd.f1{w:World}{g p:Nat}{a:Option Addr}{n cap:Nat}(h:Rd w g p a n cap):w.frozen? ⟨g,1,none⟩=false:=by simp[World.frozen?,h.heap]
theorem Rd.next{w:World}{g p:Nat}{a:Option Addr}{n cap:Nat}(h:Rd w g p a n cap)(v:Int)(hv:v=((p+1:Nat):Int)):Rd (w.setCell ⟨g,1,none⟩ (.int .i64 v)) g (p+1) a n cap:=by
 refine⟨?_,h.byts.keeps ((Keeps.refl g w).setOwn (p:=⟨g,1,none⟩) rfl _),h.len⟩;subst hv;rw[show(w.setCell ⟨g,1,none⟩ (.int .i64 ((p+1:Nat):Int))).heap[g]? =_ from UN,uj rfl,h.heap];simp
theorem Rd.below{w w':World}{g p:Nat}{a:Option Addr}{n cap:Nat}(h:Rd w g p a n cap)(hb:Below (g+1) w w'):Rd w' g p a n cap:=by
 refine⟨by rw[hb.block g (by omega)];exact h.heap,?_,h.len⟩;intro hn;obtain⟨q,o,rfl,hqg,hq,hc⟩:=h.byts hn;refine⟨q,o,rfl,hqg,uJ hq hb.size,fun j hj=>?_⟩;obtain⟨x,hx,hcj⟩:=hc j hj;exact⟨x,hx,by rw[hb.cell (p:=⟨q,o+j,none⟩) (by show q<g+1;omega)];exact hcj⟩
def Drawn(w:World)(g p n cap:Nat)(a:Option Addr)(k:Nat)(w':World):Prop:=(∃p',p'<=p+k/\Rd w' g p' a n cap)/\Keeps g w w'
theorem Drawn.more{w w1 w2:World}{g p n cap k:Nat}{a:Option Addr}(h:Drawn w g p n cap a k w1)(hg:g<w.heap.size)(hb:Below w.heap.size w1 w2):Drawn w g p n cap a k w2:=by
 obtain⟨⟨p',hp,hr⟩,hk⟩:=h;exact⟨⟨p',hp,hr.below (hb.mono (by omega))⟩,⟨hb.os.trans hk.os,hb.tape.trans hk.tape,hb.output.trans hk.output,uC hk.size hb.size,fun i hi hig=>(hb.block i hi).trans (hk.block i hi hig)⟩⟩
theorem Drawn.made{w w1:World}{g p n cap k:Nat}{a:Option Addr}{o:Obj}(h:Drawn (w.alloc o) g p n cap a k w1):Drawn w g p n cap a k w1:=⟨h.1,((Keeps.refl g w).alloc o).trans h.2⟩
theorem Rd.alloc{w:World}{g p:Nat}{a:Option Addr}{n cap:Nat}(h:Rd w g p a n cap)(o:Obj):Rd (w.alloc o) g p a n cap:=h.keep ((ue _ _).alloc (ud _) _)
def At3(w:World)(b:Nat)(x y z:Value):Prop:=w.heap[b]? =some (.cells #[x,y,z] 79 (0,0))
theorem At3.lt{w:World}{b:Nat}{x y z:Value}(h:At3 w b x y z):b<w.heap.size:=(uu.1 h).1
theorem At3.new(w:World)(x y z:Value):At3 (w.alloc (.cells #[x,y,z] 79)) w.heap.size x y z:=by
 show(w.heap.push _)[w.heap.size]? =_;rw[WG,uj rfl]
theorem At3.keeps{w w':World}{b g:Nat}{x y z:Value}(h:At3 w b x y z)(k:Keeps g w w')(hg:b≠g):At3 w' b x y z:=(k.block b h.lt hg).trans h
theorem At3.c0{w:World}{b:Nat}{x y z:Value}(h:At3 w b x y z):w.cell? ⟨b,0,none⟩=some x:=by unfold At3 at h;simp[World.cell?,h]
theorem At3.c1{w:World}{b:Nat}{x y z:Value}(h:At3 w b x y z):w.cell? ⟨b,1,none⟩=some y:=by unfold At3 at h;simp[World.cell?,h]
theorem At3.c2{w:World}{b:Nat}{x y z:Value}(h:At3 w b x y z):w.cell? ⟨b,2,none⟩=some z:=by unfold At3 at h;simp[World.cell?,h]
theorem At3.f{w:World}{b:Nat}{x y z:Value}(h:At3 w b x y z)(j:Nat):w.frozen? ⟨b,j,none⟩=false:=by unfold At3 at h;simp[World.frozen?,h]
theorem zdJ{x y:Int}(hx0:0<=x)(hx:x<4611686018427387904)(hy0:0<=y)(hy:y<4611686018427387904):0<=bits .xor .i64 x y/\bits .xor .i64 x y<4611686018427387904:=by
 obtain⟨a,rfl⟩:=dr hx0;obtain⟨b,rfl⟩:=dr hy0;have e:(BitVec.ofInt 64 (a:Int)^^^BitVec.ofInt 64 (b:Int)).toNat=a^^^b:=by
  rw[BitVec.toNat_xor,BitVec.ofInt_natCast,BitVec.ofInt_natCast,BitVec.toNat_ofNat,BitVec.toNat_ofNat,Uu (by omega),Uu (by omega)]
 have hlt:a^^^b<2^62:=Nat.xor_lt_two_pow (by omega) (by omega);have hw:bits .xor .i64 (a:Int) (b:Int)=((a^^^b:Nat):Int):=by
  show IntKind.i64.wrap ((BitVec.ofInt 64 (a:Int)^^^BitVec.ofInt 64 (b:Int)).toNat:Int)=_;rw[e,qX _ (by omega) (by omega)]
 rw[hw];omega
end Go.Proofs.YtpbnmhnbkfnaeaaGreatDoor
namespace Go.Proofs.YtpbnmhnbkfnaeaaGreatDoor
open Go.RowKit Nt
def Row(Q:Nat->Value->Prop)(s:Nat)(e:TypeId)(w:World)(b c n:Nat):Prop:=
 ∃cs:Array Value,w.heap[b]? =some (.cells cs e (0,0))/\cs.size=c*s/\∀j u,j<n*s->cs[j]? =some u->Q (j%s) u
def SRow(Q:Nat->Value->Prop)(s:Nat)(e:TypeId)(w:World)(base:Nat)(v:Value)(n:Nat):Prop:=
 (v=.slice none 0 0/\n=0)\/∃g c,v=.slice (some ⟨g,0,none⟩) n c/\base<=g/\n<=c/\c<=maxLen/\Row Q s e w g c n
theorem Row.lt{Q:Nat->Value->Prop}{s:Nat}{e:TypeId}{w:World}{b c n:Nat}(h:Row Q s e w b c n):b<w.heap.size:=by
 obtain⟨cs,h,_⟩:=h;exact(uu.1 h).1
theorem Row.cap{Q Q':Nat->Value->Prop}{s:Nat}{e:TypeId}{w:World}{b c c' n n':Nat}(hs:0<s)(h:Row Q s e w b c n)(h':Row Q' s e w b c' n'):c=c':=by
 obtain⟨cs,h1,h2,_⟩:=h;obtain⟨cs',k1,k2,_⟩:=h';rw[h1]at k1;simp only[US,WA]at k1;rw[k1.1,k2]at h2;exact(Nat.eq_of_mul_eq_mul_right hs h2).symm
theorem Row.map{Q Q':Nat->Value->Prop}{s:Nat}{e:TypeId}{w:World}{b c n:Nat}(h:Row Q s e w b c n)(hq:∀j u,Q j u->Q' j u):Row Q' s e w b c n:=by
 obtain⟨cs,h1,h2,h3⟩:=h;exact⟨cs,h1,h2,fun j u hj hu=>hq _ _ (h3 j u hj hu)⟩
theorem Row.same{Q:Nat->Value->Prop}{s:Nat}{e:TypeId}{w w':World}{b c n:Nat}(h:Row Q s e w b c n)(hb:w'.heap[b]? =w.heap[b]?):Row Q s e w' b c n:=by
 obtain⟨cs,h1,h2⟩:=h;exact⟨cs,hb.trans h1,h2⟩
theorem Row.cell{Q:Nat->Value->Prop}{s:Nat}{e:TypeId}{w:World}{b c n:Nat}(h:Row Q s e w b c n)(hn:n<=c){j:Nat}(hj:j<n*s):∃u,w.cell? ⟨b,j,none⟩=some u/\Q (j%s) u:=by
 obtain⟨cs,h1,h2,h3⟩:=h;have hle:n*s<=c*s:=U5 _ hn;have hx:cs[j]? =some (cs[j]'(by omega)):=U7 _;exact⟨_,by simp only[World.cell?,h1];exact hx,h3 j _ hj hx⟩
theorem Row.frozen{Q:Nat->Value->Prop}{s:Nat}{e:TypeId}{w:World}{b c n:Nat}(h:Row Q s e w b c n)(j:Nat):w.frozen? ⟨b,j,none⟩=false:=by
 obtain⟨cs,h1,h2,h3⟩:=h;simp[World.frozen?,h1]
theorem Row.set{Q:Nat->Value->Prop}{s:Nat}{e:TypeId}{w:World}{b c n:Nat}(h:Row Q s e w b c n){i:Nat}{x:Value}(hx:Q (i%s) x):Row Q s e (w.setCell ⟨b,i,none⟩ x) b c n:=by
 obtain⟨cs,h1,h2,h3⟩:=h;refine⟨cs.setIfInBounds i x,?_,by simpa using h2,fun j u hj hu=>?_⟩
 . show(w.heap.modify b _)[b]? =_
   rw[UN,uj rfl,h1];rfl
 . rw[wL]at hu
   split at hu
   . rename_i e;subst e
     split at hu
     . simp at hu;subst hu;exact hx
     . simp at hu
   . exact h3 j u hj hu
section
variable {P:Program}
theorem Zm(Q:Nat->Value->Prop)(w:World)(base s:Nat)(t ty e:TypeId)(i:TypeInfo)(z:Value)(bytes:Nat)(ht:P.underlying t=some (.slice e))(hi:P.info? e=some i)(hz:i.zero=some z)
  (hsize:i.size=s)(hby:i.bytes=bytes)(hzs:z.cells.size=s)(hs:0<s)
  (v:Value)(n:Nat)(hv:SRow Q s e w base v n)(ad:Addr)(m c:Nat)(news:List Value)(hl:news.length=m*s)(hnews:∀j u,news[j]? =some u->w.cell? (ad.add j)=some u)(h1:∀u∈news,u.oneCell'=true)
  (hQ:∀j u,news[j]? =some u->Q (j%s) u)(hm:0<m)(h63:n+m<=maxLen)(hbytes:(n+m)*bytes<=140737488355328)(hbase:base<=w.heap.size):
  ∃g cap w',(Builtin.append_ #[t,t] ty #[v,.slice (some ad) m c]).run P w=.ok (.slice (some ⟨g,0,none⟩) (n+m) cap) w'/\
   SRow Q s e w' base (.slice (some ⟨g,0,none⟩) (n+m) cap) (n+m)/\w.grownBy w' v.ownBlock/\(∀b c k,Row Q s e w b c k->Row Q s e w' b c k):=by
 subst hsize;subst hby
 have grown:∀(olds:List Value)(old:Nat),old<n+m->olds.length=n*i.size->(∀j u,olds[j]? =some u->Q (j%i.size) u)->∀(row:Option Nat)(w':World),
   w'=w.drew.alloc (.cells (olds.toArray++news.toArray++Builtin.zeroCells z.cells (grownCap w (n+m) old e-(n+m))) e)->
   SRow Q i.size e w' base (.slice (some ⟨w.heap.size,0,none⟩) (n+m) (grownCap w (n+m) old e)) (n+m)/\w.grownBy w' row/\(∀b c k,Row Q i.size e w b c k->Row Q i.size e w' b c k):=by
  intro olds old ho hlo hqo row w' hw';subst hw';have hge:=grownCap_ge w (n+m) old e;have hcm:grownCap w (n+m) old e<=maxLen:=grownCap_le_maxLen w (n+m) old e h63;obtain⟨G,hG⟩:∃G,grownCap w (n+m) old e=G:=⟨_,rfl⟩
  rw[hG]at hge hcm⊢;refine⟨.inr ⟨_,_,rfl,hbase,hge,hcm,_,Un w.drew _,?_,?_⟩,⟨rfl,rfl,rfl,by simp,fun k hk _=>heap_alloc_old w.drew _ hk⟩,fun b c k hr=>hr.same (heap_alloc_old w.drew _ hr.lt)⟩
  . simp only[Array.size_append,UZ,size_zeroCells,hzs,hlo,hl,<-wP]
    congr 1
    omega
  . intro j u hjm hu
    rw[<-wK]at hu;simp only[Array.toList_append,U4]at hu;rw[wP]at hjm;by_cases hj:j<n*i.size
    . rw[uL (by omega)]at hu
      exact hqo j u hu
    . rw[uO (by omega)]at hu
      rw[uL (by omega)]at hu;have:=hQ _ u hu;rw[hlo]at this;have e1:(j-n*i.size)%i.size=j%i.size:=by
       rw[uE];exact Nat.sub_mul_mod (by rw[uE];omega)
      rwa[e1]at this
 rcases hv with⟨rfl,rfl⟩|⟨g,cap,rfl,hbg,hnc,hcm,cur,hg,hcs,hq⟩
 . have hr:=run_append_nil (P:=P) w t ty e i z ht hi hz ad m c news hl hnews (by omega) (by unfold maxLen at h63;omega) (by have hb:=hbytes;simp only[Uz]at hb;omega)
   have hgr:=grown [] 0 (by omega) (by simp) (fun j u h=>by simp at h) (Value.ownBlock (.slice none 0 0)) _ rfl;simp only[Uz,Array.empty_append]at hgr⊢;exact⟨_,_,_,hr,hgr.1,hgr.2.1,hgr.2.2⟩
 . have hlc:n*i.size<=cur.size:=by rw[hcs];exact U5 _ hnc
   by_cases hroom:n+m<=cap
   . have hfit:n*i.size+news.length<=cur.size:=by rw[hl,hcs,<-wP];exact U5 _ hroom
     have hr:=run_append_room (P:=P) w t ty e i ht hi g n cap cur hg ad m c news hl hnews h1 hroom hfit
     have hRow:∀k,(∀j u,j<k*i.size->(j<n*i.size\/n*i.size+news.length<=j)->cur[j]? =some u->Q (j%i.size) u)->
       Row Q i.size e (w.setRow g (cur.toList.take (n*i.size)++news++cur.toList.drop (n*i.size+news.length)).toArray) g cap k:=by
      intro k hk;refine⟨_,setRow_heap w g cur _ e _ hg,?_,fun j u hjk hu=>?_⟩
      . simp only[UZ,uG,uH,wR,WF]
        omega
      . rw[<-wK]at hu
        simp only[U4]at hu;have hlt:(cur.toList.take (n*i.size)).length=n*i.size:=by rw[uH,WF];omega
        by_cases hj:j<n*i.size
        . rw[uL (by omega),Wu]at hu
          rw[uj hj,wK]at hu;exact hk j u hjk (.inl hj) hu
        . rw[uO (by omega),hlt]at hu
          by_cases hj2:j-n*i.size<news.length
          . rw[uL hj2]at hu
            have:=hQ _ u hu;have e1:(j-n*i.size)%i.size=j%i.size:=by
             rw[uE];exact Nat.sub_mul_mod (by rw[uE];omega)
            rwa[e1]at this
          . rw[uO (by omega),List.getElem?_drop,wK]at hu
            rw[show n*i.size+news.length+(j-n*i.size-news.length)=j by omega]at hu;exact hk j u hjk (.inr (by omega)) hu
     refine⟨_,_,_,hr,.inr ⟨_,_,rfl,hbg,hroom,hcm,hRow (n+m) fun j u hj ho hu=>?_⟩,⟨rfl,rfl,rfl,by simp,fun k _ hk=>setRow_other w g k _ (fun e=>hk (by simp[Value.ownBlock,e]))⟩,fun b c' k hb=>?_⟩
     . rcases ho with ho|ho
       . exact hq j u ho hu
       . rw[wP]at hj;omega
     . by_cases hbg2:b=g
       . subst hbg2
         rw[<-Row.cap hs ⟨cur,hg,hcs,hq⟩ hb];obtain⟨cs',k1,k2,k3⟩:=hb;rw[hg]at k1;simp only[US,WA]at k1;obtain⟨rfl,_⟩:=k1;exact hRow k fun j u hj _ hu=>k3 j u hj hu
       . exact hb.same (setRow_other w g b _ hbg2)
   . have hlo:(cur.toList.take (n*i.size)).length=n*i.size:=by rw[uH,WF];omega
     have holds:∀j u,(cur.toList.take (n*i.size))[j]? =some u->w.cell? ((⟨g,0,none⟩:Addr).add j)=some u:=by
      intro j u hu;rw[Wu]at hu
      split at hu
      . exact World.news_of_block hg j u hu
      . simp at hu
     have hr:=run_append_grow (P:=P) w t ty e i z ht hi hz ⟨g,0,none⟩ n cap _ hlo holds ad m c news hl hnews (by omega) (by unfold maxLen at h63;omega) (growslice_fits (by omega) hbytes);have hgr:=grown (cur.toList.take (n*i.size)) cap (by omega) hlo (fun j u hu=>by
      rw[Wu]at hu
      split at hu
      . rename_i hj;rw[wK]at hu;exact hq j u hj hu
      . simp at hu) (Value.ownBlock (.slice (some ⟨g,0,none⟩) n cap)) _ rfl
     exact⟨_,_,_,hr,hgr.1,hgr.2.1,hgr.2.2⟩
end
end Go.Proofs.YtpbnmhnbkfnaeaaGreatDoor
namespace Go.Proofs.YtpbnmhnbkfnaeaaGreatDoor
open Go.RowKit Nt
def qI:Nat->Value->Prop:=fun _ u=>∃x,u=.int .i64 x
abbrev BI(w:World)(b c n:Nat):Prop:=Row qI 1 3 w b c n
abbrev SI(w:World)(base:Nat)(v:Value)(n:Nat):Prop:=SRow qI 1 3 w base v n
def qN(K:Nat)(w:World)(base:Nat):Nat->Value->Prop:=fun j u=>
 (j=0->∃x,u=.int .i64 x)/\(j=1->∃s:ByteArray,u=.string s/\s.size<=K)/\(j=2->∃n,n<=K/\SI w base u n)
abbrev BN(K:Nat)(w:World)(base b c n:Nat):Prop:=Row (qN K w base) 3 56 w b c n
abbrev SN(K:Nat)(w:World)(base:Nat)(v:Value)(n:Nat):Prop:=SRow (qN K w base) 3 56 w base v n
theorem SI.bi{w w':World}{base:Nat}{v:Value}{n:Nat}(h:SI w base v n)(k:∀b c m,base<=b->BI w b c m->BI w' b c m):SI w' base v n:=by
 rcases h with h|⟨g,c,rfl,h1,h2,h3,h4⟩
 . exact .inl h
 . exact .inr ⟨g,c,rfl,h1,h2,h3,k g c n h1 h4⟩
theorem qN.bi{K base:Nat}{w w':World}{j:Nat}{u:Value}(h:qN K w base j u)(k:∀b c m,base<=b->BI w b c m->BI w' b c m):qN K w' base j u:=
 ⟨h.1,h.2.1,fun e=>by obtain⟨n,hn,hs⟩:=h.2.2 e;exact⟨n,hn,hs.bi k⟩⟩
theorem SI.base{w:World}{base base':Nat}{v:Value}{n:Nat}(h:SI w base v n)(hb:base'<=base):SI w base' v n:=by
 rcases h with h|⟨g,c,rfl,h1,h2⟩
 . exact .inl h
 . exact .inr ⟨g,c,rfl,uC hb h1,h2⟩
theorem SRow.form{Q:Nat->Value->Prop}{s:Nat}{e:TypeId}{w:World}{base:Nat}{v:Value}{n:Nat}(h:SRow Q s e w base v n):∃a c,v=.slice a n c/\n<=c/\c<=maxLen:=by
 rcases h with⟨rfl,rfl⟩|⟨g,c,rfl,_,h2,h3,_⟩
 . exact⟨none,0,rfl,ud _,by unfold maxLen;omega⟩
 . exact⟨_,c,rfl,h2,h3⟩
structure Ty(K base:Nat)(w w':World):Prop where
 bi:∀b c n,base<=b->BI w b c n->BI w' b c n
 bn:∀b c n,base<=b->BN K w base b c n->BN K w' base b c n
theorem Ty.trans{K base:Nat}{w w' w'':World}(h:Ty K base w w')(k:Ty K base w' w''):Ty K base w w'':=⟨fun b c n hb x=>k.bi b c n hb (h.bi b c n hb x),fun b c n hb x=>k.bn b c n hb (h.bn b c n hb x)⟩
theorem SI.ty{K base:Nat}{w w':World}{v:Value}{n:Nat}(h:SI w base v n)(k:Ty K base w w'):SI w' base v n:=h.bi k.bi
theorem SN.ty{K base:Nat}{w w':World}{v:Value}{n:Nat}(h:SN K w base v n)(k:Ty K base w w'):SN K w' base v n:=by
 rcases h with h|⟨g,c,rfl,h1,h2,h3,h4⟩
 . exact .inl h
 . exact .inr ⟨g,c,rfl,h1,h2,h3,k.bn g c n h1 h4⟩
theorem kD:3≠56:=by decide
theorem Ty.same{K base:Nat}{w w':World}(h:∀b cs e,base<=b->b<w.heap.size->(e=3\/e=56)->w.heap[b]? =some (.cells cs e (0,0))->w'.heap[b]? =w.heap[b]?):Ty K base w w':=by
 have hi:∀b c n,base<=b->BI w b c n->BI w' b c n:=fun b c n hb x=>by
  have hl:=x.lt;obtain⟨cs,h1,_⟩:=id x;exact Row.same x (h b cs _ hb hl (.inl rfl) h1)
 refine⟨hi,fun b c n hb x=>?_⟩;have hl:=x.lt;obtain⟨cs,h1,_⟩:=id x;exact(Row.same x (h b cs _ hb hl (.inr rfl) h1)).map fun j u q=>q.bi hi
theorem Ty.below{K base:Nat}{w w':World}(h:Below w.heap.size w w'):Ty K base w w':=Ty.same fun b _ _ _ hl _ _=>h.block b hl
theorem Ty.keeps{K base g:Nat}{w w':World}(h:Keeps g w w')(hg:g<base):Ty K base w w':=Ty.same fun b _ _ hb hl _ _=>h.block b hl (by omega)
theorem Ty.box{K base b i:Nat}{x y:Value}{T:TypeId}{w:World}(h:AtC2 w b x y T)(h1:T≠3)(h2:T≠56)(u:Value):Ty K base w (w.setCell ⟨b,i,none⟩ u):=by
 refine Ty.same fun b' cs e _ _ he hc=>?_
 rw[Uj _ _ _ _ (show b'≠b from ?_)];intro e';subst e';unfold AtC2 at h;rw[h]at hc;simp only[US,WA]at hc;rcases he with he|he
 . exact h1 (hc.2.1.trans he)
 . exact h2 (hc.2.1.trans he)
theorem Row.ne{Q Q':Nat->Value->Prop}{s s':Nat}{e e':TypeId}{w:World}{b b' c c' n n':Nat}(h:Row Q s e w b c n)(h':Row Q' s' e' w b' c' n')(he:e≠e'):b≠b':=by
 intro e1;subst e1;obtain⟨cs,h1,_⟩:=h;obtain⟨cs',k1,_⟩:=h';rw[h1]at k1;simp only[US,WA]at k1;exact he k1.2.1
theorem Row.far{Q:Nat->Value->Prop}{s:Nat}{e:TypeId}{w:World}{b c n b' i:Nat}{u:Value}(h:Row Q s e w b c n)(hb:b≠b'):Row Q s e (w.setCell ⟨b',i,none⟩ u) b c n:=
 h.same (Uj _ _ _ _ hb)
theorem Ty.setI{K base b c n i:Nat}{x:Int}{w:World}(h:BI w b c n):Ty K base w (w.setCell ⟨b,i,none⟩ (.int .i64 x)):=by
 have hi:∀b' c' m,base<=b'->BI w b' c' m->BI (w.setCell ⟨b,i,none⟩ (.int .i64 x)) b' c' m:=fun b' c' m _ h'=>by
  by_cases e:b'=b
  . subst e;exact h'.set ⟨x,rfl⟩
  . exact h'.far e
 refine⟨hi,fun b' c' m hb h'=>?_⟩;exact(h'.far (fun e=>Row.ne h h' kD e.symm)).map fun j u q=>q.bi hi
theorem Ty.setN{K base b c n i:Nat}{x:Value}{w:World}(h:BN K w base b c n)(hx:qN K w base (i%3) x):Ty K base w (w.setCell ⟨b,i,none⟩ x):=by
 have hi:∀b' c' m,base<=b'->BI w b' c' m->BI (w.setCell ⟨b,i,none⟩ x) b' c' m:=fun b' c' m _ h'=>h'.far (fun e=>Row.ne h' h kD e)
 refine⟨hi,fun b' c' m hb h'=>?_⟩;by_cases e:b'=b
 . subst e;exact(h'.set hx).map fun j u q=>q.bi hi
 . exact(h'.far e).map fun j u q=>q.bi hi
structure yI(e:TypeId)(K base:Nat)(w w':World):Prop where
 ty:Ty K base w w'
 low:Below base w w'
 oth:∀(b:Nat)(cs:Array Value)(T:TypeId)(fr:Nat×Nat),T≠e->w.heap[b]? =some (Obj.cells cs T fr)->w'.heap[b]? =some (Obj.cells cs T fr)
theorem AtC2.gr{e T:TypeId}{K base b:Nat}{w w':World}{x y:Value}(h:AtC2 w b x y T)(k:yI e K base w w')(hT:T≠e):AtC2 w' b x y T:=k.oth b _ T _ hT h
theorem AtC3.gr{e T:TypeId}{K base b:Nat}{w w':World}{x y z:Value}(h:AtC3 w b x y z T)(k:yI e K base w w')(hT:T≠e):AtC3 w' b x y z T:=k.oth b _ T _ hT h
theorem SRow.own{Q:Nat->Value->Prop}{s:Nat}{e:TypeId}{w:World}{base:Nat}{v:Value}{n g:Nat}(h:SRow Q s e w base v n)(hg:v.ownBlock=some g):base<=g/\∃c,Row Q s e w g c n:=by
 rcases h with⟨rfl,_⟩|⟨g',c,rfl,h1,h2,h3,h4⟩
 . simp[Value.ownBlock]at hg
 . simp[Value.ownBlock]at hg
   subst hg;exact⟨h1,c,h4⟩
theorem Xk{Q:Nat->Value->Prop}{s:Nat}{e:TypeId}{w w':World}{base:Nat}{v:Value}{n:Nat}(h:SRow Q s e w base v n)(hg:w.grownBy w' v.ownBlock)(hb:base<=w.heap.size):
  Below base w w'/\(∀(b:Nat)(cs:Array Value)(T:TypeId)(fr:Nat×Nat),T≠e->w.heap[b]? =some (Obj.cells cs T fr)->w'.heap[b]? =some (Obj.cells cs T fr)):=by
 refine⟨⟨hg.os,hg.tape,hg.output,hg.size,fun k hk=>hg.block k (by omega) fun e'=>?_⟩,fun b cs T fr h1 ha=>?_⟩
 . have:=(h.own e'.symm).1;omega
 . refine(hg.block b (uu.1 ha).1 fun e'=>?_).trans ha
   obtain⟨_,c,cs',k1,_⟩:=h.own e'.symm;rw[ha]at k1;simp only[US,WA]at k1;exact h1 k1.2.1
theorem zcO{K base:Nat}{w w':World}{v:Value}{n:Nat}(h:SI w base v n)(hg:w.grownBy w' v.ownBlock)(hb:base<=w.heap.size)(hr:∀b c k,BI w b c k->BI w' b c k):yI 3 K base w w':=by
 obtain⟨k1,k2⟩:=Xk h hg hb;refine⟨⟨fun b c m _ x=>hr b c m x,fun b c m hbb x=>?_⟩,k1,k2⟩;refine(Row.same x (hg.block b x.lt fun e'=>?_)).map fun j u q=>q.bi fun b c m _ x=>hr b c m x
 obtain⟨_,c',k3⟩:=h.own e'.symm;exact Row.ne k3 x kD rfl
theorem zaK{K base:Nat}{w w':World}{v:Value}{n:Nat}(h:SN K w base v n)(hg:w.grownBy w' v.ownBlock)(hb:base<=w.heap.size)(hr:∀b c k,BN K w base b c k->Row (qN K w base) 3 56 w' b c k):yI 56 K base w w':=by
 obtain⟨k1,k2⟩:=Xk h hg hb;have hi:∀b c m,base<=b->BI w b c m->BI w' b c m:=fun b c m _ x=>by
  refine Row.same x (hg.block b x.lt fun e'=>?_);obtain⟨_,c',k3⟩:=h.own e'.symm;exact Row.ne x k3 kD rfl
 exact⟨⟨hi,fun b c m hbb x=>(hr b c m x).map fun j u q=>q.bi hi⟩,k1,k2⟩
theorem SI.oth{T:TypeId}{base b i n:Nat}{cs:Array Value}{fr:Nat×Nat}{w:World}{v:Value}(h:SI w base v n)(hb:w.heap[b]? =some (Obj.cells cs T fr))(hT:T≠3)(u:Value):SI (w.setCell ⟨b,i,none⟩ u) base v n:=
 h.bi fun b' c m _ x=>x.far fun e=>by
  subst e;obtain⟨cs',k1,_⟩:=x;rw[hb]at k1;simp only[US,WA]at k1;exact hT k1.2.1
theorem AtC3.keeps{g b:Nat}{w w':World}{x y z:Value}{T:TypeId}(h:AtC3 w b x y z T)(k:Keeps g w w')(hb:b≠g):AtC3 w' b x y z T:=(k.block b h.lt hb).trans h
theorem AtC2.keeps{g b:Nat}{w w':World}{x y:Value}{T:TypeId}(h:AtC2 w b x y T)(k:Keeps g w w')(hb:b≠g):AtC2 w' b x y T:=(k.block b h.lt hb).trans h
theorem Keeps.more{g:Nat}{a w w':World}(h:Keeps g a w)(hb:Below a.heap.size w w'):Keeps g a w':=
 ⟨hb.os.trans h.os,hb.tape.trans h.tape,hb.output.trans h.output,uC h.size hb.size,fun i hi hig=>(hb.block i hi).trans (h.block i hi hig)⟩
theorem kr{w:World}{b i:Nat}{cs:Array Value}{T:TypeId}(h:w.heap[b]? =some (.cells cs T (0,0)))(u:Value):(w.setCell ⟨b,i,none⟩ u).heap[b]? =some (.cells (cs.setIfInBounds i u) T (0,0)):=by
 show(w.heap.modify b _)[b]? =_;rw[UN,uj rfl,h];rfl
theorem AtC3.put3{w:World}{b:Nat}{x y z:Value}{T:TypeId}(h:AtC3 w b x y z T)(u v t:Value):AtC3 (((w.setCell ⟨b,0,none⟩ u).setCell ⟨b,1,none⟩ v).setCell ⟨b,2,none⟩ t) b u v t T:=
 kr (i:=2) (kr (i:=1) (kr (i:=0) h u) v) t
theorem AtC3.put2{w:World}{b:Nat}{x y z:Value}{T:TypeId}(h:AtC3 w b x y z T)(t:Value):AtC3 (w.setCell ⟨b,2,none⟩ t) b x y t T:=kr (i:=2) h t
theorem SI.put3{T:TypeId}{base b n:Nat}{x y z:Value}{w:World}{v:Value}(h:SI w base v n)(hb:AtC3 w b x y z T)(hT:T≠3)(u0 u1 u2:Value):SI (((w.setCell ⟨b,0,none⟩ u0).setCell ⟨b,1,none⟩ u1).setCell ⟨b,2,none⟩ u2) base v n:=
 ((h.oth hb hT u0).oth (kr (i:=0) hb u0) hT u1).oth (kr (i:=1) (kr (i:=0) hb u0) u1) hT u2
theorem zgP(w:World)(cs:Array Value)(h:∀u∈cs.toList,∃x,u=.int .i64 x):BI (w.alloc (.cells cs 3)) w.heap.size cs.size cs.size:=
 ⟨cs,Un w _,by simp,fun j u _ hu=>h u (by have:=Array.mem_of_getElem? hu;simpa using this)⟩
theorem ze3(w:World)(cs:Array Value)(n:Nat)(hn:cs.size=n)(hm:n<=maxLen)(h:∀u∈cs.toList,∃x,u=.int .i64 x):SI (w.alloc (.cells cs 3)) w.heap.size (.slice (some ⟨w.heap.size,0,none⟩) n n) n:=by
 subst hn;exact .inr ⟨_,_,rfl,ud _,ud _,hm,zgP w cs h⟩
theorem jq(w:World)(base:Nat):SI w base (.slice none 0 0) 0:=.inl ⟨rfl,rfl⟩
theorem ze5(K:Nat)(w:World)(base:Nat):SN K w base (.slice none 0 0) 0:=.inl ⟨rfl,rfl⟩
theorem zdV{K base:Nat}(w:World)(b:Nat)(x:Int)(s:ByteArray)(kv:Value)(n:Nat)(hs:s.size<=K)(hn:n<=K)(h:w.heap[b]? =some (.cells #[.int .i64 x,.string s,kv] 56 (0,0)))(hk:SI w base kv n):BN K w base b 1 1:=
 ⟨_,h,rfl,fun j u hj hu=>by
  match j,hj,hu with
  |0,_,hu=>simp at hu;subst hu;exact⟨fun _=>⟨x,rfl⟩,fun e=>by simp at e,fun e=>by simp at e⟩
  |1,_,hu=>simp at hu;subst hu;exact⟨fun e=>by simp at e,fun _=>⟨s,rfl,hs⟩,fun e=>by simp at e⟩
  |2,_,hu=>simp at hu;subst hu;exact⟨fun e=>by simp at e,fun e=>by simp at e,fun _=>⟨n,hn,hk⟩⟩⟩
theorem zcz{w:World}{q:Nat}{v:Value}(h:w.cell? ⟨q,0,none⟩=some v):w.cell? ((⟨q,0,none⟩:Addr).add 0)=some v:=by
 have e:(⟨q,0,none⟩:Addr).add 0=⟨q,0,none⟩:=by unfold Addr.add;split<;>simp_all
 rw[e];exact h
theorem QM{w:World}{q j:Nat}{v:Value}(h:w.cell? ⟨q,j,none⟩=some v):w.cell? ((⟨q,0,none⟩:Addr).add j)=some v:=by
 have e:(⟨q,0,none⟩:Addr).add j=⟨q,j,none⟩:=by unfold Addr.add;split<;>simp_all
 rw[e];exact h
theorem Jp(K:Nat)(w:World)(base:Nat)(ty:TypeId)(v:Value)(n q:Nat)(x:Int)(hv:SI w base v n)(hx:w.cell? ⟨q,0,none⟩=some (.int .i64 x))(hn:n<=10000000)(hbase:base<=w.heap.size):
  ∃g cap w',(Builtin.append_ #[24,24] ty #[v,.slice (some ⟨q,0,none⟩) 1 1]).run Tryz.prog w=.ok (.slice (some ⟨g,0,none⟩) (n+1) cap) w'/\SI w' base (.slice (some ⟨g,0,none⟩) (n+1) cap) (n+1)/\yI 3 K base w w':=by
 obtain⟨i0,hi,hz0,hz1,hz2⟩:=Ue Tryz.infoInt
 obtain⟨g,cap,w',hr,h1,h2,h3⟩:=Zm (P:=Tryz.prog) qI w base 1 24 ty 3 i0 (.int .i64 0) 8 uV hi hz0 hz1 hz2 rfl (by decide) v n hv ⟨q,0,none⟩ 1 1 [.int .i64 x] rfl
  (fun j u h=>by
   match j,h with
   |0,h=>simp at h;subst h;exact zcz hx
   |j+1,h=>simp at h)
  (fun u h=>by simp at h;subst h;rfl) (fun j u h=>by
   match j,h with
   |0,h=>simp at h;subst h;exact⟨x,rfl⟩
   |j+1,h=>simp at h) (by decide) (by unfold maxLen;omega) (by omega) hbase
 exact⟨g,cap,w',hr,h1,zcO hv h2 hbase h3⟩
theorem Kz(K:Nat)(w:World)(base:Nat)(ty:TypeId)(v:Value)(n q:Nat)(x:Int)(s:ByteArray)(kv:Value)(m:Nat)(hv:SN K w base v n)(h0:w.cell? ⟨q,0,none⟩=some (.int .i64 x))(h1:w.cell? ⟨q,1,none⟩=some (.string s))(h2:w.cell? ⟨q,2,none⟩=some kv)
  (hs:s.size<=K)(hm:m<=K)(hk:SI w base kv m)(hn:n<=1000000)(hbase:base<=w.heap.size):
  ∃g cap w',(Builtin.append_ #[23,23] ty #[v,.slice (some ⟨q,0,none⟩) 1 1]).run Tryz.prog w=.ok (.slice (some ⟨g,0,none⟩) (n+1) cap) w'/\SN K w' base (.slice (some ⟨g,0,none⟩) (n+1) cap) (n+1)/\yI 56 K base w w':=by
 obtain⟨i0,hi,hz0,hz1,hz2⟩:=Ue Tryz.infoNode;have hone:kv.oneCell'=true:=by
  rcases hk with⟨rfl,_⟩|⟨g,c,rfl,_⟩<;>rfl
 obtain⟨g,cap,w',hr,k1,k2,k3⟩:=Zm (P:=Tryz.prog) (qN K w base) w base 3 23 ty 56 i0 (.agg #[.int .i64 0,.string ⟨#[]⟩,.slice none 0 0]) 48 WW hi hz0 hz1 hz2 rfl (by decide) v n hv ⟨q,0,none⟩ 1 1 [.int .i64 x,.string s,kv] rfl
  (fun j u h=>by
   match j,h with
   |0,h=>simp at h;subst h;exact QM h0
   |1,h=>simp at h;subst h;exact QM h1
   |2,h=>simp at h;subst h;exact QM h2
   |j+3,h=>simp at h)
  (fun u h=>by simp at h;rcases h with rfl|rfl|rfl<;>first|rfl|exact hone) (fun j u h=>by
   match j,h with
   |0,h=>simp at h;subst h;exact⟨fun _=>⟨x,rfl⟩,fun e=>by simp at e,fun e=>by simp at e⟩
   |1,h=>simp at h;subst h;exact⟨fun e=>by simp at e,fun _=>⟨s,rfl,hs⟩,fun e=>by simp at e⟩
   |2,h=>simp at h;subst h;exact⟨fun e=>by simp at e,fun e=>by simp at e,fun _=>⟨m,hm,hk⟩⟩
   |j+3,h=>simp at h) (by decide) (by unfold maxLen;omega) (by omega) hbase
 have hG:=zaK hv k2 hbase k3;refine⟨g,cap,w',hr,?_,hG⟩;rcases k1 with⟨e,_⟩|⟨g',c,e,r1,r2,r3,r4⟩
 . cases e
 . exact .inr ⟨g',c,e,r1,r2,r3,r4.map fun j u q=>q.bi hG.ty.bi⟩
theorem VZ{w:World}{ops:Array Oper}{rest:List Oper}{o:Oper}{a:Act}{Q:Exit->Act->World->Prop}(hgd:o.guard=none)(s x:Operand)
  (ho:o.op=.call {callee:=.builtin .append,args:=#[s,x],argTypes:=#[24,24]})
  (K base:Nat)(v:Value)(n q:Nat)(z:Int)(hs:a.eval s=v)(hxv:a.eval x=.slice (some ⟨q,0,none⟩) 1 1)(hv:SI w base v n)(hx:w.cell? ⟨q,0,none⟩=some (.int .i64 z))(hn:n<=10000000)(hbase:base<=w.heap.size)
  (h:∀g cap w',SI w' base (.slice (some ⟨g,0,none⟩) (n+1) cap) (n+1)->yI 3 K base w w'->wpList Tryz.prog ops Q rest (a.put o.dst (.slice (some ⟨g,0,none⟩) (n+1) cap)) w'):
  wpList Tryz.prog ops Q (o::rest) a w:=by
 refine wpList_plain hgd fun K' hK=>?_
 obtain⟨g,cap,w',hr,h2,h3⟩:=Jp K w base o.type v n q z hv hx hn hbase;unfold Oper.wp execOp;simp only[ho,resolve,invoke,builtin,Sem.run_bind,Sem.run_pure,Result.andThen_ok,List.map_toArray,UU,di,hs,hxv,hr];exact hK _ _ (h g cap w' h2 h3)
theorem jr{w:World}{ops:Array Oper}{o:Oper}{a:Act}{K':Act->World->Prop}{Q:Exit->Act->World->Prop}{E:Prop}(hgd:o.guard=none)(s x:Operand)
  (ho:o.op=.call {callee:=.builtin .append,args:=#[s,x],argTypes:=#[24,24]})
  (K base:Nat)(v:Value)(n q:Nat)(z:Int)(hs:a.eval s=v)(hxv:a.eval x=.slice (some ⟨q,0,none⟩) 1 1)(hv:SI w base v n)(hx:w.cell? ⟨q,0,none⟩=some (.int .i64 z))(hn:n<=10000000)(hbase:base<=w.heap.size)(d:Option Tmp)(hd:o.dst=d)
  (h:∀g cap w',SI w' base (.slice (some ⟨g,0,none⟩) (n+1) cap) (n+1)->yI 3 K base w w'->K' (a.put d (.slice (some ⟨g,0,none⟩) (n+1) cap)) w'):
  if Region.wanted o (yielded ops a.tmps)=true then Oper.wp Tryz.prog o a w K' Q else E:=by
 subst hd;have hw:Region.wanted o (yielded ops a.tmps)=true:=by simp[Region.wanted,hgd]
 rw[uj hw];obtain⟨g,cap,w',hr,h2,h3⟩:=Jp K w base o.type v n q z hv hx hn hbase;unfold Oper.wp execOp;simp only[ho,resolve,invoke,builtin,Sem.run_bind,Sem.run_pure,Result.andThen_ok,List.map_toArray,UU,di,hs,hxv,hr];exact h g cap w' h2 h3
theorem qy{w:World}{ops:Array Oper}{rest:List Oper}{o:Oper}{a:Act}{Q:Exit->Act->World->Prop}(hgd:o.guard=none)(s x:Operand)
  (ho:o.op=.call {callee:=.builtin .append,args:=#[s,x],argTypes:=#[23,23]})
  (K base:Nat)(v:Value)(n q:Nat)(z:Int)(t:ByteArray)(kv:Value)(m:Nat)(hs:a.eval s=v)(hxv:a.eval x=.slice (some ⟨q,0,none⟩) 1 1)(hv:SN K w base v n)(h0:w.cell? ⟨q,0,none⟩=some (.int .i64 z))(h1:w.cell? ⟨q,1,none⟩=some (.string t))(h2:w.cell? ⟨q,2,none⟩=some kv)
  (ht:t.size<=K)(hm:m<=K)(hk:SI w base kv m)(hn:n<=1000000)(hbase:base<=w.heap.size)
  (h:∀g cap w',SN K w' base (.slice (some ⟨g,0,none⟩) (n+1) cap) (n+1)->yI 56 K base w w'->wpList Tryz.prog ops Q rest (a.put o.dst (.slice (some ⟨g,0,none⟩) (n+1) cap)) w'):
  wpList Tryz.prog ops Q (o::rest) a w:=by
 refine wpList_plain hgd fun K' hK=>?_
 obtain⟨g,cap,w',hr,h2,h3⟩:=Kz K w base o.type v n q z t kv m hv h0 h1 h2 ht hm hk hn hbase;unfold Oper.wp execOp;simp only[ho,resolve,invoke,builtin,Sem.run_bind,Sem.run_pure,Result.andThen_ok,List.map_toArray,UU,di,hs,hxv,hr];exact hK _ _ (h g cap w' h2 h3)
theorem zbN{α:Type}{n:Nat}{P:Nat->α->Prop}(h:∀j,j<n->∃x,P j x):∃xs:List α,xs.length=n/\∀j x,xs[j]? =some x->P j x:=by
 induction n with
 |zero=>exact⟨[],rfl,fun j x h=>by simp at h⟩
 |succ n ih=>
  obtain⟨xs,hl,hx⟩:=ih fun j hj=>h j (by omega)
  obtain⟨x,hp⟩:=h n (by omega);refine⟨xs++[x],by simp[hl],fun j y hy=>?_⟩;by_cases hj:j<xs.length
  . rw[uL hj]at hy;exact hx j y hy
  . have hj2:j=n:=by
     have:=(ui.1 hy).1;simp at this;omega
    subst hj2;rw[uO (by omega),hl]at hy;simp at hy;subst hy;exact hp
theorem SI.ints{w:World}{base:Nat}{v:Value}{n:Nat}(h:SI w base v n):∃xs:List Int,xs.length=n/\IntsAt w v xs:=by
 rcases h with⟨rfl,rfl⟩|⟨g,c,rfl,h1,h2,h3,h4⟩
 . exact⟨[],rfl,none,0,rfl,ud _,by unfold maxLen;omega,fun h=>absurd h (by simp)⟩
 . obtain⟨xs,hl,hx⟩:=zbN (n:=n) (P:=fun j x=>w.cell? ⟨g,j,none⟩=some (.int .i64 x)) fun j hj=>by
    obtain⟨u,hu,x,rfl⟩:=h4.cell h2 (j:=j) (by omega);exact⟨x,hu⟩
   exact⟨xs,hl,_,c,by rw[hl],by omega,h3,fun _=>⟨g,0,rfl,h4.lt,fun j x e=>by rw[Uz];exact hx j x e⟩⟩
theorem SN.base{K:Nat}{w:World}{base base':Nat}{v:Value}{n:Nat}(h:SN K w base v n)(hb:base'<=base):SN K w base' v n:=by
 rcases h with h|⟨g,c,rfl,h1,h2,h3,h4⟩
 . exact .inl h
 . exact .inr ⟨g,c,rfl,uC hb h1,h2,h3,h4.map fun j u q=>⟨q.1,q.2.1,fun e=>by obtain⟨k,hk,hs⟩:=q.2.2 e;exact⟨k,hk,SI.base hs hb⟩⟩⟩
theorem zfz(s:ByteArray):∃t:List UInt8,s=B t/\t.length=s.size:=⟨s.data.toList,rfl,WF⟩
theorem SN.nodes{K:Nat}{w:World}{base:Nat}{v:Value}{n:Nat}(h:SN K w base v n)(hK:K<=maxLen):∃ns:List Nd,ns.length=n/\NodesAt w v ns/\∀nd∈ns,nd.2.1.length<=K/\nd.2.2.length<=K:=by
 rcases h with⟨rfl,rfl⟩|⟨g,c,rfl,h1,h2,h3,h4⟩
 . exact⟨[],rfl,⟨none,0,rfl,ud _,by unfold maxLen;omega,fun h=>absurd h (by simp)⟩,fun nd h=>by simp at h⟩
 . obtain⟨ns,hl,hx⟩:=zbN (α:=Nd) (n:=n) (P:=fun j nd=>w.cell? ⟨g,j*3,none⟩=some (.int .i64 nd.1)/\w.cell? ⟨g,j*3+1,none⟩=some (.string (B nd.2.1))/\(nd.2.1.length<=K/\nd.2.2.length<=K)/\∃kv,w.cell? ⟨g,j*3+2,none⟩=some kv/\IntsAt w kv nd.2.2) fun j hj=>by
    obtain⟨u0,c0,q0⟩:=h4.cell h2 (j:=j*3) (by omega);obtain⟨u1,c1,q1⟩:=h4.cell h2 (j:=j*3+1) (by omega);obtain⟨u2,c2,q2⟩:=h4.cell h2 (j:=j*3+2) (by omega);obtain⟨x,rfl⟩:=q0.1 (by omega);obtain⟨s,rfl,hs⟩:=q1.2.1 (by omega);obtain⟨m,hm,hk⟩:=q2.2.2 (by omega);obtain⟨t,rfl,ht⟩:=zfz s;obtain⟨xs,hxl,hxs⟩:=hk.ints;exact⟨(x,t,xs),c0,c1,⟨by show t.length<=K;omega,by show xs.length<=K;omega⟩,u2,c2,hxs⟩
   refine⟨ns,hl,⟨_,c,by rw[hl],by omega,h3,fun _=>⟨g,0,rfl,h4.lt,fun j nd e=>?_⟩⟩,fun nd hnd=>?_⟩
   . obtain⟨c0,c1,⟨l1,l2⟩,kv,c2,hk⟩:=hx j nd e
     exact⟨by rw[Uz];exact c0,by rw[Uz];exact c1,by omega,kv,by rw[Uz];exact c2,hk⟩
   . obtain⟨j,hj⟩:=uT hnd
     exact(hx j nd hj).2.2.1
theorem Qj{K:Nat}{w:World}{base:Nat}{nv rv:Value}{n m:Nat}(hn:SN K w base nv n)(hr:SI w base rv m)(hK:K<=maxLen):
  ∃d:Dt,DataAt w (.agg #[nv,rv]) d/\d.1.length=n/\d.2.length=m/\∀nd∈d.1,nd.2.1.length<=K/\nd.2.2.length<=K:=by
 obtain⟨ns,h1,h2,h3⟩:=hn.nodes hK;obtain⟨rs,k1,k2⟩:=hr.ints;exact⟨(ns,rs),⟨nv,rv,rfl,h2,k2⟩,h1,k1,h3⟩
def zer(m:Int)(i:Nat):Prop:=(i:Int)<m\/i=0
theorem Qq(z:Int)(M:Int)(h0:0<=z)(h1:z<=M)(hM:M<=9223372036854775807):∃u:Nat,Hid (z=(u:Int))/\IntKind.i64.wrap z=(u:Int)/\(u:Int)<=M:=
 ⟨z.toNat,by show z=_;omega,by rw[qX z (by omega) (by omega)];omega,by omega⟩
theorem xF(g p n cap:Nat)(a:Option Addr)(m:Int)(w:World)(h:Rd w g p a n cap)(hp:p<=1000000000)(hm:m<=4611686018427387904):
  Calls Tryz.prog 27 #[.pointer (some ⟨g,0,none⟩),.int .i64 m] w fun e w'=>(∃i:Nat,e=.returned (.int .i64 (i:Int))/\zer m i)/\Rd w' g (p+1) a n cap/\Keeps g w w':=by
 have c0:=h.c0;have c1:=h.c1;have f1:=h.f1;have hlt:=h.lt;have hN:=h.next ((p:Int)+1) (by omega);have hK:=(Keeps.refl g w).setOwn (p:=⟨g,1,none⟩) rfl (.int .i64 ((p:Int)+1));have d0:=hN.c0;have d1:=hN.c1;have hB:=hN.byts;have hlen:=h.len;have HN:=zb hN;have HK:=zb hK;clear hN hK h;by_cases hm1:m<1
 . go_enter Tryz.func27,Tryz.ntmps27
   go_wp2;go_ret;exact⟨⟨0,rfl,.inr rfl⟩,za HN,za HK⟩
 . by_cases hn0:n=0
   . have hz:((n:Int)==0)=true:=by simp[hn0]
     have hl:decide (m<1)=false:=uw hm1;go_enter Tryz.func27,Tryz.ntmps27;go_wp2;go_ret;subst hn0;exact⟨⟨0,rfl,.inr rfl⟩,za HN,za HK⟩
   . obtain⟨q,o,rfl,hqg,hq,hcells⟩:=hB (by omega)
     have hz:((n:Int)==0)=false:=by simp;omega
     have hl:decide (m<1)=false:=uw hm1;have Hc:=zb hcells;clear hcells hB;by_cases hpn:p<n
     . obtain⟨x,hx,hcx⟩:=za Hc p hpn
       go_enter Tryz.func27,Tryz.ntmps27;go_wp2;go_ret;refine⟨⟨((x:Int)%m).toNat,zK ?_,.inl ?_⟩,za HN,za HK⟩
       . rw[Int.toNat_of_nonneg (Int.emod_nonneg _ (by omega))]
       . rw[Int.toNat_of_nonneg (Int.emod_nonneg _ (by omega))];exact Int.emod_lt_of_pos _ (by omega)
     . obtain⟨i1,hi1,e1⟩:∃i:Nat,i<n/\(p:Int).tmod n=(i:Int):=⟨p%n,Ua _ (by omega),by rw[Uo (by omega)];rfl⟩
       obtain⟨k7,_,e3,hk7⟩:=Qq ((p:Int)*7) 7000000000 (by omega) (by omega) (by omega);obtain⟨k73,_,e4,hk73⟩:=Qq ((k7:Int)+3) 7000000003 (by omega) (by omega) (by omega);obtain⟨i2,hi2,e5⟩:∃i:Nat,i<n/\(k73:Int).tmod n=(i:Int):=⟨k73%n,Ua _ (by omega),by rw[Uo (by omega)];rfl⟩
       obtain⟨x,hx,hcx⟩:=za Hc i1 hi1;obtain⟨y,hy,hcy⟩:=za Hc i2 hi2;obtain⟨u1,_,e6,hu1⟩:=Qq ((x:Int)*131) 100000 (by omega) (by omega) (by omega);obtain⟨u2,_,e7,hu2⟩:=Qq ((y:Int)*1117) 1000000 (by omega) (by omega) (by omega);obtain⟨u3,_,e8,hu3⟩:=Qq ((u1:Int)+u2) 1100000 (by omega) (by omega) (by omega);obtain⟨u4,_,e9,hu4⟩:=Qq ((p:Int)*29) 29000000000 (by omega) (by omega) (by omega);obtain⟨u5,_,e10,hu5⟩:=Qq ((u3:Int)+u4) 30000000000 (by omega) (by omega) (by omega);obtain⟨u6,hu6,e11⟩:∃u:Nat,(u:Int)<=1000000000/\(p:Int).tdiv n=(u:Int):=⟨p/n,by have:=WR p n;omega,by rw[Up (by omega)];rfl⟩
       have e11':=qX (u6:Int) (by omega) (by omega);obtain⟨u7,_,e12,hu7⟩:=Qq ((u6:Int)*53) 53000000000 (by omega) (by omega) (by omega);obtain⟨u8,_,e13,hu8⟩:=Qq ((u5:Int)+u7) 100000000000 (by omega) (by omega) (by omega);have hi1':(i1:Int)<n:=by omega
       have hi2':(i2:Int)<n:=by omega
       have hx256:(x:Int)<=255:=by omega
       have hy256:(y:Int)<=255:=by omega
       have hX:=zdJ (x:=(u8:Int)) (y:=(u8:Int)/64) (by omega) (by omega) (by omega) (by omega);obtain⟨z,hz⟩:∃z:Nat,bits .xor .i64 (u8:Int) ((u8:Int)/64)=(z:Int):=⟨(bits .xor .i64 (u8:Int) ((u8:Int)/64)).toNat,by omega⟩
       have Hz:=zb hz;clear hz hX;go_enter Tryz.func27,Tryz.ntmps27;go_wp2
       go_quiet (fail)
       go_wp2;go_ret;rw[za Hz];refine⟨⟨((z:Int)%m).toNat,zK ?_,.inl ?_⟩,(za HN).drewN nq,(za HK).drewN nq⟩
       . rw[Int.toNat_of_nonneg (Int.emod_nonneg _ (by omega)),Uo (by omega)]
       . rw[Int.toNat_of_nonneg (Int.emod_nonneg _ (by omega))];exact Int.emod_lt_of_pos _ (by omega)
theorem qk(g p n cap:Nat)(a:Option Addr)(m:Int)(w:World)(h:Rd w g p a n cap)(hp:p<=1000000000)(hm:m<=4611686018427387904):
  Calls Tryz.prog 27 #[.pointer (some ⟨g,0,none⟩),.int .i64 m] w fun e w'=>(∃i:Nat,e=.returned (.int .i64 (i:Int))/\zer m i)/\Drawn w g p n cap a 1 w':=
 (xF g p n cap a m w h hp hm).mono fun _ _ h=>⟨h.1,⟨p+1,ud _,h.2.1⟩,h.2.2⟩
def Bytes0(w:World)(a:Option Addr)(n:Nat):Prop:=
 0<n->∃q o,a=some ⟨q,o,none⟩/\q<w.heap.size/\∀j,j<n->∃x:Nat,x<=255/\w.cell? ⟨q,o+j,none⟩=some (.int .u8 (x:Int))
theorem Bytes0.below{w w':World}{a:Option Addr}{n:Nat}(h:Bytes0 w a n)(k:Below w.heap.size w w'):Bytes0 w' a n:=by
 intro hn;obtain⟨q,o,rfl,hq,hc⟩:=h hn;refine⟨q,o,rfl,uJ hq k.size,fun j hj=>?_⟩;obtain⟨x,hx,hcj⟩:=hc j hj;exact⟨x,hx,by rw[k.cell hq];exact hcj⟩
theorem Bytes0.byts{w:World}{a:Option Addr}{n m:Nat}(h:Bytes0 w a n)(hm:m<=n)(o:Obj):Byts (w.alloc o) w.heap.size a m:=by
 intro hn;obtain⟨q,o',rfl,hq,hc⟩:=h (by omega);refine⟨q,o',rfl,hq,by simp;omega,fun j hj=>?_⟩;obtain⟨x,hx,hcj⟩:=hc j (by omega);exact⟨x,hx,by rw[Below.cell ((ue w.heap.size w).alloc (ud _) o) hq];exact hcj⟩
theorem zeT{w:World}{a:Option Addr}{n m cap:Nat}(h:Bytes0 w a n)(hm:m<=n)(h2:m<=2000)(v:Int)(hv:v=((0:Nat):Int)):Rd (w.alloc (.cells #[.slice a m cap,.int .i64 v] 76)) w.heap.size 0 a m cap:=by
 subst hv;exact⟨by show(w.heap.push _)[w.heap.size]? =_;rw[WG,uj rfl],h.byts hm _,h2⟩
theorem Xw(a:Option Addr)(n cap:Nat)(w:World)(h:Bytes0 w a n)(hcap:n<=cap)(hmax:cap<=maxLen):
  Calls Tryz.prog 26 #[.slice a n cap] w fun e w'=>e=.returned (.pointer (some ⟨w.heap.size,0,none⟩))/\(∃m,m<=n/\Rd w' w.heap.size 0 a m cap)/\Below w.heap.size w w':=by
 unfold maxLen at hmax;have H:=zb h;clear h;by_cases hn:2000<n
 . have hc2:(2000:Int)<=cap:=by omega
   go_enter Tryz.func26,Tryz.ntmps26;go_wp2;go_ret;exact⟨rfl,⟨2000,by omega,zeT (za H) (by omega) (by omega) _ rfl⟩,(ue _ _).alloc (ud _) _⟩
 . go_enter Tryz.func26,Tryz.ntmps26
   go_wp2;go_ret;exact⟨rfl,⟨n,by omega,zeT (za H) (by omega) (by omega) _ rfl⟩,(ue _ _).alloc (ud _) _⟩
def isS(M:Nat):Value->Bool| .string s=>decide (s.size<=M)|_=>false
theorem zfL{M:Nat}{v:Value}(h:isS M v=true):∃s,v=.string s/\s.size<=M:=by
 cases v<;>simp[isS]at h;exact⟨_,rfl,h⟩
theorem zhD(g p n cap q:Nat)(a:Option Addr)(cs:Array Value)(L:Nat)(w:World)(h:Rd w g p a n cap)(hp:p<=1000000000)(hL:L=cs.size)(hL0:0<L)(hL9:L<=1000000)
  (hcs:w.heap[q]? =some (.cells cs 9 (0,0)))(hqg:q≠g):
  Calls Tryz.prog 119 #[.pointer (some ⟨g,0,none⟩),.slice (some ⟨q,0,none⟩) L L] w fun e w'=>(∃v,e=.returned v/\v∈cs.toList)/\Drawn w g p n cap a 1 w':=by
 have hq:q<w.heap.size:=(uu.1 hcs).1;have H:=zb h;have Hcs:=zb hcs;have HL:=zb hL;clear h hcs hL;go_enter Tryz.func119,Tryz.ntmps119;go_wp2_with fail;refine(xF g p n cap a L w (za H) hp (by omega)).mono ?_;rintro e w1⟨⟨i,rfl,hi⟩,hr,hk⟩;have hiL:i<L:=by rcases hi with hi|hi<;>omega
 have hiL2:(i:Int)<L:=by omega
 have hlt:i<cs.toList.length:=by rw[WF,<-za HL];exact hiL
 have hcell:w1.cell? ⟨q,i,none⟩=some (cs.toList[i]'hlt):=by
  rw[hk.cell (p:=⟨q,i,none⟩) hq hqg];simp[World.cell?,za Hcs]
 have hmem:cs.toList[i]'hlt∈cs.toList:=uF hlt;generalize cs.toList[i]'hlt=v at *;have Hm:=zb hmem;have HR:=zb hr;have HK:=zb hk;clear hr hk hmem hi;go_wp2;go_ret;exact⟨⟨v,rfl,za Hm⟩,⟨p+1,ud _,za HR⟩,za HK⟩
theorem zJ(n:Nat):(zr n).size=(qj 10 n).length:=by simp[zr,jB,zj]
theorem jE(n:Nat):n<10^(zr n).size:=by rw[zJ];exact Vl (by omega) n
theorem zgh{a b X l:Nat}(hba:b<=a)(hX:X<10^(zr a).size)(h:X+b%10^(zr a).size=a%10^(zr a).size+l*10^(zr a).size):X=a-b:=by
 have ha:=jE a;rw[Uu ha,Uu (by omega)]at h;generalize 10^(zr a).size=p at *;have:l=0:=by
  rcases ws l with h0|h0
  . exact h0
  . have:=U5 p h0
    omega
 subst this;omega
theorem zfQ(a b:Nat)(w:World)(hba:b<=a)(hs:(zr a).size<=100000):
  Calls Tryz.prog 153 #[.string (zr a),.string (zr b)] w fun e w'=>e=.returned (.string (zr (a-b)))/\Below w.heap.size w w':=by
 obtain⟨i0,hi,hz0,hz1,hz2⟩:=Ue Tryz.infoInt;have hbs:(zr b).size<=1000000000:=by
  have:=qW (b:=10) (by omega) (jV a) (wQ hba (jE a));rw[zJ b];omega
 have Hba:=zb hba;clear hba;go_enter Tryz.func153,Tryz.ntmps153;go_wp2
 go_loopw [5,6,7] (fun v l i wr=>∃(k c:Nat)(xs:List Nat),k<=(zr a).size/\i=.int .i64 k/\l=.int .i64 c/\c<=1/\xs.length=k/\wr.ownsRow w.heap.size 3 1 v k (ints xs)/\Below w.heap.size w wr/\
   Hid (∀d∈xs,d<10)/\Hid (zG 10 xs+b%10^k=a%10^k+c*10^k))
  (fun _ _ i _=>(zr a).size-(intOf i).toNat)
 case atStart=>
  exact⟨0,0,[],uD _,rfl,rfl,by omega,rfl,Wt w #[] 0 (ud _) (by decide) (by simp),(ue _ _).alloc (ud _) _,zb (by simp),zb (by simp[zG,Nat.mod_one])⟩
 case round=>
  obtain⟨k,c,xs,hk,rfl,rfl,hc,hxk,hown,hb,hdg,hval⟩:=hrel;by_cases hlt:k<(zr a).size
  . have hak:a/10^k%10<10:=Ua _ (by omega)
    have hbk:b/10^k%10<10:=Ua _ (by omega);generalize hga:a/10^k%10=ak at *;generalize hgb:b/10^k%10=bk at *;have Ha:=zb hga;have Hb:=zb hgb;clear hga hgb;go_wp2_with fail;refine(kR a k ak _ (za Ha) (by omega) (by omega)).mono ?_;rintro e w1⟨rfl,rfl⟩;go_wp2_with fail;refine(kR b k bk _ (za Hb) (by omega) (by omega)).mono ?_;rintro e w1⟨rfl,rfl⟩;by_cases hneg:(ak:Int)-bk-c<0
    . obtain⟨d,hd⟩:∃d:Nat,(ak:Int)-bk-c+10=d:=⟨((ak:Int)-bk-c+10).toNat,by omega⟩
      have hdl:d<10:=by omega
      have hw:=hb.size;go_wp2_with (at_builtin;refine wG _ rfl (.tmp 29) (.tmp 31) 24 rfl w.heap.size 3 i0 (.int .i64 0) 1 8 uV hi hz0 hz1 hz2 rfl (by decide) _ _ _ rfl (hown.alloc _) ⟨w1.heap.size,0,none⟩ 1 1 [.int .i64 d] rfl rfl (cell_one_new _ _ _) (by intro u hu;simp at hu;subst hu;rfl) (by unfold maxLen;omega) (by omega) (by simp;omega) ?_;intro v2 w2 hown2 hg2 _);have hbX:=qh (hb.alloc hw _) (hown.alloc _) hg2 (by simp;omega);go_roundw
      case rel=>exact⟨k+1,1,xs++[d],by omega,by go_num,rfl,by omega,by simp[hxk],by rw[<-kY];exact hown2,hbX,kV hdg hdl,zb (by rw[qz,hxk];exact zad (za hval) (za Ha) (za Hb) (by omega))⟩
      case measure=>simp[intOf];omega
    . obtain⟨d,hd⟩:∃d:Nat,(ak:Int)-bk-c=d:=⟨((ak:Int)-bk-c).toNat,by omega⟩
      have hdl:d<10:=by omega
      have hw:=hb.size;go_wp2_with (at_builtin;refine wG _ rfl (.tmp 29) (.tmp 31) 24 rfl w.heap.size 3 i0 (.int .i64 0) 1 8 uV hi hz0 hz1 hz2 rfl (by decide) _ _ _ rfl (hown.alloc _) ⟨w1.heap.size,0,none⟩ 1 1 [.int .i64 d] rfl rfl (cell_one_new _ _ _) (by intro u hu;simp at hu;subst hu;rfl) (by unfold maxLen;omega) (by omega) (by simp;omega) ?_;intro v2 w2 hown2 hg2 _);have hbX:=qh (hb.alloc hw _) (hown.alloc _) hg2 (by simp;omega);go_roundw
      case rel=>exact⟨k+1,0,xs++[d],by omega,by go_num,rfl,by omega,by simp[hxk],by rw[<-kY];exact hown2,hbX,kV hdg hdl,zb (by rw[qz,hxk];exact zad (za hval) (za Ha) (za Hb) (by omega))⟩
      case measure=>simp[intOf];omega
  . go_wp2_with fail
    refine(Vi xs _ _ (za hdg) (by omega) (zV (hxk ▸ hown) (uD _))).mono ?_;rintro e w1⟨rfl,hb1⟩;go_wp2;go_ret;have hkn:k=(zr a).size:=by omega
    subst hkn;exact⟨qm (by rw[zgh (za Hba) (hxk ▸ Zg xs (za hdg)) (za hval)]),hb.trans (hb1.mono hb.size)⟩
theorem JZ(n k:Nat)(h:(zr n).size<=k):n/10^k%10=0:=by
 rw[Yl n k (by rw[<-zJ];exact h)]
theorem zfr{a b X k:Nat}(h1:(zr a).size<=k)(h2:(zr b).size<=k)(h:X+0*10^k=a%10^k+b%10^k):X=a+b:=by
 have ha:=uJ (jE a) (UC (show 0<10 by omega) h1);have hb:=uJ (jE b) (UC (show 0<10 by omega) h2);rw[Uu ha,Uu hb]at h;omega
theorem zfP(a b:Nat)(w:World)(hsa:(zr a).size<=100000)(hsb:(zr b).size<=100000):
  Calls Tryz.prog 132 #[.string (zr a),.string (zr b)] w fun e w'=>e=.returned (.string (zr (a+b)))/\Below w.heap.size w w':=by
 obtain⟨i0,hi,hz0,hz1,hz2⟩:=Ue Tryz.infoInt;obtain⟨M,hM1,hM2,hM3⟩:∃M,(zr a).size<=M/\(zr b).size<=M/\M<=100000:=⟨max (zr a).size (zr b).size,by omega,by omega,by omega⟩
 go_enter Tryz.func132,Tryz.ntmps132;go_wp2
 go_loopw [5,6,7] (fun v l i wr=>∃(k c:Nat)(xs:List Nat),k<=M+1/\k+c<=M+1/\i=.int .i64 k/\l=.int .i64 c/\c<=1/\xs.length=k/\wr.ownsRow w.heap.size 3 1 v k (ints xs)/\Below w.heap.size w wr/\
   Hid (∀d∈xs,d<10)/\Hid (zG 10 xs+c*10^k=a%10^k+b%10^k))
  (fun _ _ i _=>M+1-(intOf i).toNat)
 case atStart=>
  exact⟨0,0,[],by omega,by omega,rfl,rfl,by omega,rfl,Wt w #[] 0 (ud _) (by decide) (by simp),(ue _ _).alloc (ud _) _,zb (by simp),zb (by simp[zG,Nat.mod_one])⟩
 case round=>
  obtain⟨k,c,xs,hk,hkc,rfl,rfl,hc,hxk,hown,hb,hdg,hval⟩:=hrel;have hak:a/10^k%10<10:=Ua _ (by omega);have hbk:b/10^k%10<10:=Ua _ (by omega);have ha0:=JZ a k;have hb0:=JZ b k;generalize hga:a/10^k%10=ak at *;generalize hgb:b/10^k%10=bk at *;have Ha:=zb hga;have Hb:=zb hgb;clear hga hgb;obtain⟨d,hd⟩:∃d:Nat,((ak:Int)+bk+c)%10=d:=⟨(((ak:Int)+bk+c)%10).toNat,by omega⟩
  obtain⟨c',hc'⟩:∃d:Nat,((ak:Int)+bk+c)/10=d:=⟨(((ak:Int)+bk+c)/10).toNat,by omega⟩
  have hdl:d<10:=by omega
  have hcl:(zr a).size<=k->(zr b).size<=k->c'=0:=fun h1 h2=>by have:=ha0 h1;have:=hb0 h2;omega
  have hkM:k<(zr a).size\/k<(zr b).size\/0<c->k+1+c'<=M+1:=by
   intro h;by_cases h1:(zr a).size<=k
   . by_cases h2:(zr b).size<=k
     . have:=hcl h1 h2;omega
     . omega
   . omega
  have HkM:=zb hkM;clear hcl hkM ha0 hb0;by_cases h1:k<(zr a).size
  . have hkm:=za HkM (.inl h1)
    go_wp2_with fail;refine(kR a k ak _ (za Ha) (by omega) (by omega)).mono ?_;rintro e w1⟨rfl,rfl⟩;go_wp2_with fail;refine(kR b k bk _ (za Hb) (by omega) (by omega)).mono ?_;rintro e w1⟨rfl,rfl⟩;have hw:=hb.size;go_wp2_with (at_builtin;refine wG _ rfl (.tmp 35) (.tmp 38) 24 rfl w.heap.size 3 i0 (.int .i64 0) 1 8 uV hi hz0 hz1 hz2 rfl (by decide) _ _ _ rfl (hown.alloc _) ⟨w1.heap.size,0,none⟩ 1 1 [.int .i64 d] rfl rfl (cell_one_new _ _ _) (by intro u hu;simp at hu;subst hu;rfl) (by unfold maxLen;omega) (by omega) (by simp;omega) ?_;intro v2 w2 hown2 hg2 _);have hbX:=qh (hb.alloc hw _) (hown.alloc _) hg2 (by simp;omega);go_roundw
    case rel=>exact⟨k+1,c',xs++[d],by omega,by omega,by go_num,by rw[hc'],by omega,by simp[hxk],by rw[<-kY];exact hown2,hbX,kV hdg hdl,zb (by rw[qz,hxk];exact JU (za hval) (za Ha) (za Hb) (by omega))⟩
    case measure=>simp[intOf];omega
  . by_cases h2:k<(zr b).size
    . have hkm:=za HkM (.inr (.inl h2))
      go_wp2_with fail;refine(kR a k ak _ (za Ha) (by omega) (by omega)).mono ?_;rintro e w1⟨rfl,rfl⟩;go_wp2_with fail;refine(kR b k bk _ (za Hb) (by omega) (by omega)).mono ?_;rintro e w1⟨rfl,rfl⟩;have hw:=hb.size;go_wp2_with (at_builtin;refine wG _ rfl (.tmp 35) (.tmp 38) 24 rfl w.heap.size 3 i0 (.int .i64 0) 1 8 uV hi hz0 hz1 hz2 rfl (by decide) _ _ _ rfl (hown.alloc _) ⟨w1.heap.size,0,none⟩ 1 1 [.int .i64 d] rfl rfl (cell_one_new _ _ _) (by intro u hu;simp at hu;subst hu;rfl) (by unfold maxLen;omega) (by omega) (by simp;omega) ?_;intro v2 w2 hown2 hg2 _);have hbX:=qh (hb.alloc hw _) (hown.alloc _) hg2 (by simp;omega);go_roundw
      case rel=>exact⟨k+1,c',xs++[d],by omega,by omega,by go_num,by rw[hc'],by omega,by simp[hxk],by rw[<-kY];exact hown2,hbX,kV hdg hdl,zb (by rw[qz,hxk];exact JU (za hval) (za Ha) (za Hb) (by omega))⟩
      case measure=>simp[intOf];omega
    . by_cases h3:0<c
      . have hkm:=za HkM (.inr (.inr h3))
        go_wp2_with fail;refine(kR a k ak _ (za Ha) (by omega) (by omega)).mono ?_;rintro e w1⟨rfl,rfl⟩;go_wp2_with fail;refine(kR b k bk _ (za Hb) (by omega) (by omega)).mono ?_;rintro e w1⟨rfl,rfl⟩;have hw:=hb.size;go_wp2_with (at_builtin;refine wG _ rfl (.tmp 35) (.tmp 38) 24 rfl w.heap.size 3 i0 (.int .i64 0) 1 8 uV hi hz0 hz1 hz2 rfl (by decide) _ _ _ rfl (hown.alloc _) ⟨w1.heap.size,0,none⟩ 1 1 [.int .i64 d] rfl rfl (cell_one_new _ _ _) (by intro u hu;simp at hu;subst hu;rfl) (by unfold maxLen;omega) (by omega) (by simp;omega) ?_;intro v2 w2 hown2 hg2 _);have hbX:=qh (hb.alloc hw _) (hown.alloc _) hg2 (by simp;omega);go_roundw
        case rel=>exact⟨k+1,c',xs++[d],by omega,by omega,by go_num,by rw[hc'],by omega,by simp[hxk],by rw[<-kY];exact hown2,hbX,kV hdg hdl,zb (by rw[qz,hxk];exact JU (za hval) (za Ha) (za Hb) (by omega))⟩
        case measure=>simp[intOf];omega
      . have hc0:c=0:=by omega
        subst hc0;go_wp2_with fail;refine(Vi xs _ _ (za hdg) (by omega) (zV (hxk ▸ hown) (uD _))).mono ?_;rintro e w1⟨rfl,hb1⟩;go_wp2;go_ret;exact⟨qm (by rw[zfr (dk h1) (dk h2) (za hval)]),hb.trans (hb1.mono hb.size)⟩
theorem jg(l:List UInt8):(B l).toList=l:=by rw[ByteArray.toList_eq,JS]
theorem XA:∀(l m:List Nat),l.length=m.length->(∀d∈l,d<10)->(∀d∈m,d<10)->
  Op.bytesLess (l.map sg) (m.map sg)=decide (zG 10 l.reverse<zG 10 m.reverse):=by
 intro l
 induction l with
 |nil=>intro m h _ _;have:m=[]:=ur (by simpa using h.symm)
       subst this;simp[Op.bytesLess]
 |cons d r ih=>
  intro m h hl hm
  match m,h with
  | [],h=>simp at h
  |c::s,h=>
   have hrs:r.length=s.length:=by simpa using h
   have hd:=hl d (by simp);have hc:=hm c (by simp);have hr:=fun x hx=>hl x (Uw d hx)
   have hs:=fun x hx=>hm x (Uw c hx)
   simp only[UU,Op.bytesLess,List.reverse_cons,ih s hrs hr hs];rw[qz,qz,wE,wE,<-hrs];have h1:=Zg (b:=10) r.reverse (fun x hx=>hr x (by simpa using hx));have h2:=Zg (b:=10) s.reverse (fun x hx=>hs x (by simpa using hx));rw[wE]at h1 h2;rw[<-hrs]at h2;generalize 10^r.length=p at *;have e1:decide (sg d<sg c)=decide (d<c):=by
    simp only[UInt8.lt_iff_toNat_lt,jw (show d<16 by omega),jw (show c<16 by omega),uj hd,uj hc];simp
   have e2:(sg d==sg c)=decide (d=c):=by
    by_cases hdc:d=c
    . subst hdc;simp
    . have:sg d≠sg c:=fun hh=>hdc (zhf (by omega) (by omega) hh)
      simp[this,hdc]
   rw[e1,e2];rcases Nat.lt_trichotomy d c with hlt|heq|hgt
   . have:p*(d+1)<=p*c:=UP p hlt
     rw[uS]at this;simp only[hlt,decide_true,Bool.true_or];symm;rw[decide_eq_true_iff];omega
   . subst heq;simp
   . have:p*(c+1)<=p*d:=UP p hgt
     rw[uS]at this;have hn:¬d<c:=by omega
     have hne:d≠c:=by omega
     simp only[hn,hne,decide_false,UR,Bool.or_false];symm;rw[wn];omega
def zcT(n:Nat):List Nat:=if n=0 then [0]else(dg 10 n).reverse
theorem VS(n:Nat):qj 10 n=(zcT n).map sg:=by
 unfold qj zcT;split
 . simp[sg]
 . rw[List.map_reverse]
theorem Ka(n:Nat):∀d∈zcT n,d<10:=by
 intro d hd;unfold zcT at hd;split at hd
 . simp at hd;omega
 . exact Ym (by omega) n d (by simpa using hd)
theorem zeK(n:Nat):zG 10 (zcT n).reverse=n:=by
 unfold zcT;split
 . subst n;simp[zG]
 . rw[WD,Zf (by omega)]
theorem zd5{a b:Nat}(h:(zr a).size=(zr b).size):Op.bytesLess (zr a).toList (zr b).toList=decide (a<b):=by
 unfold zr jB;rw[jg,jg,VS,VS,XA _ _ _ (Ka a) (Ka b),zeK,zeK];rw[zJ,zJ,VS,VS]at h;simpa using h
theorem JI(a b:Nat):((zr a).toList==(zr b).toList)=decide (a=b):=by
 by_cases h:a=b
 . subst h;simp
 . have:(zr a).toList≠(zr b).toList:=by
    intro hh;unfold zr jB at hh;rw[jg,jg]at hh;exact h (zck (by omega) (by omega) hh)
   simp[this,h]
theorem Jg{a b:Nat}(h:(zr a).size<(zr b).size):a<b:=by
 rcases df a b with h1|h1
 . exact h1
 . have:=qW (b:=10) (by omega) (jV a) (wQ h1 (jE a))
   rw[<-zJ]at this;omega
def kP(a b:Nat):Int:=if a<b then-1 else if b<a then 1 else 0
theorem Kd(a b:Nat)(w:World)(_hsa:(zr a).size<=1000000000)(_hsb:(zr b).size<=1000000000):
  Calls Tryz.prog 152 #[.string (zr a),.string (zr b)] w fun e w'=>e=.returned (.int .i64 (kP a b))/\w'=w:=by
 by_cases he:(zr a).size=(zr b).size
 . have h1:=zd5 he
   have h2:=JI a b;have h0:((zr a).size != (zr b).size)=false:=by simp[he]
   have hI:(((zr a).size:Int) != ((zr b).size:Int))=false:=by simp[he]
   rcases Nat.lt_trichotomy a b with hlt|heq|hgt
   . have hr:kP a b= -1:=by simp[kP,hlt]
     rw[uy hlt]at h1;rw[hr];clear he h2 h0 hr;go_enter Tryz.func152,Tryz.ntmps152;go_wp2;go_ret;exact⟨rfl,rfl⟩
   . subst heq
     have hr:kP a a=0:=by simp[kP]
     rw[uw (by omega)]at h1;rw[hr];clear he h0 hr;go_enter Tryz.func152,Tryz.ntmps152;go_wp2;go_ret;exact⟨rfl,rfl⟩
   . have hr:kP a b=1:=by unfold kP;rw[ul (by omega),uj hgt]
     rw[uw (by omega)]at h1 h2;rw[hr];clear he h0 hr;go_enter Tryz.func152,Tryz.ntmps152;go_wp2;go_ret;exact⟨rfl,rfl⟩
 . have hI:(((zr a).size:Int) != ((zr b).size:Int))=true:=by rw[WL];omega
   by_cases hlt:(zr a).size<(zr b).size
   . have hr:kP a b= -1:=by simp[kP,Jg hlt]
     rw[hr];clear he hr;go_enter Tryz.func152,Tryz.ntmps152;go_wp2;go_ret;exact⟨rfl,rfl⟩
   . have hgt:=Jg (a:=b) (b:=a) (by omega)
     have hr:kP a b=1:=by unfold kP;rw[ul (by omega),uj hgt]
     rw[hr];clear he hr hgt;go_enter Tryz.func152,Tryz.ntmps152;go_wp2;go_ret;exact⟨rfl,rfl⟩
def qO(l:List UInt8):Bool:=l != []&&l.all (fun c=>48<=c&&c<=57)&&(l.length<=1||l.head? != some 48)
theorem ZA(n:Nat):qO (qj 10 n)=true:=by
 have hall:(qj 10 n).all (fun c=>48<=c&&c<=57)=true:=by
  rw[uI];intro c hc;rw[VS]at hc;obtain⟨d,hd,rfl⟩:=UB.1 hc;have:=Ka n d hd;simp only[ux,ut,UInt8.le_iff_toNat_le,jw (show d<16 by omega),uj this];simp;omega
 have hne:qj 10 n≠[]:=fun h=>by have:=Zq (b:=10) (by omega) n;rw[h]at this;simp at this
 have hlead:(qj 10 n).length<=1\/(qj 10 n).head?≠some 48:=by
  have ht:=zai n;cases hl:qj 10 n with
  |nil=>left;simp
  |cons c r=>
   by_cases hr:r=[]
   . left;subst hr;simp
   . right
     intro hc;simp at hc;subst hc;rw[hl]at ht;simp only[vS]at ht;rw[uj ⟨trivial,hr⟩]at ht;have:=kM r;have:=uB List.length ht;simp at this;omega
 unfold qO;simp only[WL,ux,Ur,ut];exact⟨⟨by simpa using hne,hall⟩,hlead⟩
def zC(l:List UInt8):Nat:=zG 10 ((l.map fun c=>c.toNat-48).reverse)
theorem qR{l:List UInt8}(h:qO l=true):l=qj 10 (zC l):=by
 unfold qO at h;simp only[WL,ux,Ur,ut]at h;obtain⟨⟨hne,hall⟩,hlead⟩:=h;rw[uI]at hall;have hc:∀c∈l,48<=c.toNat/\c.toNat<=57:=by
  intro c hc;have:=hall c hc;simp only[ux,ut,UInt8.le_iff_toNat_le]at this;simpa using this
 have hm:(l.map fun c=>c.toNat-48).map sg=l:=by
  rw[List.map_map];have:∀c∈l,(sg ∘ fun c:UInt8=>c.toNat-48) c=id c:=by
   intro c hcl;have:=hc c hcl;apply wM.1;simp only[Function.comp,id];rw[jw (by omega),uj (by omega)];omega
  rw[List.map_congr_left this,List.map_id]
 have hd:∀d∈(l.map fun c=>c.toNat-48).reverse,d<10:=by
  intro d hd;rw[List.mem_reverse]at hd;obtain⟨c,hcl,rfl⟩:=UB.1 hd;have:=hc c hcl;show c.toNat-48<10;omega
 have ht:=kj _ hd (by simpa using hne);rw[List.map_reverse,WD,hm]at ht;unfold zC;rw[<-ht];symm;apply YQ;rcases hlead with h1|h1
 . exact .inl h1
 . right
   cases l with
   |nil=>exact absurd rfl hne
   |cons c r=>exact⟨c,r,rfl,fun h=>h1 (by simp[h])⟩
def zgD(c:UInt8):Bool:=48<=c&&c<=57
theorem Yx(c:UInt8):zgD c=true↔48<=c.toNat/\c.toNat<=57:=by
 simp[zgD,UInt8.le_iff_toNat_le]
theorem yP{l:List UInt8}(k:Nat)(h:k<l.length)(hb:¬(48<=l[k].toNat/\l[k].toNat<=57)):qO l=false:=by
 cases hd:qO l with
 |false=>rfl
 |true=>
  unfold qO at hd;simp only[WL,ux,Ur,ut]at hd;have:=uI.1 hd.1.2 l[k] (uF h);exact absurd ((Yx _).1 this) hb
theorem xC{l:List UInt8}(h0:0<l.length)(hl:l.length<=1\/l.head?≠some 48)(h:∀k(hk:k<l.length),48<=l[k].toNat/\l[k].toNat<=57):qO l=true:=by
 unfold qO;simp only[WL,ux,Ur,ut];refine⟨⟨fun hh=>by rw[hh]at h0;simp at h0,?_⟩,hl⟩;rw[uI];intro c hc;obtain⟨k,hk,rfl⟩:=dp hc;exact(Yx _).2 (h k hk)
theorem vG(l:List UInt8)(w:World)(hs:l.length<=1000000000):
  Calls Tryz.prog 121 #[.string (B l)] w fun e w'=>e=.returned (.bool (qO l))/\w'=w:=by
 have hsz:(B l).size<=1000000000:=by rw[zj];exact hs
 have hI:((B l).size:Int)=(l.length:Int):=by rw[zj]
 by_cases hz:l.length=0
 . have:l=[]:=ur hz
   subst this;have h0:(((B []).size:Int)==0)=true:=by simp[zj]
   clear hI hs hsz hz;go_enter Tryz.func121,Tryz.ntmps121;go_wp2;go_ret;exact⟨rfl,rfl⟩
 . have h0:0<l.length:=by omega
   have h0I:(((B l).size:Int)==0)=false:=by rw[ug];omega
   by_cases h1:1<l.length
   . have h1I:(1:Int)<((B l).size:Int):=by omega
     have hg0:0<(B l).size:=by omega
     have hg:((B l)[0]'hg0).toNat=(l[0]'h0).toNat:=by rw[j4]
     by_cases hc:l[0]'h0=48
     . have hq:((((B l)[0]'hg0).toNat:Int)==48)=true:=by rw[hg,hc];rfl
       have hf:qO l=false:=by
        cases hd:qO l with
        |false=>rfl
        |true=>
         unfold qO at hd;simp only[WL,ux,Ur,ut]at hd;rcases hd.2 with h2|h2
         . omega
         . exact absurd (by rw[List.head?_eq_getElem?,uf h0,hc]) h2
       rw[hf];clear hI hc hg hf hz;go_enter Tryz.func121,Tryz.ntmps121;go_wp2;go_ret;exact⟨rfl,rfl⟩
     . have hq:((((B l)[0]'hg0).toNat:Int)==48)=false:=by
        rw[hg,ug];intro hh;apply hc;apply wM.1;simp only[We];omega
       have hl0:Hid (l.length<=1\/l.head?≠some 48):=.inr (by
        rw[List.head?_eq_getElem?,uf h0];intro hh;exact hc (by simpa using hh))
       clear hI hc hg hz;go_enter Tryz.func121,Tryz.ntmps121;go_wp2
       go_loop [3] (fun i=>∃k:Nat,k<=l.length/\i=.int .i64 k/\Hid (∀j(hj:j<l.length),j<k->48<=l[j].toNat/\l[j].toNat<=57)) (fun i=>l.length-(intOf i).toNat)
       case atStart=>exact⟨0,uD _,rfl,zb (fun j _ h=>by omega)⟩
       case round=>
        clear hq;obtain⟨k,hk,rfl,hv⟩:=hrel;by_cases hlt:k<l.length
        . have hlt2:k<(B l).size:=by rw[zj];exact hlt
          have hgk:((B l)[k]'hlt2).toNat=(l[k]'hlt).toNat:=by rw[j4]
          by_cases h1:((l[k]'hlt).toNat:Int)<48
          . go_wp2
            go_ret;exact⟨zF (by rw[yP k hlt (by omega)]),rfl⟩
          . by_cases h2:57<((l[k]'hlt).toNat:Int)
            . go_wp2
              go_ret;exact⟨zF (by rw[yP k hlt (by omega)]),rfl⟩
            . have h3:48<=(l[k]'hlt).toNat/\(l[k]'hlt).toNat<=57:=by omega
              have hv2:Hid (∀j(hj:j<l.length),j<k+1->48<=l[j].toNat/\l[j].toNat<=57):=by
               intro j hj hjk;by_cases hjk2:j<k
               . exact za hv j hj hjk2
               . have:j=k:=by omega
                 subst this;exact h3
              go_wp2;go_round
              case rel=>exact⟨k+1,by omega,by go_num,hv2⟩
              case measure=>simp[intOf];omega
        . have hlt2:¬k<(B l).size:=by rw[zj];exact hlt
          have fin:qO l=true:=xC h0 (za hl0) (fun j hj=>za hv j hj (by omega));have Fin:=zb fin;clear fin;go_wp2;go_ret;exact⟨zF (za Fin).symm,rfl⟩
   . have h1I:¬(1:Int)<((B l).size:Int):=by omega
     have hl0:Hid (l.length<=1\/l.head?≠some 48):=.inl (by omega);clear hI hz;go_enter Tryz.func121,Tryz.ntmps121;go_wp2
     go_loop [3] (fun i=>∃k:Nat,k<=l.length/\i=.int .i64 k/\Hid (∀j(hj:j<l.length),j<k->48<=l[j].toNat/\l[j].toNat<=57)) (fun i=>l.length-(intOf i).toNat)
     case atStart=>exact⟨0,uD _,rfl,zb (fun j _ h=>by omega)⟩
     case round=>
      obtain⟨k,hk,rfl,hv⟩:=hrel;by_cases hlt:k<l.length
      . have hlt2:k<(B l).size:=by rw[zj];exact hlt
        have hgk:((B l)[k]'hlt2).toNat=(l[k]'hlt).toNat:=by rw[j4]
        by_cases h1:((l[k]'hlt).toNat:Int)<48
        . go_wp2
          go_ret;exact⟨zF (by rw[yP k hlt (by omega)]),rfl⟩
        . by_cases h2:57<((l[k]'hlt).toNat:Int)
          . go_wp2
            go_ret;exact⟨zF (by rw[yP k hlt (by omega)]),rfl⟩
          . have h3:48<=(l[k]'hlt).toNat/\(l[k]'hlt).toNat<=57:=by omega
            have hv2:Hid (∀j(hj:j<l.length),j<k+1->48<=l[j].toNat/\l[j].toNat<=57):=by
             intro j hj hjk;by_cases hjk2:j<k
             . exact za hv j hj hjk2
             . have:j=k:=by omega
               subst this;exact h3
            go_wp2;go_round
            case rel=>exact⟨k+1,by omega,by go_num,hv2⟩
            case measure=>simp[intOf];omega
      . have hlt2:¬k<(B l).size:=by rw[zj];exact hlt
        have fin:qO l=true:=xC h0 (za hl0) (fun j hj=>za hv j hj (by omega));have Fin:=zb fin;clear fin;go_wp2;go_ret;exact⟨zF (za Fin).symm,rfl⟩
def vU(c:UInt8):Nat:=if 48<=c.toNat/\c.toNat<=57 then c.toNat-48 else if 97<=c.toNat/\c.toNat<=102 then c.toNat-87 else 99
theorem zc2(c:UInt8)(w:World):
  Calls Tryz.prog 131 #[.int .u8 c.toNat] w fun e w'=>e=.returned (.int .i64 (vU c:Nat))/\w'=w:=by
 have hc:c.toNat<256:=c.toNat_lt;have hd:vU c=if 48<=c.toNat/\c.toNat<=57 then c.toNat-48 else if 97<=c.toNat/\c.toNat<=102 then c.toNat-87 else 99:=rfl
 generalize c.toNat=n at *;generalize vU c=d at *;by_cases h1:48<=n/\n<=57
 . rw[uj h1]at hd
   have e:(n:Int)-48=(d:Int):=by omega
   obtain⟨ha,hb⟩:=h1;clear hd;go_enter Tryz.func131,Tryz.ntmps131;go_wp2;go_ret;exact⟨zK (by omega),rfl⟩
 . rw[ul h1]at hd
   by_cases h2:97<=n/\n<=102
   . rw[uj h2]at hd
     obtain⟨ha,hb⟩:=h2;have e:(n:Int)-97+10=(d:Int):=by omega
     have hh:¬(n:Int)<=57:=by omega
     clear hd h1;go_enter Tryz.func131,Tryz.ntmps131;go_wp2;go_ret;exact⟨zK (by omega),rfl⟩
   . rw[ul h2]at hd
     subst hd;by_cases h3:48<=n
     . have h4:¬(n:Int)<=57:=by omega
       by_cases h5:97<=n
       . have h6:¬(n:Int)<=102:=by omega
         clear h1 h2;go_enter Tryz.func131,Tryz.ntmps131;go_wp2;go_ret;exact⟨rfl,rfl⟩
       . clear h1 h2
         go_enter Tryz.func131,Tryz.ntmps131;go_wp2;go_ret;exact⟨rfl,rfl⟩
     . clear h1 h2
       go_enter Tryz.func131,Tryz.ntmps131;go_wp2;go_ret;exact⟨rfl,rfl⟩
theorem xG{P:Program}{src dst e:TypeId}(hs:P.underlying src=some (.slice e))(he:P.underlying e=some (.int .u8))(hd:P.underlying dst=some .string)(W w1:World)(d:Nat)(hd10:d<10)
  (hb:Below (W.heap.size+1) (W.alloc (.cells #[.int .u8 (48+(d:Int))] e)) w1):
  (convert src dst (.slice (some ⟨W.heap.size,0,none⟩) 1 1)).run P w1=.ok (.string (B [sg d])) w1:=by
 have h0:=wh (base:=0) (e:=e) (size:=1) W #[.int .u8 (48+(d:Int))] 1 (uD _) (by decide) (by simp);have h1:=zu h0 (by simpa using hb);have e1:(#[Value.int .u8 (48+(d:Int))]:Array Value).toList=[sg d].map ZM:=by simp[KO hd10]
 rw[e1]at h1;exact qV hs he hd h1
theorem QF(b:Nat)(hb:2<=b)(n:Nat)(h:b<=n):qj b n=qj b (n/b)++[sg (n%b)]:=by
 have h0:n≠0:=by omega
 have hq:n/b≠0:=by
  intro hh;rcases Nat.div_eq_zero_iff.1 hh with h1|h1<;>omega
 rw[jZ h0,yF hb (by omega),jZ hq];simp
theorem yr(b:Nat)(hb:2<=b)(n:Nat)(h:n<b):qj b n=[sg n]:=by
 by_cases h0:n=0
 . subst h0;simp[qK,sg]
 . rw[jZ h0,yF hb (by omega),Uu h,wY h,jH];simp
theorem yR(n:Nat)(hn:n<=9223372036854775807)(w:World):
  Calls Tryz.prog 124 #[.int .i64 n] w fun e w'=>e=.returned (.string (zr n))/\Below w.heap.size w w':=by
 induction n using Nat.strongRecOn generalizing w with
 |_ n ih=>
  by_cases h:n<10
  . have hfin:B [sg n]=zr n:=by rw[zr,jB,yr 10 (by omega) n h]
    have Fin:=zb hfin;have hconv:=xG (dst:=9) Ug Ux Uf w _ n h (ue _ _);clear ih hfin;go_enter Tryz.func124,Tryz.ntmps124;go_wp2;go_ret;exact⟨qm (za Fin),(ue _ _).alloc (ud _) _⟩
  . have hlt:n/10<n:=WB (by omega) (by omega)
    have hq:=ih (n/10) hlt (by omega);have hfin:zr (n/10)++B [sg (n%10)]=zr n:=by
     unfold zr jB;rw[qf,<-QF 10 (by omega) n (by omega)]
    have Fin:=zb hfin;have Hq:=zb hq;have hm:n%10<10:=Ua _ (by omega);have hconv:=fun(W:World)=>xG (P:=Tryz.prog) (src:=22) (dst:=9) Ug Ux Uf W _ (n%10) hm (ue _ _)
    have hconv2:=fun(W w1:World)=>xG (P:=Tryz.prog) (src:=22) (dst:=9) Ug Ux Uf W w1 (n%10) hm
    clear ih hfin hq;obtain⟨q,hqd⟩:∃q:Nat,n/10=q:=⟨_,rfl⟩
    obtain⟨r,hrd⟩:∃r:Nat,n%10=r:=⟨_,rfl⟩
    rw[hrd]at hconv hconv2 hm Fin;rw[hqd]at Fin Hq hlt;have e1:(n:Int)/10=(q:Int):=by omega
    have e2:(n:Int).tmod 10=(r:Int):=by rw[Uo (by omega)];omega
    have e3:=qX (q:Int) (by omega) (by omega);have e4:=qX (48+(r:Int)) (by omega) (by omega);have e5:=wu8 (48+(r:Int)) (by omega) (by omega);have hqs:(zr q).size<=19:=by
     rw[zJ];exact qW (by omega) (by omega) (by omega)
    have hrs:(B [sg r]).size<=1:=by rw[zj];simp
    have hns:¬9223372036854775807<(zr q).size+(B [sg r]).size:=by omega
    have hns2:¬(9223372036854775807<((zr q).size:Int)+((B [sg r]).size:Int)):=by omega
    clear hqd hrd;go_enter Tryz.func124,Tryz.ntmps124;go_wp2;have hcv0:=hconv2 w (w.alloc (.cells #[.int .u8 (48+(r:Int))] 5)).drew ((ue _ _).drew)
    go_region_with (go_at_call 124;refine(za Hq _).mono ?_;rintro e w1⟨rfl,hb1⟩;try have hcv:=hconv2 w w1 (jx (by simpa using hb1)))
    all_goals
     go_wp2;go_ret;refine⟨qm (za Fin),?_⟩
     first
      |exact(jx hb1).alloc hb1.size _
      |exact((ue _ _).alloc (ud _) _).trans ((jx hb1).mono (by simp))
theorem Vd(l:List Nat)(j:Nat)(h:j<l.length):(ints l)[j]? =some (.int .i64 (l[j]:Nat)):=by simp[ints,h]
theorem Xp(l:List Nat)(j d:Nat):(ints l).set j (.int .i64 (d:Int))=ints (l.set j d):=by simp[ints,List.map_set]
theorem zcU(n:Nat):List.replicate n (Value.int .i64 0)=ints (List.replicate n 0):=by simp[ints]
theorem Yw(l:List Nat)(j d:Nat)(v:Int)(h:v=(d:Int)):(ints l).set j (.int .i64 v)=ints (l.set j d):=by rw[h,Xp]
theorem zeG{xs:List Nat}{L j X:Nat}(hl:xs.length=L)(hj:j+1=L)(h:∀t(ht:t<xs.length),t<j->xs[t]<10)(hX:zG 10 xs=X)(hlt:X<10^L):∀d∈xs,d<10:=by
 intro d hd;obtain⟨t,ht,rfl⟩:=dp hd;by_cases htj:t<j
 . exact h t ht htj
 . have htj2:t=j:=by omega
   subst htj2;have h1:=za4 10 xs t ht;rw[hX]at h1;rw[<-hj,uZ]at hlt;have h2:10^t*xs[t]<10^t*10:=by omega
   exact Nat.lt_of_mul_lt_mul_left h2
theorem za0{a b i la lb L:Nat}(hla:(zr a).size=la)(hlb:(zr b).size=lb)(hL:la+lb=L):a%10^(i+1)*b<10^L:=by
 have h1:=jE a;have h2:=jE b;rw[hla]at h1;rw[hlb]at h2;rw[<-hL,da 10 la lb];exact Nat.mul_lt_mul'' (wQ (Nat.mod_le _ _) h1) h2
theorem zdb{xs:List Nat}{j x y q r X:Nat}(hj:j+1<xs.length)(hx:xs[j]'(by omega)=x)(hy:xs[j+1]=y)(hq:x/10=q)(hr:x%10=r)(hX:zG 10 xs=X):
  zG 10 ((xs.set (j+1) (y+q)).set j r)=X:=by
 have h1:=ym 10 xs (j+1) (y+q) hj;have h2:=ym 10 (xs.set (j+1) (y+q)) j r (by rw[List.length_set];omega);rw[uU (by omega),hx]at h2;rw[hy,hX,<-hq]at h1;rw[<-hr,<-hq]at h2;have:=zav h1 h2;rw[<-hq,<-hr];exact this
abbrev zeV(w:World)(L:Nat):Value:=.slice (some ⟨w.heap.size,0,none⟩) L L
theorem Kf(a b:Nat)(w:World)(hsa:(zr a).size<=100000)(hsb:(zr b).size<=100000):
  Calls Tryz.prog 133 #[.string (zr a),.string (zr b)] w fun e w'=>e=.returned (.string (zr (a*b)))/\Below w.heap.size w w':=by
 obtain⟨i0,hi,hz0,hz1,hz2⟩:=Ue Tryz.infoInt;obtain⟨la,hla⟩:∃la,(zr a).size=la:=⟨_,rfl⟩
 obtain⟨lb,hlb⟩:∃lb,(zr b).size=lb:=⟨_,rfl⟩
 have Hla:=zb hla;have Hlb:=zb hlb;obtain⟨L,hL⟩:∃L,la+lb=L:=⟨_,rfl⟩
 have hLI:(la:Int)+lb=L:=by omega
 have HL:=zb hL;have hlaI:((zr a).size:Int)=la:=by omega
 have hlbI:((zr b).size:Int)=lb:=by omega
 rw[hla]at hsa;rw[hlb]at hsb;have hLs:L<=200000:=by omega
 have hlaL:la<=L:=by omega
 clear hL;go_enter Tryz.func133,Tryz.ntmps133;go_wp2_with (refine UY _ rfl (.tmp 13) (.tmp 13) 24 rfl w.heap.size 3 i0 (.int .i64 0) 1 uV hi hz0 hz1 .i64 .i64 L L L rfl rfl rfl rfl (by rw[hz2];omega) (by unfold maxLen;omega) (ud _) ?_;intro w1 hown1 hg1)
 go_loopw [6,7,8] (fun i k j wr=>∃(i':Nat)(xs:List Nat),i'<=la/\i=.int .i64 i'/\xs.length=L/\wr.ownsRow w.heap.size 3 1 (zeV w L) L (ints xs)/\Below w.heap.size w wr/\
   Hid (∀d∈xs,d<10)/\Hid (zG 10 xs=a%10^i'*b))
  (fun i _ _ _=>la-(intOf i).toNat)
 case atStart=>
  refine⟨0,List.replicate L 0,uD _,rfl,by simp,?_,(ue _ _).grown hg1 (ud _) (fun _ h=>by cases h),?_,?_⟩
  . simpa[Value.cells,Ul,zcU]using hown1
  . intro d hd;simp at hd;omega
  . show _=_;rw[qD];simp[Nat.mod_one]
 case round=>
  clear hown1 hg1;obtain⟨i',xs,hi',rfl,hxl,hown,hb,hdg,hval⟩:=hrel;by_cases hlt:i'<la
  . have hai:a/10^i'%10<10:=Ua _ (by omega)
    generalize hga:a/10^i'%10=ai at *;have Ha:=zb hga;clear hga;go_wp2
    go_loopw [7] (fun k wr=>∃(k':Nat)(xs:List Nat),k'<=lb/\k=.int .i64 k'/\xs.length=L/\wr.ownsRow w.heap.size 3 1 (zeV w L) L (ints xs)/\Below w.heap.size w wr/\
      Hid (∀d∈xs,d<=90)/\Hid (∀j(h:j<xs.length),i'+k'<=j->xs[j]<10)/\Hid (zG 10 xs=a%10^i'*b+10^i'*(ai*(b%10^k'))))
     (fun k _=>lb-(intOf k).toNat)
    case atStart=>
     exact⟨0,xs,uD _,rfl,hxl,hown,hb,zb (fun d hd=>by have:=za hdg d hd;omega),zb (fun j h _=>za hdg _ (uF h)),zb (by rw[za hval];simp[Nat.mod_one])⟩
    case round=>
     clear hown hb hdg hval hxl;clear xs;obtain⟨k',xs,hk',rfl,hxl,hown,hb,hdg,hup,hval⟩:=hrel;by_cases hlt2:k'<lb
     . have hbk:b/10^k'%10<10:=Ua _ (by omega)
       generalize hgb:b/10^k'%10=bk at *;have Hb:=zb hgb;clear hgb;have hjL:i'+k'<L:=by omega
       have hx10:xs[i'+k']'(by omega)<10:=za hup _ (by omega) (ud _);have hcell:=hown.cellAt (i'+k') (by omega);rw[Vd _ _ (by omega)]at hcell;have hfr:=hown.frozenAt (i'+k');generalize hx:xs[i'+k']'(by omega)=x at *;have Hx:=zb hx;have hmul:ai*bk<=9*9:=WH (by omega) (by omega);generalize hpp:ai*bk=pp at *;have hppI:(ai:Int)*bk=pp:=by rw[<-hpp];simp
       have Hpp:=zb hpp;clear hx hpp;have hst:=hown.stored (i'+k') (.int .i64 ((x:Int)+pp));rw[Yw _ _ (x+pp) _ (by simp)]at hst;have Hst:=zb hst;clear hst;have e1:=qX ((i':Int)+k') (by omega) (by omega);have e2:=qX (pp:Int) (by omega) (by omega);have e3:=qX ((x:Int)+pp) (by omega) (by omega);have e4:((i':Int)+k').toNat=i'+k':=by omega
       have hix:(i':Int)+k'<L:=by omega
       go_wp2
       go_region_with (first|(go_at_call_of 163 (zr a);refine(kR a i' ai _ (za Ha) (by omega) (by omega)).mono ?_;rintro e w1⟨rfl,rfl⟩)|(go_at_call_of 163(zr b);refine(kR b k' bk _ (za Hb) (by omega) (by omega)).mono ?_;rintro e w1⟨rfl,rfl⟩))
       all_goals
        go_wp2;go_roundw
        case rel=>
         refine⟨k'+1,xs.set (i'+k') (x+pp),by omega,by go_num,by simpa using hxl,(za Hst).1,?_,zb (jp (za hdg) (by omega)),?_,?_⟩
         . first
           |exact(hb.setCell (by simp) _).drew
           |exact hb.setCell (by simp) _
         . intro j hj hij
           rw[uU (by omega)];exact za hup j (by simpa using hj) (by omega)
         . have hs:=ym 10 xs (i'+k') (x+pp) (by omega)
           rw[za Hx,<-za Hpp]at hs;have:=zeH (za Ha) (za Hb) (za hval) hs;rw[za Hpp]at this;exact this
        case measure=>simp[intOf];omega
     . have hkl:k'=lb:=by omega
       subst hkl;have hlen:=wQ (uD _) hlt;go_wp2
       go_loopw [8] (fun j wr=>∃(j':Nat)(xs:List Nat),j'+1<=L/\j=.int .i64 j'/\xs.length=L/\wr.ownsRow w.heap.size 3 1 (zeV w L) L (ints xs)/\Below w.heap.size w wr/\
         Hid (∀d∈xs,d<=99)/\Hid (∀t(h:t<xs.length),t<j'->xs[t]<10)/\Hid (∀t(h:t<xs.length),j'<t->xs[t]<=90)/\Hid (zG 10 xs=a%10^(i'+1)*b))
        (fun j _=>L-(intOf j).toNat)
       case atStart=>
        refine⟨0,xs,by omega,rfl,hxl,hown,hb,zb (fun d hd=>by have:=za hdg d hd;omega),zb (fun j h _=>by omega),zb (fun t ht _=>za hdg _ (uF ht)),?_⟩;show _=_;rw[za hval,<-zf0 (za Ha)];have hbl:=jE b;rw[za Hlb]at hbl;rw[Uu hbl]
       case round=>
        clear hown hb hdg hval hxl hup;clear xs;obtain⟨j',xs,hj',rfl,hxl,hown,hb,hdg,hlow,hhi,hval⟩:=hrel;by_cases hlt3:j'+1<L
        . have hc0:=hown.cellAt j' (by omega)
          rw[Vd _ _ (by omega)]at hc0;have hc1:=hown.cellAt (j'+1) (by omega);rw[Vd _ _ (by omega)]at hc1;have hf0:=hown.frozenAt j';have hf1:=hown.frozenAt (j'+1);have hx99:xs[j']'(by omega)<=99:=za hdg _ (uF _);have hy90:xs[j'+1]'(by omega)<=90:=za hhi _ (by omega) (by omega);generalize hx:xs[j']'(by omega)=x at *;generalize hy:xs[j'+1]'(by omega)=y at *;have Hx:=zb hx;have Hy:=zb hy;clear hx hy;obtain⟨q,hq⟩:∃q:Nat,(x:Int)/10=q:=⟨x/10,by omega⟩
          obtain⟨r,hr⟩:∃r:Nat,(x:Int)%10=r:=⟨x%10,by omega⟩
          have hqN:x/10=q:=by omega
          have hrN:x%10=r:=by omega
          have HqN:=zb hqN;have HrN:=zb hrN;clear hqN hrN;have hq9:q<=9:=by omega
          have hr9:r<=9:=by omega
          have hq':(x:Int).tdiv 10=q:=by rw[Up (by omega)];exact hq
          have hr':(x:Int).tmod 10=r:=by rw[Uo (by omega)];exact hr
          have hst:=hown.stored (j'+1) (.int .i64 ((y:Int)+q));rw[Yw _ _ (y+q) _ (by simp)]at hst;have hst2:=hst.1.stored j' (.int .i64 (r:Int));rw[Xp]at hst2;have Hst:=zb hst2;have e1:=qX ((j':Int)+1) (by omega) (by omega);have e2:=qX ((y:Int)+q) (by omega) (by omega);have e3:=qX (q:Int) (by omega) (by omega);have e4:((j':Int)+1).toNat=j'+1:=by omega
          have hix:(j':Int)+1<L:=by omega
          clear hst hst2;go_wp2
          go_region
          all_goals
           go_wp2;go_roundw
           case rel=>
            refine⟨j'+1,(xs.set (j'+1) (y+q)).set j' r,by omega,by go_num,by simpa using hxl,(za Hst).1,((hb.setCell (by simp) _).setCell (by simp) _).drew,zb (jp (jp (za hdg) (by omega)) (by omega)),?_,?_,zb (zdb (by omega) (za Hx) (za Hy) (za HqN) (za HrN) (za hval))⟩
            . intro t ht htj
              by_cases hh:t=j'
              . subst hh;rw[uR];omega
              . rw[uU (by omega),uU (by omega)]
                exact za hlow t (by simpa using ht) (by omega)
            . intro t ht htj
              rw[uU (by omega),uU (by omega)];exact za hhi t (by simpa using ht) (by omega)
           case measure=>simp[intOf];omega
        . go_wp2
          go_roundw
          case rel=>
           have hjl:j'+1=L:=by omega
           exact⟨i'+1,xs,by omega,by go_num,hxl,hown,hb,zb (zeG hxl hjl (za hlow) (za hval) (za0 (za Hla) (za Hlb) (za HL))),hval⟩
          case measure=>simp[intOf];omega
  . have hil:i'=la:=by omega
    subst hil;go_wp2_with fail;refine(Vi xs _ _ (za hdg) (by omega) (by rw[hxl];exact zV hown (uD _))).mono ?_;rintro e w1⟨rfl,hb1⟩;go_wp2;go_ret;have hal:=jE a;rw[za Hla]at hal;have hv:=za hval;rw[Uu hal]at hv;exact⟨qm (by rw[hv]),hb.trans (hb1.mono hb.size)⟩
end Go.Proofs.YtpbnmhnbkfnaeaaGreatDoor
