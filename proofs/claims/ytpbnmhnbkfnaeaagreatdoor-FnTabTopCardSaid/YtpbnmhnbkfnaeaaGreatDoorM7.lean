/- A part of the proof, put together out of smaller texts. -/
import Derived.Test.YtpbnmhnbkfnaeaaGreatDoorM0
import Derived.Test.YtpbnmhnbkfnaeaaGreatDoorM1
import Derived.Test.YtpbnmhnbkfnaeaaGreatDoorM2
import Derived.Test.YtpbnmhnbkfnaeaaGreatDoorM3
import Derived.Test.YtpbnmhnbkfnaeaaGreatDoorM6
import Derived.Deep.Cut
import Derived.Deep.RegionHeld
import Derived.Deep.CutRange
import Derived.RangeFuncNested
import Derived.RangeFuncBound
import Derived.RangeFuncCalls
import Derived.RangeFuncLeaves
import Derived.Shelf.Abstract
import Derived.Shelf.RegionOpen
import Derived.WalkKit
import Derived.OwnWalkIn
import Derived.TacticsInMore
import Derived.LoopNIn
import Derived.LoopIn
import Derived.Maps.AppendAt
import Derived.RangeFuncBox
import Derived.Lib.ItoaNum
import Derived.Maps.OwnIn
set_option linter.all false
set_option maxRecDepth 100000
set_option maxHeartbeats 32000000
namespace Go.Proofs.YtpbnmhnbkfnaeaaGreatDoor
open Go.RowKit Nt
theorem kH(t:List UInt8):Q8 (j5 t):=by
 have h:=zfu t 10;unfold j5 Q8;cases e:zw t 10 with
 |none=>simp[zg6]
 |some p=>
  rw[e]at h;obtain⟨n,u,d⟩:=p;simp only[zgO,zgN]at h;exact⟨by simp only[Q7];omega,by simp only[Q7];omega⟩
theorem xZ{a b:Nd}(h:a.1≠b.1):zU a b=j9 a.1 b.1:=by unfold zU;rw[uj h]
theorem ZE{a b:Nd}(h:a.1=b.1)(h1:a.1=1):zU a b=Z0 (j5 a.2.1) (j5 b.2.1):=by unfold zU;rw[ul (by simp[h]),uj h1]
theorem Za{a b:Nd}(h:a.1=b.1)(h1:a.1≠1)(h2:a.2.1≠b.2.1):zU a b=Lib.compareBytes a.2.1 b.2.1:=by unfold zU;rw[ul (by simp[h]),ul h1,uj h2]
theorem ZD{a b:Nd}(h:a.1=b.1)(h1:a.1≠1)(h2:a.2.1=b.2.1):zU a b=j9 a.2.2.length b.2.2.length:=by unfold zU;rw[ul (by simp[h]),ul h1,ul (by simp[h2])]
theorem zc1(a b:Nd)(a1 a2:Option Addr)(c1 c2:Nat)(w:World)(ht1:a.2.1.length<=1048576)(ht2:b.2.1.length<=1048576)(hk1:a.2.2.length<=1048576)(hk2:b.2.2.length<=1048576):
  Calls Tryz.prog 63 #[.agg #[.int .i64 a.1,.string (B a.2.1),.slice a1 a.2.2.length c1],.agg #[.int .i64 b.1,.string (B b.2.1),.slice a2 b.2.2.length c2]] w fun e w'=>e=.returned (.int .i64 (zU a b))/\Below w.heap.size w w':=by
 obtain⟨R,hR⟩:∃R,zU a b=R:=⟨_,rfl⟩
 rw[hR];by_cases hs:a.1=b.1
 . by_cases h1:a.1=1
   . have HQ:=zb ((ZE hs h1).symm.trans hR)
     clear hR;obtain⟨s1,t1,k1⟩:=a;obtain⟨s2,t2,k2⟩:=b;simp only at *;have HB:=zb (jy w (.int .i64 s1) (.string (B t1)) (.slice a1 k1.length c1) (.int .i64 s2) (.string (B t2)) (.slice a2 k2.length c2) 56);have HA1:=zb ((AtC3.new w (.int .i64 s1) (.string (B t1)) (.slice a1 k1.length c1) 56).below (zf (ue _ _) (.cells #[.int .i64 s2,.string (B t2),.slice a2 k2.length c2] 56)));have HA2:=zb (AtC3.new (w.alloc (.cells #[.int .i64 s1,.string (B t1),.slice a1 k1.length c1] 56)) (.int .i64 s2) (.string (B t2)) (.slice a2 k2.length c2) 56);rw[uk]at HA2;subst h1;subst hs;have hP1:=jT t1 10;have hP2:=jT t2 10;unfold zg at hP1 hP2;rw[Km]at hP1 hP2;have hc:=fun W=>KF (j5 t1) (j5 t2) W (kH t1) (kH t2)
     rw[za HQ]at hc;obtain⟨X1,hX1⟩:∃X,j5 t1=X:=⟨_,rfl⟩
     obtain⟨X2,hX2⟩:∃X,j5 t2=X:=⟨_,rfl⟩
     rw[hX1]at hP1 hc;rw[hX2]at hP2 hc;clear hX1 hX2;obtain⟨n1,u1,d1⟩:=X1;obtain⟨n2,u2,d2⟩:=X2;unfold za3 at hP1 hP2 hc;simp only at hP1 hP2 hc;have HP1:=zb hP1;have HP2:=zb hP2;have HC:=zb hc;clear hP1 hP2 hc;go_enter Tryz.func63,Tryz.ntmps63;go_wp2_with fail;obtain⟨W,hW⟩:∃W,(w.alloc (.cells #[.int .i64 1,.string (B t1),.slice a1 k1.length c1] 56)).alloc (.cells #[.int .i64 1,.string (B t2),.slice a2 k2.length c2] 56)=W:=⟨_,rfl⟩
     rw[hW]at HB HA1 HA2⊢;clear hW;refine(za HP1 W (by omega)).mono ?_;rintro e w1⟨rfl,hb1⟩;have HA3:=zb ((za HA2).below (hb1.trans ((zf (ue _ _) (.cells #[.bool n1,.string (B u1),.string (B d1)] 79)).mono hb1.size)));have HN1:=zb (AtC3.new w1 (.bool n1) (.string (B u1)) (.string (B d1)) 79);have HB1:=zb (zf (zi (za HB) hb1) (.cells #[.bool n1,.string (B u1),.string (B d1)] 79));have q1:=(za HA3).n1;clear hb1 HB HA1 HA2;go_wp2_with fail;obtain⟨W1,hW⟩:∃W1,w1.alloc (.cells #[.bool n1,.string (B u1),.string (B d1)] 79)=W1:=⟨_,rfl⟩
     rw[hW]at HB1 HN1 HA3 q1⊢;clear hW;refine(za HP2 W1 (by omega)).mono ?_;rintro e w2⟨rfl,hb2⟩;have HN2:=zb (AtC3.new w2 (.bool n2) (.string (B u2)) (.string (B d2)) 79);have HN3:=zb (((za HN1).below hb2).below (zf (ue _ _) (.cells #[.bool n2,.string (B u2),.string (B d2)] 79)));have HB2:=zb (zf (zi (za HB1) hb2) (.cells #[.bool n2,.string (B u2),.string (B d2)] 79));have x0:=(za HN3).n0;have x1:=(za HN3).n1;have x2:=(za HN3).n2;clear hb2 HB1 HN1 HA3 q1;go_wp2_with fail;obtain⟨W2,hW⟩:∃W2,w2.alloc (.cells #[.bool n2,.string (B u2),.string (B d2)] 79)=W2:=⟨_,rfl⟩
     rw[hW]at HB2⊢;refine(za HC W2).mono ?_;rintro e w3⟨rfl,hb3⟩;have HB3:=zb (zi (za HB2) hb3);clear hb3;go_wp2_with fail;go_ret;exact⟨rfl,za HB3⟩
   . by_cases h2:a.2.1=b.2.1
     . have HQ:=zb ((ZD hs h1 h2).symm.trans hR)
       clear hR;obtain⟨s1,t1,k1⟩:=a;obtain⟨s2,t2,k2⟩:=b;simp only at *;have HB:=zb (jy w (.int .i64 s1) (.string (B t1)) (.slice a1 k1.length c1) (.int .i64 s2) (.string (B t2)) (.slice a2 k2.length c2) 56);have HA1:=zb ((AtC3.new w (.int .i64 s1) (.string (B t1)) (.slice a1 k1.length c1) 56).below (zf (ue _ _) (.cells #[.int .i64 s2,.string (B t2),.slice a2 k2.length c2] 56)));have HA2:=zb (AtC3.new (w.alloc (.cells #[.int .i64 s1,.string (B t1),.slice a1 k1.length c1] 56)) (.int .i64 s2) (.string (B t2)) (.slice a2 k2.length c2) 56);rw[uk]at HA2;subst hs;subst h2;have e1:(s1==1)=false:=ug.2 h1;have e2:((B t1).toList==(B t1).toList)=true:=by simp
       have HI:=zb (fun W=>Yz (k1.length:Int) (k2.length:Int) W);rw[za HQ]at HI;clear h1 HQ;go_enter Tryz.func63,Tryz.ntmps63;go_wp2_with fail;refine(za HI _).mono ?_;rintro e w1⟨rfl,rfl⟩;go_wp2_with fail;go_ret;exact⟨rfl,za HB⟩
     . have HQ:=zb ((Za hs h1 h2).symm.trans hR)
       clear hR;obtain⟨s1,t1,k1⟩:=a;obtain⟨s2,t2,k2⟩:=b;simp only at *;have HB:=zb (jy w (.int .i64 s1) (.string (B t1)) (.slice a1 k1.length c1) (.int .i64 s2) (.string (B t2)) (.slice a2 k2.length c2) 56);have HA1:=zb ((AtC3.new w (.int .i64 s1) (.string (B t1)) (.slice a1 k1.length c1) 56).below (zf (ue _ _) (.cells #[.int .i64 s2,.string (B t2),.slice a2 k2.length c2] 56)));have HA2:=zb (AtC3.new (w.alloc (.cells #[.int .i64 s1,.string (B t1),.slice a1 k1.length c1] 56)) (.int .i64 s2) (.string (B t2)) (.slice a2 k2.length c2) 56);rw[uk]at HA2;subst hs;have e1:(s1==1)=false:=ug.2 h1;have e2:((B t1).toList==(B t2).toList)=false:=by rw[jg,jg,ug];exact h2
       have HI:=zb (fun W=>zaS t1 t2 W);rw[za HQ]at HI;clear h1 h2 HQ;go_enter Tryz.func63,Tryz.ntmps63;go_wp2_with fail;refine(za HI _).mono ?_;rintro e w1⟨rfl,rfl⟩;go_wp2_with fail;go_ret;exact⟨rfl,za HB⟩
 . have HQ:=zb ((xZ hs).symm.trans hR)
   clear hR;obtain⟨s1,t1,k1⟩:=a;obtain⟨s2,t2,k2⟩:=b;simp only at *;have HB:=zb (jy w (.int .i64 s1) (.string (B t1)) (.slice a1 k1.length c1) (.int .i64 s2) (.string (B t2)) (.slice a2 k2.length c2) 56);have HA1:=zb ((AtC3.new w (.int .i64 s1) (.string (B t1)) (.slice a1 k1.length c1) 56).below (zf (ue _ _) (.cells #[.int .i64 s2,.string (B t2),.slice a2 k2.length c2] 56)));have HA2:=zb (AtC3.new (w.alloc (.cells #[.int .i64 s1,.string (B t1),.slice a1 k1.length c1] 56)) (.int .i64 s2) (.string (B t2)) (.slice a2 k2.length c2) 56);rw[uk]at HA2;have e1:(s1==s2)=false:=ug.2 hs;have HI:=zb (fun W=>Yz s1 s2 W);rw[za HQ]at HI;clear hs HQ;go_enter Tryz.func63,Tryz.ntmps63;go_wp2_with fail;refine(za HI _).mono ?_;rintro e w1⟨rfl,rfl⟩;go_wp2_with fail;go_ret;exact⟨rfl,za HB⟩
end Go.Proofs.YtpbnmhnbkfnaeaaGreatDoor
namespace Go.Proofs.YtpbnmhnbkfnaeaaGreatDoor
structure Pre{L:Type}(cmp:L->L->Int):Prop where
 neg:∀x y,cmp y x= -cmp x y
 le:∀x y z,cmp x y<=0->cmp y z<=0->cmp x z<=0
theorem Pre.zero{L:Type}{cmp:L->L->Int}(h:Pre cmp){x y z:L}(h1:cmp x y=0)(h2:cmp y z=0):cmp x z=0:=by
 have a:=h.le x y z (by omega) (by omega);have b:=h.le z y x (by have:=h.neg y z;omega) (by have:=h.neg x y;omega);have:=h.neg x z;omega
theorem Pre.lt{L:Type}{cmp:L->L->Int}(h:Pre cmp){x y z:L}(h1:cmp x y<=0)(h2:cmp y z<=0)(hs:cmp x y<0\/cmp y z<0):cmp x z<0:=by
 have a:=h.le x y z h1 h2;rcases Int.lt_or_eq_of_le a with e|e
 . exact e
 . exfalso
   have n1:=h.neg x z;rcases hs with hs|hs
   . have:=h.le y z x h2 (by omega)
     have:=h.neg x y;omega
   . have:=h.le z x y (by omega) h1
     have:=h.neg y z;omega
section
variable {L:Type} {cmp:L->L->Int} {ar:L->Nat} {D E F:Dat L} {a b d:Int}
theorem zbW{t:Nat}(hl:(D.que a t).length=(E.que b t).length):(D.lb a t=none/\E.lb b t=none)\/∃x y,D.lb a t=some x/\E.lb b t=some y:=by
 unfold Dat.lb;cases e:(D.que a t)[t]? with
 |none=>
  have:(E.que b t)[t]? =none:=by rw[U6]at e⊢;omega
  rw[this];exact .inl ⟨rfl,rfl⟩
 |some x=>
  have hlt:=(ui.1 e).1;rw[uf (show t<(E.que b t).length by omega)];exact .inr ⟨_,_,rfl,rfl⟩
theorem zgE(hp:Pre cmp)(hD:∀x,(D.kids x).length=ar (D.lab x))(hE:∀x,(E.kids x).length=ar (E.lab x))(hF:∀x,(F.kids x).length=ar (F.lab x))(hc:∀x y,cmp x y=0->ar x=ar y){t:Nat}
  (h1:∀s,s<t->cO cmp (D.lb a s) (E.lb b s)=0)(h2:∀s,s<t->cO cmp (E.lb b s) (F.lb d s)=0)(l1:cO cmp (D.lb a t) (E.lb b t)<=0)(l2:cO cmp (E.lb b t) (F.lb d t)<=0):
  (cO cmp (D.lb a t) (E.lb b t)=0->cO cmp (E.lb b t) (F.lb d t)=0->cO cmp (D.lb a t) (F.lb d t)=0)/\
  (cO cmp (D.lb a t) (E.lb b t)<0\/cO cmp (E.lb b t) (F.lb d t)<0->cO cmp (D.lb a t) (F.lb d t)<0):=by
 rcases zbW (JO hD hE hc t h1)with⟨e1,e2⟩|⟨x,y,e1,e2⟩
 . rw[e1,e2]
   exact⟨fun _ _=>rfl,fun h=>by rcases h with h|h<;>exact absurd h (by simp[cO])⟩
 . rcases zbW (JO hE hF hc t h2)with⟨e3,e4⟩|⟨y',z,e3,e4⟩
   . rw[e2]at e3;cases e3
   . rw[e2]at e3
     obtain rfl:=Ui e3;rw[e1,e2]at l1;rw[e2,e4]at l2;rw[e1,e2,e4];exact⟨fun g1 g2=>hp.zero g1 g2,fun g=>hp.lt l1 l2 g⟩
theorem KZ(hp:Pre cmp)(hD:∀x,(D.kids x).length=ar (D.lab x))(hE:∀x,(E.kids x).length=ar (E.lab x))(hF:∀x,(F.kids x).length=ar (F.lab x))(hc:∀x y,cmp x y=0->ar x=ar y){t:Nat}
  (h1:∀s,s<t->cO cmp (D.lb a s) (E.lb b s)=0)(h2:∀s,s<t->cO cmp (E.lb b s) (F.lb d s)=0):∀s,s<t->cO cmp (D.lb a s) (F.lb d s)=0:=fun s hs=>
 (zgE hp hD hE hF hc (t:=s) (fun u hu=>h1 u (by omega)) (fun u hu=>h2 u (by omega)) (by rw[h1 s hs];omega) (by rw[h2 s hs];omega)).1 (h1 s hs) (h2 s hs)
theorem zgp(hp:Pre cmp)(hD:∀x,(D.kids x).length=ar (D.lab x))(hE:∀x,(E.kids x).length=ar (E.lab x))(hF:∀x,(F.kids x).length=ar (F.lab x))(hc:∀x y,cmp x y=0->ar x=ar y){r1 r2 r3:Int}
  (i1:IsFirst (fun s=>cO cmp (D.lb a s) (E.lb b s)) r1)(i2:IsFirst (fun s=>cO cmp (E.lb b s) (F.lb d s)) r2)(i3:IsFirst (fun s=>cO cmp (D.lb a s) (F.lb d s)) r3)(l1:r1<=0)(l2:r2<=0):
  r3<=0/\(r1<0\/r2<0->r3<0):=by
 have key:∀t,(∀s,s<t->cO cmp (D.lb a s) (E.lb b s)=0)->(∀s,s<t->cO cmp (E.lb b s) (F.lb d s)=0)->cO cmp (D.lb a t) (E.lb b t)≠0\/cO cmp (E.lb b t) (F.lb d t)≠0->r3<0:=by
  intro t h1 h2 hne;have m1:cO cmp (D.lb a t) (E.lb b t)<=0:=by
   by_cases e:cO cmp (D.lb a t) (E.lb b t)=0
   . omega
   . have:=i1.at h1 e;omega
  have m2:cO cmp (E.lb b t) (F.lb d t)<=0:=by
   by_cases e:cO cmp (E.lb b t) (F.lb d t)=0
   . omega
   . have:=i2.at h2 e;omega
  have h3:=(zgE hp hD hE hF hc h1 h2 m1 m2).2 (by omega);have:=i3.at (KZ hp hD hE hF hc h1 h2) (by omega);omega
 rcases i1 with⟨e1,z1⟩|⟨t1,g1,n1,e1⟩
 . rcases i2 with⟨e2,z2⟩|⟨t2,g2,n2,e2⟩
   . have h3:=i3.zero (fun s=>KZ hp hD hE hF hc (t:=s+1) (fun u _=>z1 u) (fun u _=>z2 u) s (by omega))
     omega
   . have:=key t2 (fun s _=>z1 s) g2 (.inr n2)
     omega
 . rcases i2 with⟨e2,z2⟩|⟨t2,g2,n2,e2⟩
   . have:=key t1 g1 (fun s _=>z2 s) (.inl n1)
     omega
   . by_cases h:t1<=t2
     . have:=key t1 g1 (fun s hs=>g2 s (by omega)) (.inl n1)
       omega
     . have:=key t2 (fun s hs=>g1 s (by omega)) g2 (.inr n2)
       omega
theorem zfb(hp:Pre cmp){r1 r2:Int}(i1:IsFirst (fun s=>cO cmp (D.lb a s) (E.lb b s)) r1)(i2:IsFirst (fun s=>cO cmp (E.lb b s) (D.lb a s)) r2):r2= -r1:=by
 have hn:∀s,cO cmp (E.lb b s) (D.lb a s)= -cO cmp (D.lb a s) (E.lb b s):=fun s=>by
  cases D.lb a s with
  |none=>cases E.lb b s<;>rfl
  |some x=>cases E.lb b s with
   |none=>rfl
   |some y=>exact hp.neg x y
 rcases i1 with⟨e1,z1⟩|⟨t1,g1,n1,e1⟩
 . rw[i2.zero (fun s=>by simp only[hn,z1 s];rfl),e1];rfl
 . simp only at g1 n1 e1
   rw[i2.at (t:=t1) (fun s hs=>by simp only[hn,g1 s hs];rfl) (by simp only[hn];omega),hn,e1]
end
end Go.Proofs.YtpbnmhnbkfnaeaaGreatDoor
namespace Go.Proofs.YtpbnmhnbkfnaeaaGreatDoor
open Go.RowKit Nt
theorem JX:Pre j9 where
 neg x y:=by unfold j9;split<;>split<;>(try split)<;>omega
 le x y z:=by unfold j9;intro h1 h2;split at h1<;>split at h2<;>(try split at h1)<;>(try split at h2)<;>split<;>(try split)<;>omega
theorem JW:∀(a b:List UInt8),Lib.compareBytes b a= -Lib.compareBytes a b:=fun a b=>by
 obtain⟨h1,h2,h3,h4⟩:=qU a b;obtain⟨g1,g2,g3,g4⟩:=qU b a;rw[h1]at g2;rw[h2]at g1;rw[decide_eq_decide]at g1 g2;omega
theorem Jd:∀ {a b c:List UInt8},Op.bytesLess a b=true->Op.bytesLess b c=true->Op.bytesLess a c=true
 | [],[],_,h,_=>by simp[Op.bytesLess]at h
 | [],_::_,[],_,h=>by simp[Op.bytesLess]at h
 | [],_::_,_::_,_,_=>by simp[Op.bytesLess]
 |_::_,[],_,h,_=>by simp[Op.bytesLess]at h
 |_::_,_::_,[],_,h=>by simp[Op.bytesLess]at h
 |a::x,b::y,c::z,h1,h2=>by
  unfold Op.bytesLess at h1 h2⊢;simp only[Ur,ut,ux,Um]at h1 h2⊢;rcases h1 with e1|⟨rfl,h1⟩
  . rcases h2 with e2|⟨rfl,h2⟩
    . exact .inl (UInt8.lt_trans e1 e2)
    . exact .inl e1
  . rcases h2 with e2|⟨rfl,h2⟩
    . exact .inl e2
    . exact .inr ⟨rfl,Jd h1 h2⟩
theorem zd0:Pre Lib.compareBytes where
 neg x y:=JW x y
 le x y z h1 h2:=by
  obtain⟨a1,a2,a3,a4⟩:=qU x y;obtain⟨b1,b2,b3,b4⟩:=qU y z;obtain⟨c1,c2,c3,c4⟩:=qU x z;rcases a4 with e|e|e
  . rcases b4 with f|f|f
    . have:=Jd (a1.trans (uy e)) (b1.trans (uy f))
      rw[c1]at this;have:=wU this;omega
    . rw[<-b3.1 f,e];omega
    . omega
  . rw[a3.1 e];exact h2
  . omega
theorem zhe{z:Int}:sgI z<=0↔z<=0:=by unfold sgI;split<;>(try split)<;>omega
theorem zcE(p q:Rt):vb q p= -vb p q:=by
 unfold vb;rw[<-zce]
 congr 1
 omega
theorem zd4{a b c x y z:Int}(hx:0<x)(hy:0<y)(hz:0<z)(h1:a*y-b*x<=0)(h2:b*z-c*y<=0):a*z-c*x<=0:=by
 have k1:a*y<=b*x:=by omega
 have k2:b*z<=c*y:=by omega
 have m1:=Int.mul_le_mul_of_nonneg_right k1 (Int.le_of_lt hz);have m2:=Int.mul_le_mul_of_nonneg_right k2 (Int.le_of_lt hx);have e1:b*x*z=b*z*x:=by rw[Int.mul_assoc,Int.mul_comm x z,<-Int.mul_assoc]
 have e2:a*y*z=a*z*y:=by rw[Int.mul_assoc,Int.mul_comm y z,<-Int.mul_assoc]
 have e3:c*y*x=c*x*y:=by rw[Int.mul_assoc,Int.mul_comm y x,<-Int.mul_assoc]
 have k3:a*z*y<=c*x*y:=by rw[<-e2,<-e3];rw[e1]at m1;exact Int.le_trans m1 m2
 have k4:=Int.le_of_mul_le_mul_right k3 hy;omega
theorem zd1{p q r:Rt}(hp:0<p.2.2)(hq:0<q.2.2)(hr:0<r.2.2)(h1:vb p q<=0)(h2:vb q r<=0):vb p r<=0:=by
 unfold vb at *;rw[zhe]at *;exact zd4 (by omega) (by omega) (by omega) h1 h2
def kO(nd:Nd):Prop:=kL nd.1 nd.2.1=true/\qJ nd.1 nd.2.2.length=true
theorem QY{n:Nat}{nd:Nd}(h:zT n nd=true):kO nd:=by
 have c:=Vt h;unfold zT at h;simp only[ux]at h;exact⟨h.1.2,c⟩
theorem jL{nd:Nd}(h:kO nd)(h1:nd.1=1):okT (j5 nd.2.1)=true:=by
 have h:=h.1;unfold kL at h;rw[uj h1]at h;unfold vI at h;unfold j5;cases e:zw nd.2.1 10 with
 |none=>rw[e]at h;exact absurd h (by simp)
 |some p=>exact zf5 (Qt (n:=p.1) (x:=p.2.1) (y:=p.2.2) e)
theorem kT{a b:T3}(ha:okT a=true)(hb:okT b=true):Z0 a b=vb (Zs a) (Zs b):=by unfold Z0;rw[ha,hb];rfl
theorem KP{a:T3}(ha:okT a=true):0<(Zs a).2.2:=Kp (Kq ha)
theorem zfS{a b:Nd}(ha:kO a)(hb:kO b):zU b a= -zU a b:=by
 by_cases h:a.1=b.1
 . by_cases h1:a.1=1
   . rw[ZE h h1,ZE h.symm (h ▸ h1),kT (jL ha h1) (jL hb (h ▸ h1)),kT (jL hb (h ▸ h1)) (jL ha h1),zcE]
   . by_cases h2:a.2.1=b.2.1
     . rw[ZD h h1 h2,ZD h.symm (h ▸ h1) h2.symm,JX.neg]
     . rw[Za h h1 h2,Za h.symm (h ▸ h1) (U8 h2),JW]
 . rw[xZ h,xZ (U8 h),JX.neg]
theorem JH{a b:Int}:j9 a b<=0↔a<=b:=by unfold j9;split<;>(try split)<;>omega
theorem zg2{a b c:Nd}(ha:kO a)(hb:kO b)(hc:kO c)(h1:zU a b<=0)(h2:zU b c<=0):zU a c<=0:=by
 unfold zU at *;by_cases e1:a.1=b.1
 . by_cases e2:b.1=c.1
   . rw[ul (by simp[e1])]at h1
     rw[ul (by simp[e2])]at h2;rw[ul (by simp[e1,e2])];by_cases k:a.1=1
     . rw[uj k]at h1⊢
       rw[uj (e1 ▸ k)]at h2;have ga:=jL ha k;have gb:=jL hb (e1 ▸ k);have gc:=jL hc (by omega);rw[kT ga gb]at h1;rw[kT gb gc]at h2;rw[kT ga gc];exact zd1 (KP ga) (KP gb) (KP gc) h1 h2
     . rw[ul k]at h1⊢
       rw[ul (e1 ▸ k)]at h2;by_cases t1:a.2.1=b.2.1
       . rw[ul (by simp[t1])]at h1
         by_cases t2:b.2.1=c.2.1
         . rw[ul (by simp[t2])]at h2
           rw[ul (by simp[t1,t2])];exact JX.le _ _ _ h1 h2
         . rw[uj t2]at h2
           rw[uj (by rw[t1];exact t2),t1];exact h2
       . rw[uj t1]at h1
         by_cases t2:b.2.1=c.2.1
         . rw[uj (by rw[<-t2];exact t1),<-t2]
           exact h1
         . rw[uj t2]at h2
           have h3:=zd0.le _ _ _ h1 h2;by_cases t3:a.2.1=c.2.1
           . exfalso
             rw[t3]at h1;have h4:=JW c.2.1 b.2.1;exact t2 ((qU _ _).2.2.1.1 (by omega))
           . rw[uj t3];exact h3
   . rw[uj e2]at h2
     rw[uj (by rw[e1];exact e2),e1];exact h2
 . rw[uj e1]at h1
   rw[JH]at h1;by_cases e2:b.1=c.1
   . rw[uj (by rw[<-e2];exact e1),JH]
     omega
   . rw[uj e2,JH]at h2
     rw[uj (by omega),JH];omega
end Go.Proofs.YtpbnmhnbkfnaeaaGreatDoor
namespace Go.Proofs.YtpbnmhnbkfnaeaaGreatDoor
open Go.RowKit Nt
theorem Jv{c c':Int->Int->Int}{kids kids':Int->Int->List (Int×Int)}{n m:Nat}(hk:∀a b,vT n m (a,b)->∀x∈kids a b,vT n m x)
  (hc:∀a b,vT n m (a,b)->c a b=c' a b)(hk':∀a b,vT n m (a,b)->kids a b=kids' a b):∀ {f i:Nat}{l:List (Int×Int)},(∀x∈l,vT n m x)->qA c kids f i l=qA c' kids' f i l
 |0,_,_,_=>rfl
 |f+1,i,l,hl=>by
  unfold qA;cases e:l[i]? with
  |none=>rfl
  |some x=>
   obtain⟨a,b⟩:=x;have hab:=hl _ (un e);simp only;rw[hc a b hab,hk' a b hab];by_cases h0:c' a b=0
   . rw[uj h0,uj h0]
     refine Jv hk hc hk' (fun x hx=>?_);have key:∀(ks l:List (Int×Int)),(∀x∈l,vT n m x)->(∀x∈ks,vT n m x)->∀x∈qG l ks,vT n m x:=by
      intro ks
      induction ks with
      |nil=>intro l hl _ x hx;exact hl x hx
      |cons y ks ih=>
       intro l hl hks x hx;unfold qG at hx;refine ih _ (fun z hz=>?_) (fun z hz=>hks z (Uw _ hz)) x hx
       split at hz
       . exact hl z hz
       . rcases uA.1 hz with hz|hz
         . exact hl z hz
         . have:z=y:=by simpa using hz
           rw[this];exact hks y UK
     exact key _ l hl (by rw[<-hk' a b hab];exact hk a b hab) x hx
   . rw[ul h0,ul h0]
def clI(n:Nat)(x:Int):Int:=if 0<=x/\x<n then x else 0
theorem zgR{n:Nat}(h:0<n)(x:Int):0<=clI n x/\clI n x<n:=by unfold clI;split<;>omega
theorem QN{n:Nat}{x:Int}(h:0<=x/\x<n):clI n x=x:=by unfold clI;rw[uj h]
abbrev GNd:={nd:Nd//kO nd}
theorem zhx:Pre (fun a b:GNd=>zU a.1 b.1):=⟨fun x y=>zfS x.2 y.2,fun x y z=>zg2 x.2 y.2 z.2⟩
section
variable {ns ms ls:List Nd}
def JY(ns:List Nd)(h:ns.all (zT ns.length)=true)(h0:0<ns.length):Dat GNd:=
 ⟨fun x=>(kp ns (clI ns.length x)).2.2,fun x=>⟨kp ns (clI ns.length x),QY (uI.1 h _ (kG (zgR h0 x)))⟩⟩
theorem zev(a b:GNd)(h:zU a.1 b.1=0):a.1.2.2.length=b.1.2.2.length:=by
 obtain⟨a,ha⟩:=a;obtain⟨b,hb⟩:=b;simp only at h⊢;unfold zU at h;by_cases h1:a.1≠b.1
 . rw[uj h1]at h
   exact absurd (ku.1 h) h1
 . rw[ul h1]at h
   have h1:a.1=b.1:=Decidable.not_not.1 h1;by_cases h2:a.1=1
   . have c1:=ha.2
     have c2:=hb.2;rw[h2]at c1;rw[<-h1,h2]at c2;rw[xu c1,xu c2]
   . rw[ul h2]at h
     by_cases h3:a.2.1≠b.2.1
     . rw[uj h3]at h
       exact absurd ((qU _ _).2.2.1.1 h) h3
     . rw[ul h3]at h
       have:=ku.1 h;omega
theorem yu(hn:ns.all (zT ns.length)=true)(hm:ms.all (zT ms.length)=true)(n0:0<ns.length)(m0:0<ms.length){a b:Int}(hab:vT ns.length ms.length (a,b)):
  IsFirst (fun s=>cO (fun a b:GNd=>zU a.1 b.1) ((JY ns hn n0).lb a s) ((JY ms hm m0).lb b s)) (jf ns ms a b):=by
 have h:=zal (cmp:=fun a b:GNd=>zU a.1 b.1) (ar:=fun a:GNd=>a.1.2.2.length) (D:=JY ns hn n0) (E:=JY ms hm m0) (a:=a) (b:=b) (fun _=>rfl) (fun _=>rfl) zev (n:=ns.length) (m:=ms.length) (g:=ns.length*ms.length+1)
  (fun x y hxy z hz=>by
   have e1:=QN hxy.1;have e2:=QN hxy.2;simp only at e1 e2;simp only[JY,e1,e2]at hz;exact jO hn hm x y hxy z hz) hab (by omega)
 have e:jf ns ms a b=qA (fun x y=>zU ((JY ns hn n0).lab x).1 ((JY ms hm m0).lab y).1) (fun x y=>((JY ns hn n0).kids x).zip ((JY ms hm m0).kids y)) (ns.length*ms.length+1) 0 [(a,b)]:=by
  unfold jf;refine Jv (jO hn hm) (fun x y hxy=>?_) (fun x y hxy=>?_) (fun x hx=>by
   have:x=(a,b):=by simpa using hx
   rw[this];exact hab)
  . have e1:=QN hxy.1
    have e2:=QN hxy.2;simp only at e1 e2;simp only[JY,e1,e2,kZ]
  . have e1:=QN hxy.1
    have e2:=QN hxy.2;simp only at e1 e2;simp only[JY,e1,e2,vh]
 rw[e];exact h
theorem zcC(hn:ns.all (zT ns.length)=true)(hm:ms.all (zT ms.length)=true){a b:Int}(hab:vT ns.length ms.length (a,b)):jf ms ns b a= -jf ns ms a b:=by
 have n0:0<ns.length:=by have:=hab.1;omega
 have m0:0<ms.length:=by have:=hab.2;omega
 exact zfb zhx (yu hn hm n0 m0 hab) (yu hm hn m0 n0 ⟨hab.2,hab.1⟩)
theorem zdZ(hn:ns.all (zT ns.length)=true)(hm:ms.all (zT ms.length)=true)(hl:ls.all (zT ls.length)=true){a b c:Int}(ha:0<=a/\a<ns.length)(hb:0<=b/\b<ms.length)(hc:0<=c/\c<ls.length)
  (h1:jf ns ms a b<=0)(h2:jf ms ls b c<=0):jf ns ls a c<=0/\(jf ns ms a b<0\/jf ms ls b c<0->jf ns ls a c<0):=by
 have n0:0<ns.length:=by omega
 have m0:0<ms.length:=by omega
 have l0:0<ls.length:=by omega
 exact zgp (ar:=fun a:GNd=>a.1.2.2.length) zhx (fun _=>rfl) (fun _=>rfl) (fun _=>rfl) zev (yu hn hm n0 m0 ⟨ha,hb⟩) (yu hm hl m0 l0 ⟨hb,hc⟩) (yu hn hl n0 l0 ⟨ha,hc⟩) h1 h2
end
end Go.Proofs.YtpbnmhnbkfnaeaaGreatDoor
namespace Go.Proofs.YtpbnmhnbkfnaeaaGreatDoor
open Go.RowKit Nt
def cnt(ns:List Nd):Nat:=(ns.map fun nd=>2+nd.2.2.length).sum
def xP(P:Nat->Bool)(i:Nat):Nat->Nat
 |0=>i
 |m+1=>if P (i-(m+1))then i-(m+1)else xP P i m
def je(ns:List Nd)(i:Nat):Nd:=ns.getD i (0,[],[])
theorem yy{ns:List Nd}{i:Nat}{nd:Nd}(h:ns[i]? =some nd):je ns i=nd:=by
 unfold je;rw[uq,h];rfl
def pG(ns:List Nd)(g:List Int)(i k:Nat):Bool:=decide (zD g i=zD g k)&&vF (je ns i) (je ns k) g
def vl(ns:List Nd)(g:List Int):List Int:=(List.range ns.length).map fun i=>((xP (pG ns g i) i i:Nat):Int)
def Qf(ns:List Nd):Nat->List Int
 |0=>List.replicate ns.length 0
 |k+1=>vl ns (Qf ns k)
def V4(ns:List Nd):List Int:=Qf ns (ns.length+1)
theorem zdu(ns:List Nd)(g:List Int):(vl ns g).length=ns.length:=by simp[vl]
theorem zdt{ns:List Nd}{g:List Int}{i:Nat}(h:i<ns.length):(vl ns g)[i]? =some ((xP (pG ns g i) i i:Nat):Int):=by
 simp[vl,h]
theorem zaM{ns:List Nd}{n:Nat}(h:Qf ns (n+1)=Qf ns n):∀m,Qf ns (n+m)=Qf ns n:=by
 intro m
 induction m with
 |zero=>rfl
 |succ m ih=>
  show vl ns (Qf ns (n+m))=_;rw[ih];exact h
def zcr(ns:List Nd)(g:List Int):Prop:=∀i j:Nat,i<ns.length->j<ns.length->zD g i=zD g j->vF (je ns i) (je ns j) g=true
def xQ(ns:List Nd)(g:List Int):Prop:=∀h,zcr ns h->∀i j:Nat,i<ns.length->j<ns.length->zD h i=zD h j->zD g i=zD g j
theorem XZ{ns:List Nd}{g h:List Int}(g1:zcr ns g)(g2:xQ ns g)(h1:zcr ns h)(h2:xQ ns h){i j:Nat}(hi:i<ns.length)(hj:j<ns.length):zD g i=zD g j↔zD h i=zD h j:=
 ⟨h2 g g1 i j hi hj,g2 h h1 i j hi hj⟩
theorem qC{a b:Nd}{g:List Int}:vF a b g=true↔a.1=b.1/\a.2.1=b.2.1/\a.2.2.map (zD g)=b.2.2.map (zD g):=by
 unfold vF;simp[and_assoc]
theorem zas(a:Nd)(g:List Int):vF a a g=true:=qC.2 ⟨rfl,rfl,rfl⟩
theorem zat{a b:Nd}{g:List Int}(h:vF a b g=true):vF b a g=true:=by
 rw[qC]at h⊢;exact⟨h.1.symm,h.2.1.symm,h.2.2.symm⟩
theorem KX{a b c:Nd}{g:List Int}(h:vF a b g=true)(k:vF b c g=true):vF a c g=true:=by
 rw[qC]at h k⊢;exact⟨h.1.trans k.1,h.2.1.trans k.2.1,h.2.2.trans k.2.2⟩
def xR(n:Nat)(ks:List Int):Prop:=∀x∈ks,0<=x/\x<n
theorem Vn{n:Nat}{g h:List Int}(hr:∀i j:Nat,i<n->j<n->zD h i=zD h j->zD g i=zD g j):
  ∀ {cs bs:List Int},xR n cs->xR n bs->cs.map (zD h)=bs.map (zD h)->cs.map (zD g)=bs.map (zD g)
 | [],[],_,_,_=>rfl
 | [],_::_,_,_,e=>by simp at e
 |_::_,[],_,_,e=>by simp at e
 |a::cs,b::bs,ha,hb,e=>by
  simp only[UU,ww]at e⊢;have h1:=ha a (by simp);have h2:=hb b (by simp);refine⟨?_,Vn hr (fun x hx=>ha x (by simp[hx])) (fun x hx=>hb x (by simp[hx])) e.2⟩;have:=hr a.toNat b.toNat (by omega) (by omega);rw[show((a.toNat:Nat):Int)=a by omega,show((b.toNat:Nat):Int)=b by omega]at this;exact this e.1
theorem xl{n:Nat}{g h:List Int}(hr:∀i j:Nat,i<n->j<n->zD h i=zD h j->zD g i=zD g j){a b:Nd}(ha:xR n a.2.2)(hb:xR n b.2.2)
  (e:vF a b h=true):vF a b g=true:=by
 rw[qC]at e⊢;exact⟨e.1,e.2.1,Vn hr ha hb e.2.2⟩
def xj(ns:List Nd):Prop:=∀i:Nat,i<ns.length->xR ns.length (je ns i).2.2
theorem YL(P:Nat->Bool)(i:Nat):∀m,m<=i->(P (xP P i m)=true/\xP P i m<i/\∀k,i-m<=k->k<xP P i m->P k=false)\/(xP P i m=i/\∀k,i-m<=k->k<i->P k=false)
 |0,_=>.inr ⟨rfl,fun k h1 h2=>by omega⟩
 |m+1,hm=>by
  unfold xP;by_cases h:P (i-(m+1))=true
  . rw[uj h];exact .inl ⟨h,by omega,fun k h1 h2=>by omega⟩
  . rw[ul h]
    have hf:∀k,i-(m+1)<=k->k<i-m->P k=false:=fun k h1 h2=>by
     have:k=i-(m+1):=by omega
     subst this;simpa using h
    rcases YL P i m (by omega)with⟨a,b,c⟩|⟨a,c⟩
    . exact .inl ⟨a,b,fun k h1 h2=>by by_cases hk:k<i-m;exact hf k h1 hk;exact c k (by omega) h2⟩
    . exact .inr ⟨a,fun k h1 h2=>by by_cases hk:k<i-m;exact hf k h1 hk;exact c k (by omega) h2⟩
theorem Zi{ns:List Nd}{g:List Int}{i k:Nat}:pG ns g i k=true↔zD g i=zD g k/\vF (je ns i) (je ns k) g=true:=by
 unfold pG;simp
theorem zga(ns:List Nd)(g:List Int)(i:Nat):pG ns g i i=true:=Zi.2 ⟨rfl,zas _ _⟩
theorem zb8{ns:List Nd}{g:List Int}{i k:Nat}(h:pG ns g i k=true):pG ns g k i=true:=by
 rw[Zi]at h⊢;exact⟨h.1.symm,zat h.2⟩
theorem Vz{ns:List Nd}{g:List Int}{i j k:Nat}(h:pG ns g i j=true)(h2:pG ns g j k=true):pG ns g i k=true:=by
 rw[Zi]at h h2⊢;exact⟨h.1.trans h2.1,KX h.2 h2.2⟩
theorem Jq(ns:List Nd)(g:List Int)(i:Nat):pG ns g i (xP (pG ns g i) i i)=true/\xP (pG ns g i) i i<=i/\∀k,pG ns g i k=true->xP (pG ns g i) i i<=k:=by
 rcases YL (pG ns g i) i i (ud _)with⟨a,b,c⟩|⟨a,c⟩
 . refine⟨a,by omega,fun k hk=>?_⟩
   apply dk;intro hlt;rw[c k (by omega) hlt]at hk;cases hk
 . rw[a]
   refine⟨zga _ _ _,ud _,fun k hk=>?_⟩;apply dk;intro hlt;rw[c k (by omega) hlt]at hk;cases hk
theorem ze1{ns:List Nd}{g:List Int}{i j:Nat}(h:pG ns g i j=true):xP (pG ns g i) i i=xP (pG ns g j) j j:=by
 obtain⟨a1,a2,a3⟩:=Jq ns g i;obtain⟨b1,b2,b3⟩:=Jq ns g j;have:=a3 _ (Vz h b1);have:=b3 _ (Vz (zb8 h) a1);omega
theorem vn{g:List Int}{i:Nat}{x:Int}(h:g[i]? =some x):zD g i=x:=by
 unfold zD;rw[uq,show((i:Nat):Int).toNat=i by omega,h];rfl
theorem Zn{ns:List Nd}{g:List Int}{i:Nat}(h:i<ns.length):zD (vl ns g) i=((xP (pG ns g i) i i:Nat):Int):=vn (zdt h)
theorem xg{ns:List Nd}{g:List Int}{i j:Nat}(hi:i<ns.length)(hj:j<ns.length):zD (vl ns g) i=zD (vl ns g) j↔pG ns g i j=true:=by
 rw[Zn hi,Zn hj];constructor
 . intro h
   have h':xP (pG ns g i) i i=xP (pG ns g j) j j:=by omega
   have a:=(Jq ns g i).1;have b:=(Jq ns g j).1;rw[h']at a;exact Vz a (zb8 b)
 . intro h;rw[ze1 h]
theorem Xb{ns:List Nd}{g:List Int}(hk:xj ns)(h:xQ ns g):xQ ns (vl ns g):=by
 intro h' hs i j hi hj e;rw[xg hi hj,Zi];exact⟨h h' hs i j hi hj e,xl (h h' hs) (hk i hi) (hk j hj) (hs i j hi hj e)⟩
theorem Yk{ns:List Nd}(hk:xj ns):∀k,xQ ns (Qf ns k)
 |0=>fun h _ i j hi hj _=>by
  have:∀i:Nat,i<ns.length->zD (Qf ns 0) i=0:=fun i hi=>vn (by simp[Qf,hi])
  rw[this i hi,this j hj]
 |k+1=>Xb hk (Yk hk k)
def Jy(ns:List Nd)(g:List Int):List Nat:=(List.range ns.length).filter fun i=>decide (zD g i=(i:Int))
theorem Zc{ns:List Nd}{g:List Int}{i:Nat}:i∈Jy ns g↔i<ns.length/\zD g i=(i:Int):=by unfold Jy;simp
theorem J2(ns:List Nd)(g:List Int):(Jy ns g).Nodup:=dA List.filter_sublist List.nodup_range
theorem YB{α:Type}[BEq α][LawfulBEq α]{l m:List α}(h:l.Nodup)(hs:∀x∈l,x∈m)(hl:m.length<=l.length):∀x∈m,x∈l:=by
 intro x hx;apply uM;intro hn;have:=jk (l:=x::l) (m:=m) (WT.2 ⟨hn,h⟩) (fun y hy=>by rcases uX.1 hy with rfl|hy;exact hx;exact hs y hy);simp at this;omega
theorem zfF(ns:List Nd)(g:List Int):(Jy ns g).length<=ns.length:=by
 have:=jk (J2 ns g) (m:=List.range ns.length) (fun x hx=>by simp;exact(Zc.1 hx).1);simpa using this
structure zar(ns:List Nd)(g:List Int):Prop where
 len:g.length=ns.length
 at':∀i:Nat,i<ns.length->∃k:Nat,zD g i=(k:Int)/\k<=i/\zD g k=(k:Int)
theorem Ji(ns:List Nd)(g:List Int):zar ns (vl ns g):=by
 refine⟨zdu _ _,fun i hi=>⟨xP (pG ns g i) i i,Zn hi,(Jq ns g i).2.1,?_⟩⟩;have h1:=(Jq ns g i).1;have h2:=(Jq ns g i).2.1;exact((xg hi (by omega)).2 h1).symm.trans (Zn hi)
theorem zcM(ns:List Nd):∀k,zar ns (Qf ns k)
 |0=>by
  have:∀i:Nat,i<ns.length->zD (Qf ns 0) i=0:=fun i hi=>vn (by simp[Qf,hi])
  exact⟨by simp[Qf],fun i hi=>⟨0,this i hi,uD _,this 0 (by omega)⟩⟩
 |k+1=>Ji ns _
theorem Kk{a b:List Int}(hl:a.length=b.length)(h:∀i:Nat,i<a.length->zD a i=zD b i):a=b:=by
 apply wD hl;intro i h1 h2;have:=h i h1;rwa[vn (uf h1),vn (uf h2)]at this
theorem Y9{ns:List Nd}{g:List Int}(hf:zar ns g):vl ns g=g\/(Jy ns g).length<(Jy ns (vl ns g)).length:=by
 have hsub:∀x∈Jy ns g,x∈Jy ns (vl ns g):=by
  intro i hx;obtain⟨hi,e⟩:=Zc.1 hx;refine Zc.2 ⟨hi,?_⟩;rw[Zn hi];obtain⟨a,b,_⟩:=Jq ns g i;have a1:=(Zi.1 a).1;obtain⟨k,hk1,hk2,_⟩:=hf.at' (xP (pG ns g i) i i) (by omega);omega
 by_cases hlt:(Jy ns g).length<(Jy ns (vl ns g)).length
 . exact .inr hlt
 . refine .inl ?_
   have hall:=YB (J2 ns g) hsub (by omega);have hS:=Ji ns g;refine Kk (by rw[hS.len,hf.len]) (fun i hi=>?_);have hi':i<ns.length:=by rw[<-hS.len];exact hi
   obtain⟨k,h1,h2,h3⟩:=hS.at' i hi';have hk:=(Zc.1 (hall k (Zc.2 ⟨by omega,h3⟩))).2;rw[h1,<-hk];have:=(xg hi' (by omega:k<ns.length)).1 (h1.trans h3.symm);exact(Zi.1 this).1.symm
theorem Xq(ns:List Nd):∀k,Qf ns (k+1)=Qf ns k\/k<=(Jy ns (Qf ns k)).length
 |0=>.inr (uD _)
 |k+1=>by
  rcases Xq ns k with h|h
  . exact .inl (zaM h 1 |>.trans (by rw[<-h]) |> fun e=>by show vl ns (Qf ns (k+1))=_;rw[h];exact h)
  . rcases Y9 (zcM ns k)with e|e
    . left;show vl ns (vl ns (Qf ns k))=vl ns (Qf ns k);rw[e,e]
    . right;show k+1<=(Jy ns (vl ns (Qf ns k))).length;omega
theorem zfI(ns:List Nd):vl ns (V4 ns)=V4 ns:=by
 show Qf ns (ns.length+1+1)=Qf ns (ns.length+1);rcases Xq ns (ns.length+1)with h|h
 . exact h
 . have:=zfF ns (Qf ns (ns.length+1));omega
theorem zab(ns:List Nd):zcr ns (V4 ns):=by
 intro i j hi hj e;rw[<-zfI ns,xg hi hj,Zi]at e;exact e.2
theorem zaw{ns:List Nd}(hk:xj ns):xQ ns (V4 ns):=Yk hk _
def hB(h:Nat)(b:UInt8):Nat:=(31*h+b.toNat)%65521
def hK(h k:Nat):Nat:=(257*h+k)%65521
def ZO(h:Nat)(t:List UInt8):Nat:=t.foldl hB h
def yJ(nd:Nd):Nat:=ZO (7*nd.1.toNat+nd.2.2.length) nd.2.1
def qM(ns:List Nd):Nat->Int->Nat
 |0,x=>yJ (kp ns x)
 |d+1,x=>(kp ns x).2.2.foldl (fun h k=>hK h (qM ns d k)) (yJ (kp ns x))
theorem zhy(h:Nat)(b:UInt8):hB h b<65521:=Ua _ (by decide)
theorem zhz(h k:Nat):hK h k<65521:=Ua _ (by decide)
theorem Xl{h M:Nat}(t:List UInt8)(hh:h<=M)(hM:65521<=M):ZO h t<=M:=by
 unfold ZO
 induction t generalizing h with
 |nil=>exact hh
 |cons b r ih=>exact ih (by have:=zhy h b;omega)
theorem zaL{h:Nat}{t:List UInt8}{j:Nat}{b:UInt8}(hb:t[j]? =some b):ZO h (t.take (j+1))=hB (ZO h (t.take j)) b:=by
 unfold ZO;rw[uY,hb,List.foldl_append];rfl
theorem Xs{f:Int->Nat}{h M:Nat}(ks:List Int)(hh:h<=M)(hM:65521<=M):ks.foldl (fun h k=>hK h (f k)) h<=M:=by
 induction ks generalizing h with
 |nil=>exact hh
 |cons b r ih=>exact ih (by have:=zhz h (f b);show hK h (f b)<=M;omega)
theorem XK{n:Nat}{nd:Nd}(h:zT n nd=true)(hk:nd.2.2.length<=1048576):0<=nd.1/\nd.1<=9/\7*nd.1.toNat+nd.2.2.length<=1048639:=by
 unfold zT at h;simp only[ux,ut]at h;omega
theorem zdT{n:Nat}{nd:Nd}(h:zT n nd=true)(hk:nd.2.2.length<=1048576):yJ nd<=1048639:=Xl _ (XK h hk).2.2 (by decide)
theorem Xm{ns:List Nd}(hn:ns.all (zT ns.length)=true)(hs:∀nd∈ns,nd.2.2.length<=1048576)(d:Nat){x:Int}(hx:0<=x/\x<ns.length):qM ns d x<=1048639:=by
 have hm:=kG hx;have hb:=zdT (uI.1 hn _ hm) (hs _ hm);cases d with
 |zero=>exact hb
 |succ d=>exact Xs _ hb (by decide)
theorem zcS{ns:List Nd}{x:Int}{nd:Nd}(h:ns[x.toNat]? =some nd)(d:Nat):qM ns (d+1) x=nd.2.2.foldl (fun h k=>hK h (qM ns d k)) (yJ nd):=by
 show(kp ns x).2.2.foldl _ _=_;rw[vt h]
theorem Yt{ns:List Nd}{x:Int}{nd:Nd}(h:ns[x.toNat]? =some nd):qM ns 0 x=yJ nd:=by
 show yJ (kp ns x)=_;rw[vt h]
def ky(d:Dt)(most:Int):Int:=
 if vD d=true/\1<=most then match d.2 with
  |r::_=>((qM d.1 3 r:Nat):Int).tmod most
  | []=>0
 else 0
theorem zcP{d:Dt}{most:Int}(h:vD d=false):ky d most=0:=by unfold ky;rw[h];rfl
theorem zcQ{d:Dt}{most:Int}(h:d.2=[]):ky d most=0:=by unfold ky;rw[h];split<;>rfl
theorem zcR{d:Dt}{most:Int}(h:most<1):ky d most=0:=by unfold ky;rw[ul (by omega)]
theorem QS{ns:List Nd}{r:Int}{rs:List Int}{most:Int}(h:vD (ns,r::rs)=true)(hm:1<=most):ky (ns,r::rs) most=((qM ns 3 r:Nat):Int).tmod most:=by
 unfold ky;rw[uj ⟨h,hm⟩]
end Go.Proofs.YtpbnmhnbkfnaeaaGreatDoor
namespace Go.Proofs.YtpbnmhnbkfnaeaaGreatDoor
open Go.RowKit Nt
def Bis(ns ms:List Nd)(R:Int×Int->Prop):Prop:=∀x,R x->vT ns.length ms.length x/\kZ ns ms x.1 x.2=0/\∀y∈vh ns ms x.1 x.2,R y
theorem K2{c:Int->Int->Int}{kids:Int->Int->List (Int×Int)}{R:Int×Int->Prop}(hR:∀x,R x->c x.1 x.2=0/\∀y∈kids x.1 x.2,R y):
  ∀(f i:Nat)(l:List (Int×Int)),(∀x∈l,R x)->qA c kids f i l=0
 |0,_,_,_=>rfl
 |f+1,i,l,h=>by
  unfold qA;cases e:l[i]? with
  |none=>rfl
  |some x=>
   obtain⟨a,b⟩:=x;have h1:=hR _ (h _ (un e));simp only at h1⊢;rw[uj h1.1];refine K2 hR f (i+1) _ fun y hy=>?_
   rcases vJ.1 hy with hy|hy
   . exact h y hy
   . exact h1.2 y hy
theorem zfi{c:Int->Int->Int}{kids:Int->Int->List (Int×Int)}{n m:Nat}(hk:∀a b,vT n m (a,b)->∀x∈kids a b,vT n m x):
  ∀ {f i:Nat}{l:List (Int×Int)},l.Nodup->(∀x∈l,vT n m x)->n*m<f+i->i<=l.length->(∀j x,j<i->l[j]? =some x->c x.1 x.2=0/\∀y∈kids x.1 x.2,y∈l)->qA c kids f i l=0->
   ∃L:List (Int×Int),(∀x∈l,x∈L)/\∀x∈L,vT n m x/\c x.1 x.2=0/\∀y∈kids x.1 x.2,y∈L:=by
 intro f
 induction f with
 |zero=>
  intro i l hn hl hf hi;have:=jz hn hl;omega
 |succ f ih=>
  intro i l hn hl hf hi hd hw;unfold qA at hw;cases e:l[i]? with
  |none=>
   have hlen:=U6.1 e;refine⟨l,fun _ h=>h,fun x hx=>⟨hl x hx,?_⟩⟩;obtain⟨j,hj⟩:=uT hx;exact hd j x (by have:=(ui.1 hj).1;omega) hj
  |some x=>
   obtain⟨a,b⟩:=x;rw[e]at hw;simp only at hw;by_cases h0:c a b=0
   . rw[uj h0]at hw
     obtain⟨h1,h2,r,hr⟩:=yi hn hl (hk a b (hl _ (un e)));have hil:=(ui.1 e).1;obtain⟨L,hL1,hL2⟩:=ih h1 h2 (by omega) (by rw[hr,uG];omega) (fun j x hj hx=>by
      have hx':l[j]? =some x:=by
       rw[hr,uL (by omega)]at hx;exact hx
      by_cases hji:j=i
      . subst hji
        rw[e]at hx';cases hx';exact⟨h0,fun y hy=>vJ.2 (.inr hy)⟩
      . have:=hd j x (by omega) hx'
        exact⟨this.1,fun y hy=>vJ.2 (.inl (this.2 y hy))⟩) hw
     exact⟨L,fun x hx=>hL1 x (vJ.2 (.inl hx)),hL2⟩
   . rw[ul h0]at hw
     exact absurd hw h0
section
variable {ns ms:List Nd} {R:Int×Int->Prop}
theorem Yi(hn:ns.all (zT ns.length)=true)(hm:ms.all (zT ms.length)=true){a b:Int}(hab:vT ns.length ms.length (a,b)):
  jf ns ms a b=0↔∃R,Bis ns ms R/\R (a,b):=by
 constructor
 . intro h
   obtain⟨L,h1,h2⟩:=zfi (c:=kZ ns ms) (jO hn hm) (f:=ns.length*ms.length+1) (i:=0) (l:=[(a,b)]) (by simp) (fun x hx=>by
    have:x=(a,b):=by simpa using hx
    rw[this];exact hab) (by omega) (by omega) (fun j x hj=>absurd hj (by omega)) h
   exact⟨fun x=>x∈L,h2,h1 _ (by simp)⟩
 . rintro⟨R,hR,hab⟩
   exact K2 (R:=R) (fun x hx=>(hR x hx).2) _ _ _ fun x hx=>by
    have:x=(a,b):=by simpa using hx
    rw[this];exact hab
theorem zge{p q:Rt}(hp:okP p=true)(hq:okP q=true)(h:vb p q=0):p=q:=by
 have h1:=zb3 hp;have h2:=zb3 hq;have hz:zP p*(q.2.2:Int)-zP q*(p.2.2:Int)=0:=by
  unfold vb sgI at h
  split at h
  . omega
  . split at h<;>omega
 have:=zfW (Kp hp) (Kp hq) (show zP p*(q.2.2:Int)=zP q*(p.2.2:Int) by omega);rw[h1,h2]at this;exact Ui this
theorem zew{a b:Nd}(ha:kO a)(hb:kO b)(h:zU a b=0):a.1=b.1/\a.2.1=b.2.1/\a.2.2.length=b.2.2.length:=by
 by_cases h1:a.1=b.1
 . by_cases h2:a.1=1
   . rw[ZE h1 h2,kT (jL ha h2) (jL hb (h1 ▸ h2))]at h
     have he:=zge (Kq (jL ha h2)) (Kq (jL hb (h1 ▸ h2))) h;have c1:=ha.2;have c2:=hb.2;rw[h2]at c1;rw[<-h1,h2]at c2;refine⟨h1,?_,by rw[xu c1,xu c2]⟩;have t1:=ha.1;have t2:=hb.1;unfold kL at t1 t2;rw[uj h2]at t1;rw[uj (h1 ▸ h2)]at t2;unfold vI at t1 t2;unfold j5 at he;cases e1:zw a.2.1 10 with
     |none=>rw[e1]at t1;exact absurd t1 (by simp)
     |some p=>
      cases e2:zw b.2.1 10 with
      |none=>rw[e2]at t2;exact absurd t2 (by simp)
      |some q=>
       rw[e1]at t1 he;rw[e2]at t2 he;simp only[ut]at t1 t2;have hpq:p=q:=by
        obtain⟨p1,p2,p3⟩:=p;obtain⟨q1,q2,q3⟩:=q;simp only[Zs,Q7,qw,wS]at he;rw[he.1,he.2.1,he.2.2]
       rw[<-t1,<-t2,hpq]
   . by_cases h3:a.2.1=b.2.1
     . rw[ZD h1 h2 h3]at h
       have:=ku.1 h;exact⟨h1,h3,by omega⟩
     . rw[Za h1 h2 h3]at h
       exact absurd ((qU _ _).2.2.1.1 h) h3
 . rw[xZ h1]at h
   exact absurd (ku.1 h) h1
theorem zeY{a b:Nd}(h1:a.1=b.1)(h2:a.2.1=b.2.1)(h3:a.2.2.length=b.2.2.length):zU a b=0:=by
 by_cases h:a.1=1
 . rw[ZE h1 h,h2];exact Yj _
 . rw[ZD h1 h h2,h3];exact zcD _
theorem YW(hn:ns.all (zT ns.length)=true)(hm:ms.all (zT ms.length)=true)(hR:Bis ns ms R){x:Int×Int}(hx:R x):
  (kp ns x.1).1=(kp ms x.2).1/\(kp ns x.1).2.1=(kp ms x.2).2.1/\(kp ns x.1).2.2.length=(kp ms x.2).2.2.length:=by
 obtain⟨h1,h2,_⟩:=hR x hx;exact zew (QY (uI.1 hn _ (kG h1.1))) (QY (uI.1 hm _ (kG h1.2))) h2
theorem zgz{xs ys:List Int}{j:Nat}{x y:Int}(h1:xs[j]? =some x)(h2:ys[j]? =some y):(x,y)∈xs.zip ys:=by
 have:(xs.zip ys)[j]? =some (x,y):=Wy.2 ⟨h1,h2⟩;exact un this
theorem Yq{f g:Int->Nat}:∀ {xs ys:List Int}{h:Nat},xs.length=ys.length->(∀p∈xs.zip ys,f p.1=g p.2)->xs.foldl (fun h k=>hK h (f k)) h=ys.foldl (fun h k=>hK h (g k)) h
 | [],[],_,_,_=>rfl
 | [],_::_,_,h,_=>by simp at h
 |_::_,[],_,h,_=>by simp at h
 |x::xs,y::ys,h,hl,hp=>by
  simp only[List.foldl_cons];rw[hp (x,y) (by simp)];exact Yq (by simpa using hl) fun p hpm=>hp p (by simp[hpm])
theorem zdU(hn:ns.all (zT ns.length)=true)(hm:ms.all (zT ms.length)=true)(hR:Bis ns ms R):∀(d:Nat){x:Int×Int},R x->qM ns d x.1=qM ms d x.2:=by
 have hb:∀ {x:Int×Int},R x->yJ (kp ns x.1)=yJ (kp ms x.2):=fun{x} hx=>by
  obtain⟨h1,h2,h3⟩:=YW hn hm hR hx;unfold yJ;rw[h1,h2,h3]
 intro d
 induction d with
 |zero=>exact fun hx=>hb hx
 |succ d ih=>
  intro x hx;show(kp ns x.1).2.2.foldl _ _=(kp ms x.2).2.2.foldl _ _;rw[hb hx];exact Yq (YW hn hm hR hx).2.2 fun p hp=>ih ((hR x hx).2.2 p hp)
def upN(n:Nat)(nd:Nd):Nd:=(nd.1,nd.2.1,nd.2.2.map fun k=>(n:Int)+k)
def jJ(ns ms:List Nd):List Nd:=ns++ms.map (upN ns.length)
theorem yX:(jJ ns ms).length=ns.length+ms.length:=by simp[jJ]
theorem QK{i:Nat}(h:i<ns.length):je (jJ ns ms) i=je ns i:=by
 unfold je jJ;rw[uq,uq,uL h]
theorem ZZ{j:Nat}(h:j<ms.length):je (jJ ns ms) (ns.length+j)=upN ns.length (je ms j):=by
 obtain⟨nd,hnd⟩:∃nd,ms[j]? =some nd:=⟨_,uf h⟩
 rw[yy hnd];apply yy;unfold jJ;rw[uO (by omega),Nat.add_sub_cancel_left,WX,hnd];rfl
theorem zeI{ns:List Nd}(x:Int):kp ns x=je ns x.toNat:=rfl
theorem zcx(hn:ns.all (zT ns.length)=true)(hm:ms.all (zT ms.length)=true):xj (jJ ns ms):=by
 intro i hi x hx;rw[yX]at hi⊢;by_cases h:i<ns.length
 . rw[QK h]at hx
   have hm':je ns i∈ns:=by rw[yy (uf h)];exact uF _
   have:=ZF (uI.1 hn _ hm') x hx;omega
 . have hj:i-ns.length<ms.length:=by omega
   rw[show i=ns.length+(i-ns.length) by omega,ZZ hj]at hx;have hm':je ms (i-ns.length)∈ms:=by rw[yy (uf hj)];exact uF _
   obtain⟨y,hy,rfl⟩:=UB.1 hx;have:=ZF (uI.1 hm _ hm') y hy;omega
theorem ZW(hn:ns.all (zT ns.length)=true)(hm:ms.all (zT ms.length)=true)(hR:Bis ns ms R):∀(k:Nat){x:Int×Int},R x->zD (Qf (jJ ns ms) k) x.1=zD (Qf (jJ ns ms) k) ((ns.length:Int)+x.2)
 |0,x,hx=>by
  have h1:=(hR x hx).1;have key:∀y:Int,0<=y->y<((ns.length+ms.length:Nat):Int)->zD (Qf (jJ ns ms) 0) y=0:=fun y h0 h1=>by
   unfold zD Qf;rw[yX,uq,Wc,uj (by omega)];rfl
  rw[key _ h1.1.1 (by have:=h1.1.2;omega),key _ (by have:=h1.2.1;omega) (by have:=h1.2.2;omega)]
 |k+1,x,hx=>by
  obtain⟨⟨⟨a0,a1⟩,b0,b1⟩,h2,h3⟩:=hR x hx;have ih:=ZW hn hm hR k hx;obtain⟨e1,e2,e3⟩:=YW hn hm hR hx;have ha:((x.1.toNat:Nat):Int)=x.1:=by omega
  have hb:((ns.length+x.2.toNat:Nat):Int)=(ns.length:Int)+x.2:=by omega
  have h:=xg (ns:=jJ ns ms) (g:=Qf (jJ ns ms) k) (i:=x.1.toNat) (j:=ns.length+x.2.toNat) (by rw[yX];omega) (by rw[yX];omega);rw[ha,hb]at h;refine h.2 (Zi.2 ⟨by rw[ha,hb];exact ih,?_⟩);rw[QK (by omega),ZZ (by omega),qC];rw[zeI,zeI]at e1 e2 e3;refine⟨e1,e2,?_⟩;apply List.ext_getElem?;intro j;show _=(((je ms x.2.toNat).2.2.map (fun k=>(ns.length:Int)+k)).map (zD (Qf (jJ ns ms) k)))[j]?;rw[WX,List.map_map,WX];cases ej:(je ns x.1.toNat).2.2[j]? with
  |none=>
   rw[UM (by rw[U6]at ej;omega)];rfl
  |some y=>
   have hj:=(ui.1 ej).1;obtain⟨z,hz⟩:∃z,(je ms x.2.toNat).2.2[j]? =some z:=⟨_,uf (by omega)⟩
   rw[hz];simp only[Option.map_some,Function.comp_apply,US];exact ZW hn hm hR k (x:=(y,z)) (h3 _ (zgz ej hz))
theorem zaJ(hn:ns.all (zT ns.length)=true)(hm:ms.all (zT ms.length)=true){g:List Int}(hg:zcr (jJ ns ms) g):
  Bis ns ms fun x=>vT ns.length ms.length x/\zD g x.1=zD g ((ns.length:Int)+x.2):=by
 rintro x⟨hx,he⟩;obtain⟨⟨a0,a1⟩,b0,b1⟩:=id hx;have ha:((x.1.toNat:Nat):Int)=x.1:=by omega
 have hb:((ns.length+x.2.toNat:Nat):Int)=(ns.length:Int)+x.2:=by omega
 have h:=hg x.1.toNat (ns.length+x.2.toNat) (by rw[yX];omega) (by rw[yX];omega) (by rw[ha,hb];exact he);rw[QK (by omega),ZZ (by omega),qC]at h;obtain⟨e1,e2,e3⟩:=h;have e3':(je ns x.1.toNat).2.2.map (zD g)=(je ms x.2.toNat).2.2.map fun k=>zD g ((ns.length:Int)+k):=by
  rw[e3];show((je ms x.2.toNat).2.2.map fun k=>(ns.length:Int)+k).map (zD g)=_;rw[List.map_map];rfl
 have el:(je ns x.1.toNat).2.2.length=(je ms x.2.toNat).2.2.length:=by
  have:=uB List.length e3';simpa using this
 refine⟨hx,zeY e1 e2 el,fun y hy=>⟨jO hn hm x.1 x.2 hx y hy,?_⟩⟩;obtain⟨j,hj⟩:=uT hy;obtain⟨k1,k2⟩:=Wy.1 hj;have:=uB (fun l:List Int=>l[j]?) e3';simp only[WX]at this;rw[show(je ns x.1.toNat).2.2[j]? =some y.1 from k1,show(je ms x.2.toNat).2.2[j]? =some y.2 from k2]at this;simpa using this
theorem zcy(hn:ns.all (zT ns.length)=true)(hm:ms.all (zT ms.length)=true){a b:Int}(hab:vT ns.length ms.length (a,b)):
  zD (V4 (jJ ns ms)) a=zD (V4 (jJ ns ms)) ((ns.length:Int)+b)↔jf ns ms a b=0:=by
 rw[Yi hn hm hab];constructor
 . exact fun h=>⟨_,zaJ hn hm (zab _),hab,h⟩
 . rintro⟨R,hR,h⟩
   exact ZW hn hm hR _ h
end
end Go.Proofs.YtpbnmhnbkfnaeaaGreatDoor
namespace Go.Proofs.YtpbnmhnbkfnaeaaGreatDoor
open Go.RowKit Go.Shelf Nt
attribute [local go_sem] wO
def IntsIn(n₀:Nat)(W:World)(v:Value)(zs:List Int):Prop:=
 ∃a cap,v=.slice a zs.length cap/\zs.length<=cap/\cap<=maxLen/\(0<zs.length->∃b off,a=some ⟨b,off,none⟩/\b<n₀/\∀j x,zs[j]? =some x->W.cell? ⟨b,off+j,none⟩=some (.int .i64 x))
theorem IntsIn.below{n₀:Nat}{A B:World}{v:Value}{zs:List Int}(h:IntsIn n₀ A v zs)(k:Below n₀ A B):IntsIn n₀ B v zs:=by
 obtain⟨a,cap,rfl,h1,h2,h3⟩:=h;refine⟨a,cap,rfl,h1,h2,fun h0=>?_⟩;obtain⟨b,off,rfl,hb,hc⟩:=h3 h0;exact⟨b,off,rfl,hb,fun j x hx=>(k.cell (p:=⟨b,off+j,none⟩) hb).trans (hc j x hx)⟩
theorem IntsAt.in{W:World}{v:Value}{zs:List Int}(h:IntsAt W v zs):IntsIn W.heap.size W v zs:=h
theorem zau(F:Fence)(n:Nat)(hF:F.fn 117)(hro:F.round=none)(hn:1<=n)(l Bs n₀:Nat)(kv:Value)(zs:List Int)(hreach:zs.length<=140737488355328)(J Jx:List Int->World->Prop)
  (hY:∀pre x W,J pre W->pre.length<zs.length->YieldAt F (n-1) Tryz.prog l #[.int .i64 x] W fun e W'=>
   (e=.returned (.bool true)/\J (pre++[x]) W'/\Below n₀ W W')\/(e=.returned (.bool false)/\Jx (pre++[x]) W'))
  (W:World)(hBs:W.cell? ⟨Bs,2,none⟩=some kv)(hI:IntsIn n₀ W kv zs)(h0:J [] W):
  CallsIn F n Tryz.prog 117 #[.func (.yield l) #[] #[],.pointer (some ⟨Bs,0,none⟩)] W fun e W'=>(∃v,e=.returned v)/\(J zs W'\/(∃pre,pre<+:zs/\Jx pre W')):=by
 have HI:=zb hI;obtain⟨a,cap,rfl,h1,h2,_⟩:=hI;unfold maxLen at h2;refine callsIn_of_wp Tryz.func117 rfl hF ?_ hro;simp only[Tryz.ntmps117,UZ,Uv,UG,Nat.reduceAdd,Nat.reduceSub,wu,wt,wV,wF,UE,UD]
 gi_wp2
 gi_loopw [8] (fun i wr=>∃k:Nat,k<=zs.length/\i=.int .i64 k/\J (zs.take k) wr/\Below n₀ W wr)
  (fun i _=>zs.length-(intOf i).toNat)
 case atStart=>exact⟨0,uD _,rfl,by simpa using h0,ue _ _⟩
 case round=>
  obtain⟨k,hk,rfl,hJs,hnx⟩:=hrel;by_cases hlt:k<zs.length
  . obtain⟨x,hx⟩:∃x,zs[k]? =some x:=⟨_,uf hlt⟩
    obtain⟨a',cap',e1,_,_,h3⟩:=(za HI).below hnx;injection e1 with e2 e3 e4;obtain⟨b,off,e5,hb,hcs⟩:=h3 (by omega);rw[<-e2]at e5;subst e5;have hcx:=hcs k x hx;obtain⟨fn,tmps,assign,body,hy,hR⟩:=hY _ x wr hJs (by simp;omega);have HX:=zb (show zs.take (k+1)=zs.take k++[x] by rw[uY,hx];rfl);clear e2 e4 h3 hcs hx
    gi_wp2
    refine hR.mono ?_;rintro e W3(⟨rfl,hJ3,hk3⟩|⟨rfl,hJx3⟩)
    . gi_wp2
      go_roundw
      case rel=>exact⟨k+1,by omega,by go_num,by rw[za HX];exact hJ3,hnx.trans hk3⟩
      case measure=>simp[intOf];omega
    . gi_wp2
      refine um (results_none rfl _ _ _) rfl ?_;exact⟨⟨_,rfl⟩,.inr ⟨_,List.take_prefix (k+1) zs,by rw[za HX];exact hJx3⟩⟩
  . obtain rfl:k=zs.length:=by omega
    rw[uz (ud _)]at hJs
    gi_wp2
    go_end0
    exact⟨⟨_,rfl⟩,.inl hJs⟩
theorem YV(F:Fence)(n:Nat)(hF:F.fn 117)(hro:F.round=none)(hn:1<=n)(Bs n₀:Nat)(kv:Value)(zs:List Int)(hreach:zs.length<=140737488355328)(w:World)(hBs:Bs<w.heap.size)(hn₀:n₀<=w.heap.size)
  (hc:w.cell? ⟨Bs,2,none⟩=some kv)(hI:IntsIn n₀ w kv zs):
  SeqStopsK F n Tryz.prog 117 #[.pointer (some ⟨Bs,0,none⟩)] (fun x:Int=>#[Value.int .i64 x]) (Below n₀) (fun ys=>ys=zs) (fun pre=>pre<+:zs) zs.length w:=fun l J Jx W hW _ _ hY h0=>by
 have hc':=(hW.cell (p:=⟨Bs,2,none⟩) hBs).trans hc;refine(zau F n hF hro hn l Bs n₀ kv zs hreach J Jx hY W hc' (hI.below (hW.mono hn₀)) h0).mono ?_;rintro e W'⟨he,hj|hj⟩
 . exact⟨he,.inl ⟨_,rfl,hj⟩⟩
 . exact⟨he,.inr hj⟩
theorem xS(s:Int)(t:ByteArray)(kv:Value)(w:World):
  Calls Tryz.prog 82 #[.agg #[.int .i64 s,.string t,kv]] w fun e w'=>e=.returned (.func (.func 117) #[] #[.pointer (some ⟨w.heap.size,0,none⟩)])/\w'=w.alloc (.cells #[.int .i64 s,.string t,kv] 56):=by
 go_enter Tryz.func82,Tryz.ntmps82;go_wp2;go_ret;exact⟨rfl,rfl⟩
end Go.Proofs.YtpbnmhnbkfnaeaaGreatDoor
namespace Go.Proofs.YtpbnmhnbkfnaeaaGreatDoor
open Go.RowKit Go.Shelf Nt
def Vo(D:Nat):Deferred:={target:=.collected D,args:=#[]}
structure Still(B:Nat)(w w':World):Prop where
 below:Below B w w'
 cells:∀(k:Nat)(o:Obj),w.heap[k]? =some o->o.isCells=true->w'.heap[k]? =some o
theorem Still.refl(B:Nat)(w:World):Still B w w:=⟨ue _ _,fun _ _ h _=>h⟩
theorem Still.trans{B:Nat}{a b c:World}(h:Still B a b)(k:Still B b c):Still B a c:=⟨h.below.trans k.below,fun i o hi ho=>k.cells i o (h.cells i o hi ho) ho⟩
theorem Still.put{B:Nat}{w:World}{D:Nat}{o o':Obj}(hB:B<=D)(h:w.heap[D]? =some o)(ho:o.isCells=false):Still B w (w.putObj D o'):=
 ⟨⟨rfl,rfl,rfl,by simp,fun k hk=>World.putObj_heap_other (by omega)⟩,fun k p hk hp=>by
  have hne:k≠D:=fun e=>by subst e;rw[h]at hk;cases hk;rw[ho]at hp;cases hp
  rw[World.putObj_heap_other hne];exact hk⟩
structure Marks(B:Nat)(w:World)(Ds:List Nat):Prop where
 nodup:Ds.Nodup
 at':∀D∈Ds,B<=D/\w.heap[D]? =some (.deferred (some []))
theorem Marks.nil(B:Nat)(w:World):Marks B w []:=⟨List.nodup_nil,fun D h=>by simp at h⟩
theorem Marks.cons{B:Nat}{w:World}{Ds:List Nat}{D:Nat}(h:Marks B w Ds)(hB:B<=D)(hD:w.heap[D]? =some (.deferred (some [])))(hn:D∉Ds):Marks B w (D::Ds):=
 ⟨WT.2 ⟨hn,h.nodup⟩,fun d hd=>by rcases uX.1 hd with rfl|hd;exact⟨hB,hD⟩;exact h.at' d hd⟩
theorem Marks.lt{B:Nat}{w:World}{Ds:List Nat}(h:Marks B w Ds){D:Nat}(hD:D∈Ds):D<w.heap.size:=(uu.1 (h.at' D hD).2).1
theorem Marks.fresh{B:Nat}{w:World}{Ds:List Nat}(h:Marks B w Ds){D:Nat}(hD:w.heap.size<=D):D∉Ds:=fun hm=>by have:=h.lt hm;omega
theorem Marks.kept{B:Nat}{S:Nat->Prop}{w w':World}{Ds:List Nat}(h:Marks B w Ds)(k:Kept S w w')(hS:∀D∈Ds,¬S D):Marks B w' Ds:=
 ⟨h.nodup,fun D hD=>⟨(h.at' D hD).1,(k.block D (h.lt hD) (hS D hD)).trans (h.at' D hD).2⟩⟩
theorem Marks.below{B:Nat}{w w':World}{Ds:List Nat}(h:Marks B w Ds)(k:Below w.heap.size w w'):Marks B w' Ds:=
 ⟨h.nodup,fun D hD=>⟨(h.at' D hD).1,(k.block D (h.lt hD)).trans (h.at' D hD).2⟩⟩
theorem qL{F:Fence}{n:Nat}{P:Program}{fn:Func}{tmps:Array Value}{R:Ending->World->Prop}(B:Nat):
  ∀(Ds:List Nat)(w:World),Marks B w Ds->(∀w',Still B w w'->LeavesInM F n P fn tmps R [] .returning w')->LeavesInM F n P fn tmps R (Ds.map Vo) .returning w
 | [],w,_,h=>h w (Still.refl B w)
 |D::Ds,w,hm,h=>by
  have h0:=hm.at' D (by simp);have hnd:=WT.1 hm.nodup;refine⟨by simp,.inl ⟨D,_,rfl,run_takeDeferred h0.2,?_⟩⟩;have hs:Still B w (w.putObj D (.deferred none)):=Still.put h0.1 h0.2 rfl;refine qL B Ds _ ⟨hnd.2,fun d hd=>⟨(hm.at' d (by simp[hd])).1,?_⟩⟩ (fun w' hw=>h w' (hs.trans hw));rw[World.putObj_heap_other (fun e=>hnd.1 (by rw[<-e];exact hd))];exact(hm.at' d (by simp[hd])).2
theorem vK{β:Type}{B:Nat}{S:Nat->Prop}{w₀:World}(hB:w₀.heap.size<=B):OwnFrom B (fun(_:β) W=>Kept S w₀ W):=
 fun _ X Y row hs hg hr=>⟨hg.os.trans hs.os,hg.tape.trans hs.tape,hg.output.trans hs.output,uC hs.size hg.size,fun b hb hn=>by
  refine(hg.block b (uJ hb hs.size) (fun e=>?_)).trans (hs.block b hb hn);have:=(hr b e.symm).1;omega⟩
theorem zE{W W':World}(h:Below W.heap.size W W'):KeepsOthers W W':=⟨h.size,fun k _ hk _=>(h.block k (uu.1 hk).1).trans hk⟩
theorem kK{B b:Nat}{w w':World}{t:TypeId}{v:Value}(h:Still B w w')(hb:Boxed w b t v):Boxed w' b t v:=h.cells b _ hb rfl
theorem xp{S:Nat->Prop}{w w':World}{b:Nat}{t:TypeId}{v:Value}(h:Boxed w b t v)(k:Kept S w w')(hS:¬S b):Boxed w' b t v:=(k.block b h.lt hS).trans h
theorem zL{w w':World}{b:Nat}{t:TypeId}{v:Value}(h:Boxed w b t v)(k:Below w.heap.size w w'):Boxed w' b t v:=(k.block b h.lt).trans h
end Go.Proofs.YtpbnmhnbkfnaeaaGreatDoor
namespace Go.Proofs.YtpbnmhnbkfnaeaaGreatDoor
open Go.RowKit Nt
theorem Kt{w:World}{base g i n:Nat}{e:TypeId}{size:Nat}{kv:Value}{xs:List Value}{u:Value}(h:w.ownsRow base e size kv n xs)(hg:kv.ownBlock≠some g):
  (w.setCell ⟨g,i,none⟩ u).ownsRow base e size kv n xs:=by
 refine h.kept (row:=some g) ⟨rfl,rfl,rfl,by simp,fun k _ hk=>?_⟩ (.inr hg);have hk':k≠g:=fun e=>hk (by rw[e])
 rw[WM _ ⟨g,i,none⟩ k _ hk']
end Go.Proofs.YtpbnmhnbkfnaeaaGreatDoor
namespace Go.Proofs.YtpbnmhnbkfnaeaaGreatDoor
open Go.RowKit Go.Shelf Nt
theorem Zv{w:World}{b:Nat}{T e:TypeId}{x v:Value}{base size n:Nat}{xs:List Value}(h:Boxed w b T x)(ho:w.ownsRow base e size v n xs)(hT:T≠e):v.ownBlock≠some b:=fun e'=>h.not_row hT ho e'.symm
def zfq(w:World)(v v':Value):Prop:=v'.ownBlock=v.ownBlock\/∃k,v'.ownBlock=some k/\w.heap.size<=k
end Go.Proofs.YtpbnmhnbkfnaeaaGreatDoor
namespace Go.Proofs.YtpbnmhnbkfnaeaaGreatDoor
open Go.RowKit Go.Shelf Nt
attribute [local go_sem] wO
def IntsS(S:Nat->Prop)(W:World)(v:Value)(zs:List Int):Prop:=
 ∃a cap,v=.slice a zs.length cap/\zs.length<=cap/\cap<=maxLen/\(0<zs.length->∃b off,a=some ⟨b,off,none⟩/\¬S b/\b<W.heap.size/\∀j x,zs[j]? =some x->W.cell? ⟨b,off+j,none⟩=some (.int .i64 x))
theorem IntsS.kept{S:Nat->Prop}{A B:World}{v:Value}{zs:List Int}(h:IntsS S A v zs)(k:Kept S A B):IntsS S B v zs:=by
 obtain⟨a,cap,rfl,h1,h2,h3⟩:=h;refine⟨a,cap,rfl,h1,h2,fun h0=>?_⟩;obtain⟨b,off,rfl,hs,hb,hc⟩:=h3 h0;refine⟨b,off,rfl,hs,uJ hb k.size,fun j x hx=>?_⟩;rw[World.cell?_of_block (k.block b hb hs)];exact hc j x hx
theorem IntsAt.outS{S:Nat->Prop}{W:World}{v:Value}{zs:List Int}(h:IntsAt W v zs)(hs:∀b,b<W.heap.size->¬S b):IntsS S W v zs:=by
 obtain⟨a,cap,rfl,h1,h2,h3⟩:=h;refine⟨a,cap,rfl,h1,h2,fun h0=>?_⟩;obtain⟨b,off,rfl,hb,hc⟩:=h3 h0;exact⟨b,off,rfl,hs b hb,hb,hc⟩
theorem Kept.put{S:Nat->Prop}{W:World}{l:Nat}{o':Obj}(hl:S l):Kept S W (W.putObj l o'):=
 ⟨rfl,rfl,rfl,by simp,fun b _ hb=>World.putObj_heap_other (fun e=>hb (by rw[e];exact hl))⟩
theorem K1(F:Fence)(n:Nat)(hF:F.fn 117)(hro:F.round=none)(hn:1<=n)(l Bs:Nat)(S:Nat->Prop)(kv:Value)(zs:List Int)(hreach:zs.length<=140737488355328)(J Jx:List Int->World->Prop)
  (hY:∀pre x W,J pre W->pre.length<zs.length->(pre++[x])<+:zs->YieldAt F (n-1) Tryz.prog l #[.int .i64 x] W fun e W'=>
   (e=.returned (.bool true)/\J (pre++[x]) W'/\Kept S W W')\/(e=.returned (.bool false)/\Jx (pre++[x]) W'))
  (W:World)(hBs:W.cell? ⟨Bs,2,none⟩=some kv)(hI:IntsS S W kv zs)(h0:J [] W):
  CallsIn F n Tryz.prog 117 #[.func (.yield l) #[] #[],.pointer (some ⟨Bs,0,none⟩)] W fun e W'=>(∃v,e=.returned v)/\(J zs W'\/(∃pre,pre<+:zs/\Jx pre W')):=by
 have HI:=zb hI;obtain⟨a,cap,rfl,h1,h2,_⟩:=hI;unfold maxLen at h2;refine callsIn_of_wp Tryz.func117 rfl hF ?_ hro;simp only[Tryz.ntmps117,UZ,Uv,UG,Nat.reduceAdd,Nat.reduceSub,wu,wt,wV,wF,UE,UD]
 gi_wp2
 gi_loopw [8] (fun i wr=>∃k:Nat,k<=zs.length/\i=.int .i64 k/\J (zs.take k) wr/\Kept S W wr)
  (fun i _=>zs.length-(intOf i).toNat)
 case atStart=>exact⟨0,uD _,rfl,by simpa using h0,Kept.refl _ _⟩
 case round=>
  obtain⟨k,hk,rfl,hJs,hnx⟩:=hrel;by_cases hlt:k<zs.length
  . obtain⟨x,hx⟩:∃x,zs[k]? =some x:=⟨_,uf hlt⟩
    obtain⟨a',cap',e1,_,_,h3⟩:=(za HI).kept hnx;injection e1 with e2 e3 e4;obtain⟨b,off,e5,hsb,hb,hcs⟩:=h3 (by omega);rw[<-e2]at e5;subst e5;have hcx:=hcs k x hx;have HX:=zb (show zs.take (k+1)=zs.take k++[x] by rw[uY,hx];rfl);obtain⟨fn,tmps,assign,body,hy,hR⟩:=hY _ x wr hJs (by simp;omega) (by rw[<-za HX];exact List.take_prefix (k+1) zs);clear e2 e4 h3 hcs hx hBs
    gi_wp2
    refine hR.mono ?_;rintro e W3(⟨rfl,hJ3,hk3⟩|⟨rfl,hJx3⟩)
    . gi_wp2
      go_roundw
      case rel=>exact⟨k+1,by omega,by go_num,by rw[za HX];exact hJ3,hnx.trans hk3⟩
      case measure=>simp[intOf];omega
    . gi_wp2
      refine um (results_none rfl _ _ _) rfl ?_;exact⟨⟨_,rfl⟩,.inr ⟨_,List.take_prefix (k+1) zs,by rw[za HX];exact hJx3⟩⟩
  . obtain rfl:k=zs.length:=by omega
    rw[uz (ud _)]at hJs
    gi_wp2
    go_end0
    exact⟨⟨_,rfl⟩,.inl hJs⟩
theorem kt(F:Fence)(n:Nat)(hF:F.fn 117)(hro:F.round=none)(hn:1<=n)(Bs:Nat)(S:Nat->Prop)(kv:Value)(zs:List Int)(P:Int->Prop)(hP:∀z∈zs,P z)(hreach:zs.length<=140737488355328)(w:World)(hBs:Bs<w.heap.size)
  (hc:w.cell? ⟨Bs,2,none⟩=some kv)(hI:IntsS S w kv zs):
  SeqStopsK F n Tryz.prog 117 #[.pointer (some ⟨Bs,0,none⟩)] (fun x:{z:Int//P z}=>#[Value.int .i64 x.1]) (Kept S) (fun ys=>ys.map Subtype.val=zs) (fun pre=>pre.map Subtype.val<+:zs) zs.length w:=fun l J Jx W hW _ _ hY h0=>by
 have hc':=(hW.cell (p:=⟨Bs,2,none⟩) hBs).trans hc;refine(K1 F n hF hro hn l Bs S kv zs hreach (fun pre W=>∃p:List {z:Int//P z},p.map Subtype.val=pre/\J p W) (fun pre W=>∃p:List {z:Int//P z},p.map Subtype.val=pre/\Jx p W) (fun pre x W hJ hl hpx=>?_) W hc' (hI.kept (Kept.of_below hW)) ⟨[],rfl,h0⟩).mono ?_
 . obtain⟨p,rfl,hJ⟩:=hJ
   have hx:P x:=hP x (List.IsPrefix.mem (by simp) hpx);obtain⟨fn,tmps,assign,body,hy,hR⟩:=hY p ⟨x,hx⟩ W hJ (by simpa using hl);refine⟨fn,tmps,assign,body,hy,hR.mono ?_⟩;rintro e W3(⟨rfl,h1,h2⟩|⟨rfl,h1⟩)
   . exact .inl ⟨rfl,⟨p++[⟨x,hx⟩],by simp,h1⟩,h2⟩
   . exact .inr ⟨rfl,⟨p++[⟨x,hx⟩],by simp,h1⟩⟩
 rintro e W'⟨he,⟨p,hp,hj⟩|⟨pre,hpr,p,hp,hj⟩⟩
 . exact⟨he,.inl ⟨p,hp,hj⟩⟩
 . exact⟨he,.inr ⟨p,by show p.map Subtype.val<+:zs;rw[hp];exact hpr,hj⟩⟩
end Go.Proofs.YtpbnmhnbkfnaeaaGreatDoor
namespace Go.Proofs.YtpbnmhnbkfnaeaaGreatDoor
open Go.RowKit Go.Shelf Nt
attribute [local go_sem] wO
theorem J8(a:Option Addr)(n c:Nat)(rv:Value)(k:Int)(w:World):
  Calls Tryz.prog 109 #[.agg #[.slice a n c,rv],.int .i64 k] w fun e w'=>e=.returned (.bool (kW k n))/\Below w.heap.size w w':=by
 have HB:=zb (zf (ue w.heap.size w) (.cells #[.slice a n c,rv] 26));by_cases h0:0<=k
 . by_cases h1:k<n
   . have HR:Hid (kW k n=true):=by show _=_;unfold kW;simp[h0,h1]
     go_enter Tryz.func109,Tryz.ntmps109;go_wp2;go_ret;exact⟨by rw[za HR];rfl,za HB⟩
   . have HR:Hid (kW k n=false):=by show _=_;unfold kW;simp[h1]
     go_enter Tryz.func109,Tryz.ntmps109;go_wp2;go_ret;exact⟨by rw[za HR];rfl,za HB⟩
 . have HR:Hid (kW k n=false):=by show _=_;unfold kW;simp[h0]
   go_enter Tryz.func109,Tryz.ntmps109;go_wp2;go_ret;exact⟨by rw[za HR];rfl,za HB⟩
theorem zcV(s:Int)(t:ByteArray)(a:Option Addr)(n c:Nat)(w:World)(hn:n<=1048576):
  Calls Tryz.prog 110 #[.agg #[.int .i64 s,.string t,.slice a n c]] w fun e w'=>e=.returned (.bool (qJ s n))/\Below w.heap.size w w':=by
 have HB:=zb (zf (ue w.heap.size w) (.cells #[.int .i64 s,.string t,.slice a n c] 56));by_cases h7:s=7
 . subst h7
   have HR:Hid (qJ 7 n=((n:Int)==2)):=by
    show _=_;unfold qJ;rw[uj rfl];by_cases h:n=2
    . subst h;rfl
    . rw[ug.2 h,ug.2 (by omega)]
   go_enter Tryz.func110,Tryz.ntmps110;go_wp2;go_ret;exact⟨by rw[za HR];rfl,za HB⟩
 . by_cases h8:s=8
   . subst h8
     have HR:Hid (qJ 8 n=decide ((n:Int)<=40)):=by
      show _=_;unfold qJ;rw[ul h7,uj rfl];by_cases h:n<=40
      . rw[uy h,uy (by omega)]
      . rw[uw h,uw (by omega)]
     go_enter Tryz.func110,Tryz.ntmps110;go_wp2;go_ret;exact⟨by rw[za HR];rfl,za HB⟩
   . have HR:Hid (qJ s n=((n:Int)==0)):=by
      show _=_;unfold qJ;rw[ul h7,ul h8];by_cases h:n=0
      . subst h;rfl
      . rw[ug.2 h,ug.2 (by omega)]
     go_enter Tryz.func110,Tryz.ntmps110;go_wp2;go_ret;exact⟨by rw[za HR];rfl,za HB⟩
end Go.Proofs.YtpbnmhnbkfnaeaaGreatDoor
namespace Go.Proofs.YtpbnmhnbkfnaeaaGreatDoor
open Go.RowKit Go.Shelf Nt
attribute [local go_sem] wO
def y5(n:Nat)(nd:Nd):Bool:=nd.2.2.all (kW · n)
def ZQ(d:Dt):Bool:=d.2.all (kW · d.1.length)&&d.1.all (y5 d.1.length)
theorem kX{W:World}{v:Value}{zs:List Int}(h:IntsAt W v zs):∃a cap,v=.slice a zs.length cap/\zs.length<=cap/\cap<=maxLen/\∀j x,zs[j]? =some x->∃b off,a=some ⟨b,off,none⟩/\b<W.heap.size/\W.cell? ⟨b,off+j,none⟩=some (.int .i64 x):=by
 obtain⟨a,cap,rfl,h1,h2,h3⟩:=h;refine⟨a,cap,rfl,h1,h2,fun j x hx=>?_⟩;have hj:=(ui.1 hx).1;obtain⟨b,off,rfl,hb,hc⟩:=h3 (by omega);exact⟨b,off,rfl,hb,hc j x hx⟩
theorem VG(nv rv:Value)(d:Dt)(w:World)(h:DataAt w (.agg #[nv,rv]) d)(hs:d.1.length<=1048576/\d.2.length<=1048576/\qr d.1):
  Calls Tryz.prog 70 #[.agg #[nv,rv]] w fun e w'=>e=.returned (.bool (ZQ d))/\Below w.heap.size w w':=by
 obtain⟨nv',rv',e,hn0,hr0⟩:=h;simp only[WO,Ws,ww,and_true]at e;obtain⟨rfl,rfl⟩:=e;have HN:=zb hn0;have HR:=zb hr0;obtain⟨na,nc,rfl,hn1,hn2,_⟩:=hn0;obtain⟨ra,rc,rfl,hr1,hr2,_⟩:=hr0;obtain⟨s1,s2,s3⟩:=hs;have HS3:=zb s3;clear s3;unfold maxLen at hn2 hr2;have HB:=zb (zf (zf (ue w.heap.size w) (.cells #[.slice na d.1.length nc,.slice ra d.2.length rc] 26)) (.cells #[.bool false] 4));have HD:=zb ((AtC2.new w (.slice na d.1.length nc) (.slice ra d.2.length rc) 26).alloc (.cells #[.bool false] 4));have HF:=zb (Boxed.new (w.alloc (.cells #[.slice na d.1.length nc,.slice ra d.2.length rc] 26)) 4 (.bool false));rw[uk]at HF;refine(UH (n:=3)).1 ?_;refine callsIn_of_wp_marks Tryz.func70 rfl trivial ?_ rfl;simp only[Tryz.ntmps70,UZ,Uv,UG,Nat.reduceAdd,Nat.reduceSub,wu,wt,wV,wF,UE,UD]
 gi_wp2_with fail
 gi_loopw [11] (fun i wr=>∃k:Nat,k<=d.2.length/\i=.int .i64 k/\(d.2.take k).all (kW · d.1.length)=true/\Below w.heap.size w wr/\Hid (AtC2 wr w.heap.size (.slice na d.1.length nc) (.slice ra d.2.length rc) 26)/\Hid (Boxed wr (w.heap.size+1) 4 (.bool false)))
  (fun i _=>d.2.length-(intOf i).toNat)
 case atStart=>exact⟨0,by omega,rfl,by simp,za HB,HD,HF⟩
 case round=>
  obtain⟨k,hk,rfl,hall,hbl,HDk,HFk⟩:=hrel;have d0:=(za HDk).n0;have d1:=(za HDk).n1;have f0:=(za HFk).cell;have f1:=(za HFk).frozen;by_cases hlt:k<d.2.length
  . obtain⟨x,hx⟩:∃x,d.2[k]? =some x:=⟨_,uf hlt⟩
    obtain⟨a,cap,e1,_,_,h3⟩:=kX ((za HR).below hbl);injection e1 with e2 e3 e4;obtain⟨b,off,rfl,hb,hcx⟩:=h3 k x hx;subst e2;clear e4 h3;have ht:=yh (p:=(kW · d.1.length)) hx;rw[hall,wI]at ht;have HT:=zb ht;clear ht
    gi_wp2_with fail
    refine⟨trivial,(UH.2 (J8 _ _ _ _ _ wr)).mono ?_⟩;rintro e w1⟨rfl,hb1⟩;have HD1:=zb ((za HDk).below hb1);have HF1:=zb (zL (za HFk) hb1);have hbl1:=zi hbl hb1;clear d0 d1 f0 f1;have d0:=(za HD1).n0;have d1:=(za HD1).n1;have f0:=(za HF1).cell;have f1:=(za HF1).frozen;cases hr:kW x d.1.length with
    |true=>
     gi_wp2_with fail
     go_roundw
     case rel=>exact⟨k+1,by omega,by go_num,by rw[za HT];exact hr,hbl1,HD1,HF1⟩
     case measure=>simp[intOf];omega
    |false=>
     have HP:Hid (ZQ d=false):=zb (by unfold ZQ;rw[QI hx hr,UR]);have HF2:=zb ((za HF1).set (.bool false));have f2:=(za HF2).cell
     gi_wp2_with fail
     refine⟨.bool false,by simp[results,Tryz.f70,go_sem,f2],by rw[za HP],hbl1.setCell (p:=⟨w.heap.size+1,0,none⟩) (Uc _) _⟩
  . obtain rfl:k=d.2.length:=by omega
    rw[uz (ud _)]at hall;have HALL:=zb hall;clear hall hk hlt HR HB HD HF
    gi_wp2_with fail
    refine wpIn_loop (fun a' w'=>∃(Ds:List Nat)(k:Nat)(u6 u24 u25 u26 u27 u28 u34:Value),a'=⟨#[.agg #[.slice na d.1.length nc,.slice ra d.2.length rc],.pointer (some ⟨w.heap.size,0,none⟩),.pointer (some ⟨w.heap.size+1,0,none⟩),undef,u4,undef,u6,undef,.pointer (some ⟨w.heap.size,1,none⟩),.slice ra d.2.length rc,.int .i64 ↑d.2.length,.int .i64 ↑d.2.length,.bool false,u13,u14,u15,u16,u17,u18,u19,.pointer (some ⟨w.heap.size,0,none⟩),.slice na d.1.length nc,.int .i64 ↑d.1.length,.int .i64 k,u24,u25,u26,u27,u28,undef,undef,undef,undef,undef,u34],Ds.map Vo⟩/\
      k<=d.1.length/\(d.1.take k).all (y5 d.1.length)=true/\Below w.heap.size w w'/\Hid (AtC2 w' w.heap.size (.slice na d.1.length nc) (.slice ra d.2.length rc) 26)/\Hid (Boxed w' (w.heap.size+1) 4 (.bool false))/\Hid (Marks w.heap.size w' Ds))
     (fun a' _=>d.1.length-(intOf (a'.tmps.getD 23 undef)).toNat) ?_ ?_
    . exact⟨[],0,_,_,_,_,_,_,_,rfl,by omega,by simp,hbl,HDk,HFk,zb (Marks.nil _ _)⟩
    . clear HDk HFk d0 d1 f0 f1 hbl
      rintro _ wr⟨Ds,k,u6,u24,u25,u26,u27,u28,u34,rfl,hk,hall,hbl,HDk,HFk,HMk⟩;have d0:=(za HDk).n0;have d1:=(za HDk).n1;by_cases hlt:k<d.1.length
      . obtain⟨nd,hnd⟩:∃nd,d.1[k]? =some nd:=⟨_,uf hlt⟩
        obtain⟨b,off,cap,e1,_,_,hb⟩:=((za HN).below hbl).form (by omega);injection e1 with e2 e3 e4;subst e2;have hnode:=((za HN).below hbl).node hnd;obtain⟨kv,c0,c1,c2,htl,hki⟩:=hnode;have HKI:=zb hki;obtain⟨ka,kc,rfl,hk1,hk2,_⟩:=hki;unfold maxLen at hk2;have hks:=(za HS3) nd (un hnd);clear e4
        gi_wp2_with fail
        refine⟨trivial,(UH.2 (xS _ _ _ _)).mono ?_⟩;rintro e w1⟨rfl,rfl⟩;obtain⟨X,hX⟩:∃X,Obj.cells #[.int .i64 nd.1,.string (B nd.2.1),.slice ka nd.2.2.length kc] 56=X:=⟨_,rfl⟩
        have hbox:((wr.alloc X).alloc X).cell? ⟨wr.heap.size+1,2,none⟩=some (.slice ka nd.2.2.length kc):=by
         rw[<-hX];simp
        have HX:=zb hX;clear hX;have hB0:=zf (zf (ue wr.heap.size wr) X) X;have hsz:((wr.alloc X).alloc X).heap.size=wr.heap.size+2:=by simp
        have hD0:=(za HDk).below hB0;have hF0:=zL (za HFk) hB0;have hM0:=(za HMk).below hB0
        gi_wp2_with fail
        rw[za HX];obtain⟨W0,hW0⟩:∃W0,(wr.alloc X).alloc X=W0:=⟨_,rfl⟩
        rw[hW0]at hbox hB0 hsz hD0 hF0 hM0⊢;have hwr:=hbl.size;clear HX hW0
        refine wpIn_rangeFunc_ownG rfl (by decide) (gf:=117) (lb:=#[.pointer (some ⟨wr.heap.size+1,0,none⟩)]) rfl trivial (enters_of Tryz.func117 (by kernel_rfl) rfl)
         (YV Fence.wide 2 trivial rfl (by decide) (wr.heap.size+1) wr.heap.size (.slice ka nd.2.2.length kc) nd.2.2 (by omega) W0 (by omega) (by omega) hbox ((za HKI).in.below hB0))
         belowK_t (belowK_b (by omega)) (ue _ _) (fun _=>rfl)
         (fun pre W=>pre.all (kW · d.1.length)=true/\Below W0.heap.size W0 W)
         (fun c pre W=>(c=.ret/\∃last∈pre,kW last d.1.length=false)/\Boxed W (w.heap.size+1) 4 (.bool false)/\Kept (fun b=>b=w.heap.size+1) W0 W)
         (OwnFrom.and (ownFrom_pure _ _) (ownFrom_below (ud _) (ud _)))
         (fun c=>OwnFrom.and (ownFrom_pure _ _) (OwnFrom.and (Own.from (boxed_own _ _ _) _) (vK (ud _))))
         ⟨rfl,ue _ _⟩
         (fun x=>⟨#[.agg #[.slice (some ⟨b,off,none⟩) d.1.length nc,.slice ra d.2.length rc],.pointer (some ⟨w.heap.size,0,none⟩),.pointer (some ⟨w.heap.size+1,0,none⟩),undef,u4,undef,.pointer (some ⟨wr.heap.size,0,none⟩),.int .i64 x,.pointer (some ⟨w.heap.size,1,none⟩),.slice ra d.2.length rc,.int .i64 ↑d.2.length,.int .i64 ↑d.2.length,.bool false,u13,u14,u15,u16,u17,u18,u19,.pointer (some ⟨w.heap.size,0,none⟩),.slice (some ⟨b,off,none⟩) d.1.length nc,.int .i64 ↑d.1.length,.int .i64 ↑k,.bool true,.pointer (some ⟨b,off+k*3,none⟩),.agg #[.int .i64 nd.1,.string (B nd.2.1),.slice ka nd.2.2.length kc],.agg #[.int .i64 nd.1,.string (B nd.2.1),.slice ka nd.2.2.length kc],.func (Fn.func 117) #[] #[.pointer (some ⟨wr.heap.size+1,0,none⟩)],.int .i64 x,undef,undef,undef,undef,u34],[]⟩) ?assign ?body ?done ?stop
        case assign=>
         intro l x W K hK
         gi_wp2
         exact hK
        case body=>
         rintro l pre x W⟨hpre,hbw⟩ _;have hDw:=zb (hD0.below hbw);have hFw:=zb (zL hF0 hbw);have d0:=(za hDw).n0;have d1:=(za hDw).n1;have h12:1<=3-1-1:=by decide
         gi_wp2_with fail
         refine⟨trivial,(CallsIn.inRound l (UH.2 (J8 _ _ _ _ _ W))).mono ?_⟩;rintro e w2⟨rfl,hb2⟩;have hFw2:=zb (zL (za hFw) hb2);have f0:=(za hFw2).cell;have f1:=(za hFw2).frozen;cases hr:kW x d.1.length with
         |true=>
          gi_wp2_with fail
          exact⟨(zE hb2).from _,hb2.mono (by have:=hbw.size;omega),by rw[List.all_append,hpre];simp[hr],zi hbw hb2⟩
         |false=>
          gi_wp2_with fail
          exact⟨((zE hb2).trans (KeepsOthers.setCell _ _ _)).from _,⟨rfl,x,by simp,hr⟩,(za hFw2).set _,((Kept.of_below hbw).trans (Kept.of_below hb2)).trans (Kept.set (S:=fun b=>b=w.heap.size+1) (a:=⟨w.heap.size+1,0,none⟩) rfl _)⟩
        case done=>
         rintro D ys W hD rfl⟨hpre,hbw⟩ hK;have HM1:=zb (((hM0.below hbw).cons (D:=D) (by have:=hB0.size;omega) hK (hM0.fresh hD)));have HD1:=zb (hD0.below hbw);have HF1:=zb (zL hF0 hbw);have HT:Hid ((d.1.take (k+1)).all (y5 d.1.length)=true):=zb (by
          rw[uY,hnd,List.all_append,hall];simpa[y5]using hpre)
         have HB1:=zb (zi (zi hbl hB0) hbw)
         gi_wp2_with fail
         refine⟨⟨D::Ds,k+1,_,_,_,_,_,_,_,rfl,by omega,za HT,za HB1,HD1,HF1,HM1⟩,by simp[intOf];omega⟩
        case stop=>
         rintro D c pre W hD hpr⟨⟨rfl,last,hl,hf⟩,hbx,hkp⟩ hK;have hm:=(hM0.kept hkp (fun D hD e=>by subst e;have:=(hM0.at' _ hD).2;rw[show W0.heap[w.heap.size+1]? =_ from hF0]at this;cases this)).cons (D:=D) (by have:=hB0.size;omega) hK (hM0.fresh hD);have HP:Hid (ZQ d=false):=zb (by
          have h1:y5 d.1.length nd=false:=by
           unfold y5;rw[wW];exact⟨last,List.IsPrefix.mem hl hpr,by simp[hf]⟩
          unfold ZQ;rw[Ww];right;rw[wW];exact⟨nd,un hnd,by simp[h1]⟩)
         have HB1:=zb ((zi hbl hB0).trans (hkp.below (base:=w.heap.size) (by have:=hB0.size;omega) (fun b e=>by omega)))
         gi_wp2_with fail
         refine qL w.heap.size (D::Ds) W hm (fun w' hst=>?_);have f2:=(kK hst hbx).cell;refine⟨.bool false,by simp[results,Tryz.f70,go_sem,f2],by rw[za HP],(za HB1).trans hst.below⟩
      . obtain rfl:k=d.1.length:=by omega
        rw[uz (ud _)]at hall;have HP:Hid (ZQ d=true):=zb (by unfold ZQ;rw[za HALL,hall];rfl);have HB1:=zb (hbl.setCell (p:=⟨w.heap.size+1,0,none⟩) (Uc _) (.bool true));have HF2:=zb ((za HFk).set (.bool true));have f1:=(za HFk).frozen;have f0:=(za HFk).cell;have hm:=(za HMk).kept (Kept.set (S:=fun b=>b=w.heap.size+1) (a:=⟨w.heap.size+1,0,none⟩) rfl (.bool true)) (fun D hD e=>by subst e;have:=((za HMk).at' _ hD).2;rw[show wr.heap[w.heap.size+1]? =_ from za HFk]at this;cases this);have HM:=zb hm;clear hm hall
        gi_wp2_with fail
        refine qL w.heap.size Ds _ (za HM) (fun w' hst=>?_);have f2:=(kK hst (za HF2)).cell;refine⟨.bool true,by simp[results,Tryz.f70,go_sem,f2],by rw[za HP],(za HB1).trans hst.below⟩
end Go.Proofs.YtpbnmhnbkfnaeaaGreatDoor
namespace Go.Proofs.YtpbnmhnbkfnaeaaGreatDoor
open Go.RowKit Go.Shelf Nt
def Z1(d:Dt):Bool:=d.1.all fun nd=>qJ nd.1 nd.2.2.length
theorem Js{ns:List Nd}{p:Nd->Bool}{j:Nat}{x:Nd}(h:ns[j]? =some x):(ns.take (j+1)).all p=((ns.take j).all p&&p x):=by
 rw[uY,h,List.all_append];simp
theorem Qi{ns:List Nd}{p:Nd->Bool}{j:Nat}{x:Nd}(h:ns[j]? =some x)(hp:p x=false):ns.all p=false:=by
 rw[wW];exact⟨x,un h,by simp[hp]⟩
theorem V9(nv rv:Value)(d:Dt)(w:World)(h:DataAt w (.agg #[nv,rv]) d)(hs:d.1.length<=1048576/\d.2.length<=1048576/\qr d.1):
  Calls Tryz.prog 71 #[.agg #[nv,rv]] w fun e w'=>e=.returned (.bool (Z1 d))/\Below w.heap.size w w':=by
 obtain⟨nv',rv',e,hn0,hr0⟩:=h;simp only[WO,Ws,ww,and_true]at e;obtain⟨rfl,rfl⟩:=e;have HN:=zb hn0;obtain⟨na,nc,rfl,hn1,hn2,_⟩:=hn0;obtain⟨ra,rc,rfl,hr1,hr2,_⟩:=hr0;obtain⟨s1,s2,s3⟩:=hs;have HS3:=zb s3;clear s3;unfold maxLen at hn2 hr2;have HB:=zb (zf (ue w.heap.size w) (.cells #[.slice na d.1.length nc,.slice ra d.2.length rc] 26));have HD:=zb (AtC2.new w (.slice na d.1.length nc) (.slice ra d.2.length rc) 26);go_enter Tryz.func71,Tryz.ntmps71;go_wp2_with fail
 go_loopw [8] (fun i wr=>∃k:Nat,k<=d.1.length/\i=.int .i64 k/\((d.1.take k).all fun nd=>qJ nd.1 nd.2.2.length)=true/\Below w.heap.size w wr)
  (fun i _=>d.1.length-(intOf i).toNat)
 case atStart=>exact⟨0,by omega,rfl,by simp,za HB⟩
 case round=>
  obtain⟨k,hk,rfl,hall,hbl⟩:=hrel;by_cases hlt:k<d.1.length
  . obtain⟨nd,hnd⟩:∃nd,d.1[k]? =some nd:=⟨_,uf hlt⟩
    obtain⟨b,off,cap,e1,_,_,hb⟩:=((za HN).below hbl).form (by omega);injection e1 with e2 e3 e4;subst e2;obtain⟨kv,c0,c1,c2,htl,hki⟩:=((za HN).below hbl).node hnd;obtain⟨ka,kc,rfl,hk1,hk2,_⟩:=hki;have hks:=(za HS3) nd (un hnd);have HT:=zb (Js (p:=fun nd=>qJ nd.1 nd.2.2.length) hnd);have HL:=zb hall;clear e4 hall;go_wp2_with fail;have h:=zcV nd.1 (B nd.2.1) ka nd.2.2.length kc (wr.alloc (.cells #[.int .i64 nd.1,.string (B nd.2.1),.slice ka nd.2.2.length kc] 56)) hks.2;refine h.mono ?_;clear h;rintro e w1⟨rfl,hb1⟩;have HB1:=zb (zi (zf hbl (.cells #[.int .i64 nd.1,.string (B nd.2.1),.slice ka nd.2.2.length kc] 56)) hb1);cases hr:qJ nd.1 nd.2.2.length with
    |true=>
     go_wp2_with fail;go_roundw
     case rel=>exact⟨k+1,by omega,by go_num,by rw[za HT,za HL,hr];rfl,za HB1⟩
     case measure=>simp[intOf];omega
    |false=>
     have HP:Hid (Z1 d=false):=zb (by unfold Z1;exact Qi hnd hr);go_wp2_with fail;go_ret;exact⟨by rw[za HP];rfl,za HB1⟩
  . obtain rfl:k=d.1.length:=by omega
    rw[uz (ud _)]at hall;have HP:Hid (Z1 d=true):=zb hall;clear hall;go_wp2_with fail;go_ret;exact⟨by rw[za HP];rfl,hbl⟩
end Go.Proofs.YtpbnmhnbkfnaeaaGreatDoor
namespace Go.Proofs.YtpbnmhnbkfnaeaaGreatDoor
open Go.RowKit Nt
def jF(of:List Int)(p:List Int)(m:Int):List Int:=p.foldl (fun o x=>o.set x.toNat m) of
def qE(of:List Int)(ps:List (List Int))(g:Int):Nat:=((ps.filter fun q=>decide (zD of (q.headD 0)=g)).map List.length).sum
def zI(of0:List Int):List (List Int)->List Int->List Int->List Int->List Int×List Int×List Int
 | [],of,sz,gone=>(of,sz,gone)
 |p::ps,of,sz,gone=>
  if((qE of0 (p::ps) (zD of (p.headD 0)):Nat):Int)=zD sz (zD of (p.headD 0))then zI of0 ps of sz gone
  else zI of0 ps (jF of p sz.length) (sz.set (zD of (p.headD 0)).toNat (zD sz (zD of (p.headD 0))-p.length)++[(p.length:Int)]) (gone++p)
theorem J5{g:List Int}{x:Int}(h1:x.toNat<g.length):g[x.toNat]? =some (zD g x):=by
 unfold zD;rw[uq,uf h1];rfl
theorem kg(of p:List Int)(m:Int):(jF of p m).length=of.length:=by
 unfold jF
 induction p generalizing of with
 |nil=>rfl
 |cons x r ih=>rw[List.foldl_cons,ih];simp
theorem Y8{of:List Int}{x y m:Int}(hx:0<=x/\x<of.length)(hy:0<=y):zD (of.set x.toNat m) y=if y=x then m else zD of y:=by
 unfold zD;rw[uq,uq,List.getElem?_set];by_cases h:y=x
 . subst h;rw[uj rfl,uj rfl,uj (by omega)];rfl
 . rw[ul h,ul (by omega)]
theorem zdp{p:List Int}{m:Int}:∀ {of:List Int},(∀x∈p,0<=x/\x<of.length)->∀ {y:Int},0<=y->zD (jF of p m) y=if y∈p then m else zD of y:=by
 induction p with
 |nil=>intro of _ y _;simp[jF]
 |cons x r ih=>
  intro of h y hy;have h0:=h x (by simp);have:=ih (of:=of.set x.toNat m) (fun z hz=>by simpa using h z (by simp[hz])) hy;show zD (jF (of.set x.toNat m) r m) y=_;rw[this,Y8 h0 hy];by_cases h1:y∈r
  . rw[uj h1,uj (by simp[h1])]
  . rw[ul h1]
    by_cases h2:y=x
    . subst h2;simp
    . rw[ul h2,ul (by simp[h1,h2])]
theorem zay{l:List Int}{i:Nat}{b x:Int}(h:l[i]? =some x)(a:Int):(l.set i b).count a+(if x=a then 1 else 0)=l.count a+(if b=a then 1 else 0):=by
 induction l generalizing i with
 |nil=>simp at h
 |cons y r ih=>
  cases i with
  |zero=>
   simp at h;subst h;simp only[List.set_cons_zero,List.count_cons,Um];omega
  |succ i=>
   simp only[Us]at h;have:=ih h;simp only[List.set_cons_succ,List.count_cons,Um];omega
theorem KD{g m:Int}(hgm:g≠m)(a:Int):∀ {p of:List Int},p.Nodup->(∀x∈p,(0<=x/\x<of.length)/\zD of x=g)->
  (jF of p m).count a+(if a=g then p.length else 0)=of.count a+(if a=m then p.length else 0):=by
 intro p
 induction p with
 |nil=>intro of _ _;simp[jF]
 |cons x r ih=>
  intro of hn h;rw[WT]at hn;obtain⟨h0,hg⟩:=h x (by simp);have hx:of[x.toNat]? =some g:=by rw[J5 (by omega),hg]
  have h1:=zay (b:=m) hx a;have:=ih (of:=of.set x.toNat m) hn.2 (fun y hy=>by
   obtain⟨b1,b2⟩:=h y (by simp[hy]);refine⟨by simpa using b1,?_⟩;rw[Y8 h0 b1.1,ul (fun e=>hn.1 (by rw[<-e];exact hy)),b2])
  show(jF (of.set x.toNat m) r m).count a+_=_;simp only[Uv];by_cases ha:a=g
  . subst ha
    rw[uj rfl]at this⊢;rw[uj rfl,ul (fun e=>hgm e.symm)]at h1;rw[ul hgm]at this⊢;omega
  . rw[ul ha]at this⊢
    rw[ul (fun e=>ha e.symm)]at h1;by_cases hm:a=m
    . subst hm;rw[uj rfl]at this h1⊢;omega
    . rw[ul hm]at this⊢;rw[ul (fun e=>hm e.symm)]at h1;omega
def zeC(n:Nat)(of:List Int)(g:Int):List Int:=((List.range n).filter fun(i:Nat)=>decide (zD of (i:Int)=g)).map fun(i:Nat)=>(i:Int)
theorem XC{n:Nat}{of:List Int}{g x:Int}:x∈zeC n of g↔0<=x/\x<n/\zD of x=g:=by
 unfold zeC;simp only[UB,uK,List.mem_range,ut];constructor
 . rintro⟨i,⟨h1,h2⟩,rfl⟩;exact⟨by omega,by omega,h2⟩
 . rintro⟨h1,h2,h3⟩;exact⟨x.toNat,⟨by omega,by rw[show((x.toNat:Nat):Int)=x by omega];exact h3⟩,by omega⟩
theorem zeD{n:Nat}{of:List Int}(h:of.length=n)(g:Int):(zeC n of g).length=of.count g:=by
 unfold zeC;rw[Ud];have e:of=(List.range n).map fun(i:Nat)=>zD of (i:Int):=by
  apply wD (by simp[h]);intro i h1 h2;simp only[WI,List.getElem_range];exact(vn (uf h1)).symm
 have h2:of.count g=(List.range n).countP (fun(i:Nat)=>decide (zD of (i:Int)=g)):=by
  rw[List.count]
  conv=>lhs;rw[e]
  rw[List.countP_map]
  congr 1
 rw[h2,List.countP_eq_length_filter]
structure Parts(n:Nat)(of:List Int)(ps:List (List Int)):Prop where
 nd:ps.flatten.Nodup
 rng:∀p∈ps,∀x∈p,0<=x/\x<n
 ne:∀p∈ps,p≠[]
 one:∀p∈ps,∀x∈p,∀y∈p,zD of x=zD of y
theorem xW{p:List Int}(h:p≠[]):p.headD 0∈p:=by
 cases p with
 |nil=>exact absurd rfl h
 |cons a b=>simp
theorem zac{ps:List (List Int)}{P:List Int->Bool}:((ps.filter P).flatten).Sublist ps.flatten:=by
 induction ps with
 |nil=>simp
 |cons a r ih=>
  rw[List.filter_cons]
  split
  . simp only[U3];exact List.Sublist.append (List.Sublist.refl _) ih
  . simp only[U3];exact ih.trans (List.sublist_append_right _ _)
theorem zcc{n:Nat}{of:List Int}{ps:List (List Int)}(hp:Parts n of ps)(g:Int){x:Int}:
  x∈(ps.filter fun q=>decide (zD of (q.headD 0)=g)).flatten↔x∈ps.flatten/\zD of x=g:=by
 simp only[U9,uK,ut];constructor
 . rintro⟨q,⟨h1,h2⟩,h3⟩;exact⟨⟨q,h1,h3⟩,(hp.one q h1 x h3 _ (xW (hp.ne q h1))).trans h2⟩
 . rintro⟨⟨q,h1,h2⟩,h3⟩;exact⟨q,⟨h1,(hp.one q h1 _ (xW (hp.ne q h1)) x h2).trans h3⟩,h2⟩
theorem Ky{n:Nat}{of:List Int}(hl:of.length=n){ps:List (List Int)}(hp:Parts n of ps)(g:Int):
  qE of ps g<=of.count g/\(qE of ps g=of.count g->∀x:Int,0<=x->x<n->zD of x=g->x∈ps.flatten):=by
 have e:qE of ps g=((ps.filter fun q=>decide (zD of (q.headD 0)=g)).flatten).length:=by
  unfold qE;rw[List.length_flatten]
 have hn:((ps.filter fun q=>decide (zD of (q.headD 0)=g)).flatten).Nodup:=dA zac hp.nd;have hs:∀x∈(ps.filter fun q=>decide (zD of (q.headD 0)=g)).flatten,x∈zeC n of g:=by
  intro x hx;obtain⟨h1,h2⟩:=(zcc hp g).1 hx;obtain⟨q,hq,hxq⟩:=U9.1 h1;have:=hp.rng q hq x hxq;exact XC.2 ⟨this.1,this.2,h2⟩
 rw[e,<-zeD hl g];refine⟨jk hn hs,fun h x h0 h1 h2=>?_⟩;have:=YB hn hs (by omega) x (XC.2 ⟨h0,h1,h2⟩);exact((zcc hp g).1 this).1
theorem zeU{of of':List Int}{ps:List (List Int)}(h:∀p∈ps,zD of (p.headD 0)=zD of' (p.headD 0))(g:Int):qE of ps g=qE of' ps g:=by
 unfold qE
 congr 2
 apply List.filter_congr;intro q hq;rw[h q hq]
structure kS(n:Nat)(of0:List Int)(ps1 ps2:List (List Int))(m0:Nat)(of sz gone:List Int):Prop where
 len:of.length=n
 rng:∀x:Int,0<=x->x<n->0<=zD of x/\zD of x<sz.length
 cnt:∀g:Int,0<=g->g<sz.length->zD sz g=of.count g/\1<=zD sz g
 keep:∀x:Int,0<=x->x<n->x∉ps1.flatten->zD of x=zD of0 x
 old:∀x y:Int,0<=x->x<n->0<=y->y<n->zD of x=zD of y->zD of0 x=zD of0 y
 gn:∀x:Int,0<=x->x<n->(x∈gone↔zD of x≠zD of0 x)
 gr:∀x∈gone,0<=x/\x<n
 gl:m0<=sz.length/\(gone≠[]->m0<sz.length)
 gn1:gone.length<=ps1.flatten.length
 low:∀x:Int,0<=x->x<n->x∉gone->zD of x<m0
 tog:∀p∈ps1++ps2,∀x∈p,∀y∈p,zD of x=zD of y
 key:∀x∈ps1.flatten,∀y:Int,0<=y->y<n->zD of y=zD of x->(∃p∈ps1,x∈p/\y∈p)\/y∈ps2.flatten
theorem X9{n:Nat}{of0 sz:List Int}{ps:List (List Int)}(hl:of0.length=n)(hp:Parts n of0 ps)(hr:∀x:Int,0<=x->x<n->0<=zD of0 x/\zD of0 x<sz.length)
  (hc:∀g:Int,0<=g->g<sz.length->zD sz g=of0.count g/\1<=zD sz g):kS n of0 [] ps sz.length of0 sz [] where
 len:=hl
 rng:=hr
 cnt:=hc
 keep:=fun _ _ _ _=>rfl
 old:=fun _ _ _ _ _ _ h=>h
 gn:=fun x _ _=>by simp
 gr:=fun x h=>by simp at h
 gl:=⟨ud _,fun h=>absurd rfl h⟩
 gn1:=uD _
 low:=fun x h0 h1 _=>(hr x h0 h1).2
 tog:=fun p h=>hp.one p (by simpa using h)
 key:=fun x hx=>by simp at hx
theorem yz{a b:List Int}(h:(a++b).Nodup){x:Int}(h1:x∈a)(h2:x∈b):False:=by
 rw[U2]at h;exact h.2.2 x h1 x h2 rfl
section
variable {n:Nat} {of0:List Int} {ps1 ps2:List (List Int)} {p:List Int} {m0:Nat} {of sz gone:List Int}
theorem VL(hp:Parts n of0 (ps1++p::ps2))(h:kS n of0 ps1 (p::ps2) m0 of sz gone):Parts n of (p::ps2) where
 nd:=by have:=hp.nd;rw[UX,U2]at this;exact this.2.1
 rng:=fun q hq=>hp.rng q (by rw[uA];exact .inr hq)
 ne:=fun q hq=>hp.ne q (by rw[uA];exact .inr hq)
 one:=fun q hq=>h.tog q (by rw[uA];exact .inr hq)
theorem JQ(hp:Parts n of0 (ps1++p::ps2))(h:kS n of0 ps1 (p::ps2) m0 of sz gone){q:List Int}(hq:q∈p::ps2){x:Int}(hx:x∈q):zD of x=zD of0 x:=by
 have hr:=hp.rng q (by rw[uA];exact .inr hq) x hx;refine h.keep x hr.1 hr.2 (fun h1=>?_);have:=hp.nd;rw[UX]at this;exact yz this h1 (U9.2 ⟨q,hq,hx⟩)
theorem zbv(hp:Parts n of0 (ps1++p::ps2))(h:kS n of0 ps1 (p::ps2) m0 of sz gone)(g:Int):qE of0 (p::ps2) g=qE of (p::ps2) g:=
 zeU (fun q hq=>(JQ hp h hq (xW (hp.ne q (by rw[uA];exact .inr hq)))).symm) g
theorem zcg(hp:Parts n of0 (ps1++p::ps2))(h:kS n of0 ps1 (p::ps2) m0 of sz gone)
  (he:((qE of0 (p::ps2) (zD of (p.headD 0)):Nat):Int)=zD sz (zD of (p.headD 0))):kS n of0 (ps1++[p]) ps2 m0 of sz gone:=by
 have hP:=VL hp h;have hne:=hP.ne p (by simp);have hh:=xW hne;have hr0:=hP.rng p (by simp) _ hh;have hg:=h.rng _ hr0.1 hr0.2;have hcn:=h.cnt _ hg.1 hg.2;rw[zbv hp h]at he;have hall:=(Ky h.len hP (zD of (p.headD 0))).2 (by omega);have hnd:=hp.nd;rw[UX]at hnd;refine {h with keep:=?_,tog:=?_,key:=?_,gn1:=?_}
 . intro x h0 h1 h2;exact h.keep x h0 h1 (fun h3=>h2 (by simp[h3]))
 . have:=h.gn1;rw[UX,uG];omega
 . intro q hq;exact h.tog q (by simp at hq⊢;exact hq)
 . intro x hx y y0 y1 hxy
   rw[UX,uA]at hx;rcases hx with hx|hx
   . rcases h.key x hx y y0 y1 hxy with⟨q,q1,q2,q3⟩|hy
     . exact .inl ⟨q,by simp[q1],q2,q3⟩
     . rw[U3,uA]at hy
       rcases hy with hy|hy
       . exfalso
         have e1:zD of x=zD of (p.headD 0):=hxy.symm.trans (hP.one p (by simp) y hy _ hh);obtain⟨q,q1,q2⟩:=U9.1 hx;have hxr:=hp.rng q (by simp[q1]) x q2;exact yz hnd hx (hall x hxr.1 hxr.2 e1)
       . exact .inr hy
   . have hx:x∈p:=by simpa using hx
     have e1:zD of y=zD of (p.headD 0):=hxy.trans (hP.one p (by simp) x hx _ hh);have:=hall y y0 y1 e1;rw[U3,uA]at this;rcases this with hy|hy
     . exact .inl ⟨p,by simp,hx,hy⟩
     . exact .inr hy
theorem zgG(hp:Parts n of0 (ps1++p::ps2))(h:kS n of0 ps1 (p::ps2) m0 of sz gone)
  (he:((qE of0 (p::ps2) (zD of (p.headD 0)):Nat):Int)≠zD sz (zD of (p.headD 0))):
  kS n of0 (ps1++[p]) ps2 m0 (jF of p sz.length) (sz.set (zD of (p.headD 0)).toNat (zD sz (zD of (p.headD 0))-p.length)++[(p.length:Int)]) (gone++p):=by
 have hP:=VL hp h;have hne:=hP.ne p (by simp);have hh:=xW hne;have hr0:=hP.rng p (by simp) _ hh;have hg:=h.rng _ hr0.1 hr0.2;have hcn:=h.cnt _ hg.1 hg.2;rw[zbv hp h]at he;have hle:=(Ky h.len hP (zD of (p.headD 0))).1;have hnd:=hp.nd;rw[UX,U3]at hnd;have hpnd:p.Nodup:=by
  rw[U2]at hnd;have:=hnd.2.1;rw[U2]at this;exact this.1
 obtain⟨G,hG⟩:∃G,zD of (p.headD 0)=G:=⟨_,rfl⟩
 rw[hG]at hg hcn he hle⊢;have hlen:p.length<=qE of (p::ps2) G:=by
  unfold qE;rw[List.filter_cons,uj (by simpa using hG)];simp
 have hpG:∀x∈p,(0<=x/\x<of.length)/\zD of x=G:=fun x hx=>⟨by have:=hP.rng p (by simp) x hx;rw[h.len];exact this,(hP.one p (by simp) x hx _ hh).trans hG⟩
 have hset:∀y,0<=y->zD (jF of p sz.length) y=if y∈p then(sz.length:Int)else zD of y:=fun y hy=>zdp (fun x hx=>(hpG x hx).1) hy
 have hcount:=fun a=>KD (m:=(sz.length:Int)) (g:=G) (by omega) a hpnd hpG
 have hszl:(sz.set G.toNat (zD sz G-p.length)++[(p.length:Int)]).length=sz.length+1:=by simp
 have hpl:0<p.length:=by rcases p with _|_;exact absurd rfl hne;simp
 have hfresh:of.count (sz.length:Int)=0:=by
  rw[List.count_eq_zero];intro hm;obtain⟨i,hi⟩:=uT hm;have hil:=(ui.1 hi).1;have:=(h.rng (i:Int) (by omega) (by rw[<-h.len];omega)).2;rw[vn hi]at this;omega
 have hlow:=h.rng;have gltm:G<m0:=by
  rw[<-hG];have hng:p.headD 0∉gone:=by
   intro hm;have:=(h.gn _ hr0.1 hr0.2).1 hm;exact this (JQ hp h (by simp) hh)
  exact h.low _ hr0.1 hr0.2 hng
 have hx0:∀x∈p,zD of x=zD of0 x:=fun x hx=>JQ hp h (by simp) hx
 exact {
  len:=by rw[kg];exact h.len
  rng:=fun x h0 h1=>by
   rw[hset x h0,hszl]
   split
   . omega
   . have:=h.rng x h0 h1;omega
  cnt:=fun g h0 h1=>by
   rw[hszl]at h1;have hc:=hcount g;have e:zD (sz.set G.toNat (zD sz G-p.length)++[(p.length:Int)]) g=if g=sz.length then(p.length:Int)else if g=G then zD sz G-p.length else zD sz g:=by
    unfold zD;rw[uq,List.getElem?_append,List.length_set];by_cases e1:g=sz.length
    . subst e1;rw[uj rfl,ul (by omega)];simp
    . rw[ul e1,uj (by omega),<-uq]
      have:=Y8 (of:=sz) (x:=G) (y:=g) (m:=zD sz G-p.length) (by omega) h0;unfold zD at this;exact this
   rw[e];by_cases e1:g=sz.length
   . subst e1
     rw[uj rfl];rw[ul (by omega),uj rfl,hfresh]at hc;omega
   . rw[ul e1]
     rw[ul e1]at hc;by_cases e2:g=G
     . subst e2;rw[uj rfl];rw[uj rfl]at hc;omega
     . rw[ul e2];rw[ul e2]at hc
       have:=h.cnt g h0 (by omega);omega
  keep:=fun x h0 h1 h2=>by
   simp only[UX,U3,List.flatten_nil,du,uA,not_or]at h2;rw[hset x h0,ul h2.2];exact h.keep x h0 h1 h2.1
  old:=fun x y x0 x1 y0 y1 hxy=>by
   rw[hset x x0,hset y y0]at hxy;have rx:=h.rng x x0 x1;have ry:=h.rng y y0 y1;by_cases hx:x∈p
   . by_cases hy:y∈p
     . rw[<-hx0 x hx,<-hx0 y hy,(hpG x hx).2,(hpG y hy).2]
     . rw[uj hx,ul hy]at hxy;omega
   . by_cases hy:y∈p
     . rw[ul hx,uj hy]at hxy;omega
     . rw[ul hx,ul hy]at hxy;exact h.old x y x0 x1 y0 y1 hxy
  gn:=fun x h0 h1=>by
   rw[hset x h0,uA];by_cases hx:x∈p
   . rw[uj hx]
     have:=h.rng x h0 h1;have e:=hx0 x hx;exact⟨fun _=>by omega,fun _=>.inr hx⟩
   . rw[ul hx]
     have:=h.gn x h0 h1;simp[hx,this]
  gr:=fun x hx=>by
   rw[uA]at hx;rcases hx with hx|hx
   . exact h.gr x hx
   . exact hP.rng p (by simp) x hx
  gl:=by rw[hszl];have:=h.gl.1;exact⟨by omega,fun _=>by omega⟩
  gn1:=by have:=h.gn1;rw[UX,uG,uG];simp only[U3,List.flatten_nil,du];omega
  low:=fun x h0 h1 h2=>by
   rw[uA,not_or]at h2;rw[hset x h0,ul h2.2];exact h.low x h0 h1 h2.1
  tog:=fun q hq x hx y hy=>by
   have hq':q∈ps1++p::ps2:=by simpa using hq
   have rx:=hp.rng q hq' x hx;have ry:=hp.rng q hq' y hy;rw[hset x rx.1,hset y ry.1];have key:∀z∈q,z∈p->q=p:=by
    intro z hzq hzp;apply uM;intro hqp;rcases uA.1 hq' with h1|h1
    . have a1:z∈ps1.flatten:=U9.2 ⟨q,h1,hzq⟩
      exact yz hnd a1 (uA.2 (.inl hzp))
    . rcases uX.1 h1 with h1|h1
      . exact hqp h1
      . have a1:z∈ps2.flatten:=U9.2 ⟨q,h1,hzq⟩
        rw[U2]at hnd;exact yz hnd.2.1 hzp a1
   by_cases h1:x∈p
   . have:=key x hx h1;subst this;rw[uj h1,uj hy]
   . by_cases h2:y∈p
     . have:=key y hy h2;subst this;exact absurd hx h1
     . rw[ul h1,ul h2];exact h.tog q hq' x hx y hy
  key:=fun x hx y y0 y1 hxy=>by
   rw[UX,uA]at hx;rw[hset y y0]at hxy;rcases hx with hx|hx
   . obtain⟨q,q1,q2⟩:=U9.1 hx
     have rx:=hp.rng q (by simp[q1]) x q2;have hxp:x∉p:=fun e=>yz hnd hx (uA.2 (.inl e))
     rw[hset x rx.1,ul hxp]at hxy;have rx2:=h.rng x rx.1 rx.2;by_cases hy:y∈p
     . rw[uj hy]at hxy;omega
     . rw[ul hy]at hxy
       rcases h.key x hx y y0 y1 hxy with⟨q',a1,a2,a3⟩|h3
       . exact .inl ⟨q',by simp[a1],a2,a3⟩
       . rw[U3,uA]at h3
         rcases h3 with h3|h3
         . exact absurd h3 hy
         . exact .inr h3
   . have hx:x∈p:=by simpa using hx
     have rx:=(hpG x hx).1;rw[hset x rx.1,uj hx]at hxy;by_cases hy:y∈p
     . exact .inl ⟨p,by simp,hx,hy⟩
     . rw[ul hy]at hxy
       have:=h.rng y y0 y1;omega
 }
end
theorem zbw{n:Nat}{of0:List Int}{m0:Nat}:∀(ps2 ps1:List (List Int))(of sz gone:List Int),Parts n of0 (ps1++ps2)->kS n of0 ps1 ps2 m0 of sz gone->
  kS n of0 (ps1++ps2) [] m0 (zI of0 ps2 of sz gone).1 (zI of0 ps2 of sz gone).2.1 (zI of0 ps2 of sz gone).2.2
 | [],ps1,of,sz,gone,_,h=>by simpa[zI]using h
 |p::ps2,ps1,of,sz,gone,hp,h=>by
  unfold zI;by_cases he:((qE of0 (p::ps2) (zD of (p.headD 0)):Nat):Int)=zD sz (zD of (p.headD 0))
  . rw[uj he]
    have:=zbw ps2 (ps1++[p]) of sz gone (by simpa using hp) (zcg hp h he);simpa using this
  . rw[ul he]
    have:=zbw ps2 (ps1++[p]) _ _ _ (by simpa using hp) (zgG hp h he);simpa using this
end Go.Proofs.YtpbnmhnbkfnaeaaGreatDoor
namespace Go.Proofs.YtpbnmhnbkfnaeaaGreatDoor
open Go.RowKit Nt
section
variable {K:Type} [DecidableEq K]
def qn(look:Int->K)(ps:List Int):List K:=ps.foldl (fun ks x=>if look x∈ks then ks else ks++[look x]) []
def zR(look:Int->K)(ps:List Int):List (List Int):=(qn look ps).map fun k=>ps.filter fun x=>decide (look x=k)
theorem kE(look:Int->K)(ps:List Int)(x:Int):qn look (ps++[x])=if look x∈qn look ps then qn look ps else qn look ps++[look x]:=by
 unfold qn;rw[List.foldl_append];rfl
theorem X8{α:Type}{P:List α->Prop}(h0:P [])(h1:∀l x,P l->P (l++[x]))(l:List α):P l:=by
 have:∀l:List α,P l.reverse:=by
  intro l
  induction l with
  |nil=>exact h0
  |cons x r ih=>rw[List.reverse_cons];exact h1 _ _ ih
 have:=this l.reverse;rwa[WD]at this
theorem yQ(look:Int->K)(ps:List Int):(qn look ps).Nodup/\∀k,k∈qn look ps↔∃x∈ps,look x=k:=by
 induction ps using X8 with
 |h0=>exact⟨List.nodup_nil,fun k=>by simp[qn]⟩
 |h1 l x ih=>
  rw[kE];by_cases h:look x∈qn look l
  . rw[uj h]
    refine⟨ih.1,fun k=>?_⟩;rw[ih.2];constructor
    . rintro⟨y,a,b⟩;exact⟨y,by simp[a],b⟩
    . rintro⟨y,a,b⟩
      rcases uA.1 a with a|a
      . exact⟨y,a,b⟩
      . have:y=x:=by simpa using a
        subst this;subst b;exact(ih.2 _).1 h
  . rw[ul h]
    refine⟨?_,fun k=>?_⟩
    . rw[U2]
      refine⟨ih.1,by simp,fun a ha b hb=>?_⟩;have:b=look x:=by simpa using hb
      subst this;exact fun e=>h (e ▸ ha)
    . rw[uA,ih.2]
      constructor
      . rintro(⟨y,a,b⟩|a)
        . exact⟨y,by simp[a],b⟩
        . exact⟨x,by simp,by have:k=look x:=by simpa using a
                             exact this.symm⟩
      . rintro⟨y,a,b⟩
        rcases uA.1 a with a|a
        . exact .inl ⟨y,a,b⟩
        . have:y=x:=by simpa using a
          subst this;exact .inr (by simp[b])
theorem Jn{look:Int->K}{ps:List Int}{x:Int}{t:Nat}(h:(qn look ps)[t]? =some (look x)):
  zR look (ps++[x])=(zR look ps).set t ((ps.filter fun y=>decide (look y=look x))++[x])/\qn look (ps++[x])=qn look ps:=by
 have hk:qn look (ps++[x])=qn look ps:=by rw[kE,uj (un h)]
 refine⟨?_,hk⟩;obtain⟨htl,hte⟩:=ui.1 h;unfold zR;rw[hk];apply wD (by simp);intro i h1 h2;have hi:i<(qn look ps).length:=by simpa using h1
 rw[List.getElem_set,WI];by_cases hit:t=i
 . subst hit;rw[uj rfl,hte];simp[List.filter_append]
 . rw[ul hit,WI,List.filter_append]
   have:look x≠(qn look ps)[i]:=by
    intro e;have hnd:=(yQ look ps).1;exact hit ((List.getElem_inj hnd).1 (hte.trans e))
   simp[this]
theorem Jm{look:Int->K}{ps:List Int}{x:Int}(h:look x∉qn look ps):
  zR look (ps++[x])=zR look ps++[[x]]/\qn look (ps++[x])=qn look ps++[look x]:=by
 have hk:qn look (ps++[x])=qn look ps++[look x]:=by rw[kE,ul h]
 refine⟨?_,hk⟩;unfold zR;rw[hk,UF]
 congr 1
 . apply List.map_congr_left
   intro k hk';rw[List.filter_append];have:look x≠k:=fun e=>h (e ▸ hk')
   simp[this]
 . have:ps.filter (fun y=>decide (look y=look x))=[]:=by
    rw[List.filter_eq_nil_iff];intro y hy;simp;intro e;exact h (((yQ look ps).2 _).2 ⟨y,hy,e⟩)
   simp[List.filter_append,this]
theorem XD{look:Int->K}{ps:List Int}{p:List Int}:p∈zR look ps↔∃k∈qn look ps,p=ps.filter fun x=>decide (look x=k):=by
 unfold zR;simp only[UB];constructor
 . rintro⟨k,a,b⟩;exact⟨k,a,b.symm⟩
 . rintro⟨k,a,b⟩;exact⟨k,a,b.symm⟩
theorem J4{look:Int->K}{ps:List Int}(hn:ps.Nodup):∀ {ks:List K},ks.Nodup->((ks.map fun k=>ps.filter fun x=>decide (look x=k)).flatten).Nodup
 | [],_=>by simp
 |k::ks,h=>by
  rw[WT]at h;rw[UU,U3,U2];refine⟨dA List.filter_sublist hn,J4 hn h.2,?_⟩;intro a ha b hb e;subst e;have h1:look a=k:=by simpa using(uK.1 ha).2
  obtain⟨q,hq,haq⟩:=U9.1 hb;obtain⟨k',hk',rfl⟩:=UB.1 hq;have h2:look a=k':=by simpa using(uK.1 haq).2
  exact h.1 (by rw[<-h1,h2];exact hk')
theorem Z6{n:Nat}{of:List Int}{look:Int->K}{A:List Int}(hA:A.Nodup)(hr:∀x∈A,0<=x/\x<n)(hl:∀x∈A,∀y∈A,look x=look y->zD of x=zD of y)
  {ps:List (List Int)}(hp:ps.Perm (zR look A)):Parts n of ps/\(∀x,x∈ps.flatten↔x∈A)/\(∀x∈A,∀y∈A,(∃p∈ps,x∈p/\y∈p)↔look x=look y):=by
 have hm:∀p,p∈ps↔∃k∈qn look A,p=A.filter fun x=>decide (look x=k):=fun p=>by rw[hp.mem_iff,XD]
 refine⟨⟨?_,?_,?_,?_⟩,?_,?_⟩
 . exact hp.flatten.nodup_iff.2 (J4 hA (yQ look A).1)
 . intro p h x hx
   obtain⟨k,_,rfl⟩:=(hm p).1 h;exact hr x (uK.1 hx).1
 . intro p h
   obtain⟨k,hk,rfl⟩:=(hm p).1 h;obtain⟨x,hx,e⟩:=((yQ look A).2 k).1 hk;exact List.ne_nil_of_mem (uK.2 ⟨hx,by simpa using e⟩)
 . intro p h x hx y hy
   obtain⟨k,_,rfl⟩:=(hm p).1 h;rw[uK]at hx hy;exact hl x hx.1 y hy.1 ((by simpa using hx.2:look x=k).trans (by simpa using hy.2:look y=k).symm)
 . intro x
   rw[U9];constructor
   . rintro⟨p,h1,h2⟩
     obtain⟨k,_,rfl⟩:=(hm p).1 h1;exact(uK.1 h2).1
   . intro h
     exact⟨_,(hm _).2 ⟨look x,((yQ look A).2 _).2 ⟨x,h,rfl⟩,rfl⟩,uK.2 ⟨h,by simp⟩⟩
 . intro x hx y hy
   constructor
   . rintro⟨p,h1,h2,h3⟩
     obtain⟨k,_,rfl⟩:=(hm p).1 h1;rw[uK]at h2 h3;exact(by simpa using h2.2:look x=k).trans (by simpa using h3.2:look y=k).symm
   . intro e
     exact⟨_,(hm _).2 ⟨look x,((yQ look A).2 _).2 ⟨x,hx,rfl⟩,rfl⟩,uK.2 ⟨hx,by simp⟩,uK.2 ⟨hy,by simp[e]⟩⟩
end
structure GrpOk(n:Nat)(of sz:List Int):Prop where
 len:of.length=n
 rng:∀x:Int,0<=x->x<n->0<=zD of x/\zD of x<sz.length
 cnt:∀g:Int,0<=g->g<sz.length->zD sz g=of.count g/\1<=zD sz g
theorem GrpOk.few{n:Nat}{of sz:List Int}(h:GrpOk n of sz):sz.length<=n:=by
 have key:∀i:Nat,i<sz.length->∃j:Nat,j<n/\zD of (j:Int)=(i:Int):=by
  intro i hi;have:=h.cnt (i:Int) (by omega) (by omega);have hp:0<of.count (i:Int):=by omega
  obtain⟨j,hj⟩:=uT (List.count_pos_iff.1 hp);exact⟨j,by rw[<-h.len];exact(ui.1 hj).1,vn hj⟩
 have h2:=jk (l:=(List.range sz.length).map fun(i:Nat)=>(i:Int)) (m:=(List.range n).map fun(j:Nat)=>zD of (j:Int))
  (by rw[Wm,List.pairwise_map];exact List.Pairwise.imp (fun h e=>h (by omega)) (Wm.1 List.nodup_range))
  (fun x hx=>by
   obtain⟨i,hi,rfl⟩:=UB.1 hx;obtain⟨j,hj,e⟩:=key i (by simpa using hi);exact UB.2 ⟨j,by simpa using hj,e⟩)
 simpa using h2
structure SplitTo{K:Type}(n:Nat)(of0 sz0:List Int)(A:List Int)(look:Int->K)(of sz gone:List Int):Prop where
 ok:GrpOk n of sz
 tog:∀x∈A,∀y∈A,look x=look y->zD of x=zD of y
 apart:∀x y:Int,0<=x->x<n->0<=y->y<n->zD of x=zD of y->zD of0 x=zD of0 y/\((x∈A/\y∈A/\look x=look y)\/(x∉A/\y∉A))
 stay:∀x:Int,0<=x->x<n->x∉A->zD of x=zD of0 x
 gn:∀x:Int,0<=x->x<n->(x∈gone↔zD of x≠zD of0 x)
 gr:∀x∈gone,0<=x/\x<n
 gl:sz0.length<=sz.length/\(gone≠[]->sz0.length<sz.length)
 gn1:gone.length<=A.length
theorem zaa{K:Type}[DecidableEq K]{n:Nat}{of sz A:List Int}{look:Int->K}(hg:GrpOk n of sz)(hA:A.Nodup)(hr:∀x∈A,0<=x/\x<n)
  (hl:∀x∈A,∀y∈A,look x=look y->zD of x=zD of y){ps:List (List Int)}(hp:ps.Perm (zR look A)):
  SplitTo n of sz A look (zI of ps of sz []).1 (zI of ps of sz []).2.1 (zI of ps of sz []).2.2:=by
 obtain⟨h1,h2,h3⟩:=Z6 hA hr hl hp;have hS:=zbw ps [] of sz [] (by simpa using h1) (X9 (ps:=ps) hg.len h1 hg.rng hg.cnt);rw[UE]at hS;obtain⟨of',e1⟩:∃o,(zI of ps of sz []).1=o:=⟨_,rfl⟩
 obtain⟨sz',e2⟩:∃o,(zI of ps of sz []).2.1=o:=⟨_,rfl⟩
 obtain⟨gone',e3⟩:∃o,(zI of ps of sz []).2.2=o:=⟨_,rfl⟩
 rw[e1,e2,e3]at hS⊢;have hAl:ps.flatten.length=A.length:=by
  have a:=jk h1.nd (m:=A) (fun x hx=>(h2 x).1 hx);have b:=jk hA (m:=ps.flatten) (fun x hx=>(h2 x).2 hx);omega
 refine⟨⟨hS.len,hS.rng,hS.cnt⟩,?_,?_,?_,hS.gn,hS.gr,hS.gl,by rw[<-hAl];exact hS.gn1⟩
 . intro x hx y hy e
   obtain⟨p,p1,p2,p3⟩:=(h3 x hx y hy).2 e;exact hS.tog p (by simpa using p1) x p2 y p3
 . intro x y x0 x1 y0 y1 e
   refine⟨hS.old x y x0 x1 y0 y1 e,?_⟩;by_cases hx:x∈A
   . rcases hS.key x ((h2 x).2 hx) y y0 y1 e.symm with⟨p,p1,p2,p3⟩|h
     . have hy:=(h2 y).1 (U9.2 ⟨p,p1,p3⟩)
       exact .inl ⟨hx,hy,(h3 x hx y hy).1 ⟨p,p1,p2,p3⟩⟩
     . simp at h
   . by_cases hy:y∈A
     . rcases hS.key y ((h2 y).2 hy) x x0 x1 e with⟨p,p1,p2,p3⟩|h
       . exact absurd ((h2 x).1 (U9.2 ⟨p,p1,p3⟩)) hx
       . simp at h
     . exact .inr ⟨hx,hy⟩
 . intro x h0 h1' hx
   exact hS.keep x h0 h1' (fun h=>hx ((h2 x).1 h))
structure Zu(ns:List Nd)(old of sz gone:List Int):Prop where
 ok:GrpOk ns.length of sz
 c0:xQ ns old
 c1:xQ ns of
 al:∀i j:Nat,i<ns.length->j<ns.length->zD of i=zD of j->vF (je ns i) (je ns j) old=true
 gn:∀x:Int,0<=x->x<ns.length->(x∈gone↔zD of x≠zD old x)
 gr:∀x∈gone,0<=x/\x<ns.length
 gn1:gone.length<=ns.length
def xV(ns:List Nd)(x:Int):Int×List UInt8×Nat:=((je ns x.toNat).1,(je ns x.toNat).2.1,(je ns x.toNat).2.2.length)
def VR(ns:List Nd)(of:List Int)(x:Int):Int×List Int:=(zD of x,(je ns x.toNat).2.2.map (zD of))
theorem yD(n:Nat)(x:Int):zD (List.replicate n 0) x=0:=by
 unfold zD;rw[uq,Wc]
 split<;>rfl
theorem QW(n:Nat):∀ks:List Int,ks.map (zD (List.replicate n 0))=List.replicate ks.length 0
 | []=>rfl
 |k::ks=>by rw[UU,QW n ks,yD];rfl
theorem qx(i:Nat):((i:Nat):Int).toNat=i:=by omega
theorem XV{ns:List Nd}{A of sz gone:List Int}(hall:∀x:Int,x∈A↔0<=x/\x<ns.length)(hAl:A.length<=ns.length)
  (h:SplitTo ns.length (List.replicate ns.length 0) [(ns.length:Int)] A (xV ns) of sz gone):Zu ns (List.replicate ns.length 0) of sz gone where
 ok:=h.ok
 c0:=fun _ _ i j _ _ _=>by rw[yD,yD]
 c1:=fun k hk i j hi hj e=>by
  have:=qC.1 (hk i j hi hj e);refine h.tog i ((hall i).2 (by omega)) j ((hall j).2 (by omega)) ?_;unfold xV;rw[qx,qx,this.1,this.2.1];have hl:=uB List.length this.2.2;rw[Ud,Ud]at hl;rw[hl]
 al:=fun i j hi hj e=>by
  rcases(h.apart i j (by omega) (by omega) (by omega) (by omega) e).2 with⟨_,_,hf⟩|⟨hx,_⟩
  . unfold xV at hf
    rw[qx,qx]at hf;simp only[wS]at hf;exact qC.2 ⟨hf.1,hf.2.1,by rw[QW,QW,hf.2.2]⟩
  . exact absurd ((hall i).2 (by omega)) hx
 gn:=h.gn
 gr:=h.gr
 gn1:=uC h.gn1 hAl
theorem Qp{n:Nat}{of old gone:List Int}(hg:∀x:Int,0<=x->x<n->(x∈gone↔zD of x≠zD old x)){ks:List Int}(hk:xR n ks)(h:∀k∈ks,k∉gone):ks.map (zD of)=ks.map (zD old):=by
 apply List.map_congr_left;intro k hm;apply uM;intro hne;exact h k hm ((hg k (hk k hm).1 (hk k hm).2).2 hne)
theorem J6{of old gone:List Int}{n:Nat}(hg:∀x:Int,0<=x->x<n->(x∈gone↔zD of x≠zD old x)):
  ∀ {cs bs:List Int},xR n cs->xR n bs->cs.map (zD of)=bs.map (zD of)->cs.map (zD old)=bs.map (zD old)->(∃k∈cs,k∈gone)->∃k∈bs,k∈gone
 | [],_,_,_,_,_,h=>by obtain⟨k,hk,_⟩:=h;simp at hk
 |_::_,[],_,_,e,_,_=>by simp at e
 |a::cs,b::bs,ha,hb,e1,e2,h=>by
  simp only[UU,ww]at e1 e2;obtain⟨k,hk,hkg⟩:=h;rcases uX.1 hk with rfl|hk
  . have r1:=ha k (by simp)
    have r2:=hb b (by simp);have:=(hg k r1.1 r1.2).1 hkg;exact⟨b,by simp,(hg b r2.1 r2.2).2 (by rw[<-e1.1,<-e2.1];exact this)⟩
  . obtain⟨k',a1,a2⟩:=J6 hg (fun x hx=>ha x (by simp[hx])) (fun x hx=>hb x (by simp[hx])) e1.2 e2.2 ⟨k,hk,hkg⟩
    exact⟨k',by simp[a1],a2⟩
theorem zbp{ns:List Nd}{old of sz gone A of' sz' gone':List Int}(hk:xj ns)(h:Zu ns old of sz gone)
  (hA:∀x:Int,x∈A↔(0<=x/\x<ns.length)/\∃k∈(je ns x.toNat).2.2,k∈gone)(hAl:A.length<=ns.length)
  (h':SplitTo ns.length of sz A (VR ns of) of' sz' gone'):Zu ns of of' sz' gone' where
 ok:=h'.ok
 c0:=h.c1
 c1:=fun g hg i j hi hj e=>by
  have e1:=h.c1 g hg i j hi hj e;have ha:=hg i j hi hj e;have m1:=(qC.1 (xl (h.c1 g hg) (hk i hi) (hk j hj) ha)).2.2;have m0:=(qC.1 (xl (h.c0 g hg) (hk i hi) (hk j hj) ha)).2.2;by_cases hiA:(i:Int)∈A
  . have hjA:(j:Int)∈A:=by
     have:=((hA i).1 hiA).2;rw[qx]at this;exact(hA j).2 ⟨by omega,by rw[qx];exact J6 h.gn (hk i hi) (hk j hj) m1 m0 this⟩
    refine h'.tog i hiA j hjA ?_;unfold VR;rw[qx,qx,e1,m1]
  . have hjA:(j:Int)∉A:=fun hjA=>by
     have:=((hA j).1 hjA).2;rw[qx]at this;exact hiA ((hA i).2 ⟨by omega,by rw[qx];exact J6 h.gn (hk j hj) (hk i hi) m1.symm m0.symm this⟩)
    rw[h'.stay i (by omega) (by omega) hiA,h'.stay j (by omega) (by omega) hjA,e1]
 al:=fun i j hi hj e=>by
  obtain⟨e0,h2⟩:=h'.apart i j (by omega) (by omega) (by omega) (by omega) e;have ha:=qC.1 (h.al i j hi hj e0);rcases h2 with⟨_,_,ht⟩|⟨hx,hy⟩
  . unfold VR at ht
    rw[qx,qx]at ht;simp only[wS]at ht;exact qC.2 ⟨ha.1,ha.2.1,ht.2⟩
  . have n1:∀k∈(je ns i).2.2,k∉gone:=fun k h1 h2=>hx ((hA i).2 ⟨by omega,by rw[qx];exact⟨k,h1,h2⟩⟩)
    have n2:∀k∈(je ns j).2.2,k∉gone:=fun k h1 h2=>hy ((hA j).2 ⟨by omega,by rw[qx];exact⟨k,h1,h2⟩⟩)
    exact qC.2 ⟨ha.1,ha.2.1,by rw[Qp h.gn (hk i hi) n1,Qp h.gn (hk j hj) n2];exact ha.2.2⟩
 gn:=h'.gn
 gr:=h'.gr
 gn1:=uC h'.gn1 hAl
theorem zbo{ns:List Nd}{old of sz:List Int}(hk:xj ns)(h:Zu ns old of sz []):∀i j:Nat,i<ns.length->j<ns.length->(zD of i=zD of j↔zD (V4 ns) i=zD (V4 ns) j):=by
 have hs:zcr ns of:=by
  intro i j hi hj e;have ha:=qC.1 (h.al i j hi hj e);refine qC.2 ⟨ha.1,ha.2.1,?_⟩;rw[Qp (gone:=[]) h.gn (hk i hi) (fun k _ hm=>by simp at hm),Qp (gone:=[]) h.gn (hk j hj) (fun k _ hm=>by simp at hm)];exact ha.2.2
 exact fun i j hi hj=>XZ hs h.c1 (zab ns) (zaw hk) hi hj
end Go.Proofs.YtpbnmhnbkfnaeaaGreatDoor
namespace Go.Proofs.YtpbnmhnbkfnaeaaGreatDoor
open Go.RowKit Nt
def zgt(l:List UInt8):Nat:=l.foldl (fun a c=>a*10+(c.toNat-48)) 0
theorem Zy{i:Nat}(h:i<10):(UInt8.ofNat (48+i)).toNat=48+i:=by simp[dw];omega
theorem yK(u:Nat):zgt (Go.Lib.decDigits u)=u/\∀c∈Go.Lib.decDigits u,c≠32:=by
 induction u using Nat.strongRecOn with
 |_ u ih=>
  rw[Go.Lib.decDigits];by_cases h:u<10
  . rw[dif_pos h]
    refine⟨?_,fun c hc=>?_⟩
    . simp only[zgt,List.foldl_cons,List.foldl_nil];rw[Zy h];omega
    . have:c=UInt8.ofNat (48+u):=by simpa using hc
      subst this;intro e;have:=uB UInt8.toNat e;rw[Zy h]at this;simp at this;omega
  . rw[dif_neg h]
    obtain⟨a,b⟩:=ih (u/10) (by omega);have hd:u%10<10:=by omega
    refine⟨?_,fun c hc=>?_⟩
    . unfold zgt at a⊢
      rw[List.foldl_append,a];simp only[List.foldl_cons,List.foldl_nil];rw[Zy hd];omega
    . rcases uA.1 hc with hc|hc
      . exact b c hc
      . have:c=UInt8.ofNat (48+u%10):=by simpa using hc
        subst this;intro e;have:=uB UInt8.toNat e;rw[Zy hd]at this;simp at this;omega
def wr1(g:Int):List UInt8:=Go.Lib.decDigits g.toNat++[32]
def QH(gs:List Int):List UInt8:=gs.flatMap wr1
theorem zgU{a b r s:List UInt8}(ha:∀c∈a,c≠32)(hb:∀c∈b,c≠32)(h:a++32::r=b++32::s):a=b/\r=s:=by
 induction a generalizing b with
 |nil=>
  cases b with
  |nil=>simpa using h
  |cons x b=>simp at h;exact absurd h.1.symm (hb x (by simp))
 |cons y a ih=>
  cases b with
  |nil=>simp at h;exact absurd h.1 (ha y (by simp))
  |cons x b=>
   simp only[UD,ww]at h;obtain⟨e1,e2⟩:=ih (fun c hc=>ha c (by simp[hc])) (fun c hc=>hb c (by simp[hc])) h.2;exact⟨by rw[h.1,e1],e2⟩
theorem zgy{g h:Int}{r s:List UInt8}(hg:0<=g)(hh:0<=h)(e:wr1 g++r=wr1 h++s):g=h/\r=s:=by
 unfold wr1 at e;rw[U4,U4,List.singleton_append,List.singleton_append]at e;obtain⟨e1,e2⟩:=zgU (yK _).2 (yK _).2 e;refine⟨?_,e2⟩;have:=uB zgt e1;rw[(yK _).1,(yK _).1]at this;omega
theorem zcq:∀ {gs hs:List Int},(∀g∈gs,0<=g)->(∀g∈hs,0<=g)->QH gs=QH hs->gs=hs
 | [],[],_,_,_=>rfl
 | [],h::hs,_,_,e=>by simp[QH,wr1]at e
 |g::gs,[],_,_,e=>by simp[QH,wr1]at e
 |g::gs,h::hs,h1,h2,e=>by
  simp only[QH,List.flatMap_cons]at e;obtain⟨a,b⟩:=zgy (h1 g (by simp)) (h2 h (by simp)) e;rw[a,zcq (fun x hx=>h1 x (by simp[hx])) (fun x hx=>h2 x (by simp[hx])) b]
end Go.Proofs.YtpbnmhnbkfnaeaaGreatDoor
namespace Go.Proofs.YtpbnmhnbkfnaeaaGreatDoor
open Go.RowKit Go.Shelf Nt
attribute [local go_sem] wO
def bv(cs:List Bool):List Value:=cs.map Value.bool
theorem XB{P:Program}{t e:TypeId}{i:TypeInfo}{z:Value}{bytes:Nat}(ht:P.underlying t=some (.slice e))(hi:P.info? e=some i)(hz:i.zero=some z)(hs:i.size=1)(hb:i.bytes=bytes)(hc:z.cells=#[z])(n:Nat)(hn:bytes*n<=281474976710656)(hn2:n<=281474976710656)(W:World):
  (Instr.makeSlice t (.int .i64 (n:Int)) (.int .i64 (n:Int))).run P W=.ok (.slice (some ⟨W.heap.size,0,none⟩) n n) (W.alloc (.cells (madeCells #[z] n) e)):=by
 have h:=run_make (P:=P) W t e i z ht hi hz .i64 .i64 (n:Int) (n:Int) (by omega) (by omega) (by rw[hb,<-Int.natCast_mul];omega) (by omega);rw[hc,hs]at h;simpa using h
theorem Vm{w:World}{base e:Nat}{z:Value}{n:Nat}(hb:base<=w.heap.size)(hn:n<=maxLen):(w.alloc (.cells (madeCells #[z] n) e)).ownsRow base e 1 (.slice (some ⟨w.heap.size,0,none⟩) n n) n (List.replicate n z):=by
 have:=wh (base:=base) (e:=e) (size:=1) w (madeCells #[z] n) n hb hn (by rw[size_madeCells];omega);rwa[Ul]at this
theorem zS{S:Nat->Prop}{w w':World}{base n size:Nat}{v:Value}{e:TypeId}{xs:List Value}(ho:w.ownsRow base e size v n xs)(k:Kept S w w')(hs:∀b,v.ownBlock=some b->¬S b):w'.ownsRow base e size v n xs:=by
 refine⟨ho.1,?_⟩;rcases ho.2 with h|⟨g1,c1,k1,rfl,h1,hg1,h2⟩
 . exact .inl h
 . refine .inr ⟨g1,c1,k1,rfl,h1,?_,h2⟩
   rw[k.block g1 (uu.1 hg1).1 (hs g1 rfl)];exact hg1
theorem zX{w:World}{base n size:Nat}{v:Value}{e:TypeId}{xs:List Value}(ho:w.ownsRow base e size v n xs){b:Nat}(h:v.ownBlock=some b):base<=b/\b<w.heap.size:=ho.lt b h
theorem Boxed.keptS{S:Nat->Prop}{w w':World}{b:Nat}{t:TypeId}{v:Value}(h:Boxed w b t v)(k:Kept S w w')(hS:¬S b):Boxed w' b t v:=(k.block b h.lt hS).trans h
def ApartV(a b:Value):Prop:=∀k,a.ownBlock=some k->b.ownBlock≠some k
theorem ApartV.symm{a b:Value}(h:ApartV a b):ApartV b a:=fun k h1 h2=>h k h2 h1
theorem ApartV.lies{w:World}{a b b':Value}{base n size:Nat}{e:TypeId}{xs:List Value}(h:ApartV a b)(ha:w.ownsRow base e size a n xs)(hl:zfq w b b'):ApartV a b':=by
 intro k h1 h2;rcases hl with hl|⟨k',hl,hk⟩
 . exact h k h1 (by rw[<-hl];exact h2)
 . have:=zX ha h1
   rw[hl]at h2;injection h2 with h2;omega
theorem Marks.not_row{B:Nat}{w:World}{Ds:List Nat}(h:Marks B w Ds){base n size:Nat}{v:Value}{e:TypeId}{xs:List Value}(ho:w.ownsRow base e size v n xs){D:Nat}(hD:D∈Ds):v.ownBlock≠some D:=by
 intro e';rcases ho.2 with⟨rfl,_⟩|⟨g1,c1,k1,rfl,_,hg1,_⟩
 . simp[Value.ownBlock]at e'
 . simp[Value.ownBlock]at e'
   subst e';have:=(h.at' _ hD).2;rw[hg1]at this;cases this
def zey:Value->Nat
 | .slice _ n _=>n
 |_=>0
theorem Xz{w:World}{base n size:Nat}{v:Value}{e:TypeId}{xs:List Value}(ho:w.ownsRow base e size v n xs):zey v=n:=by
 rcases ho.2 with⟨rfl,h⟩|⟨g1,c1,k1,rfl,_⟩
 . exact h.symm
 . rfl
theorem Q4{B:Nat}{w w':World}{base n size:Nat}{v:Value}{e:TypeId}{xs:List Value}(h:Still B w w')(ho:w.ownsRow base e size v n xs):w'.ownsRow base e size v n xs:=by
 refine⟨ho.1,?_⟩;rcases ho.2 with h1|⟨g1,c1,k1,rfl,h1,hg1,h2⟩
 . exact .inl h1
 . exact .inr ⟨g1,c1,k1,rfl,h1,h.cells g1 _ hg1 rfl,h2⟩
theorem z6{S:Nat->Prop}{W W':World}(h:Kept S W W')(hc:∀b,S b->∀o,W.heap[b]? =some o->o.isCells=true):KeepsOthers W W':=
 ⟨h.size,fun k o hk ho=>(h.block k (uu.1 hk).1 (fun hs=>by rw[hc k hs o hk]at ho;cases ho)).trans hk⟩
theorem jb{w:World}{base n size:Nat}{v:Value}{e:TypeId}{xs:List Value}(ho:w.ownsRow base e size v n xs){b:Nat}(hb:v.ownBlock=some b){o:Obj}(h:w.heap[b]? =some o):o.isCells=true:=by
 rcases ho.2 with⟨rfl,_⟩|⟨g1,c1,k1,rfl,_,hg1,_⟩
 . simp[Value.ownBlock]at hb
 . simp[Value.ownBlock]at hb
   subst hb;rw[hg1]at h;cases h;rfl
end Go.Proofs.YtpbnmhnbkfnaeaaGreatDoor
namespace Go.Proofs.YtpbnmhnbkfnaeaaGreatDoor
open Go.RowKit Go.Shelf Nt
def RowB(w0 W:World)(base:Nat)(v:Value)(ns:List Nd)(kvs:List Value):Prop:=
 kvs.length=ns.length/\W.ownsRow base 56 3 v ns.length (q8 ns kvs)/\∀(j:Nat)(nd:Nd)(kv:Value),ns[j]? =some nd->kvs[j]? =some kv->nd.2.1.length<=maxLen/\(IntsAt w0 kv nd.2.2\/W.ownsRow base 3 1 kv nd.2.2.length (iv nd.2.2))
section
variable {w0 W W':World} {base:Nat} {v v':Value} {ns:List Nd} {kvs:List Value}
theorem RowB.at(h:RowB w0 W base v ns kvs)(hb:Below w0.heap.size w0 W):NodesAt W v ns:=by
 obtain⟨hl,hr,hk⟩:=h;rcases hr.2 with⟨rfl,h0⟩|⟨g,cap,cur,rfl,hb',hg,h1,h2,h3,h4⟩
 . exact⟨none,0,by rw[h0],by omega,by unfold maxLen;omega,fun h=>absurd h (by omega)⟩
 . refine⟨_,cap,rfl,h1,h2,fun _=>⟨g,0,rfl,(uu.1 hg).1,fun j nd e1=>?_⟩⟩
   have hj:=(ui.1 e1).1;have e2:kvs[j]? =some (kvs[j]'(by omega)):=uf _;obtain⟨f0,f1,f2⟩:=QO e1 e2;obtain⟨hl2,ho⟩:=hk j nd _ e1 e2;refine⟨?_,?_,hl2,_,?_,ho.elim (fun h=>h.below hb) ZH⟩
   . rw[Uz,hr.cellAt (j*3) (by omega)];exact f0
   . rw[Uz,hr.cellAt (j*3+1) (by omega)];exact f1
   . rw[Uz,hr.cellAt (j*3+2) (by omega)];exact f2
theorem RowB.form(h:RowB w0 W base v ns kvs):∃a c,v=.slice a ns.length c:=by
 rcases h.2.1.2 with⟨rfl,h0⟩|⟨g,cap,cur,rfl,_⟩
 . exact⟨none,0,by rw[h0]⟩
 . exact⟨_,cap,rfl⟩
theorem RowB.map(h:RowB w0 W base v ns kvs)(ho:∀ {e s n}{u:Value}{xs:List Value},W.ownsRow base e s u n xs->W'.ownsRow base e s u n xs):RowB w0 W' base v ns kvs:=
 ⟨h.1,ho h.2.1,fun j nd kv e1 e2=>⟨(h.2.2 j nd kv e1 e2).1,(h.2.2 j nd kv e1 e2).2.imp id ho⟩⟩
theorem RowB.below(h:RowB w0 W base v ns kvs)(k:Below W.heap.size W W'):RowB w0 W' base v ns kvs:=h.map fun ho=>zu ho k
theorem RowB.kept{S:Nat->Prop}(h:RowB w0 W base v ns kvs)(k:Kept S W W')(hs:∀b,base<=b->b<W.heap.size->¬S b):RowB w0 W' base v ns kvs:=
 h.map fun ho=>zS ho k fun b hb hS=>hs b (zX ho hb).1 (zX ho hb).2 hS
theorem RowB.still(h:RowB w0 W base v ns kvs){B:Nat}(k:Still B W W'):RowB w0 W' base v ns kvs:=h.map fun ho=>Q4 k ho
theorem RowB.push{nd:Nd}{kv:Value}(h:RowB w0 W base v ns kvs)(ht:nd.2.1.length<=maxLen)(ho:W.ownsRow base 3 1 kv nd.2.2.length (iv nd.2.2))
  (hr:W'.ownsRow base 56 3 v' (ns.length+1) (q8 ns kvs++nd3 nd kv))(hg:W.grownBy W' v.ownBlock):RowB w0 W' base v' (ns++[nd]) (kvs++[kv]):=by
 obtain⟨hl,hrow,hk⟩:=h;have hne:3≠56:=by decide
 refine⟨by simp[hl],?_,fun j nd' kv' e1 e2=>?_⟩
 . rw[J3 hl.symm];simpa using hr
 . by_cases hj:j<ns.length
   . rw[uL hj]at e1
     rw[uL (by omega)]at e2;obtain⟨a1,a2⟩:=hk j nd' kv' e1 e2;exact⟨a1,a2.imp id fun a2=>a2.kept hg (Z5 a2 hrow hne)⟩
   . have hj2:j=ns.length:=by
      have:=(ui.1 e1).1;simp at this;omega
     subst hj2;rw[uO (ud _)]at e1;rw[uO (by omega),hl]at e2;simp at e1 e2;subst e1 e2;exact⟨ht,.inr (ho.kept hg (Z5 ho hrow hne))⟩
end
theorem Zz:∀ {ns:List Nd}{kvs:List Value},ns.length=kvs.length->(q8 ns kvs).length=ns.length*3
 | [],[],_=>rfl
 | [],_::_,h=>by simp at h
 |_::_,[],h=>by simp at h
 |_::ns,_::kvs,h=>by
  simp only[q8,uG,nd3,Uv,UG];rw[Zz (by simpa using h)];omega
theorem zd3{α:Type}{n:Nat}{P:Nat->α->Prop}(h:∀j,j<n->∃x,P j x):∃xs:List α,xs.length=n/\∀j x,xs[j]? =some x->P j x:=by
 induction n with
 |zero=>exact⟨[],rfl,fun j x h=>by simp at h⟩
 |succ n ih=>
  obtain⟨xs,hl,hx⟩:=ih fun j hj=>h j (by omega)
  obtain⟨x,hp⟩:=h n (by omega);refine⟨xs++[x],by simp[hl],fun j y hy=>?_⟩;by_cases hj:j<xs.length
  . rw[uL hj]at hy;exact hx j y hy
  . have hj2:j=n:=by
     have:=(ui.1 hy).1;simp at this;omega
    subst hj2;rw[uO (by omega),hl]at hy;simp at hy;subst hy;exact hp
theorem zes{w:World}{kv:Value}{xs:List Int}(h:IntsAt w kv xs):kv.oneCell'=true:=by obtain⟨a,c,rfl,_⟩:=h;rfl
theorem XH{w:World}{b off n c:Nat}{ns:List Nd}(h:NodesAt w (.slice (some ⟨b,off,none⟩) n c) ns):∃kvs:List Value,kvs.length=ns.length/\(∀j u,(q8 ns kvs)[j]? =some u->w.cell? ((⟨b,off,none⟩:Addr).add j)=some u)/\
  (∀(j:Nat)(nd:Nd)(kv:Value),ns[j]? =some nd->kvs[j]? =some kv->nd.2.1.length<=maxLen/\IntsAt w kv nd.2.2)/\∀u∈q8 ns kvs,u.oneCell'=true:=by
 obtain⟨kvs,hl,hk⟩:=zd3 (α:=Value) (n:=ns.length) (P:=fun j kv=>∀nd,ns[j]? =some nd->w.cell? ⟨b,off+j*3,none⟩=some (.int .i64 nd.1)/\w.cell? ⟨b,off+j*3+1,none⟩=some (.string (B nd.2.1))/\w.cell? ⟨b,off+j*3+2,none⟩=some kv/\nd.2.1.length<=maxLen/\IntsAt w kv nd.2.2) fun j hj=>by
  obtain⟨nd,hnd⟩:∃nd,ns[j]? =some nd:=⟨_,uf hj⟩
  obtain⟨kv,h0⟩:=h.node hnd;exact⟨kv,fun nd' e=>by rw[hnd]at e;cases e;exact h0⟩
 have key:∀j u,(q8 ns kvs)[j]? =some u->w.cell? ⟨b,off+j,none⟩=some u/\u.oneCell'=true:=fun j u hu=>by
  have hjl:=(ui.1 hu).1;rw[Zz hl.symm]at hjl;have hi:j/3<ns.length:=by omega
  have e1:ns[j/3]? =some (ns[j/3]'hi):=uf _;have e2:kvs[j/3]? =some (kvs[j/3]'(by omega)):=uf _;obtain⟨f0,f1,f2⟩:=QO e1 e2;obtain⟨c0,c1,c2,_,hi2⟩:=hk _ _ e2 _ e1;rcases(by omega:j=j/3*3\/j=j/3*3+1\/j=j/3*3+2)with e|e|e
  . rw[<-e,hu]at f0
    rw[<-e]at c0;rw[Ui f0];exact⟨c0,rfl⟩
  . rw[<-e,hu]at f1
    rw[Nat.add_assoc,<-e]at c1;rw[Ui f1];exact⟨c1,rfl⟩
  . rw[<-e,hu]at f2
    rw[Nat.add_assoc,<-e]at c2;rw[Ui f2];exact⟨c2,zes hi2⟩
 refine⟨kvs,hl,fun j u hu=>?_,fun j nd kv e1 e2=>(hk j kv e2 nd e1).2.2.2,fun u hu=>?_⟩
 . have e:(⟨b,off,none⟩:Addr).add j=⟨b,off+j,none⟩:=by unfold Addr.add;split<;>simp_all
   rw[e];exact(key j u hu).1
 . obtain⟨j,hj⟩:=uT hu
   exact(key j u hj).2
theorem ze0(nv:Value)(ns:List Nd)(w:World)(h:NodesAt w nv ns)(hs:ns.length<=1000):
  Calls Tryz.prog 81 #[nv] w fun e w'=>(∃v kvs,e=.returned v/\RowB w w' w.heap.size v ns kvs)/\Below w.heap.size w w':=by
 obtain⟨i0,hi,hz0,hz1,hz2⟩:=Ue Tryz.infoNode;have HN:=zb h;obtain⟨na,nc,rfl,hn1,hn2,h3⟩:=h;unfold maxLen at hn2;cases na with
 |none=>
  have h0:ns.length=0:=by
   apply uM;intro h;obtain⟨_,_,e,_⟩:=h3 (by omega);cases e
  have hns:ns=[]:=UO.1 h0;subst hns;clear h3;have hR:RowB w w w.heap.size (.slice none 0 0) [] []:=⟨rfl,Wd _ _ _ _,fun j nd kv e=>by simp at e⟩
  have HR:=zb hR;clear hR;go_enter Tryz.func81,Tryz.ntmps81;have hEQ:=fun W=>Lib.run_eql_slice_nil (P:=Tryz.prog) W 23 56 none 0 nc 0 0 WW
  go_wp2_with fail;go_ret;exact⟨⟨_,[],rfl,za HR⟩,ue _ _⟩
 |some ad=>
  obtain⟨kvs,hkl,hcells,hkids,h1c⟩:∃kvs:List Value,kvs.length=ns.length/\(∀j u,(q8 ns kvs)[j]? =some u->w.cell? (ad.add j)=some u)/\(∀(j:Nat)(nd:Nd)(kv:Value),ns[j]? =some nd->kvs[j]? =some kv->nd.2.1.length<=maxLen/\IntsAt w kv nd.2.2)/\∀u∈q8 ns kvs,u.oneCell'=true:=by
   by_cases h0:ns.length=0
   . have hns:ns=[]:=UO.1 h0
     subst hns;exact⟨[],rfl,fun j u e=>by simp[q8]at e,fun j nd kv e=>by simp at e,fun u e=>by simp[q8]at e⟩
   . obtain⟨b,off,e,_⟩:=h3 (by omega)
     cases e;exact XH (za HN)
  have HOWN:=zb (wh (base:=w.heap.size) (e:=56) (size:=3) w #[] 0 (by simp) (by unfold maxLen;omega) rfl);have hcl:∀j u,(q8 ns kvs)[j]? =some u->(w.alloc (.cells #[] 56)).cell? (ad.add j)=some u:=fun j u e=>((zf (ue w.heap.size w) (.cells #[] 56)).cell (uo _ _ (hcells j u e))).trans (hcells j u e)
  have HCL:=zb hcl;have HKD:=zb hkids;have HON:=zb h1c;have HLN:=zb (Zz hkl.symm);have HKL:=zb hkl;clear h3 hcells hcl hkids h1c hkl;go_enter Tryz.func81,Tryz.ntmps81;have hEQ:=fun W=>Lib.run_eql_slice_nil (P:=Tryz.prog) W 23 56 (some ad) ns.length nc 0 0 WW
  go_wp2_with (at_builtin;refine wpList_append_own_at _ rfl (.tmp 5) (.tmp 6) 23 rfl w.heap.size 56 i0 (.agg #[.int .i64 0,.string ⟨#[]⟩,.slice none 0 0]) 3 48 WW hi hz0 hz1 hz2 rfl (by decide) (.slice (some ⟨w.heap.size,0,none⟩) 0 0) 0 [] (by rfl) (za HOWN) ad ns.length nc (q8 ns kvs) (by rfl) (za HLN) (za HCL) (za HON) (by unfold maxLen;omega) (by omega) (by simp) ?_;intro v' w' hown hgrow _ _;have HV:=zb hown;have HG:=zb hgrow;clear hown hgrow);go_ret;have hown:=za HV;rw[Uz,UE]at hown;exact⟨⟨v',rfl,kvs,za HKL,hown,fun j nd kv e1 e2=>⟨((za HKD) j nd kv e1 e2).1,.inl ((za HKD) j nd kv e1 e2).2⟩⟩,qh (zf (ue _ _) _) (za HOWN) (za HG) (by simp)⟩
end Go.Proofs.YtpbnmhnbkfnaeaaGreatDoor
namespace Go.Proofs.YtpbnmhnbkfnaeaaGreatDoor
open Go.RowKit Go.Shelf Nt
theorem zgV(g x:Nat)(nv ov sv:Value)(ns:List Nd)(nd:Nd)(w:World)(hg:AtC3 w g nv ov sv 96)(hn:NodesAt w nv ns)(hx:ns[x]? =some nd):
  Calls Tryz.prog 76 #[.pointer (some ⟨g,0,none⟩),.int .i64 x] w fun e w'=>e=.returned (.agg #[.int .i64 nd.1,.string (B nd.2.1),.int .i64 nd.2.2.length])/\Below w.heap.size w w':=by
 have hxl:=(ui.1 hx).1;obtain⟨nb,no,nc,rfl,_,hn2,_⟩:=hn.form (by omega);obtain⟨kv,m0,m1,m2,_,hki⟩:=hn.node hx;obtain⟨ka,kc,rfl,_,hk2, -⟩:=hki;unfold maxLen at hn2 hk2;have g0:=hg.n0;have hgl:=hg.lt;have b0:=uo _ _ m0;clear hg hn hx;go_enter Tryz.func76,Tryz.ntmps76;go_wp2;refine um (v:=.agg #[.int .i64 nd.1,.string (B nd.2.1),.int .i64 nd.2.2.length]) (by simp[results,Tryz.results76,go_sem]) rfl ⟨rfl,?_⟩;exact zf (zf (ue _ _) _) _
end Go.Proofs.YtpbnmhnbkfnaeaaGreatDoor
