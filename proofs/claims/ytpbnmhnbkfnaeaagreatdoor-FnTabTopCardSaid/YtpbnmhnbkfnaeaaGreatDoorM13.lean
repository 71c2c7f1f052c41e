/- A part of the proof, put together out of smaller texts. -/
import Derived.Test.YtpbnmhnbkfnaeaaGreatDoorM0
import Derived.Test.YtpbnmhnbkfnaeaaGreatDoorM3
import Derived.Test.YtpbnmhnbkfnaeaaGreatDoorM6
import Derived.Test.YtpbnmhnbkfnaeaaGreatDoorM7
import Derived.Test.YtpbnmhnbkfnaeaaGreatDoorM9
import Derived.Test.YtpbnmhnbkfnaeaaGreatDoorM10
import Derived.Test.YtpbnmhnbkfnaeaaGreatDoorM11
import Derived.Test.YtpbnmhnbkfnaeaaGreatDoorM12
import Derived.RegionIn
import Derived.Stop.RegionWithIn
set_option linter.all false
set_option maxRecDepth 100000
set_option maxHeartbeats 32000000
namespace Go.Proofs.YtpbnmhnbkfnaeaaGreatDoor
open Go.RowKit Nt
def KT(a:Nd):Prop:=a.1=1->a.2.2=[]
theorem Xr{n:Nat}{a:Nd}(h:zT n a=true):KT a:=by
 intro h1;have c:=Vt h;rw[h1]at c;exact UO.1 (xu c)
theorem zg5{a b:Nd}(ha:KT a)(hb:KT b):zU a b=if j9 a.1 b.1≠0 then j9 a.1 b.1 else if ZN a.1 a.2.1 b.2.1≠0 then ZN a.1 a.2.1 b.2.1 else j9 a.2.2.length b.2.2.length:=by
 by_cases hs:a.1=b.1
 . rw[ul (by simpa using ku.2 hs)]
   by_cases h1:a.1=1
   . have e:j9 a.2.2.length b.2.2.length=0:=by rw[ha h1,hb (hs ▸ h1)];rfl
     rw[ZE hs h1,e];by_cases ht:a.2.1=b.2.1
     . rw[ht,Yj]
       have:ZN a.1 b.2.1 b.2.1=0:=by unfold ZN;rw[uj (.inr rfl)];exact(qU _ _).2.2.1.2 rfl
       rw[this];rfl
     . have:ZN a.1 a.2.1 b.2.1=Z0 (j5 a.2.1) (j5 b.2.1):=by unfold ZN;rw[ul (by rintro(h|h);exact h h1;exact ht h)]
       rw[this]
       split
       . rfl
       . omega
   . have ht':ZN a.1 a.2.1 b.2.1=Lib.compareBytes a.2.1 b.2.1:=by unfold ZN;rw[uj (.inl h1)]
     rw[ht'];by_cases ht:a.2.1=b.2.1
     . rw[ZD hs h1 ht,ul (by simpa using(qU _ _).2.2.1.2 ht)]
     . rw[Za hs h1 ht,uj (fun e=>ht ((qU _ _).2.2.1.1 e))]
 . rw[xZ hs,uj (fun e=>hs (ku.1 e))]
theorem zda(a b:Nd)(a1 a2:Option Addr)(c1 c2:Nat)(w:World)(ha:KT a)(hb:KT b)(ht1:a.2.1.length<=1000)(ht2:b.2.1.length<=1000)(hT:Tens w)(h3:3<w.heap.size):
  Calls Tryz.prog 62 #[.agg #[.int .i64 a.1,.string (B a.2.1),.slice a1 a.2.2.length c1],.agg #[.int .i64 b.1,.string (B b.2.1),.slice a2 b.2.2.length c2]] w fun e w'=>e=.returned (.int .i64 (zU a b))/\Below w.heap.size w w':=by
 have HQ:=zb (zg5 ha hb);obtain⟨R,hR⟩:∃R,zU a b=R:=⟨_,rfl⟩
 rw[hR]at HQ⊢;clear hR ha hb;obtain⟨s1,t1,k1⟩:=a;obtain⟨s2,t2,k2⟩:=b;simp only at *;have HB:=zb (jy w (.int .i64 s1) (.string (B t1)) (.slice a1 k1.length c1) (.int .i64 s2) (.string (B t2)) (.slice a2 k2.length c2) 56);have HA1:=zb ((AtC3.new w (.int .i64 s1) (.string (B t1)) (.slice a1 k1.length c1) 56).below (zf (ue _ _) (.cells #[.int .i64 s2,.string (B t2),.slice a2 k2.length c2] 56)));have HA2:=zb (AtC3.new (w.alloc (.cells #[.int .i64 s1,.string (B t1),.slice a1 k1.length c1] 56)) (.int .i64 s2) (.string (B t2)) (.slice a2 k2.length c2) 56);rw[uk]at HA2;have HT:=zb (fun W h=>(⟨hT.belowB (w':=W) h h3,uJ h3 h.size⟩:Tens W/\3<W.heap.size));have HX:=zb (fun W h=>zdz s1 s2 t1 t2 a1 a2 k1.length k2.length c1 c2 W ht1 ht2 (za HT W h).1 (za HT W h).2);have HI:=zb (fun W=>K7 s1 s2 W);have HL:=zb (fun W=>K7 k1.length k2.length W);obtain⟨x,hx⟩:∃x,j9 s1 s2=x:=⟨_,rfl⟩
 obtain⟨y,hy⟩:∃y,ZN s1 t1 t2=y:=⟨_,rfl⟩
 obtain⟨z,hz⟩:∃z,j9 k1.length k2.length=z:=⟨_,rfl⟩
 rw[hx]at HI;rw[hy]at HX;rw[hz]at HL;rw[hx,hy,hz]at HQ;obtain⟨m1,hm1⟩:∃m,k1.length=m:=⟨_,rfl⟩
 obtain⟨m2,hm2⟩:∃m,k2.length=m:=⟨_,rfl⟩
 rw[hm1]at HB HA1 HA2 HX HL⊢;rw[hm2]at HB HA1 HA2 HX HL⊢;clear hx hy hz hm1 hm2 hT h3 ht1 ht2 HT;go_enter Tryz.func62,Tryz.ntmps62;go_wp2_with fail;obtain⟨W,hW⟩:∃W,(w.alloc (.cells #[.int .i64 s1,.string (B t1),.slice a1 m1 c1] 56)).alloc (.cells #[.int .i64 s2,.string (B t2),.slice a2 m2 c2] 56)=W:=⟨_,rfl⟩
 rw[hW]at HB HA1 HA2⊢;clear hW;refine(za HI W).mono ?_;rintro e w'⟨rfl,rfl⟩;by_cases hx0:x=0
 . subst hx0
   have p0:=(za HA1).n0;have p1:=(za HA1).n1;have p2:=(za HA1).n2;have q0:=(za HA2).n0;have q1:=(za HA2).n1;have q2:=(za HA2).n2;go_wp2_with fail;refine(za HX w' (za HB)).mono ?_;rintro e w2⟨rfl,hb2⟩;have HB2:=zb (zi (za HB) hb2);have r2:=((za HA1).below hb2).n2;have u2:=((za HA2).below hb2).n2;clear p0 p1 p2 q0 q1 q2 hb2;by_cases hy0:y=0
   . subst hy0
     obtain rfl:R=z:=by simpa using za HQ
     clear HQ;go_wp2_with fail;refine(za HL w2).mono ?_;rintro e w3⟨rfl,rfl⟩;go_wp2_with fail;go_ret;exact⟨rfl,za HB2⟩
   . have k:(y != 0)=true:=by simp[hy0]
     obtain rfl:R=y:=by simpa[hy0]using za HQ
     clear HQ;go_wp2_with fail;go_ret;exact⟨rfl,za HB2⟩
 . have k:(x != 0)=true:=by simp[hx0]
   obtain rfl:R=x:=by simpa[hx0]using za HQ
   clear HQ;go_wp2_with fail;go_ret;exact⟨rfl,za HB⟩
end Go.Proofs.YtpbnmhnbkfnaeaaGreatDoor
namespace Go.Proofs.YtpbnmhnbkfnaeaaGreatDoor
open Go.RowKit Nt
structure KC(W W':World):Prop where
 size:W.heap.size<=W'.heap.size
 cells:∀(b:Nat)(o:Obj),W.heap[b]? =some o->o.isCells=true->W'.heap[b]? =some o
theorem KC.refl(W:World):KC W W:=⟨ud _,fun _ _ h _=>h⟩
theorem KC.trans{A B C:World}(h:KC A B)(k:KC B C):KC A C:=⟨uC h.size k.size,fun b o e ho=>k.cells b o (h.cells b o e ho) ho⟩
theorem KC.of_below{W W':World}(h:Below W.heap.size W W'):KC W W':=⟨h.size,fun b _ e _=>(h.block b (uu.1 e).1).trans e⟩
theorem KC.put{W:World}{l:Nat}{o o':Obj}(h:W.heap[l]? =some o)(ho:o.isCells=false):KC W (W.putObj l o'):=
 ⟨by simp,fun b p e hp=>by
  refine(World.putObj_heap_other (fun q=>?_)).trans e;rw[q,h]at e;cases e;rw[ho]at hp;cases hp⟩
def Turns{β:Type}(B:Nat)(J:β->World->Prop):Prop:=∀s W W' row,J s W->W.grownBy W' row->(∀r,row=some r->B<=r)->J s W'
def YT{β:Type}(B:Nat)(J:β->World->Prop):Prop:=∀s W W' row,J s W->W.grownBy W' row->(∀r,row=some r->B<=r/\∃o,W.heap[r]? =some o/\o.isCells=true)->J s W'
theorem Turns.and{β:Type}{B:Nat}{I J:β->World->Prop}(h:Turns B I)(k:Turns B J):Turns B (fun s W=>I s W/\J s W):=fun s W W' row hs hg hr=>⟨h s W W' row hs.1 hg hr,k s W W' row hs.2 hg hr⟩
theorem Turns.pure{β:Type}(B:Nat)(p:β->Prop):Turns B (fun s(_:World)=>p s):=fun _ _ _ _ hs _ _=>hs
theorem Turns.below{β:Type}{n₀ B:Nat}{w₀:World}(hn:n₀<=w₀.heap.size)(hB:n₀<=B):Turns B (fun(_:β) W=>Below n₀ w₀ W):=
 fun _ _ _ _ hs hg hr=>hs.grown hg (uC hn hs.size) (fun k e=>uC hB (hr k e))
variable {F:Fence} {n:Nat} {P:Program}
def zht{α:Type}(F:Fence)(n:Nat)(P:Program)(g:Nat)(lb:Array Value)(encs:α->Array Value)(L:List α)(w:World):Prop:=
 ∀(l:Nat)(J Jx:List α->World->Prop)(W:World),Below w.heap.size w W->YT W.heap.size J->YT W.heap.size Jx->
  (∀pre x W1,J pre W1->(pre++[x])<+:L->YieldAt F (n-1) P l (encs x) W1 fun e W'=>
   (e=.returned (.bool true)/\J (pre++[x]) W'/\KC W1 W')\/(e=.returned (.bool false)/\Jx (pre++[x]) W'))->
  J [] W->
  CallsIn F n P g (#[.func (.yield l) #[] #[]]++lb) W fun e W'=>(∃v,e=.returned v)/\(J L W'\/(∃pre,pre<+:L/\Jx pre W'))
def zhs{α:Type}(B:Nat)(I Ix:List α->World->Prop)(xs:List α)(W:World):Exit->Act->World->Prop
 | .normal,_,W'=>KeepsFrom B W W'/\KC W W'/\I xs W'
 | .ret,_,W'=>KeepsFrom B W W'/\Ix xs W'
 | .exit _,_,_=>False
 | .goto _,_,_=>False
 | .panic _,_,_=>False
 | .outgrown,_,_=>False
def Recs(W:World)(D l:Nat)(r:Loop):Prop:=W.heap[l]? =some (.loop r)/\W.heap[D]? =some (.deferred (some []))
theorem Recs.put{W:World}{D l:Nat}{r:Loop}(h:Recs W D l r)(hne:D≠l)(r':Loop):Recs (W.putObj l (.loop r')) D l r':=
 ⟨World.putObj_heap_same (uu.1 h.1).1,(World.putObj_heap_other hne).trans h.2⟩
theorem Recs.from{W W':World}{B D l:Nat}{r:Loop}(h:Recs W D l r)(k:KeepsFrom B W W')(hD:B<=D)(hl:B<=l):Recs W' D l r:=
 ⟨k.same _ _ hl h.1 rfl,k.same _ _ hD h.2 rfl⟩
theorem Recs.turn{W W':World}{D l:Nat}{r:Loop}{row:Option Nat}(h:Recs W D l r)(hg:W.grownBy W' row)(hr:∀k,row=some k->∃o,W.heap[k]? =some o/\o.isCells=true):Recs W' D l r:=by
 have hk:∀ {b:Nat}{o:Obj},W.heap[b]? =some o->o.isCells=false->W'.heap[b]? =some o:=fun{b o} e ho=>by
  refine(hg.block b (uu.1 e).1 (fun q=>?_)).trans e;obtain⟨p,hp,hc⟩:=hr b q.symm;rw[e]at hp;cases hp;rw[ho]at hc;cases hc
 exact⟨hk h.1 rfl,hk h.2 rfl⟩
theorem Turns.put{β:Type}{B:Nat}{I:β->World->Prop}(h:Turns B I){s:β}{W:World}{l:Nat}(hl:B<=l)(hs:I s W)(o:Obj):I s (W.putObj l o):=
 h s W _ (some l) hs (grownBy_putObj' W l o) (fun r e=>by cases e;exact hl)
theorem Turns.new{β:Type}{B:Nat}{I:β->World->Prop}(h:Turns B I){s:β}{W:World}(hs:I s W)(o:Obj):I s (W.alloc o):=
 h s W _ none hs (World.grownBy_alloc W o none) (fun r e=>by cases e)
end Go.Proofs.YtpbnmhnbkfnaeaaGreatDoor
namespace Go.Proofs.YtpbnmhnbkfnaeaaGreatDoor
def xd(kids:Int->Int->List (Int×Int)):Nat->Nat->List (Int×Int)->List (Int×Int)
 |0,_,l=>l
 |f+1,i,l=>match l[i]? with
  |none=>l
  |some (a,b)=>xd kids f (i+1) (qG l (kids a b))
def Jz(c:Int->Int->Int):List (Int×Int)->Int
 | []=>0
 |x::r=>if c x.1 x.2=0 then Jz c r else c x.1 x.2
theorem zb1(l ks:List (Int×Int)):l<+:qG l ks:=by
 obtain⟨r,hr⟩:=y6 (ks:=ks) (l:=l);exact⟨r,hr.symm⟩
theorem Kl(kids:Int->Int->List (Int×Int)):∀(f i:Nat)(l:List (Int×Int)),l<+:xd kids f i l
 |0,_,l=>⟨[],by simp[xd]⟩
 |f+1,i,l=>by
  unfold xd;cases h:l[i]? with
  |none=>exact⟨[],by simp⟩
  |some x=>exact(zb1 l (kids x.1 x.2)).trans (Kl kids f (i+1) _)
theorem zb9{α:Type}{l L:List α}(h:l<+:L){i:Nat}{x:α}(hx:l[i]? =some x):L[i]? =some x:=by
 obtain⟨r,rfl⟩:=h;rw[uL (ui.1 hx).1,hx]
theorem zfj{c:Int->Int->Int}{kids:Int->Int->List (Int×Int)}{n m:Nat}(hk:∀a b,vT n m (a,b)->∀x∈kids a b,vT n m x):
  ∀ {f i:Nat}{l:List (Int×Int)},l.Nodup->(∀x∈l,vT n m x)->i<=l.length->n*m<f+i->qA c kids f i l=Jz c ((xd kids f i l).drop i)/\(xd kids f i l).Nodup/\(∀x∈xd kids f i l,vT n m x):=by
 intro f
 induction f with
 |zero=>
  intro i l hn hl hi hf;have:=jz hn hl;omega
 |succ f ih=>
  intro i l hn hl hi hf;unfold qA xd;cases h:l[i]? with
  |none=>
   have:=U6.1 h;simp only;rw[wT this];exact⟨rfl,hn,hl⟩
  |some x=>
   obtain⟨a,b⟩:=x;simp only;have hab:=hl _ (un h);obtain⟨h1,h2,r,hr⟩:=yi hn hl (hk a b hab);have hlen:i+1<=(qG l (kids a b)).length:=by
    have:=(ui.1 h).1;rw[hr,uG];omega
   obtain⟨w1,w2,w3⟩:=ih h1 h2 hlen (by omega);have hg:(xd kids f (i+1) (qG l (kids a b)))[i]? =some (a,b):=zb9 ((zb1 l _).trans (Kl kids f (i+1) _)) h;have hd:(xd kids f (i+1) (qG l (kids a b))).drop i=(a,b)::(xd kids f (i+1) (qG l (kids a b))).drop (i+1):=by
    obtain⟨hlt,e⟩:=ui.1 hg;rw[Uk hlt,e]
   refine⟨?_,w2,w3⟩;have e:∀r,Jz c ((a,b)::r)=if c a b=0 then Jz c r else c a b:=fun _=>rfl
   rw[hd,w1,e]
theorem Xh{c:Int->Int->Int}:∀ {l:List (Int×Int)},(∀x∈l,c x.1 x.2=0)->Jz c l=0
 | [],_=>rfl
 |x::r,h=>by
  unfold Jz;rw[uj (h x UK)];exact Xh (fun y hy=>h y (Uw _ hy))
theorem zek{c:Int->Int->Int}{x:Int×Int}(hx:c x.1 x.2≠0):∀ {pre L:List (Int×Int)},(pre++[x])<+:L->(∀y∈pre,c y.1 y.2=0)->Jz c L=c x.1 x.2
 | [],L,⟨r,hr⟩,_=>by
  subst hr;show Jz c (x::r)=_;unfold Jz;rw[ul hx]
 |y::pre,L,⟨r,hr⟩,h=>by
  subst hr;show Jz c (y::(pre++[x]++r))=_;unfold Jz;rw[uj (h y UK)];exact zek hx ⟨r,rfl⟩ (fun z hz=>h z (Uw _ hz))
def zdN(ns ms:List Nd)(a b:Int):List (Int×Int):=xd (vh ns ms) (ns.length*ms.length+1) 0 [(a,b)]
theorem zcB{ns ms:List Nd}(hn:ns.all (zT ns.length)=true)(hm:ms.all (zT ms.length)=true){a b:Int}(hab:vT ns.length ms.length (a,b)):
  jf ns ms a b=Jz (kZ ns ms) (zdN ns ms a b)/\∀x∈zdN ns ms a b,vT ns.length ms.length x:=by
 have h:=zfj (c:=kZ ns ms) (jO hn hm) (f:=ns.length*ms.length+1) (i:=0) (l:=[(a,b)]) (by simp) (fun x hx=>by
  have:x=(a,b):=by simpa using hx
  rw[this];exact hab) (by simp) (by omega)
 exact⟨h.1,h.2.2⟩
def Lst(ns ms:List Nd)(L:List (Int×Int))(i:Nat)(l:List (Int×Int)):Prop:=∀f,ns.length*ms.length<f+i->xd (vh ns ms) f i l=L
theorem zez{kids:Int->Int->List (Int×Int)}{n m:Nat}(hk:∀a b,vT n m (a,b)->∀x∈kids a b,vT n m x):
  ∀ {f g i:Nat}{l:List (Int×Int)},l.Nodup->(∀x∈l,vT n m x)->n*m<f+i->n*m<g+i->xd kids f i l=xd kids g i l:=by
 intro f
 induction f with
 |zero=>
  intro g i l hn hl hf hg;have:=jz hn hl;cases g with
  |zero=>rfl
  |succ g=>
   unfold xd;rw[UM (by omega)]
 |succ f ih=>
  intro g i l hn hl hf hg;cases g with
  |zero=>
   have:=jz hn hl;unfold xd;rw[UM (by omega)]
  |succ g=>
   unfold xd;cases h:l[i]? with
   |none=>rfl
   |some x=>
    obtain⟨a,b⟩:=x;simp only;obtain⟨h1,h2,_⟩:=yi hn hl (hk a b (hl _ (un h)));exact ih h1 h2 (by omega) (by omega)
theorem Lst.start{ns ms:List Nd}(hn:ns.all (zT ns.length)=true)(hm:ms.all (zT ms.length)=true){a b:Int}(hab:vT ns.length ms.length (a,b)):Lst ns ms (zdN ns ms a b) 0 [(a,b)]:=fun f hf=>
 zez (jO hn hm) (by simp) (fun x hx=>by
  have:x=(a,b):=by simpa using hx
  rw[this];exact hab) (by omega) (by omega)
theorem Lst.done{ns ms:List Nd}{L:List (Int×Int)}{l:List (Int×Int)}(h:Lst ns ms L l.length l):L=l:=by
 rw[<-h (ns.length*ms.length+1) (by omega)];unfold xd;rw[UM (ud _)]
theorem Lst.pre{ns ms:List Nd}{L:List (Int×Int)}{i:Nat}{l:List (Int×Int)}(h:Lst ns ms L i l):l<+:L:=by
 rw[<-h (ns.length*ms.length+1) (by omega)];exact Kl _ _ _ _
theorem Lst.next{ns ms:List Nd}{L:List (Int×Int)}{i:Nat}{l:List (Int×Int)}(h:Lst ns ms L i l){a b:Int}(hx:l[i]? =some (a,b)):Lst ns ms L (i+1) (qG l (vh ns ms a b)):=fun f hf=>by
 rw[<-h (f+1) (by omega)]
 conv=>rhs;unfold xd
 rw[hx]
end Go.Proofs.YtpbnmhnbkfnaeaaGreatDoor
namespace Go.Proofs.YtpbnmhnbkfnaeaaGreatDoor
open Go.RowKit Nt
structure Steps(B:Nat)(W W':World):Prop where
 bl:Below B W W'
 tr:∀ {β:Type}(J:β->World->Prop)(s:β),YT B J->J s W->J s W'
theorem Steps.refl(B:Nat)(W:World):Steps B W W:=⟨ue _ _,fun _ _ _ h=>h⟩
theorem Steps.trans{B:Nat}{A C D:World}(h:Steps B A C)(k:Steps B C D):Steps B A D:=⟨h.bl.trans k.bl,fun J s hJ hs=>k.tr J s hJ (h.tr J s hJ hs)⟩
theorem Steps.below{B:Nat}{W W':World}(hB:B<=W.heap.size)(h:Below W.heap.size W W'):Steps B W W':=
 ⟨h.mono hB,fun J s hJ hs=>hJ s W W' none hs ⟨h.os,h.tape,h.output,h.size,fun k hk _=>h.block k hk⟩ (fun r e=>by cases e)⟩
theorem Steps.set{B:Nat}{W:World}{b i:Nat}{cs:Array Value}{T:TypeId}(h:AtC W b cs T)(hB:B<=b)(u:Value):Steps B W (W.setCell ⟨b,i,none⟩ u):=
 ⟨(ue B W).setCell (p:=⟨b,i,none⟩) hB u,fun J s hJ hs=>hJ s W _ (some b) hs ⟨rfl,rfl,rfl,by simp,fun k _ hk=>Uj _ _ _ k (fun e=>hk (by rw[e]))⟩ (fun r e=>by cases e;exact⟨hB,_,h,rfl⟩)⟩
theorem Steps.grown{B base size k:Nat}{W W':World}{e:TypeId}{v:Value}{xs:List Value}(h:W.ownsRow base e size v k xs)(hg:W.grownBy W' v.ownBlock)(hB:B<=base)(hW:B<=W.heap.size):Steps B W W':=by
 have hr:∀r,v.ownBlock=some r->B<=r/\∃o,W.heap[r]? =some o/\o.isCells=true:=fun r e=>by
  rcases h.2 with⟨rfl,_⟩|⟨g,c,cur,rfl,hb,hg,_⟩
  . cases e
  . simp[Value.ownBlock]at e
    subst e;exact⟨by omega,_,hg,rfl⟩
 exact⟨(ue B W).grown hg hW (fun r e=>(hr r e).1),fun J s hJ hs=>hJ s W W' _ hs hg hr⟩
theorem AtC.put1{w:World}{b i:Nat}{cs:Array Value}{T:TypeId}(h:AtC w b cs T)(u:Value):AtC (w.setCell ⟨b,i,none⟩ u) b (cs.setIfInBounds i u) T:=by
 show(w.heap.modify b _)[b]? =_;rw[UN,uj rfl,show w.heap[b]? =_ from h];rfl
def XE(m:Nat)(l:List (Int×Int))(k:Nat):Bool:=decide ((((k/m:Nat):Int),((k%m:Nat):Int))∈l)
def xO(m nm:Nat)(l:List (Int×Int)):Array Value:=((List.range nm).map fun k=>Value.bool (XE m l k)).toArray
theorem Vp{m nm k:Nat}{l:List (Int×Int)}(h:k<nm):(xO m nm l)[k]? =some (.bool (XE m l k)):=by
 unfold xO;simp[h]
theorem zc8(m:Nat)(l:List (Int×Int))(k j:Nat):XE m (l++[(((k/m:Nat):Int),((k%m:Nat):Int))]) j=(XE m l j||decide (j=k)):=by
 have hq:(((j/m:Nat):Int),((j%m:Nat):Int))=(((k/m:Nat):Int),((k%m:Nat):Int))↔j=k:=by
  constructor
  . intro q
    rw[wS]at q;have h1:j/m=k/m:=by omega
    have h2:j%m=k%m:=by omega
    have h3:=WS j m;have h4:=WS k m;rw[h1,h2]at h3;omega
  . rintro rfl;rfl
 unfold XE;rw[UW,ut,Ur,ut,ut,uA,dz,hq]
theorem zeF{m nm k:Nat}{l:List (Int×Int)}(h:k<nm):(xO m nm l).setIfInBounds k (.bool true)=xO m nm (l++[(((k/m:Nat):Int),((k%m:Nat):Int))]):=by
 apply Array.ext_getElem?;intro j;rw[wL];by_cases hj:j<nm
 . rw[Vp hj,Vp hj,zc8]
   by_cases e:k=j
   . subst e
     rw[uj rfl,uj (by simpa[xO]using h),uy rfl,Bool.or_true]
   . rw[ul e,uw (fun q=>e q.symm),Bool.or_false]
 . have e:∀l,(xO m nm l)[j]? =none:=fun l=>by simp[xO,dk hj]
   rw[e,e,ul (by omega)]
theorem zg3{m n:Nat}{x y:Int}(h:vT n m (x,y)):∃k:Nat,k<n*m/\(k:Int)=x*m+y/\((k/m:Nat):Int)=x/\((k%m:Nat):Int)=y:=by
 obtain⟨⟨x0,x1⟩,y0,y1⟩:=h;simp only at x0 x1 y0 y1;obtain⟨a,rfl⟩:=dr x0;obtain⟨b,rfl⟩:=dr y0;have ha:a<n:=by omega
 have hb:b<m:=by omega
 refine⟨a*m+b,?_,by push_cast;rfl,?_,?_⟩
 . calc a*m+b<a*m+m:=by omega
    _=(a+1)*m:=by rw[Nat.succ_mul]
    _<=n*m:=U5 _ ha
 . rw[uE,Nat.mul_add_div (by omega),wY hb];rfl
 . rw[uE,Nat.mul_add_mod,Uu hb]
structure MeetS(W:World)(B g mB pB m nm:Nat)(l:List (Int×Int)):Prop where
 gm:AtC W g (xO m nm l) 4
 mb:AtC W mB #[.slice (some ⟨g,0,none⟩) nm nm] 126
 pb:∃v,AtC W pB #[v] 127/\RowP W B 129 v l
 lg:B<=g
 lm:B<=mB
 lp:B<=pB
theorem MeetS.below{W W':World}{B g mB pB m nm:Nat}{l:List (Int×Int)}(h:MeetS W B g mB pB m nm l)(k:Below W.heap.size W W'):MeetS W' B g mB pB m nm l:=by
 obtain⟨a,b,⟨v,c,d⟩,e1,e2,e3⟩:=h;exact⟨a.below k,b.below k,⟨v,c.below k,zu d k⟩,e1,e2,e3⟩
theorem AtC.kc{w w':World}{b:Nat}{cs:Array Value}{T:TypeId}(h:AtC w b cs T)(k:KC w w'):AtC w' b cs T:=k.cells b _ h rfl
theorem zhb{w w':World}{base size n:Nat}{e:TypeId}{v:Value}{xs:List Value}(h:w.ownsRow base e size v n xs)(k:KC w w'):w'.ownsRow base e size v n xs:=by
 refine⟨h.1,?_⟩;rcases h.2 with⟨rfl,h1⟩|⟨g,cap,cur,rfl,hb,hg,r⟩
 . exact .inl ⟨rfl,h1⟩
 . exact .inr ⟨g,cap,cur,rfl,hb,k.cells g _ hg rfl,r⟩
theorem MeetS.kc{W W':World}{B g mB pB m nm:Nat}{l:List (Int×Int)}(h:MeetS W B g mB pB m nm l)(k:KC W W'):MeetS W' B g mB pB m nm l:=by
 obtain⟨a,b,⟨v,c,d⟩,e1,e2,e3⟩:=h;exact⟨a.kc k,b.kc k,⟨v,c.kc k,zhb d k⟩,e1,e2,e3⟩
theorem Tryz.infoTabPair:(Tryz.prog.info? 129).map (fun i=>(i.zero,i.size,i.bytes))=some (some (.agg #[.int .i64 0,.int .i64 0]),2,16):=by kernel_rfl
theorem QJ{w:World}{a b:Nat}{cs cs':Array Value}{T T':TypeId}(h:AtC w a cs T)(k:AtC w b cs' T')(hne:T≠T'):a≠b:=by
 rintro rfl;have e:=(show w.heap[a]? =_ from h).symm.trans k;simp at e;exact hne e.2
theorem ZG{w:World}{b base n size:Nat}{kv:Value}{T e:TypeId}{xs:List Value}{cs:Array Value}(h:AtC w b cs T)(ho:w.ownsRow base e size kv n xs)(hne:e≠T):kv.ownBlock≠some b:=by
 rcases ho.2 with⟨rfl,_⟩|⟨g1,c1,k1,rfl,_,hg1,_⟩
 . intro e;simp[Value.ownBlock]at e
 . intro q
   simp[Value.ownBlock]at q;subst q;have q:=(show w.heap[g1]? =_ from h).symm.trans hg1;simp at q;exact hne q.2.symm
theorem XM{w:World}{b base n size i:Nat}{kv u:Value}{e:TypeId}{xs:List Value}(h:w.ownsRow base e size kv n xs)(hg:kv.ownBlock≠some b):(w.setCell ⟨b,i,none⟩ u).ownsRow base e size kv n xs:=by
 refine⟨h.1,?_⟩;rcases h.2 with⟨rfl,h1⟩|⟨g1,cap,cur,rfl,hb,hg1,r⟩
 . exact .inl ⟨rfl,h1⟩
 . refine .inr ⟨g1,cap,cur,rfl,hb,?_,r⟩
   have:g1≠b:=fun e=>hg (by rw[e];rfl)
   rw[Uj _ _ _ _ this];exact hg1
theorem AtC.grown{w w':World}{b:Nat}{cs:Array Value}{T:TypeId}{row:Option Nat}(h:AtC w b cs T)(hg:w.grownBy w' row)(hne:row≠some b):AtC w' b cs T:=
 (hg.block b h.lt (U8 hne)).trans h
theorem zeA(x y:Int)(n m B bB g mB pB nc:Nat)(na:Option Addr)(l:List (Int×Int))(W:World)(hin:vT n m (x,y))(hn:n<=80)(hm:m<=80)(hl:l.length<=6400)(hb:W.cell? ⟨bB,0,none⟩=some (.slice na m nc))(hM:MeetS W B g mB pB m (n*m) l)(hBW:B<=W.heap.size):
  Calls Tryz.prog 98 #[.int .i64 x,.int .i64 y,.pointer (some ⟨bB,0,none⟩),.pointer (some ⟨mB,0,none⟩),.pointer (some ⟨pB,0,none⟩)] W fun e W'=>(∃v,e=.returned v)/\Steps B W W'/\MeetS W' B g mB pB m (n*m) (if(x,y)∈l then l else l++[(x,y)])/\∀b cs,AtC W b cs 56->AtC W' b cs 56:=by
 obtain⟨i0,hi,hz0,hz1,hz2⟩:=Ue Tryz.infoTabPair;obtain⟨k,hk,hk1,hk2,hk3⟩:=zg3 hin;have hmem:XE m l k=decide ((x,y)∈l):=by unfold XE;rw[hk2,hk3]
 have hnm:n*m<=6400:=WH hn hm;have HSET:=zb (zeF (m:=m) (l:=l) hk);rw[hk2,hk3]at HSET;have hx0:=hin.1.1;have hx1:=hin.1.2;have hy0:=hin.2.1;have hy1:=hin.2.2;simp only at hx0 hx1 hy0 hy1;obtain⟨p,hp⟩:∃p:Int,x*m=p:=⟨_,rfl⟩
 rw[hp]at hk1;have HP:=zb hp;have hp0:0<=p:=by rw[<-hp];exact Int.mul_nonneg hx0 (by omega)
 have hg0:=hM.gm.c k;rw[Vp hk,hmem]at hg0;have hgf:=hM.gm.f k;have hmb:=hM.mb.c 0;obtain⟨v,hpv,hrow⟩:=hM.pb;have HPV:=zb hpv;have HRW:=zb hrow;have hpb:=hpv.c 0;have hpf:=hpv.f 0;obtain⟨rp,rc,rfl⟩:=xf hrow;have HM:=zb hM;obtain⟨nm,hnm'⟩:∃q,n*m=q:=⟨_,rfl⟩
 rw[hnm']at hk hnm HM HSET hmb⊢;simp only[UL,Uy]at hmb hpb;obtain rfl:k=(p+y).toNat:=by omega
 have hpy:p+y<(nm:Int):=by omega
 have hnm2:p+y<=6400:=by omega
 clear hin hM hpv hrow hnm' hmem hp hn hk2 hk3 hk hk1;go_enter Tryz.func98,Tryz.ntmps98;have e1:wrap64 (x*(m:Int))=p:=by rw[za HP];unfold wrap64;omega
 by_cases hin:(x,y)∈l
 . rw[uy hin]at hg0
   rw[uj hin];clear HSET;go_wp2_with fail
   go_end0
   exact⟨⟨_,rfl⟩,Steps.refl _ _,za HM,fun _ _ h=>h⟩
 . rw[uw hin]at hg0
   rw[ul hin];have hgm:=(za HM).gm;have hmm:=(za HM).mb;have n1:pB≠g:=QJ (za HPV) hgm (by decide);have n2:mB≠g:=QJ hmm hgm (by decide);have ho:=ZG hgm (za HRW) (by decide);have G5:=hgm.put1 (i:=(p+y).toNat) (.bool true);rw[za HSET]at G5;have M5:=hmm.far1 (i:=(p+y).toNat) n2 (.bool true);have P5:=(za HPV).far1 (i:=(p+y).toNat) n1 (.bool true);have R5:=XM (i:=(p+y).toNat) (u:=.bool true) (za HRW) ho;have S5:=Steps.set (i:=(p+y).toNat) hgm (za HM).lg (.bool true);have z5:(W.setCell ⟨g,(p+y).toNat,none⟩ (.bool true)).heap.size=W.heap.size:=by simp
   have p5:=P5.c 0;simp only[UL,Uy]at p5;obtain⟨W5,hW5⟩:∃W5,W.setCell ⟨g,(p+y).toNat,none⟩ (.bool true)=W5:=⟨_,rfl⟩
   have HW5:=zb hW5;have p5':(W.setCell ⟨g,(p+y).toNat,none⟩ (.bool true)).cell? ⟨pB,0,none⟩=some (.slice rp l.length rc):=by rw[hW5];rw[hW5]at p5;exact p5
   rw[hW5]at G5 M5 P5 R5 S5 z5;have hal:=zf (ue W5.heap.size W5) (.cells #[.int .i64 x,.int .i64 y] 129);have G6:=zb (G5.below hal);have M6:=zb (M5.below hal);have P6:=zb (P5.below hal);have R6:=zb (zu R5 hal);have S6:=zb (S5.trans (Steps.below (by omega) hal));have HFAR:Hid (∀b cs,AtC W b cs 56->AtC (W5.alloc (.cells #[.int .i64 x,.int .i64 y] 129)) b cs 56):=zb (fun b cs h=>by
    have h5:=h.far1 (i:=(p+y).toNat) (QJ h hgm (by decide)) (.bool true);rw[hW5]at h5;exact h5.below hal)
   have HLG:=zb (And.intro (za HM).lg (And.intro (za HM).lm (za HM).lp));have hb5:B<=W5.heap.size:=by omega
   have HZ5:=zb z5;have HNEW:Hid ((W5.alloc (.cells #[.int .i64 x,.int .i64 y] 129)).heap[W.heap.size]? =some (.cells #[.int .i64 x,.int .i64 y] 129 (0,0))):=zb (by rw[<-z5];exact Un W5 _);clear hgm hmm n1 n2 ho G5 M5 P5 R5 S5 hal p5 z5 hW5 HM HPV HRW HSET;go_wp2_with (at_builtin;rw[za HW5];refine wG _ rfl (.tmp 23) (.tmp 27) 127 rfl B 129 i0 (.agg #[.int .i64 0,.int .i64 0]) 2 16 Tryz.underlying127 hi hz0 hz1 hz2 rfl (by decide) _ l.length (pv l) rfl (za R6) ⟨W.heap.size,0,none⟩ 1 1 [.int .i64 x,.int .i64 y] rfl rfl (World.news_of_block (cs:=#[.int .i64 x,.int .i64 y]) (t:=129) (fr:=(0,0)) (za HNEW)) (by intro u hu;simp at hu;rcases hu with rfl|rfl<;>rfl) (by unfold maxLen;omega) (by omega) (by have:=za HZ5;simp;omega) ?_;intro v' w7 hown7 hg7 hnil7;clear hnil7;have HP7:=zb ((za P6).grown hg7 (ZG (za P6) (za R6) (by decide)));have p7c:=(za HP7).c 0;have p7f:=(za HP7).f 0;simp only[UL,Uy]at p7c;have HOWN:=zb hown7;have HGR:=zb hg7;obtain⟨p7,c7,rfl⟩:=xf hown7;clear hown7 hg7 p5')
   go_end0
   have hg7:=za HGR;have G7:=(za G6).grown hg7 (ZG (za G6) (za R6) (by decide));have M7:=(za M6).grown hg7 (ZG (za M6) (za R6) (by decide));have S7:=(za S6).trans (Steps.grown (za R6) hg7 (ud _) (uC hBW (za S6).bl.size));have n3:g≠pB:=QJ G7 (za HP7) (by decide);have n4:mB≠pB:=QJ M7 (za HP7) (by decide);have hR7:RowP w7 B 129 (.slice p7 (l.length+1) c7) (l++[(x,y)]):=by unfold RowP;rw[zca,uG];exact za HOWN
   obtain⟨l1,l2,l3⟩:=za HLG;exact⟨⟨_,rfl⟩,S7.trans (Steps.set (i:=0) (za HP7) l3 _),⟨G7.far1 n3 _,M7.far1 n4 _,⟨_,(za HP7).put1 _,XM hR7 (ZG (za HP7) hR7 (by decide))⟩,l1,l2,l3⟩,fun b cs h=>by
    have h6:=za HFAR b cs h;have h7:=h6.grown hg7 (ZG h6 (za R6) (by decide));exact h7.far1 (QJ h7 (za HP7) (by decide)) _⟩
end Go.Proofs.YtpbnmhnbkfnaeaaGreatDoor
namespace Go.Proofs.YtpbnmhnbkfnaeaaGreatDoor
open Go.RowKit Nt
abbrev st3(w:World)(b:Nat)(u0 u1 u2:Value):World:=((w.setCell ⟨b,0,none⟩ u0).setCell ⟨b,1,none⟩ u1).setCell ⟨b,2,none⟩ u2
theorem AtC.put3{w:World}{b:Nat}{x y z:Value}{T:TypeId}(h:AtC w b #[x,y,z] T)(u v t:Value):AtC (st3 w b u v t) b #[u,v,t] T:=
 ((h.put1 (i:=0) u).put1 (i:=1) v).put1 (i:=2) t
theorem AtC.far3{w:World}{b g:Nat}{cs:Array Value}{T:TypeId}(h:AtC w g cs T)(hne:g≠b)(u v t:Value):AtC (st3 w b u v t) g cs T:=((h.far1 hne u).far1 hne v).far1 hne t
theorem Yf{B:Nat}{a w:World}(h:Below B a w){b:Nat}(hb:B<=b)(u v t:Value):Below B a (st3 w b u v t):=
 ((h.setCell (p:=⟨b,0,none⟩) hb u).setCell (p:=⟨b,1,none⟩) hb v).setCell (p:=⟨b,2,none⟩) hb t
def Bx(l:Array Bool)(k:Nat)(w:World)(g:Nat)(z c:Array Value)(T:TypeId):Prop:=(¬LL l k/\AtC w g z T)\/(LL l k/\AtC w g c T)
theorem Bx.lt{l:Array Bool}{k g:Nat}{w:World}{z c:Array Value}{T:TypeId}(h:Bx l k w g z c T):g<w.heap.size:=by
 rcases h with⟨_,h⟩|⟨_,h⟩<;>exact h.lt
theorem Bx.below{l:Array Bool}{k g:Nat}{w w':World}{z c:Array Value}{T:TypeId}(h:Bx l k w g z c T)(hb:Below w.heap.size w w'):Bx l k w' g z c T:=by
 rcases h with⟨e,h⟩|⟨e,h⟩
 . exact .inl ⟨e,h.below hb⟩
 . exact .inr ⟨e,h.below hb⟩
theorem Bx.far{l:Array Bool}{k g b:Nat}{w:World}{z c:Array Value}{T:TypeId}(h:Bx l k w g z c T)(hne:g≠b)(u0 u1 u2:Value):Bx l k (st3 w b u0 u1 u2) g z c T:=by
 rcases h with⟨e,h⟩|⟨e,h⟩
 . exact .inl ⟨e,h.far3 hne _ _ _⟩
 . exact .inr ⟨e,h.far3 hne _ _ _⟩
theorem Bx.step{l l':Array Bool}{k g:Nat}{w:World}{z c:Array Value}{T:TypeId}(h:Bx l k w g z c T)(hk:LL l' k↔LL l k):Bx l' k w g z c T:=by
 unfold Bx at h⊢;rw[hk];exact h
structure TwoB(N:Nat)(W:World)(v:Nat->Value)(z c d:Array Value)(T:TypeId)(l:Array Bool)(x:Nat->Value)(w:World):Prop where
 sz:l.size=N+4
 bl:Below W.heap.size W w
 val:∀i,i<N->LL l i->x i=v i
 f1:LL l (N+2)->LL l N
 f2:LL l (N+3)->LL l (N+1)
 b1:LL l N->∃g,x N=.pointer (some ⟨g,0,none⟩)/\W.heap.size<=g/\Bx l (N+2) w g z c T
 b2:LL l (N+1)->∃g,x (N+1)=.pointer (some ⟨g,0,none⟩)/\W.heap.size<=g/\Bx l (N+3) w g z d T
 ne:LL l N->LL l (N+1)->x N≠x (N+1)
section
variable {N:Nat} {W w w':World} {v x:Nat->Value} {z c d:Array Value} {T:TypeId} {l:Array Bool}
theorem TwoB.start(n:l=Array.replicate (N+4) false)(h:Below W.heap.size W w):TwoB N W v z c d T l x w:=by
 subst n;have hn:∀j,¬LL (Array.replicate (N+4) false) j:=fun j h=>by
  unfold LL at h;rw[we]at h
  split at h<;>simp at h
 exact⟨by simp,h,fun i _ h=>absurd h (hn _),fun h=>absurd h (hn _),fun h=>absurd h (hn _),fun h=>absurd h (hn _),fun h=>absurd h (hn _),fun h=>absurd h (hn _)⟩
theorem TwoB.next(h:TwoB N W v z c d T l x w)(i:Nat)(hi:i<N+2)(hl:¬LL l i)(u:Value)(hb:Below w.heap.size w w')(hv:i<N->u=v i)
  (hn:N<=i->u=.pointer (some ⟨w.heap.size,0,none⟩)/\AtC w' w.heap.size z T):TwoB N W v z c d T (l.setIfInBounds i true) (fun j=>if j=i then u else x j) w':=by
 have hs:=fun j=>j8 (l:=l) (i:=i) (by rw[h.sz];omega) j
 have hk:∀ {j},j≠i->(LL (l.setIfInBounds i true) j↔LL l j):=fun{j} e=>by rw[hs];simp[e]
 have hx:∀ {j},j≠i->(if j=i then u else x j)=x j:=fun{j} e=>ul e
 have hB:Below W.heap.size W w':=zi h.bl hb;refine⟨by simp[h.sz],hB,fun j hj e=>?_,fun e=>?_,fun e=>?_,fun e=>?_,fun e=>?_,fun e e'=>?_⟩
 . by_cases q:j=i
   . subst q
     show(if j=j then u else x j)=v j;rw[uj rfl];exact hv hj
   . show(if j=i then u else x j)=v j
     rw[hx q];exact h.val j hj ((hk q).1 e)
 . exact(hs N).2 (.inr (h.f1 ((hk (by omega)).1 e)))
 . exact(hs (N+1)).2 (.inr (h.f2 ((hk (by omega)).1 e)))
 . by_cases q:N=i
   . subst q
     obtain⟨e1,e2⟩:=hn (ud _);refine⟨w.heap.size,?_,h.bl.size,.inl ⟨fun q=>hl (h.f1 ((hk (by omega)).1 q)),e2⟩⟩;show(if N=N then u else x N)=_;rw[uj rfl];exact e1
   . obtain⟨g,e1,e2,e3⟩:=h.b1 ((hk q).1 e)
     refine⟨g,?_,e2,(e3.below hb).step (hk (by omega))⟩;show(if N=i then u else x N)=_;rw[hx q];exact e1
 . by_cases q:N+1=i
   . subst q
     obtain⟨e1,e2⟩:=hn (by omega);refine⟨w.heap.size,?_,h.bl.size,.inl ⟨fun q=>hl (h.f2 ((hk (by omega)).1 q)),e2⟩⟩;show(if N+1=N+1 then u else x (N+1))=_;rw[uj rfl];exact e1
   . obtain⟨g,e1,e2,e3⟩:=h.b2 ((hk q).1 e)
     refine⟨g,?_,e2,(e3.below hb).step (hk (by omega))⟩;show(if N+1=i then u else x (N+1))=_;rw[hx q];exact e1
 . show(if N=i then u else x N)≠(if N+1=i then u else x (N+1))
   by_cases q:N=i
   . subst q
     obtain⟨e1,_⟩:=hn (ud _);obtain⟨g,q1,_,q3⟩:=h.b2 ((hk (by omega)).1 e');rw[uj rfl,ul (by omega),e1,q1];intro q;simp at q;have:=q3.lt;omega
   . by_cases q':N+1=i
     . subst q'
       obtain⟨e1,_⟩:=hn (by omega);obtain⟨g,q1,_,q3⟩:=h.b1 ((hk q).1 e);rw[ul q,uj rfl,e1,q1];intro q;simp at q;have:=q3.lt;omega
     . rw[hx q,hx q']
       exact h.ne ((hk q).1 e) ((hk q').1 e')
theorem TwoB.put1{y0 y1 y2 u0 u1 u2:Value}(h:TwoB N W v #[y0,y1,y2] #[u0,u1,u2] d T l x w)(hl:¬LL l (N+2))(h1:LL l N):∃g,x N=.pointer (some ⟨g,0,none⟩)/\AtC w g #[y0,y1,y2] T/\TwoB N W v #[y0,y1,y2] #[u0,u1,u2] d T (l.setIfInBounds (N+2) true) x (st3 w g u0 u1 u2):=by
 obtain⟨g,e1,e2,e3⟩:=h.b1 h1;rcases e3 with⟨_,e3⟩|⟨e,_⟩
 . have hs:=fun j=>j8 (l:=l) (i:=N+2) (by rw[h.sz];omega) j
   have hk:∀ {j},j≠N+2->(LL (l.setIfInBounds (N+2) true) j↔LL l j):=fun{j} e=>by rw[hs];simp[e]
   refine⟨g,e1,e3,by simp[h.sz],Yf h.bl e2 _ _ _,fun j hj e=>h.val j hj ((hk (by omega)).1 e),fun _=>(hk (by omega)).2 h1,fun e=>(hk (by omega)).2 (h.f2 ((hk (by omega)).1 e)),fun _=>⟨g,e1,e2,.inr ⟨(hs _).2 (.inl rfl),e3.put3 _ _ _⟩⟩,fun e=>?_,fun e e'=>h.ne ((hk (by omega)).1 e) ((hk (by omega)).1 e')⟩;obtain⟨g',r1,r2,r3⟩:=h.b2 ((hk (by omega)).1 e);exact⟨g',r1,r2,(r3.far (fun q=>h.ne h1 ((hk (by omega)).1 e) (by rw[e1,r1,q])) _ _ _).step (hk (by omega))⟩
 . exact absurd e hl
theorem TwoB.put2{y0 y1 y2 u0 u1 u2:Value}(h:TwoB N W v #[y0,y1,y2] c #[u0,u1,u2] T l x w)(hl:¬LL l (N+3))(h1:LL l (N+1)):∃g,x (N+1)=.pointer (some ⟨g,0,none⟩)/\AtC w g #[y0,y1,y2] T/\TwoB N W v #[y0,y1,y2] c #[u0,u1,u2] T (l.setIfInBounds (N+3) true) x (st3 w g u0 u1 u2):=by
 obtain⟨g,e1,e2,e3⟩:=h.b2 h1;rcases e3 with⟨_,e3⟩|⟨e,_⟩
 . have hs:=fun j=>j8 (l:=l) (i:=N+3) (by rw[h.sz];omega) j
   have hk:∀ {j},j≠N+3->(LL (l.setIfInBounds (N+3) true) j↔LL l j):=fun{j} e=>by rw[hs];simp[e]
   refine⟨g,e1,e3,by simp[h.sz],Yf h.bl e2 _ _ _,fun j hj e=>h.val j hj ((hk (by omega)).1 e),fun e=>(hk (by omega)).2 (h.f1 ((hk (by omega)).1 e)),fun _=>(hk (by omega)).2 h1,fun e=>?_,fun _=>⟨g,e1,e2,.inr ⟨(hs _).2 (.inl rfl),e3.put3 _ _ _⟩⟩,fun e e'=>h.ne ((hk (by omega)).1 e) ((hk (by omega)).1 e')⟩;obtain⟨g',r1,r2,r3⟩:=h.b1 ((hk (by omega)).1 e);exact⟨g',r1,r2,(r3.far (fun q=>h.ne ((hk (by omega)).1 e) h1 (by rw[e1,r1,q])) _ _ _).step (hk (by omega))⟩
 . exact absurd e hl
theorem TwoB.done(h:TwoB N W v z c d T l x w)(h1:LL l (N+2))(h2:LL l (N+3)):∃g g',x N=.pointer (some ⟨g,0,none⟩)/\x (N+1)=.pointer (some ⟨g',0,none⟩)/\W.heap.size<=g/\W.heap.size<=g'/\AtC w g c T/\AtC w g' d T/\Below W.heap.size W w:=by
 obtain⟨g,e1,e2,e3⟩:=h.b1 (h.f1 h1);obtain⟨g',r1,r2,r3⟩:=h.b2 (h.f2 h2);rcases e3 with⟨e,_⟩|⟨_,e3⟩
 . exact absurd h1 e
 rcases r3 with⟨e,_⟩|⟨_,r3⟩
 . exact absurd h2 e
 exact⟨g,g',e1,r1,e2,r2,e3,r3,h.bl⟩
end
end Go.Proofs.YtpbnmhnbkfnaeaaGreatDoor
namespace Go.Proofs.YtpbnmhnbkfnaeaaGreatDoor
open Go.RowKit Go.Shelf Nt
attribute [local go_sem] wO
theorem xq{w w':World}(k:KC w w'){a:Addr}{v:Value}(h:w.cell? a=some v):w'.cell? a=some v:=by
 unfold World.cell? at h⊢;cases e:w.heap[a.block]? with
 |none=>rw[e]at h;simp at h
 |some o=>
  cases o with
  |cells cs T fr=>rw[k.cells _ _ e rfl];rw[e]at h;exact h
  |_=>rw[e]at h;simp at h
theorem IntsAt.kc{w w':World}{v:Value}{xs:List Int}(h:IntsAt w v xs)(k:KC w w'):IntsAt w' v xs:=by
 obtain⟨a,cap,rfl,h1,h2,h3⟩:=h;refine⟨a,cap,rfl,h1,h2,fun h0=>?_⟩;obtain⟨b,off,rfl,hb,hc⟩:=h3 h0;exact⟨b,off,rfl,uJ hb k.size,fun j x hx=>xq k (hc j x hx)⟩
theorem KC.steps{w wr wr':World}(h:KC w wr)(k:Steps w.heap.size wr wr'):KC w wr':=
 ⟨uC h.size k.bl.size,fun b o e ho=>(k.bl.block b (uu.1 e).1).trans (h.cells b o e ho)⟩
theorem zg4{P:Program}{t e:TypeId}{i:TypeInfo}{z:Value}{bytes:Nat}(ht:P.underlying t=some (.slice e))(hi:P.info? e=some i)(hz:i.zero=some z)(hs:i.size=1)(hb:i.bytes=bytes)(hc:z.cells=#[z])(n:Nat)(hn:bytes*n<=281474976710656)(hn2:n<=281474976710656)(W:World):
  (Instr.makeSlice t (.int .i64 (n:Int)) (.int .i64 (n:Int))).run P W=.ok (.slice (some ⟨W.heap.size,0,none⟩) n n) (W.alloc (.cells (madeCells #[z] n) e)):=by
 have h:=run_make (P:=P) W t e i z ht hi hz .i64 .i64 (n:Int) (n:Int) (by omega) (by omega) (by rw[hb,<-Int.natCast_mul];omega) (by omega);rw[hc,hs]at h;simpa using h
theorem Tryz.infoBoolC:(Tryz.prog.info? 4).map (fun i=>(i.zero,i.size,i.bytes))=some (some (.bool false),1,1):=by kernel_rfl
theorem zeE(m nm:Nat):madeCells #[.bool false] nm=xO m nm []:=by
 apply Array.ext';rw[Ul];unfold xO XE;simp[List.map_const']
def nvA(ns:List Nd)(w:World)(b off:Nat)(x:Int):Value:=.agg #[.int .i64 (kp ns x).1,.string (B (kp ns x).2.1),(w.cell? ⟨b,off+x.toNat*3+2,none⟩).getD undef]
theorem YZ(ns ms:List Nd)(a b:Int)(xb xo xc yb yo yc aB bB:Nat)(w0:World)(hx:NodesAt w0 (.slice (some ⟨xb,xo,none⟩) ns.length xc) ns)(hy:NodesAt w0 (.slice (some ⟨yb,yo,none⟩) ms.length yc) ms)
  (okn:ns.all (zT ns.length)=true)(okm:ms.all (zT ms.length)=true)(hab:vT ns.length ms.length (a,b))(hl1:ns.length<=80)(hl2:ms.length<=80)
  (ha:AtC w0 aB #[.slice (some ⟨xb,xo,none⟩) ns.length xc,.int .i64 a] 52)(hb:AtC w0 bB #[.slice (some ⟨yb,yo,none⟩) ms.length yc,.int .i64 b] 52):
  zht Fence.wide 2 Tryz.prog 97 #[.pointer (some ⟨aB,0,none⟩),.pointer (some ⟨bB,0,none⟩)] (fun x:Int×Int=>#[nvA ns w0 xb xo x.1,nvA ms w0 yb yo x.2]) (zdN ns ms a b) w0:=by
 intro l J Jx w hW hJ hJx hY h0;have HX:=zb (hx.below hW);have HY:=zb (hy.below hW);have HXV:Hid (∀(x:Int) nd,ns[x.toNat]? =some nd->∀kv,w.cell? ⟨xb,xo+x.toNat*3+2,none⟩=some kv->nvA ns w0 xb xo x=.agg #[.int .i64 nd.1,.string (B nd.2.1),kv]):=zb (fun x nd h kv hkv=>by
  obtain⟨kv',_,_,c2,_,_⟩:=hx.node h;have e:=(zd hW c2).symm.trans hkv;injection e with e;unfold nvA;rw[vt h,c2,e];rfl)
 have HYV:Hid (∀(x:Int) nd,ms[x.toNat]? =some nd->∀kv,w.cell? ⟨yb,yo+x.toNat*3+2,none⟩=some kv->nvA ms w0 yb yo x=.agg #[.int .i64 nd.1,.string (B nd.2.1),kv]):=zb (fun x nd h kv hkv=>by
  obtain⟨kv',_,_,c2,_,_⟩:=hy.node h;have e:=(zd hW c2).symm.trans hkv;injection e with e;unfold nvA;rw[vt h,c2,e];rfl)
 have HA:=zb (ha.below hW);have HB:=zb (hb.below hW);have hLs:=Lst.start okn okm hab;have HY0:=zb hY;have HJ:=zb hJ;obtain⟨L,hL⟩:∃L,zdN ns ms a b=L:=⟨_,rfl⟩
 rw[hL]at HY0 hLs⊢;have HLS:=zb hLs;have hnm:ns.length*ms.length<=6400:=WH hl1 hl2;have HOK:=zb (And.intro okn okm);have HAB:=zb hab;have HJ0:=zb h0;clear hx hy hW ha hb hLs hY hJ hJx hL okn okm h0;refine callsIn_of_wp Tryz.func97 rfl trivial ?_ rfl;simp only[Tryz.ntmps97,UZ,Uv,UG,Nat.reduceAdd,Nat.reduceSub,wu,wt,wV,wF,UE,UD];obtain⟨nm,hnm'⟩:∃q,ns.length*ms.length=q:=⟨_,rfl⟩
 rw[hnm']at hnm;have e1:wrap64 ((ns.length:Int)*(ms.length:Int))=(nm:Int):=by
  rw[<-Int.natCast_mul,hnm'];unfold wrap64;omega
 have HNM:=zb hnm';clear hnm';obtain⟨ib,hib,hb0,hb1,hb2⟩:=Ue Tryz.infoBoolC;have hmk:=fun W=>zg4 Tryz.underlying126 hib hb0 hb1 hb2 rfl nm (by omega) (by omega) W
 rw[zeE ms.length nm]at hmk;have a0:=(za HA).c 0;have a1:=(za HA).c 1;have b0:=(za HB).c 0;have b1:=(za HB).c 1;simp only[UL,Uy,Us]at a0 a1 b0 b1;have hbel:=zf (zf (zf (zf (ue w.heap.size w) (.cells (xO ms.length nm []) 4)) (.cells #[.slice (some ⟨w.heap.size,0,none⟩) nm nm] 126)) (.cells #[] 129)) (.cells #[.slice (some ⟨w.heap.size+1+1,0,none⟩) 0 0] 127);have a1':=zd hbel a1;have b1':=zd hbel b1;have b0':=zd hbel b0;have HM0:Hid (MeetS ((((w.alloc (.cells (xO ms.length nm []) 4)).alloc (.cells #[.slice (some ⟨w.heap.size,0,none⟩) nm nm] 126)).alloc (.cells #[] 129)).alloc (.cells #[.slice (some ⟨w.heap.size+1+1,0,none⟩) 0 0] 127)) w.heap.size w.heap.size (w.heap.size+1) (w.heap.size+1+1+1) ms.length nm []):=zb (by
  have h1:=((AtC.new w (xO ms.length nm []) 4).alloc (.cells #[.slice (some ⟨w.heap.size,0,none⟩) nm nm] 126)).alloc (.cells #[] 129);have h2:=(AtC.new (w.alloc (.cells (xO ms.length nm []) 4)) #[.slice (some ⟨w.heap.size,0,none⟩) nm nm] 126).alloc (.cells #[] 129);rw[uk]at h2;have h3:=AtC.new (((w.alloc (.cells (xO ms.length nm []) 4)).alloc (.cells #[.slice (some ⟨w.heap.size,0,none⟩) nm nm] 126)).alloc (.cells #[] 129)) #[.slice (some ⟨w.heap.size+1+1,0,none⟩) 0 0] 127;rw[uk,uk,uk]at h3;have h4:RowP (((w.alloc (.cells (xO ms.length nm []) 4)).alloc (.cells #[.slice (some ⟨w.heap.size,0,none⟩) nm nm] 126)).alloc (.cells #[] 129)) w.heap.size 129 (.slice (some ⟨w.heap.size+1+1,0,none⟩) 0 0) []:=by
   have h:=Un ((w.alloc (.cells (xO ms.length nm []) 4)).alloc (.cells #[.slice (some ⟨w.heap.size,0,none⟩) nm nm] 126)) (.cells #[] 129);rw[uk,uk]at h;exact⟨rfl,.inr ⟨w.heap.size+1+1,0,_,rfl,by omega,h,ud _,by unfold maxLen;omega,rfl,rfl⟩⟩
  exact⟨h1.alloc _,h2.alloc _,⟨_,h3,zu h4 (zf (ue _ _) _)⟩,ud _,by omega,by omega⟩)
 have HBE:=zb hbel
 gi_wp2_with fail
 obtain⟨W4,hW4⟩:∃W4,(((w.alloc (.cells (xO ms.length nm []) 4)).alloc (.cells #[.slice (some ⟨w.heap.size,0,none⟩) nm nm] 126)).alloc (.cells #[] 129)).alloc (.cells #[.slice (some ⟨w.heap.size+1+1,0,none⟩) 0 0] 127)=W4:=⟨_,rfl⟩
 rw[hW4]at HM0 HBE b0'⊢;clear a0 a1 b0 b1 a1' b1' hbel hW4 hmk e1;have hs4:=(za HBE).size;have hmt:=za HM0;rw[<-za HNM]at hmt;refine⟨trivial,(UH.2 (zeA a b ns.length ms.length w.heap.size bB w.heap.size (w.heap.size+1) (w.heap.size+1+1+1) yc (some ⟨yb,yo,none⟩) [] W4 (za HAB) hl1 hl2 (by simp) b0' hmt hs4)).mono ?_⟩;clear hmt b0';rintro e W5⟨⟨vm,rfl⟩,hst5,hm5,_⟩;rw[za HNM]at hm5;have HM5:Hid (MeetS W5 w.heap.size w.heap.size (w.heap.size+1) (w.heap.size+1+1+1) ms.length nm [(a,b)]):=zb (by simpa using hm5);have hst:=(Steps.below (ud _) (za HBE)).trans hst5;have HJ5:Hid (J [] W5):=zb (hst.tr J [] (za HJ) (za HJ0));have HK5:Hid (KC w W5):=zb ((KC.refl w).steps hst);have HL5:Hid ([(a,b)].Nodup/\∀x∈[(a,b)],vT ns.length ms.length x):=zb ⟨by simp,fun x hx=>by
  have:x=(a,b):=by simpa using hx
  rw[this];exact za HAB⟩
 clear hst hst5 hm5 hs4 HM0 HBE HJ0
 gi_wp2_with fail
 gi_loopw [7] (fun iv wr=>∃(lp:List (Int×Int))(i:Nat),i<=lp.length/\iv=.int .i64 i/\Hid (MeetS wr w.heap.size w.heap.size (w.heap.size+1) (w.heap.size+1+1+1) ms.length nm lp)/\Hid (J (L.take i) wr)/\Hid (KC w wr)/\Hid (lp.Nodup/\∀x∈lp,vT ns.length ms.length x)/\Hid (Lst ns ms L i lp))
  (fun iv _=>6400-(intOf iv).toNat)
 case atStart=>exact⟨[(a,b)],0,by simp,rfl,HM5,zb (by simpa using za HJ5),HK5,HL5,HLS⟩
 case round=>
  clear HM5 HJ5 HK5 HL5 HLS;obtain⟨lp,i,hil,rfl,HM,HJi,HK,HL,HLS⟩:=hrel;obtain⟨v,hpv,hrow⟩:=(za HM).pb;have hll:lp.length<=6400:=by have:=jz (za HL).1 (za HL).2;rw[za HNM]at this;omega
  obtain⟨rp,rc,rfl⟩:=xf hrow;have pc:=hpv.c 0;simp only[UL,Uy]at pc;by_cases hlt:i<lp.length
  . obtain⟨g,cap,ev,hc1,hc2,hgb,hcell⟩:=RowP.form hrow (by omega)
    injection ev with ev1 ev2 ev3;subst ev1;subst ev3;obtain⟨⟨pa,pb⟩,hp⟩:∃p,lp[i]? =some p:=⟨_,uf hlt⟩
    obtain⟨g0,g1⟩:=hcell i _ hp;simp only at g0 g1;obtain⟨⟨pa0,pa1⟩,pb0,pb1⟩:=zbS.1 ((za HL).2 _ (un hp));obtain⟨na,hna⟩:∃nd,ns[pa.toNat]? =some nd:=⟨_,uf (by omega)⟩
    obtain⟨nb,hnb⟩:∃nd,ms[pb.toNat]? =some nd:=⟨_,uf (by omega)⟩
    obtain⟨kva,x0,x1,x2,_,hka⟩:=(za HX).node hna;obtain⟨kvb,y0,y1,y2,_,hkb⟩:=(za HY).node hnb;have HVA:Hid (nvA ns w0 xb xo pa=.agg #[.int .i64 na.1,.string (B na.2.1),kva]):=zb ((za HXV) pa na hna kva x2);have HVB:Hid (nvA ms w0 yb yo pb=.agg #[.int .i64 nb.1,.string (B nb.2.1),kvb]):=zb ((za HYV) pb nb hnb kvb y2);have x0:=xq (za HK) x0;have x1:=xq (za HK) x1;have x2:=xq (za HK) x2;have y0:=xq (za HK) y0;have y1:=xq (za HK) y1;have y2:=xq (za HK) y2;have HKA:=zb hka;have HKB:=zb hkb;obtain⟨aka,akc,rfl,ak1,ak2⟩:=hka.form;obtain⟨bka,bkc,rfl,bk1,bk2⟩:=hkb.form;have HPI:=zb hp;have HNA:=zb hna;have HNB:=zb hnb;obtain⟨sa,ta,ka⟩:=na;obtain⟨sb,tb,kb⟩:=nb;simp only at x0 x1 x2 y0 y1 y2 HKA HKB HVA HVB ak1 bk1;have qa:=((za HA).kc (za HK)).c 0;have qb:=((za HB).kc (za HK)).c 0;simp only[UL,Uy]at qa qb;have pan:pa.toNat*3+0=pa.toNat*3:=rfl;have HALL:=zb (And.intro g0 (And.intro g1 (And.intro x0 (And.intro x1 (And.intro x2 (And.intro y0 (And.intro y1 (And.intro y2 (And.intro qa (And.intro qb pc))))))))));clear hp hna hnb hka hkb hcell hpv hrow pan
    gi_wp2_with fail
    obtain⟨v,hv⟩:∃v:Nat->Value,v=fun j=>match j with
     |0=>.pointer (some ⟨aB,0,none⟩)
     |1=>.slice (some ⟨xb,xo,none⟩) ns.length xc
     |2=>.slice (some ⟨g,0,none⟩) lp.length rc
     |3=>.int .i64 (i:Int)
     |4=>.pointer (some ⟨g,i*2,none⟩)
     |5=>.pointer (some ⟨g,i*2,none⟩)
     |6=>.int .i64 pa
     |7=>.pointer (some ⟨xb,xo+pa.toNat*3,none⟩)
     |8=>.agg #[.int .i64 sa,.string (B ta),.slice aka ka.length akc]
     |9=>.pointer (some ⟨bB,0,none⟩)
     |10=>.slice (some ⟨yb,yo,none⟩) ms.length yc
     |11=>.slice (some ⟨g,0,none⟩) lp.length rc
     |12=>.int .i64 (i:Int)
     |13=>.pointer (some ⟨g,i*2,none⟩)
     |14=>.pointer (some ⟨g,i*2+1,none⟩)
     |15=>.int .i64 pb
     |16=>.pointer (some ⟨yb,yo+pb.toNat*3,none⟩)
     |17=>.agg #[.int .i64 sb,.string (B tb),.slice bka kb.length bkc]
     |_=>undef:=⟨_,rfl⟩
    have v0:v 0=.pointer (some ⟨aB,0,none⟩):=by subst hv;rfl
    have v1:v 1=.slice (some ⟨xb,xo,none⟩) ns.length xc:=by subst hv;rfl
    have v2:v 2=.slice (some ⟨g,0,none⟩) lp.length rc:=by subst hv;rfl
    have v3:v 3=.int .i64 (i:Int):=by subst hv;rfl
    have v4:v 4=.pointer (some ⟨g,i*2,none⟩):=by subst hv;rfl
    have v5:v 5=.pointer (some ⟨g,i*2,none⟩):=by subst hv;rfl
    have v6:v 6=.int .i64 pa:=by subst hv;rfl
    have v7:v 7=.pointer (some ⟨xb,xo+pa.toNat*3,none⟩):=by subst hv;rfl
    have v8:v 8=.agg #[.int .i64 sa,.string (B ta),.slice aka ka.length akc]:=by subst hv;rfl
    have v9:v 9=.pointer (some ⟨bB,0,none⟩):=by subst hv;rfl
    have v10:v 10=.slice (some ⟨yb,yo,none⟩) ms.length yc:=by subst hv;rfl
    have v11:v 11=.slice (some ⟨g,0,none⟩) lp.length rc:=by subst hv;rfl
    have v12:v 12=.int .i64 (i:Int):=by subst hv;rfl
    have v13:v 13=.pointer (some ⟨g,i*2,none⟩):=by subst hv;rfl
    have v14:v 14=.pointer (some ⟨g,i*2+1,none⟩):=by subst hv;rfl
    have v15:v 15=.int .i64 pb:=by subst hv;rfl
    have v16:v 16=.pointer (some ⟨yb,yo+pb.toNat*3,none⟩):=by subst hv;rfl
    have v17:v 17=.agg #[.int .i64 sb,.string (B tb),.slice bka kb.length bkc]:=by subst hv;rfl
    clear hv;refine wpIn_region_any (by kernel_rfl) ?_;change wpAnyIn _ _ _ _ _ _ _ _ _ (World.drew _);refine kN (fun l' a' w'=>∃x:Nat->Value,a'=⟨#[.func (Fn.yield l) #[] #[],.pointer (some ⟨aB,0,none⟩),.pointer (some ⟨bB,0,none⟩),undef,.pointer (some ⟨w.heap.size+1,0,none⟩),.pointer (some ⟨w.heap.size+1+1+1,0,none⟩),.func (Fn.func (98:Nat)) #[] #[.pointer (some ⟨bB,0,none⟩),.pointer (some ⟨w.heap.size+1,0,none⟩),.pointer (some ⟨w.heap.size+1+1+1,0,none⟩)],.int .i64 ↑i,x 18,x 19,u10,.pointer (some ⟨aB,0,none⟩),.slice (some ⟨xb,xo,none⟩) ns.length xc,.int .i64 ↑ns.length,.pointer (some ⟨bB,0,none⟩),.slice (some ⟨yb,yo,none⟩) ms.length yc,.int .i64 ↑ms.length,.int .i64 ↑nm,.slice (some ⟨w.heap.size,0,none⟩) nm nm,.slice (some ⟨w.heap.size+1+1,0,none⟩) 0 0,.func (Fn.func (98:Nat)) #[] #[.pointer (some ⟨bB,0,none⟩),.pointer (some ⟨w.heap.size+1,0,none⟩),.pointer (some ⟨w.heap.size+1+1+1,0,none⟩)],.func (Fn.func (98:Nat)) #[] #[.pointer (some ⟨bB,0,none⟩),.pointer (some ⟨w.heap.size+1,0,none⟩),.pointer (some ⟨w.heap.size+1+1+1,0,none⟩)],.pointer (some ⟨aB,1,none⟩),.int .i64 a,.pointer (some ⟨bB,1,none⟩),.int .i64 b,vm,.int .i64 ↑i,.slice (some ⟨g,0,none⟩) lp.length rc,.int .i64 ↑lp.length,.bool true,u31,u32,x 0,x 1,x 2,x 3,x 4,x 5,x 6,x 7,x 8,x 9,x 10,x 11,x 12,x 13,x 14,x 15,x 16,x 17,u51,u52,u53,u54,u55,u56,u57,u58,u59,u60,u61,u62,u63,u64,u65,u66,u67,u68,u69,u70,u71,u72,u73,u74,u75,u76,u77,u78],[]⟩/\TwoB 18 wr v #[.int .i64 0,.string ⟨#[]⟩,.slice none 0 0] #[.int .i64 sa,.string (B ta),.slice aka ka.length akc] #[.int .i64 sb,.string (B tb),.slice bka kb.length bkc] 56 l' x w') ?hsz ?hend ?hstep ?hgo _ _ _ _ ?h0 ?hc
    case hsz=>
     rintro l' a' w'⟨x,_,h⟩;exact h.sz
    case h0=>exact⟨fun j=>[u33,u34,u35,u36,u37,u38,u39,u40,u41,u42,u43,u44,u45,u46,u47,u48,u49,u50,u8,u9].getD j undef,rfl,TwoB.start rfl (ue _ _).drew⟩
    case hc=>exact UA rfl
    case hgo=>
     rintro l' a' w'⟨x,rfl,h⟩ hr j hj;have k0:l'[0]? =some true:=zo hr 0 (by simp) (by rw[h.sz];rfl) (by simp[Region.binds,ua]);have k1:l'[1]? =some true:=zo hr 1 (by simp) (by rw[h.sz];rfl) (by simp[Region.binds,ua,k0]);have k2:l'[2]? =some true:=zo hr 2 (by simp) (by rw[h.sz];rfl) (by simp[Region.binds,ua]);have k3:l'[3]? =some true:=zo hr 3 (by simp) (by rw[h.sz];rfl) (by simp[Region.binds,ua]);have k4:l'[4]? =some true:=zo hr 4 (by simp) (by rw[h.sz];rfl) (by simp[Region.binds,ua,k2,k3]);have k5:l'[5]? =some true:=zo hr 5 (by simp) (by rw[h.sz];rfl) (by simp[Region.binds,ua,k4]);have k6:l'[6]? =some true:=zo hr 6 (by simp) (by rw[h.sz];rfl) (by simp[Region.binds,ua,k5]);have k7:l'[7]? =some true:=zo hr 7 (by simp) (by rw[h.sz];rfl) (by simp[Region.binds,ua,k1,k6]);have k8:l'[8]? =some true:=zo hr 8 (by simp) (by rw[h.sz];rfl) (by simp[Region.binds,ua,k7]);have k9:l'[9]? =some true:=zo hr 9 (by simp) (by rw[h.sz];rfl) (by simp[Region.binds,ua]);have k10:l'[10]? =some true:=zo hr 10 (by simp) (by rw[h.sz];rfl) (by simp[Region.binds,ua,k9]);have k11:l'[11]? =some true:=zo hr 11 (by simp) (by rw[h.sz];rfl) (by simp[Region.binds,ua]);have k12:l'[12]? =some true:=zo hr 12 (by simp) (by rw[h.sz];rfl) (by simp[Region.binds,ua]);have k13:l'[13]? =some true:=zo hr 13 (by simp) (by rw[h.sz];rfl) (by simp[Region.binds,ua,k11,k12]);have k14:l'[14]? =some true:=zo hr 14 (by simp) (by rw[h.sz];rfl) (by simp[Region.binds,ua,k13]);have k15:l'[15]? =some true:=zo hr 15 (by simp) (by rw[h.sz];rfl) (by simp[Region.binds,ua,k14]);have k16:l'[16]? =some true:=zo hr 16 (by simp) (by rw[h.sz];rfl) (by simp[Region.binds,ua,k10,k15]);have k17:l'[17]? =some true:=zo hr 17 (by simp) (by rw[h.sz];rfl) (by simp[Region.binds,ua,k16]);have k18:l'[18]? =some true:=zo hr 18 (by simp) (by rw[h.sz];rfl) (by simp[Region.binds,ua]);have k19:l'[19]? =some true:=zo hr 19 (by simp) (by rw[h.sz];rfl) (by simp[Region.binds,ua]);have k20:l'[20]? =some true:=zo hr 20 (by simp) (by rw[h.sz];rfl) (by simp[Region.binds,ua,k0,k1,k2,k3,k4,k5,k6,k7,k8,k9,k10,k11,k12,k13,k14,k15,k16,k17,k18,k19]);have k21:l'[21]? =some true:=zo hr 21 (by simp) (by rw[h.sz];rfl) (by simp[Region.binds,ua,k0,k1,k2,k3,k4,k5,k6,k7,k8,k9,k10,k11,k12,k13,k14,k15,k16,k17,k18,k19,k20]);have hj:j<22:=by simpa using hj
     rcases(by omega:j=0\/j=1\/j=2\/j=3\/j=4\/j=5\/j=6\/j=7\/j=8\/j=9\/j=10\/j=11\/j=12\/j=13\/j=14\/j=15\/j=16\/j=17\/j=18\/j=19\/j=20\/j=21)with rfl|rfl|rfl|rfl|rfl|rfl|rfl|rfl|rfl|rfl|rfl|rfl|rfl|rfl|rfl|rfl|rfl|rfl|rfl|rfl|rfl|rfl
     all_goals assumption
    case hstep=>
     rintro l' a' w' j⟨x,rfl,h⟩ hi;have hi2:=hi;unfold Region.ready at hi2;rw[uK]at hi2;obtain⟨hjj,hi3⟩:=hi2;have hjj:j<22:=by simpa using hjj
     have hjl:¬LL l' j:=fun e=>by
      unfold LL at e;simp[ua,e]at hi3
     clear hi;obtain⟨g0,g1,x0,x1,x2,y0,y1,y2,qa,qb,pc⟩:=za HALL;have g0:=zd h.bl g0;have g1:=zd h.bl g1;have x0:=zd h.bl x0;have x1:=zd h.bl x1;have x2:=zd h.bl x2;have y0:=zd h.bl y0;have y1:=zd h.bl y1;have y2:=zd h.bl y2;have qa:=zd h.bl qa;have qb:=zd h.bl qb;have pc:=zd h.bl pc;rcases(by omega:j=0\/j=1\/j=2\/j=3\/j=4\/j=5\/j=6\/j=7\/j=8\/j=9\/j=10\/j=11\/j=12\/j=13\/j=14\/j=15\/j=16\/j=17\/j=18\/j=19\/j=20\/j=21)with rfl|rfl|rfl|rfl|rfl|rfl|rfl|rfl|rfl|rfl|rfl|rfl|rfl|rfl|rfl|rfl|rfl|rfl|rfl|rfl|rfl|rfl
     . clear hi3
       refine wpOpIn_step rfl (fun K hK=>?_);go_simp;exact hK _ _ ⟨_,by simp[v0],h.next 0 (by omega) hjl (v 0) (ue _ _) (fun _=>rfl) (fun e=>by omega)⟩
     . have l0:LL l' 0:=zA (by simp[Region.binds,ua]at hi3;simp[hi3])
       clear hi3;have w0:=(h.val 0 (by omega) l0).trans v0;refine wpOpIn_step rfl (fun K hK=>?_);go_simp;exact hK _ _ ⟨_,by simp[w0,v1],h.next 1 (by omega) hjl (v 1) (ue _ _) (fun _=>rfl) (fun e=>by omega)⟩
     . clear hi3
       refine wpOpIn_step rfl (fun K hK=>?_);go_simp;exact hK _ _ ⟨_,by simp[v2],h.next 2 (by omega) hjl (v 2) (ue _ _) (fun _=>rfl) (fun e=>by omega)⟩
     . clear hi3
       refine wpOpIn_step rfl (fun K hK=>?_);go_simp;exact hK _ _ ⟨_,by simp[v3],h.next 3 (by omega) hjl (v 3) (ue _ _) (fun _=>rfl) (fun e=>by omega)⟩
     . have l2:LL l' 2:=zA (by simp[Region.binds,ua]at hi3;simp[hi3])
       have l3:LL l' 3:=zA (by simp[Region.binds,ua]at hi3;simp[hi3]);clear hi3;have w2:=(h.val 2 (by omega) l2).trans v2;have w3:=(h.val 3 (by omega) l3).trans v3;refine wpOpIn_step rfl (fun K hK=>?_);go_simp;exact hK _ _ ⟨_,by simp[w2,w3,v4],h.next 4 (by omega) hjl (v 4) (ue _ _) (fun _=>rfl) (fun e=>by omega)⟩
     . have l4:LL l' 4:=zA (by simp[Region.binds,ua]at hi3;simp[hi3])
       clear hi3;have w4:=(h.val 4 (by omega) l4).trans v4;refine wpOpIn_step rfl (fun K hK=>?_);go_simp;exact hK _ _ ⟨_,by simp[w4,v5],h.next 5 (by omega) hjl (v 5) (ue _ _) (fun _=>rfl) (fun e=>by omega)⟩
     . have l5:LL l' 5:=zA (by simp[Region.binds,ua]at hi3;simp[hi3])
       clear hi3;have w5:=(h.val 5 (by omega) l5).trans v5;refine wpOpIn_step rfl (fun K hK=>?_);go_simp;exact hK _ _ ⟨_,by simp[w5,v6],h.next 6 (by omega) hjl (v 6) (ue _ _) (fun _=>rfl) (fun e=>by omega)⟩
     . have l1:LL l' 1:=zA (by simp[Region.binds,ua]at hi3;simp[hi3])
       have l6:LL l' 6:=zA (by simp[Region.binds,ua]at hi3;simp[hi3]);clear hi3;have w1:=(h.val 1 (by omega) l1).trans v1;have w6:=(h.val 6 (by omega) l6).trans v6;refine wpOpIn_step rfl (fun K hK=>?_);go_simp;exact hK _ _ ⟨_,by simp[w1,w6,v7],h.next 7 (by omega) hjl (v 7) (ue _ _) (fun _=>rfl) (fun e=>by omega)⟩
     . have l7:LL l' 7:=zA (by simp[Region.binds,ua]at hi3;simp[hi3])
       clear hi3;have w7:=(h.val 7 (by omega) l7).trans v7;refine wpOpIn_step rfl (fun K hK=>?_);go_simp;exact hK _ _ ⟨_,by simp[w7,v8],h.next 8 (by omega) hjl (v 8) (ue _ _) (fun _=>rfl) (fun e=>by omega)⟩
     . clear hi3
       refine wpOpIn_step rfl (fun K hK=>?_);go_simp;exact hK _ _ ⟨_,by simp[v9],h.next 9 (by omega) hjl (v 9) (ue _ _) (fun _=>rfl) (fun e=>by omega)⟩
     . have l9:LL l' 9:=zA (by simp[Region.binds,ua]at hi3;simp[hi3])
       clear hi3;have w9:=(h.val 9 (by omega) l9).trans v9;refine wpOpIn_step rfl (fun K hK=>?_);go_simp;exact hK _ _ ⟨_,by simp[w9,v10],h.next 10 (by omega) hjl (v 10) (ue _ _) (fun _=>rfl) (fun e=>by omega)⟩
     . clear hi3
       refine wpOpIn_step rfl (fun K hK=>?_);go_simp;exact hK _ _ ⟨_,by simp[v11],h.next 11 (by omega) hjl (v 11) (ue _ _) (fun _=>rfl) (fun e=>by omega)⟩
     . clear hi3
       refine wpOpIn_step rfl (fun K hK=>?_);go_simp;exact hK _ _ ⟨_,by simp[v12],h.next 12 (by omega) hjl (v 12) (ue _ _) (fun _=>rfl) (fun e=>by omega)⟩
     . have l11:LL l' 11:=zA (by simp[Region.binds,ua]at hi3;simp[hi3])
       have l12:LL l' 12:=zA (by simp[Region.binds,ua]at hi3;simp[hi3]);clear hi3;have w11:=(h.val 11 (by omega) l11).trans v11;have w12:=(h.val 12 (by omega) l12).trans v12;refine wpOpIn_step rfl (fun K hK=>?_);go_simp;exact hK _ _ ⟨_,by simp[w11,w12,v13],h.next 13 (by omega) hjl (v 13) (ue _ _) (fun _=>rfl) (fun e=>by omega)⟩
     . have l13:LL l' 13:=zA (by simp[Region.binds,ua]at hi3;simp[hi3])
       clear hi3;have w13:=(h.val 13 (by omega) l13).trans v13;refine wpOpIn_step rfl (fun K hK=>?_);go_simp;exact hK _ _ ⟨_,by simp[w13,v14],h.next 14 (by omega) hjl (v 14) (ue _ _) (fun _=>rfl) (fun e=>by omega)⟩
     . have l14:LL l' 14:=zA (by simp[Region.binds,ua]at hi3;simp[hi3])
       clear hi3;have w14:=(h.val 14 (by omega) l14).trans v14;refine wpOpIn_step rfl (fun K hK=>?_);go_simp;exact hK _ _ ⟨_,by simp[w14,v15],h.next 15 (by omega) hjl (v 15) (ue _ _) (fun _=>rfl) (fun e=>by omega)⟩
     . have l10:LL l' 10:=zA (by simp[Region.binds,ua]at hi3;simp[hi3])
       have l15:LL l' 15:=zA (by simp[Region.binds,ua]at hi3;simp[hi3]);clear hi3;have w10:=(h.val 10 (by omega) l10).trans v10;have w15:=(h.val 15 (by omega) l15).trans v15;refine wpOpIn_step rfl (fun K hK=>?_);go_simp;exact hK _ _ ⟨_,by simp[w10,w15,v16],h.next 16 (by omega) hjl (v 16) (ue _ _) (fun _=>rfl) (fun e=>by omega)⟩
     . have l16:LL l' 16:=zA (by simp[Region.binds,ua]at hi3;simp[hi3])
       clear hi3;have w16:=(h.val 16 (by omega) l16).trans v16;refine wpOpIn_step rfl (fun K hK=>?_);go_simp;exact hK _ _ ⟨_,by simp[w16,v17],h.next 17 (by omega) hjl (v 17) (ue _ _) (fun _=>rfl) (fun e=>by omega)⟩
     . clear hi3
       refine wpOpIn_step rfl (fun K hK=>?_);go_simp;exact hK _ _ ⟨_,by simp,h.next 18 (by omega) hjl (.pointer (some ⟨w'.heap.size,0,none⟩)) (zf (ue _ _) (.cells #[.int .i64 0,.string ⟨#[]⟩,.slice none 0 0] 56)) (fun e=>by omega) (fun _=>⟨rfl,AtC.new _ _ _⟩)⟩
     . clear hi3
       refine wpOpIn_step rfl (fun K hK=>?_);go_simp;exact hK _ _ ⟨_,by simp,h.next 19 (by omega) hjl (.pointer (some ⟨w'.heap.size,0,none⟩)) (zf (ue _ _) (.cells #[.int .i64 0,.string ⟨#[]⟩,.slice none 0 0] 56)) (fun e=>by omega) (fun _=>⟨rfl,AtC.new _ _ _⟩)⟩
     . have l8:LL l' 8:=zA (by simp[Region.binds,ua]at hi3;simp[hi3])
       have l18:LL l' 18:=zA (by simp[Region.binds,ua]at hi3;simp[hi3]);clear hi3;have w8:=(h.val 8 (by omega) l8).trans v8;obtain⟨gg,e5,hM,hn⟩:=h.put1 hjl l18;have m0:=hM.c 0;have m1:=hM.c 1;have m2:=hM.c 2;have mf:=hM.f;simp only[UL,Uy,Us]at m0 m1 m2;have HN:=zb hn;clear hM hn;refine wpOpIn_step rfl (fun K hK=>?_);go_simp;exact hK _ _ ⟨_,by simp[w8,e5],za HN⟩
     . have l17:LL l' 17:=zA (by simp[Region.binds,ua]at hi3;simp[hi3])
       have l19:LL l' 19:=zA (by simp[Region.binds,ua]at hi3;simp[hi3]);clear hi3;have w17:=(h.val 17 (by omega) l17).trans v17;obtain⟨gg,e5,hM,hn⟩:=h.put2 hjl l19;have m0:=hM.c 0;have m1:=hM.c 1;have m2:=hM.c 2;have mf:=hM.f;simp only[UL,Uy,Us]at m0 m1 m2;have HN:=zb hn;clear hM hn;refine wpOpIn_step rfl (fun K hK=>?_);go_simp;exact hK _ _ ⟨_,by simp[w17,e5],za HN⟩
    case hend=>
     rintro l' a' w'⟨x,rfl,h⟩ hall;obtain⟨b8,b9,e1,e2,hg8,hg9,A8,A9,hbl⟩:=h.done (hall 20 (by simp)) (hall 21 (by simp));rw[e1,e2];have hst:=Steps.below (B:=w.heap.size) (za HK).size hbl;have HK1:=zb ((za HK).steps hst);have HM1:=zb ((za HM).below hbl);have hJ1:=hst.tr J (L.take i) (za HJ) (za HJi);have hLi:=zb9 (za HLS).pre (za HPI);have htk:L.take i++[(pa,pb)]=L.take (i+1):=by rw[uY,hLi];rfl
     have hyy:=(za HY0) (L.take i) (pa,pb) w' hJ1 (by rw[htk];exact List.take_prefix _ _);simp only at hyy;rw[za HVA,za HVB,htk]at hyy;obtain⟨fn,tmps,assign,body,hyr,hR⟩:=hyy;have m0:=A8.c 0;have m1:=A8.c 1;have m2:=A8.c 2;have n0:=A9.c 0;have n1:=A9.c 1;have n2:=A9.c 2;simp only[UL,Uy,Us]at m0 m1 m2 n0 n1 n2;have HA8:=zb A8;have HA9:=zb A9;clear h hall hst hJ1 hLi htk A8 A9 hbl HALL HK HM HJi v0 v1 v2 v3 v4 v5 v6 v7 v8 v9 v10 v11 v12 v13 v14 v15 v16 v17 g0 g1 x0 x1 x2 y0 y1 y2 qa qb pc
     gi_wp2_with fail
     refine hR.mono ?_;rintro e W8(⟨rfl,hJ8,hk8⟩|⟨rfl,hJx8⟩)
     . have HK8:=zb ((za HK1).trans hk8)
       have HM8:=zb ((za HM1).kc hk8);have HB8:=zb ((za HA8).kc hk8);have HB9:=zb ((za HA9).kc hk8);have HJ8:=zb hJ8;have p2:=(za HB8).c 2;have q2:=(za HB9).c 2;simp only[UL,Uy,Us]at p2 q2;clear hk8 hJ8 m0 m1 m2 n0 n1 n2 HA8 HA9 HM1 HK1 hyr hR;obtain⟨zl,hzl⟩:∃z,(ka.zip kb).length=z:=⟨_,rfl⟩
       have hz:min (ka.length:Int) (kb.length:Int)=(zl:Int):=by rw[<-hzl,List.length_zip];omega
       have HZL:=zb hzl;clear hzl
       gi_wp2_with fail
       gi_loopw [63] (fun kv wr2=>∃(k:Nat)(lq:List (Int×Int)),k<=zl/\kv=.int .i64 k/\Hid (lq=qG lp ((ka.zip kb).take k))/\Hid (MeetS wr2 w.heap.size w.heap.size (w.heap.size+1) (w.heap.size+1+1+1) ms.length nm lq)/\Hid (J (L.take (i+1)) wr2)/\Hid (KC w wr2)/\Hid (AtC wr2 b8 #[.int .i64 sa,.string (B ta),.slice aka ka.length akc] 56)/\Hid (AtC wr2 b9 #[.int .i64 sb,.string (B tb),.slice bka kb.length bkc] 56))
        (fun kv _=>zl-(intOf kv).toNat)
       case atStart=>exact⟨0,lp,by omega,rfl,zb rfl,HM8,HJ8,HK8,HB8,HB9⟩
       case round=>
        clear HM8 HJ8 HK8 HB8 HB9 p2 q2;obtain⟨k,lq,hkz,rfl,HLQ,HM,HJk,HK,HB8,HB9⟩:=hrel;by_cases hkl:k<zl
        . have HKL:Hid (k+1<=zl/\zl-(k+1)<zl-k):=zb ⟨by omega,by omega⟩
          have hzz:=za HZL;rw[List.length_zip]at hzz;have hk9:k<9223372036854775807:=by
           have h1:=ak2;unfold maxLen at h1;omega
          obtain⟨px,hpx⟩:∃z,ka[k]? =some z:=⟨_,uf (by omega)⟩
          obtain⟨py,hpy⟩:∃z,kb[k]? =some z:=⟨_,uf (by omega)⟩
          have hkid:vh ns ms pa pb=ka.zip kb:=by unfold vh;rw[vt (za HNA),vt (za HNB)]
          have hzk:(ka.zip kb)[k]? =some (px,py):=by rw[Wy];exact⟨hpx,hpy⟩
          have hinn:=fun z hz=>jO (za HOK).1 (za HOK).2 pa pb ((za HL).2 _ (un (za HPI))) z hz
          rw[hkid]at hinn;have HIN:=zb (hinn _ (un hzk));have hok:=yi (za HL).1 (za HL).2 (ks:=(ka.zip kb).take k) (fun z hz=>hinn z (UV hz));rw[<-za HLQ]at hok;have hlq:lq.length<=6400:=by have:=jz hok.1 hok.2.1;rw[za HNM]at this;omega
          have HNX:Hid ((if(px,py)∈lq then lq else lq++[(px,py)])=qG lp ((ka.zip kb).take (k+1))):=zb (by rw[XJ hzk,<-za HLQ]);obtain⟨kb1,ko1,rfl,_,c1⟩:=((za HKA).kc (za HK)).cell hpx;obtain⟨kb2,ko2,rfl,_,c2⟩:=((za HKB).kc (za HK)).cell hpy;have p2:=(za HB8).c 2;have q2:=(za HB9).c 2;have qb:=((za HB).kc (za HK)).c 0;simp only[UL,Uy,Us]at p2 q2 qb;have hka:k<ka.length:=by omega
          have hkb:k<kb.length:=by omega
          have HMC:Hid (∀W,Below wr.heap.size wr W->Calls Tryz.prog 98 #[.int .i64 px,.int .i64 py,.pointer (some ⟨bB,0,none⟩),.pointer (some ⟨w.heap.size+1,0,none⟩),.pointer (some ⟨w.heap.size+1+1+1,0,none⟩)] W fun e W'=>(∃v,e=.returned v)/\Steps w.heap.size W W'/\MeetS W' w.heap.size w.heap.size (w.heap.size+1) (w.heap.size+1+1+1) ms.length nm (if(px,py)∈lq then lq else lq++[(px,py)])/\∀b cs,AtC W b cs 56->AtC W' b cs 56):=zb (fun W hb=>by
           have hm:=(za HM).below hb;rw[<-za HNM]at hm⊢;exact zeA px py ns.length ms.length w.heap.size bB w.heap.size (w.heap.size+1) (w.heap.size+1+1+1) yc (some ⟨yb,yo,none⟩) lq W (za HIN) hl1 hl2 hlq (zd hb qb) hm (uC (za HK).size hb.size))
          clear hzz hpx hpy hkid hzk hinn hok hlq qb HLQ
          gi_wp2_with fail
          gi_region_with ((refine⟨trivial,(UH.2 (za HMC wr.drew (ue _ _).drew)).mono ?_⟩;rintro e w9⟨⟨v9,rfl⟩,hs9,hm9,hf9⟩;have HS9:=zb hs9;have HM9:=zb hm9;have HF9:=zb hf9;clear hs9 hm9 hf9))
          all_goals
           have hst:=(Steps.below (za HK).size (ue wr.heap.size wr).drew).trans (za HS9);have HK9:=zb ((za HK).steps hst);have HJ9:=zb (hst.tr J _ (za HJ) (za HJk));have HC8:=zb (za HF9 _ _ ((za HB8).below (ue wr.heap.size wr).drew));have HC9:=zb (za HF9 _ _ ((za HB9).below (ue wr.heap.size wr).drew));have hm9:=za HM9;rw[za HNX]at hm9;have HM9':=zb hm9;clear hst hm9
           gi_wp2_with fail
           exact⟨⟨_,_,(za HKL).1,by go_num,zb rfl,HM9',HJ9,HK9,HC8,HC9⟩,by have:=(za HKL).2;simpa[intOf]using this⟩
        . obtain rfl:k=zl:=by omega
          have hkid:vh ns ms pa pb=ka.zip kb:=by unfold vh;rw[vt (za HNA),vt (za HNB)]
          have hq:lq=qG lp (vh ns ms pa pb):=by rw[za HLQ,hkid,uz (by rw[za HZL];exact ud _)]
          have hok:=yi (za HL).1 (za HL).2 (ks:=vh ns ms pa pb) (fun z hz=>jO (za HOK).1 (za HOK).2 pa pb ((za HL).2 _ (un (za HPI))) z hz);have hF2:=(za HLS).next (za HPI)
          have hlen:i+1<=(qG lp (vh ns ms pa pb)).length:=by
           obtain⟨r,hr⟩:=hok.2.2;rw[hr,uG];omega
          rw[<-hq]at hok hF2 hlen;have HL2:=zb (And.intro hok.1 hok.2.1);have HF2:=zb hF2;clear hkid hq hok hF2
          gi_wp2_with fail
          exact⟨⟨lq,i+1,hlen,by go_num,HM,HJk,HK,HL2,HF2⟩,by simp[intOf];omega⟩
     . have HJX:=zb hJx8
       clear hJx8
       gi_wp2_with fail
       refine um (results_none rfl _ _ _) rfl ?_;exact⟨⟨_,rfl⟩,.inr ⟨_,List.take_prefix _ _,za HJX⟩⟩
  . obtain rfl:i=lp.length:=by omega
    have e:=(za HLS).done;subst e;have hj:=za HJi;rw[uz (ud _)]at hj;have HJL:=zb hj;clear hj HJi hpv hrow hil hll
    gi_wp2_with fail
    go_end0
    exact⟨⟨_,rfl⟩,.inl (za HJL)⟩
end Go.Proofs.YtpbnmhnbkfnaeaaGreatDoor
namespace Go.Proofs.YtpbnmhnbkfnaeaaGreatDoor
open Go.RowKit Nt
theorem Yc(s t:Value)(a b:Int)(p q:Option Addr)(l r c d:Nat)(hs:s=.slice p l c)(ht:t=.slice q r d)(w:World):
  Calls Tryz.prog 61 #[.agg #[s,.int .i64 a],.agg #[t,.int .i64 b]] w fun e w'=>e=.returned (.func (.func 97) #[] #[.pointer (some ⟨w.heap.size,0,none⟩),.pointer (some ⟨w.heap.size+1,0,none⟩)])/\w'=(w.alloc (.cells #[s,.int .i64 a] 52)).alloc (.cells #[t,.int .i64 b] 52):=by
 subst hs;subst ht;go_enter Tryz.func61,Tryz.ntmps61;go_wp2_with fail;go_ret;exact⟨rfl,rfl⟩
end Go.Proofs.YtpbnmhnbkfnaeaaGreatDoor
namespace Go.Proofs.YtpbnmhnbkfnaeaaGreatDoor
open Go.RowKit Nt
variable {F:Fence} {n:Nat} {P:Program}
theorem Jc{α:Type}{g:Operand}{ps:Array Tmp}{assign body:Code}{Q:Exit->Act->World->Prop}{a:Act}{w:World}
  (hro:F.round=none)(h1:1<=n){gf:Nat}{lb:Array Value}(hg:a.eval g=.func (.func gf) #[] lb)(hFg:F.fn gf)(eg:∀args w,(callFunc gf args).run P w=.ok (.enter gf args) w)
  {encs:α->Array Value}{L:List α}(hseq:zht F (n-1) P gf lb encs L w)(hps:∀x,(encs x).size=ps.size)
  (I Ix:List α->World->Prop)(hI:Turns w.heap.size I)(hIx:Turns w.heap.size Ix)(h0:I [] w)(Asg:α->World->Act->World->Prop)(hA:∀ {x W a1 W1},Asg x W a1 W1->Below W.heap.size W W1)
  (hassign:∀(l:Nat)(x:α),x∈L->∀(W:World)(K:Act->World->Prop),(∀a1 W1,Asg x W a1 W1->K a1 W1)->
   assign.wpIn (F.inRound l) (n-1-1) P (Exit.then K (fun _ _ _=>False)) {tmps:=(ps.zip (encs x)).foldl (fun t(p,v)=>t.setIfInBounds p v) a.tmps,defers:=[]} W)
  (hbody:∀(l:Nat)(pre:List α)(x:α)(W W1 W2:World)(a1:Act),Asg x W a1 W1->KC W1 W2->I pre W2->(pre++[x])<+:L->body.wpIn (F.inRound l) (n-1-1) P (zhs w.heap.size I Ix (pre++[x]) W2) a1 W2)
  (hdone:∀(D:Nat)(W:World),w.heap.size<=D->I L W->W.heap[D]? =some (.deferred (some []))->Q .normal {a with defers:={target:=.collected D,args:=#[]}::a.defers} W)
  (hstop:∀(D:Nat)(pre:List α)(W:World),w.heap.size<=D->pre<+:L->Ix pre W->W.heap[D]? =some (.deferred (some []))->Code.ret.wpIn F n P Q {a with defers:={target:=.collected D,args:=#[]}::a.defers} W):
  (Code.rangeFunc g ps assign body).wpIn F n P Q a w:=by
 refine wpIn_rangeFunc (fun fn hfn=>?_);rw[hro];obtain⟨R,hR⟩:∃R:LoopState->Option Code->Loop,∀s p,R s p={state:=s,pending:=p,fn,tmps:=a.tmps,params:=ps,assign,body,defers:=w.heap.size}:=⟨_,fun _ _=>rfl⟩
 have hne:w.heap.size≠w.heap.size+1:=by omega
 have hrec:Recs ((w.alloc (.deferred (some []))).alloc (.loop (R .ready none))) w.heap.size (w.heap.size+1) (R .ready none):=by
  refine⟨?_,(Below.heap_alloc _ _ _ (by simp)).trans (World.alloc_heap_new w _)⟩;have h:=World.alloc_heap_new (w.alloc (.deferred (some []))) (.loop (R .ready none));rwa[uk]at h
 have hin:I [] ((w.alloc (.deferred (some []))).alloc (.loop (R .ready none))):=hI.new (hI.new h0 _) _;have hbel:=zf (zf (ue w.heap.size w) (.deferred (some []))) (.loop (R .ready none));have hent:(Instr.enterLoop fn a.tmps ps assign body none).run P w=.ok (w.heap.size+1,[{target:=.collected w.heap.size,args:=#[]}]) ((w.alloc (.deferred (some []))).alloc (.loop (R .ready none))):=by
  rw[hR];exact run_enterLoop_outer _ _ _ _ _
 have hsz:w.heap.size+2=((w.alloc (.deferred (some []))).alloc (.loop (R .ready none))).heap.size:=by simp
 obtain⟨W1,hW1⟩:∃W1,(w.alloc (.deferred (some []))).alloc (.loop (R .ready none))=W1:=⟨_,rfl⟩
 rw[hW1]at hrec hin hbel hent hsz;have turn:∀ {β:Type}{K:β->World->Prop},Turns w.heap.size K->YT W1.heap.size K:=fun hK s A B row hs hg' hr=>hK s A B row hs hg' (fun r e=>by have:=(hr r e).1;omega)
 refine⟨w.heap.size+1,_,W1,{target:=.fn (.func gf) lb,args:=#[.func (.yield (w.heap.size+1)) #[] #[]]},W1,gf,#[.func (.yield (w.heap.size+1)) #[] #[]]++lb,W1,hent,?_,?_,?_,fun _=>h1,?_⟩
 . simp only[resolve,hg]
   simp[go_sem]
 . intro f' hf'
   simp[Target.leads]at hf';subst hf';exact hFg
 . simp[invoke,go_sem,eg]
 refine(hseq (w.heap.size+1) (fun pre W=>I pre W/\Recs W w.heap.size (w.heap.size+1) (R .ready none)) (fun pre W=>Ix pre W/\Recs W w.heap.size (w.heap.size+1) (R .done (some .ret))) W1 hbel
  (fun s A B row hs hg' hr=>⟨turn hI s A B row hs.1 hg' hr,hs.2.turn hg' (fun k e=>(hr k e).2)⟩)
  (fun s A B row hs hg' hr=>⟨turn hIx s A B row hs.1 hg' hr,hs.2.turn hg' (fun k e=>(hr k e).2)⟩)
  ?_ ⟨hin,hrec⟩).mono ?_
 . rintro pre x W⟨hi,hr⟩ hpx
   have hy:=run_yield (P:=P) (args:=encs x) hr.1 (by rw[hR];exact hps x);rw[hR]at hy;refine⟨fn,_,assign,body,hy,roundIn_of_wpIn hfn (hassign _ x (List.IsPrefix.mem (by simp) hpx) W _ (fun a1 Wn hasg=>?_))⟩;have hbn:=hA hasg;have hgn:W.grownBy Wn none:=⟨hbn.os,hbn.tape,hbn.output,hbn.size,fun k hk _=>hbn.block k hk⟩
   have hi:=hI pre W Wn none hi hgn (fun r e=>by cases e);have hr:=hr.turn hgn (fun k e=>by cases e);refine⟨_,run_beginRound hr.1 (by rw[hR]),?_⟩;have hr2:=hr.put hne {R .ready none with state:=.busy};refine wpIn_mono (hbody _ pre x W Wn _ a1 hasg (KC.put hr.1 rfl) (hI.put (by omega) hi _) hpx) ?_;have kcn:=KC.of_below hbn;have kc:=KC.put (o':=.loop {R .ready none with state:=.busy}) hr.1 rfl;obtain⟨W2,hW2⟩:∃W2,Wn.putObj (w.heap.size+1) (.loop {R .ready none with state:=.busy})=W2:=⟨_,rfl⟩
   rw[hW2]at hr2 kc⊢;rintro e a3 W3 hp;cases e with
   |normal=>
    obtain⟨k1,k2,k3⟩:=hp;have hr3:=hr2.from k1 (by omega) (by omega);have he:=run_endRound (P:=P) none hr3.1;have hr4:=hr3.put hne (R .ready none);rw[hR]at he hr4⊢;exact⟨_,_,he,.inl ⟨rfl,⟨hI.put (by omega) k3 _,hr4⟩,((kcn.trans kc).trans k2).trans (KC.put hr3.1 rfl)⟩⟩
   |ret=>
    obtain⟨k1,k3⟩:=hp;have hr3:=hr2.from k1 (by omega) (by omega);have he:=run_endRound (P:=P) (some .ret) hr3.1;have hr4:=hr3.put hne (R .done (some .ret));rw[hR]at he;rw[hR]at hr4;exact⟨_,_,he,.inr ⟨rfl,hIx.put (by omega) k3 _,by rw[hR];exact hr4⟩⟩
   |exit id=>exact hp.elim
   |goto t=>exact hp.elim
   |panic ch=>exact hp.elim
   |outgrown=>exact hp.elim
 . rintro e W2⟨⟨v,rfl⟩,(⟨hi,hr⟩|⟨pre,hp,hi,hr⟩)⟩
   . have he:=run_endLoop (P:=P) hr.1 (by rw[hR];simp)
     have hr4:=hr.put hne {R .ready none with state:=.exhausted};rw[hR]at he hr4;exact⟨none,_,he,hdone _ _ (ud _) (hI.put (by omega) hi _) hr4.2⟩
   . have he:=run_endLoop (P:=P) hr.1 (by rw[hR];simp)
     have hr4:=hr.put hne {R .done (some .ret)with state:=.exhausted};rw[hR]at he hr4;exact⟨some .ret,_,he,hstop _ pre _ (ud _) hp (hIx.put (by omega) hi _) hr4.2⟩
end Go.Proofs.YtpbnmhnbkfnaeaaGreatDoor
namespace Go.Proofs.YtpbnmhnbkfnaeaaGreatDoor
open Go.RowKit Go.Shelf Nt
attribute [local go_sem] wO
theorem zdq(s:ByteArray):qt s<=4:=by
 unfold qt
 split
 . omega
 . rw[xU]
   split
   . omega
   . split
     . omega
     . split<;>omega
theorem zdA{s:Int}{t:List UInt8}(h:kL s t=true):t.length<=1000:=by
 unfold kL at h
 split at h
 . unfold vI at h
   cases e:zw t 10 with
   |none=>rw[e]at h;exact absurd h (by simp)
   |some p=>
    unfold zw at e
    split at e
    . rename_i e'
      simp only[ux,ut]at e';omega
    . cases e
 . split at h
   . unfold kq at h
     simp only[ux]at h;have h:=h.2;unfold j7 at h;cases t with
     |nil=>simp
     |cons a r=>
      simp only[ux,ut]at h;omega
   . split at h
     . simp only[ux,ut]at h
       omega
     . split at h
       . unfold V7 at h
         simp only[ux,ut]at h;have:=zdq (B t);omega
       . split at h
         . simp only[Ur,ut]at h
           rcases h with rfl|rfl<;>simp
         . split at h
           . simp only[ut]at h
             omega
           . simp only[ut]at h
             rw[h];simp
theorem zb5{n:Nat}{nd:Nd}(h:zT n nd=true):nd.2.1.length<=1000:=by
 unfold zT at h;simp only[ux]at h;exact zdA h.1.2
theorem XI{ns:List Nd}{w:World}{b off c:Nat}(h:NodesAt w (.slice (some ⟨b,off,none⟩) ns.length c) ns){x:Int}(hx:0<=x/\x<ns.length):
  ∃ka kc,nvA ns w b off x=.agg #[.int .i64 (kp ns x).1,.string (B (kp ns x).2.1),.slice ka (kp ns x).2.2.length kc]:=by
 obtain⟨nd,hnd⟩:∃nd,ns[x.toNat]? =some nd:=⟨_,uf (show x.toNat<ns.length by omega)⟩
 obtain⟨kv,_,_,c2,_,ka,kc,rfl,_⟩:=h.node hnd;refine⟨ka,kc,?_⟩;unfold nvA;rw[vt hnd,c2];rfl
theorem Turns.kept{β:Type}{B:Nat}{S:Nat->Prop}{w₀:World}(hB:w₀.heap.size<=B):Turns B (fun(_:β) W=>Kept S w₀ W):=
 fun _ X Y row hs hg hr=>⟨hg.os.trans hs.os,hg.tape.trans hs.tape,hg.output.trans hs.output,uC hs.size hg.size,fun b hb hn=>by
  refine(hg.block b (uJ hb hs.size) (fun e=>?_)).trans (hs.block b hb hn);have:=hr b e.symm;omega⟩
theorem zds(ns ms:List Nd)(a b:Int)(xb xo xc yb yo yc:Nat)(w:World)(hx:NodesAt w (.slice (some ⟨xb,xo,none⟩) ns.length xc) ns)(hy:NodesAt w (.slice (some ⟨yb,yo,none⟩) ms.length yc) ms)
  (okn:ns.all (zT ns.length)=true)(okm:ms.all (zT ms.length)=true)(hab:vT ns.length ms.length (a,b))(hl1:ns.length<=80)(hl2:ms.length<=80)(hT:Tens w)(h3:3<w.heap.size):
  Calls Tryz.prog 32 #[.agg #[.slice (some ⟨xb,xo,none⟩) ns.length xc,.int .i64 a],.agg #[.slice (some ⟨yb,yo,none⟩) ms.length yc,.int .i64 b]] w fun e w'=>e=.returned (.int .i64 (jf ns ms a b))/\Below w.heap.size w w':=by
 refine(UH (n:=3)).1 ?_;refine callsIn_of_wp_marks Tryz.func32 rfl trivial ?_ rfl;simp only[Tryz.ntmps32,UZ,Uv,UG,Nat.reduceAdd,Nat.reduceSub,wu,wt,wV,wF,UE,UD]
 gi_wp2_with fail
 refine⟨trivial,(UH.2 (Yc _ _ a b (some ⟨xb,xo,none⟩) (some ⟨yb,yo,none⟩) ns.length ms.length xc yc rfl rfl _)).mono ?_⟩;rintro e w1⟨rfl,rfl⟩;have hbel:=zf (zf (zf (zf (zf (ue w.heap.size w) (.cells #[.slice (some ⟨xb,xo,none⟩) ns.length xc,.int .i64 a] 52)) (.cells #[.slice (some ⟨yb,yo,none⟩) ms.length yc,.int .i64 b] 52)) (.cells #[.int .i64 0] 3)) (.cells #[.slice (some ⟨xb,xo,none⟩) ns.length xc,.int .i64 a] 52)) (.cells #[.slice (some ⟨yb,yo,none⟩) ms.length yc,.int .i64 b] 52);have hbx:Boxed (((((w.alloc (.cells #[.slice (some ⟨xb,xo,none⟩) ns.length xc,.int .i64 a] 52)).alloc (.cells #[.slice (some ⟨yb,yo,none⟩) ms.length yc,.int .i64 b] 52)).alloc (.cells #[.int .i64 0] 3)).alloc (.cells #[.slice (some ⟨xb,xo,none⟩) ns.length xc,.int .i64 a] 52)).alloc (.cells #[.slice (some ⟨yb,yo,none⟩) ms.length yc,.int .i64 b] 52)) (w.heap.size+1+1) 3 (.int .i64 0):=by
  have h:=((Boxed.new ((w.alloc (.cells #[.slice (some ⟨xb,xo,none⟩) ns.length xc,.int .i64 a] 52)).alloc (.cells #[.slice (some ⟨yb,yo,none⟩) ms.length yc,.int .i64 b] 52)) 3 (.int .i64 0)).alloc (.cells #[.slice (some ⟨xb,xo,none⟩) ns.length xc,.int .i64 a] 52)).alloc (.cells #[.slice (some ⟨yb,yo,none⟩) ms.length yc,.int .i64 b] 52);rwa[uk,uk]at h
 have ha:AtC (((((w.alloc (.cells #[.slice (some ⟨xb,xo,none⟩) ns.length xc,.int .i64 a] 52)).alloc (.cells #[.slice (some ⟨yb,yo,none⟩) ms.length yc,.int .i64 b] 52)).alloc (.cells #[.int .i64 0] 3)).alloc (.cells #[.slice (some ⟨xb,xo,none⟩) ns.length xc,.int .i64 a] 52)).alloc (.cells #[.slice (some ⟨yb,yo,none⟩) ms.length yc,.int .i64 b] 52)) (w.heap.size+1+1+1) #[.slice (some ⟨xb,xo,none⟩) ns.length xc,.int .i64 a] 52:=by
  have h:=(AtC.new (((w.alloc (.cells #[.slice (some ⟨xb,xo,none⟩) ns.length xc,.int .i64 a] 52)).alloc (.cells #[.slice (some ⟨yb,yo,none⟩) ms.length yc,.int .i64 b] 52)).alloc (.cells #[.int .i64 0] 3)) #[.slice (some ⟨xb,xo,none⟩) ns.length xc,.int .i64 a] 52).alloc (.cells #[.slice (some ⟨yb,yo,none⟩) ms.length yc,.int .i64 b] 52);rwa[uk,uk,uk]at h
 have hb:AtC (((((w.alloc (.cells #[.slice (some ⟨xb,xo,none⟩) ns.length xc,.int .i64 a] 52)).alloc (.cells #[.slice (some ⟨yb,yo,none⟩) ms.length yc,.int .i64 b] 52)).alloc (.cells #[.int .i64 0] 3)).alloc (.cells #[.slice (some ⟨xb,xo,none⟩) ns.length xc,.int .i64 a] 52)).alloc (.cells #[.slice (some ⟨yb,yo,none⟩) ms.length yc,.int .i64 b] 52)) (w.heap.size+1+1+1+1) #[.slice (some ⟨yb,yo,none⟩) ms.length yc,.int .i64 b] 52:=by
  have h:=AtC.new ((((w.alloc (.cells #[.slice (some ⟨xb,xo,none⟩) ns.length xc,.int .i64 a] 52)).alloc (.cells #[.slice (some ⟨yb,yo,none⟩) ms.length yc,.int .i64 b] 52)).alloc (.cells #[.int .i64 0] 3)).alloc (.cells #[.slice (some ⟨xb,xo,none⟩) ns.length xc,.int .i64 a] 52)) #[.slice (some ⟨yb,yo,none⟩) ms.length yc,.int .i64 b] 52;rwa[uk,uk,uk,uk]at h
 gi_wp2_with fail
 obtain⟨W0,hW0⟩:∃W0,((((w.alloc (.cells #[.slice (some ⟨xb,xo,none⟩) ns.length xc,.int .i64 a] 52)).alloc (.cells #[.slice (some ⟨yb,yo,none⟩) ms.length yc,.int .i64 b] 52)).alloc (.cells #[.int .i64 0] 3)).alloc (.cells #[.slice (some ⟨xb,xo,none⟩) ns.length xc,.int .i64 a] 52)).alloc (.cells #[.slice (some ⟨yb,yo,none⟩) ms.length yc,.int .i64 b] 52)=W0:=⟨_,rfl⟩
 rw[hW0]at hbel hbx ha hb⊢;have hseq:=YZ ns ms a b xb xo xc yb yo yc (w.heap.size+1+1+1) (w.heap.size+1+1+1+1) W0 (hx.below hbel) (hy.below hbel) okn okm hab hl1 hl2 ha hb;have HOK:=zb (And.intro okn okm);have HFST:=zb (zcB okn okm hab);have HNX:=zb (hx.below hbel);have HNY:=zb (hy.below hbel);have HT0:=zb (And.intro (hT.belowB hbel h3) (uJ h3 hbel.size));have hbl:=hbx.lt;have HBX:=zb hbx;have HBL:=zb hbel;clear hx hy okn okm hab hT h3 hW0 ha hb hbx hbel
 refine Jc rfl (by decide) (gf:=97) (lb:=#[.pointer (some ⟨w.heap.size+1+1+1,0,none⟩),.pointer (some ⟨w.heap.size+1+1+1+1,0,none⟩)]) rfl trivial (enters_of Tryz.func97 (by kernel_rfl) rfl) hseq (fun _=>rfl)
  (fun pre W=>(∀x∈pre,kZ ns ms x.1 x.2=0)/\Below W0.heap.size W0 W)
  (fun pre W=>(∃p y,pre=p++[y]/\(∀x∈p,kZ ns ms x.1 x.2=0)/\kZ ns ms y.1 y.2≠0/\Boxed W (w.heap.size+1+1) 3 (.int .i64 (kZ ns ms y.1 y.2)))/\Kept (fun b=>b=w.heap.size+1+1) W0 W)
  (Turns.and (Turns.pure _ _) (Turns.below (ud _) (ud _))) ?tix ⟨by simp,ue _ _⟩
  (fun x W a1 W1=>∃ka kc la lc,a1=⟨#[.agg #[.slice (some ⟨xb,xo,none⟩) ns.length xc,.int .i64 a],.agg #[.slice (some ⟨yb,yo,none⟩) ms.length yc,.int .i64 b],.pointer (some ⟨w.heap.size,0,none⟩),.pointer (some ⟨w.heap.size+1,0,none⟩),.pointer (some ⟨w.heap.size+1+1,0,none⟩),.pointer (some ⟨W.heap.size,0,none⟩),.pointer (some ⟨W.heap.size+1,0,none⟩),undef,.agg #[.slice (some ⟨xb,xo,none⟩) ns.length xc,.int .i64 a],.agg #[.slice (some ⟨yb,yo,none⟩) ms.length yc,.int .i64 b],.func (.func 97) #[] #[.pointer (some ⟨w.heap.size+1+1+1,0,none⟩),.pointer (some ⟨w.heap.size+1+1+1+1,0,none⟩)],.agg #[.int .i64 (kp ns x.1).1,.string (B (kp ns x.1).2.1),.slice ka (kp ns x.1).2.2.length kc],.agg #[.int .i64 (kp ms x.2).1,.string (B (kp ms x.2).2.1),.slice la (kp ms x.2).2.2.length lc],undef,undef,undef,undef,undef,undef],[]⟩/\
   W1=(W.alloc (.cells #[.int .i64 (kp ns x.1).1,.string (B (kp ns x.1).2.1),.slice ka (kp ns x.1).2.2.length kc] 56)).alloc (.cells #[.int .i64 (kp ms x.2).1,.string (B (kp ms x.2).2.1),.slice la (kp ms x.2).2.2.length lc] 56))
  (fun⟨_,_,_,_,_,h⟩=>by rw[h];exact zf (zf (ue _ _) _) _) ?assign ?body ?done ?stop
 case tix=>
  refine Turns.and ?_ (Turns.kept (ud _));rintro s W W' row⟨p,y,e1,e2,e3,h⟩ hg hr;exact⟨p,y,e1,e2,e3,(hg.block _ h.lt (fun e=>by have:=hr _ e.symm;omega)).trans h⟩
 case assign=>
  intro l x hx W K hK;have hin:=(za HFST).2 x hx;obtain⟨ka,kc,e1⟩:=XI (za HNX) hin.1;obtain⟨la,lc,e2⟩:=XI (za HNY) hin.2;have hK':=hK _ _ ⟨ka,kc,la,lc,rfl,rfl⟩;clear hK;have HK:=zb hK';clear hK';rw[e1,e2];clear e1 e2
  gi_wp2
  exact za HK
 case body=>
  rintro l pre x W W1 W2 _⟨ka,kc,la,lc,rfl,rfl⟩ hkc⟨hpre,hbw⟩ hpx;have hin:=(za HFST).2 x (List.IsPrefix.mem (by simp) hpx);have ok1:=uI.1 (za HOK).1 _ (kG hin.1);have ok2:=uI.1 (za HOK).2 _ (kG hin.2);obtain⟨n1,hn1⟩:∃n,kp ns x.1=n:=⟨_,rfl⟩
  obtain⟨n2,hn2⟩:∃n,kp ms x.2=n:=⟨_,rfl⟩
  have hlab:kZ ns ms x.1 x.2=zU n1 n2:=by unfold kZ;rw[hn1,hn2]
  rw[hn1]at ok1 hkc⊢;rw[hn2]at ok2 hkc⊢;have hA1:AtC3 W2 W.heap.size (.int .i64 n1.1) (.string (B n1.2.1)) (.slice ka n1.2.2.length kc) 56:=hkc.cells _ _ ((AtC3.new W (.int .i64 n1.1) (.string (B n1.2.1)) (.slice ka n1.2.2.length kc) 56).below (zf (ue _ _) (.cells #[.int .i64 n2.1,.string (B n2.2.1),.slice la n2.2.2.length lc] 56))) rfl;have hA2:AtC3 W2 (W.heap.size+1) (.int .i64 n2.1) (.string (B n2.2.1)) (.slice la n2.2.2.length lc) 56:=by
   have h:=AtC3.new (W.alloc (.cells #[.int .i64 n1.1,.string (B n1.2.1),.slice ka n1.2.2.length kc] 56)) (.int .i64 n2.1) (.string (B n2.2.1)) (.slice la n2.2.2.length lc) 56;rw[uk]at h;exact hkc.cells _ _ h rfl
  have HN:=zb (zda n1 n2 ka la kc lc W2 (Xr ok1) (Xr ok2) (zb5 ok1) (zb5 ok2) ((za HT0).1.belowB hbw (za HT0).2) (uJ (za HT0).2 hbw.size));have p0:=hA1.n0;have p1:=hA1.n1;have p2:=hA1.n2;have q0:=hA2.n0;have q1:=hA2.n1;have q2:=hA2.n2;obtain⟨R,hR⟩:∃R,zU n1 n2=R:=⟨_,rfl⟩
  rw[hR]at hlab HN;have HBW:=zb hbw;have HPRE:=zb hpre;have HLAB:=zb hlab;have HBX2:=zb (zL (za HBX) hbw);clear hA1 hA2 hkc hR hlab ok1 ok2 hn1 hn2 hpre hbw hpx;have h12:1<=3-1-1:=by decide
  gi_wp2_with fail
  refine⟨trivial,(CallsIn.inRound l (UH.2 (za HN))).mono ?_⟩;rintro e w3⟨rfl,hb3⟩;have HB3:=zb hb3;clear hb3 p0 p1 p2 q0 q1 q2 HN;by_cases h0:R=0
  . subst h0
    gi_wp2_with fail
    exact⟨(zE (za HB3)).from _,KC.of_below (za HB3),fun y hy=>by
     rcases uA.1 hy with hy|hy
     . exact za HPRE y hy
     . have:y=x:=by simpa using hy
       rw[this];exact za HLAB,zi (za HBW) (za HB3)⟩
  . have k:(R != 0)=true:=by simp[h0]
    have hbx3:=zL (za HBX2) (za HB3);have HBX3:=zb hbx3;have f0:=hbx3.cell;have f1:=hbx3.frozen;clear hbx3
    gi_wp2_with fail
    exact⟨((zE (za HB3)).trans (KeepsOthers.setCell _ _ _)).from _,⟨pre,x,rfl,za HPRE,by rw[za HLAB];exact h0,by rw[za HLAB];exact(za HBX3).set _⟩,((Kept.of_below (za HBW)).trans (Kept.of_below (za HB3))).trans (Kept.set (S:=fun b=>b=w.heap.size+1+1) (a:=⟨w.heap.size+1+1,0,none⟩) rfl _)⟩
 case done=>
  rintro D W hD⟨hpre,hbw⟩ hK;have HZ:Hid (jf ns ms a b=0):=zb (by rw[(za HFST).1];exact Xh hpre);have hbx:=zL (za HBX) hbw;have HM:=zb (((Marks.nil w.heap.size W).cons (D:=D) (by have:=(za HBL).size;omega) hK (by simp)).kept (Kept.set (S:=fun b=>b=w.heap.size+1+1) (a:=⟨w.heap.size+1+1,0,none⟩) rfl (.int .i64 0)) (fun d hd e=>by
   have:d=D:=by simpa using hd
   omega))
  have HBX3:=zb (hbx.set (.int .i64 0));have HBW:=zb ((zi (za HBL) hbw).setCell (p:=⟨w.heap.size+1+1,0,none⟩) (by show w.heap.size<=w.heap.size+1+1;omega) (.int .i64 0));have f0:=hbx.cell;have f1:=hbx.frozen;clear hbx hpre hbw hK
  gi_wp2_with fail
  refine qL w.heap.size [D] _ (za HM) (fun w' hst=>?_);have f2:=(kK hst (za HBX3)).cell;refine⟨.int .i64 0,by simp[results,Tryz.f32,go_sem,f2],by rw[za HZ],(za HBW).trans hst.below⟩
 case stop=>
  rintro D pre W hD hpr⟨⟨p,y,rfl,hp,hy,hbx⟩,hkp⟩ hK;have HZ:Hid (jf ns ms a b=kZ ns ms y.1 y.2):=zb (by rw[(za HFST).1];exact zek hy hpr hp);have hm:=(Marks.nil w.heap.size W).cons (D:=D) (by have:=(za HBL).size;omega) hK (by simp);have HBW:=zb ((za HBL).trans (hkp.below (base:=w.heap.size) (za HBL).size (fun b e=>by omega)));have HM:=zb hm;have HB3:=zb hbx;obtain⟨R,hR⟩:∃R,kZ ns ms y.1 y.2=R:=⟨_,rfl⟩
  rw[hR]at HZ HB3;clear hm hbx hkp hK hp hy hpr hR
  gi_wp2_with fail
  refine qL w.heap.size [D] W (za HM) (fun w' hst=>?_);have f2:=(kK hst (za HB3)).cell;refine⟨.int .i64 R,by simp[results,Tryz.f32,go_sem,f2],by rw[za HZ],(za HBW).trans hst.below⟩
end Go.Proofs.YtpbnmhnbkfnaeaaGreatDoor
namespace Go.Proofs.YtpbnmhnbkfnaeaaGreatDoor
open Go.RowKit Nt
theorem yM(d e:Dt)(u v:Value)(w:World)(hd:DataAt w u d)(he:DataAt w v e)(hsd:d.1.length<=1048576/\d.2.length<=1048576/\qr d.1)(hse:e.1.length<=1048576/\e.2.length<=1048576/\qr e.1)(hT:Tabz w)(hN:Tens w)(h3:3<w.heap.size):
  Calls Tryz.prog 8 #[u,v] w fun r W'=>r=.returned (.int .i64 (vR d e))/\Below w.heap.size w W':=by
 obtain⟨ns,rs⟩:=d;obtain⟨ms,ss⟩:=e;have HD:=zb hd;have HE:=zb he;obtain⟨nv,rv,rfl,hn,hr⟩:=hd;obtain⟨mv,sv,rfl,hm,hs⟩:=he;simp only at hn hr hm hs hsd hse;have HN:=zb hn;have HM:=zb hm;have HR:=zb hr;have HS:=zb hs;obtain⟨an,cn,rfl,hn1,hn2⟩:=hn.form0;obtain⟨ar,cr,rfl,hr1,hr2⟩:=hr.form;obtain⟨am,cm,rfl,hm1,hm2⟩:=hm.form0;obtain⟨as_,cs,rfl,hs1,hs2⟩:=hs.form;unfold maxLen at hn2 hr2 hm2 hs2;obtain⟨R,hR⟩:∃R,vR (ns,rs) (ms,ss)=R:=⟨_,rfl⟩
 rw[hR];have HTR:=zb hR;have HB:=zb (zf (zf (ue w.heap.size w) (.cells #[.slice an ns.length cn,.slice ar rs.length cr] 26)) (.cells #[.slice am ms.length cm,.slice as_ ss.length cs] 26));have HP:=zb ((AtC2.new w (.slice an ns.length cn) (.slice ar rs.length cr) 26).alloc (.cells #[.slice am ms.length cm,.slice as_ ss.length cs] 26));have HQ:=zb (AtC2.new (w.alloc (.cells #[.slice an ns.length cn,.slice ar rs.length cr] 26)) (.slice am ms.length cm) (.slice as_ ss.length cs) 26);rw[uk]at HQ;have HT:=zb (And.intro hT (And.intro hN h3));have HC1:Hid (∀W,Below w.heap.size w W->Calls Tryz.prog 31 #[.agg #[.slice an ns.length cn,.slice ar rs.length cr]] W fun e w'=>e=.returned (.bool (vD (ns,rs)&&decide (0<rs.length)))/\Below W.heap.size W w'):=zb (fun W hb=>QR _ _ (ns,rs) W ((za HD).below hb) hsd ((za HT).1.below (by have:=(za HT).2.2;omega) hb) ((za HT).2.1.belowB hb (za HT).2.2) (uJ (za HT).2.2 hb.size));have HC2:Hid (∀W,Below w.heap.size w W->Calls Tryz.prog 31 #[.agg #[.slice am ms.length cm,.slice as_ ss.length cs]] W fun e w'=>e=.returned (.bool (vD (ms,ss)&&decide (0<ss.length)))/\Below W.heap.size W w'):=zb (fun W hb=>QR _ _ (ms,ss) W ((za HE).below hb) hse ((za HT).1.below (by have:=(za HT).2.2;omega) hb) ((za HT).2.1.belowB hb (za HT).2.2) (uJ (za HT).2.2 hb.size));clear hn hr hm hs hsd hse hR hT hN h3;go_enter Tryz.func8,Tryz.ntmps8;go_wp2_with fail;obtain⟨W,hW⟩:∃W,(w.alloc (.cells #[.slice an ns.length cn,.slice ar rs.length cr] 26)).alloc (.cells #[.slice am ms.length cm,.slice as_ ss.length cs] 26)=W:=⟨_,rfl⟩
 rw[hW]at HB HP HQ⊢;clear hW;have p0:=(za HP).n0;have p1:=(za HP).n1;go_wp2_with fail;refine(za HC1 W (za HB)).mono ?_;rintro e' W1⟨rfl,hb1⟩;have HB1:=zb (zi (za HB) hb1);have HP1:=zb ((za HP).below hb1);have HQ1:=zb ((za HQ).below hb1);clear hb1 HB HP HQ p0 p1;rcases uN (vD (ns,rs)&&decide (0<rs.length))with ho|ho
 . rw[ho]
   have HO1:=zb ho;clear ho;have q0:=(za HQ1).n0;have q1:=(za HQ1).n1;go_wp2_with fail;refine(za HC2 W1 (za HB1)).mono ?_;rintro e' W2⟨rfl,hb2⟩;have HB2:=zb (zi (za HB1) hb2);have HP2:=zb ((za HP1).below hb2);have HQ2:=zb ((za HQ1).below hb2);clear hb2 HB1 HP1 HQ1 q0 q1;rcases uN (vD (ms,ss)&&decide (0<ss.length))with ho|ho
   . rw[ho]
     have HO2:=zb ho;clear ho;have p0:=(za HP2).n0;have p1:=(za HP2).n1;have q0:=(za HQ2).n0;have q1:=(za HQ2).n1;obtain⟨oa,la⟩:=Bool.and_eq_true_iff.1 (za HO1);obtain⟨ob,lb⟩:=Bool.and_eq_true_iff.1 (za HO2);have hrl:0<rs.length:=wU la;have hsl:0<ss.length:=wU lb;obtain⟨a,rt,har⟩:∃a t,rs=a::t:=by cases rs with|nil=>exact absurd hrl (by simp)|cons a t=>exact⟨a,t,rfl⟩
     obtain⟨b,st,hbs⟩:∃b t,ss=b::t:=by cases ss with|nil=>exact absurd hsl (by simp)|cons b t=>exact⟨b,t,rfl⟩
     have HZ:Hid (jf ns ms a b=R):=zb (by rw[<-za HTR];have h1:=oa;have h2:=ob;rw[har]at h1⊢;rw[hbs]at h2⊢;exact(xI h1 h2).symm);obtain⟨l1,_,k1,j1⟩:=jQ oa;obtain⟨l2,_,k2,j2⟩:=jQ ob;have ha:=j1 a (by rw[har];exact UK);have hb:=j2 b (by rw[hbs];exact UK);obtain⟨ga,oa',rfl,_,u0⟩:=((za HR).below (za HB2)).cell (k:=0) (x:=a) (by rw[har];rfl);obtain⟨gb,ob',rfl,_,u1⟩:=((za HS).below (za HB2)).cell (k:=0) (x:=b) (by rw[hbs];rfl);rw[wC]at u0 u1;obtain⟨gn,on,cn',e1,_,_,_⟩:=(za HN).form (show 0<ns.length by omega);injection e1 with e1 _ e1c;subst e1;clear e1c;obtain⟨gm,om,cm',e2,_,_,_⟩:=(za HM).form (show 0<ms.length by omega);injection e2 with e2 _ e2c;subst e2;clear e2c;have HC:Hid (∀X,Below W2.heap.size W2 X->Calls Tryz.prog 32 #[.agg #[.slice (some ⟨gn,on,none⟩) ns.length cn,.int .i64 a],.agg #[.slice (some ⟨gm,om,none⟩) ms.length cm,.int .i64 b]] X fun r W'=>r=.returned (.int .i64 R)/\Below X.heap.size X W'):=zb (fun X hX=>by
      rw[<-za HZ];have hbX:=zi (za HB2) hX;exact zds ns ms a b _ _ _ _ _ _ X ((za HN).below hbX) ((za HM).below hbX) k1 k2 ⟨ha,hb⟩ l1 l2 ((za HT).2.1.belowB hbX (za HT).2.2) (uJ (za HT).2.2 hbX.size))
     have t0:(0:Int)<(rs.length:Int):=by omega
     have t1:(0:Int)<(ss.length:Int):=by omega
     clear k1 k2 j1 j2 ha hb har hbs oa ob la lb;have d0:W2.drew.cell? ⟨w.heap.size,0,none⟩=some (.slice (some ⟨gn,on,none⟩) ns.length cn):=p0;have d1:W2.drew.cell? ⟨w.heap.size,1,none⟩=some (.slice (some ⟨ga,oa',none⟩) rs.length cr):=p1;have d2:W2.drew.cell? ⟨ga,oa',none⟩=some (.int .i64 a):=u0;have d3:W2.drew.cell? ⟨w.heap.size+1,0,none⟩=some (.slice (some ⟨gm,om,none⟩) ms.length cm):=q0;have d4:W2.drew.cell? ⟨w.heap.size+1,1,none⟩=some (.slice (some ⟨gb,ob',none⟩) ss.length cs):=q1;have d5:W2.drew.cell? ⟨gb,ob',none⟩=some (.int .i64 b):=u1;go_wp2_with fail
     go_region_held3 (fun w'=>w'.cell? ⟨w.heap.size,0,none⟩=some (.slice (some ⟨gn,on,none⟩) ns.length cn)/\w'.cell? ⟨w.heap.size,1,none⟩=some (.slice (some ⟨ga,oa',none⟩) rs.length cr)/\w'.cell? ⟨ga,oa',none⟩=some (.int .i64 a)/\w'.cell? ⟨w.heap.size+1,0,none⟩=some (.slice (some ⟨gm,om,none⟩) ms.length cm)/\w'.cell? ⟨w.heap.size+1,1,none⟩=some (.slice (some ⟨gb,ob',none⟩) ss.length cs)/\w'.cell? ⟨gb,ob',none⟩=some (.int .i64 b)) (((try dsimp only);(repeat' apply And.intro)<;>with_reducible assumption)) ((go_at_call 32;refine(za HC W2.drew (ue _ _).drew).mono ?_;rintro e w5⟨rfl,hb5⟩;have HB5:Hid (Below W2.heap.size W2 w5):=(ue _ _).drew.trans hb5;have c1:=zd (za HB5) p0;have c2:=zd (za HB5) p1;have c3:=zd (za HB5) u0;have c4:=zd (za HB5) q0;have c5:=zd (za HB5) q1;have c6:=zd (za HB5) u1;clear hb5))
     go_wp2_with fail;go_ret;exact⟨rfl,zi (za HB2) (za HB5)⟩
   . rw[ho]
     have HZ:Hid (R=0):=zb (by
      rw[<-za HTR];rcases Ww.1 ho with h|h
      . exact KJ h
      . exact VO (UO.1 (by have:=of_decide_eq_false h;simp only at this⊢;omega)))
     clear ho;go_wp2_with fail;go_ret;exact⟨zK (za HZ).symm,za HB2⟩
 . rw[ho]
   have HZ:Hid (R=0):=zb (by
    rw[<-za HTR];rcases Ww.1 ho with h|h
    . exact KI h
    . exact VN (UO.1 (by have:=of_decide_eq_false h;simp only at this⊢;omega)))
   clear ho;go_wp2_with fail;go_ret;exact⟨zK (za HZ).symm,za HB1⟩
end Go.Proofs.YtpbnmhnbkfnaeaaGreatDoor
