/- A part of the proof, put together out of smaller texts. -/
import Derived.Test.YtpbnmhnbkfnaeaaGreatDoorM0
import Derived.Test.YtpbnmhnbkfnaeaaGreatDoorM3
import Derived.Test.YtpbnmhnbkfnaeaaGreatDoorM4
import Derived.Test.YtpbnmhnbkfnaeaaGreatDoorM8
import Derived.Test.YtpbnmhnbkfnaeaaGreatDoorM9
import Derived.Test.YtpbnmhnbkfnaeaaGreatDoorM10
import Derived.Deep.Cut
import Derived.Deep.CutRange
set_option linter.all false
set_option maxRecDepth 100000
set_option maxHeartbeats 32000000
namespace Go.Proofs.YtpbnmhnbkfnaeaaGreatDoor
open Go.RowKit Nt
theorem KI{d e:Dt}(h:vD d=false):vR d e=0:=by unfold vR;rw[h];rfl
theorem KJ{d e:Dt}(h:vD e=false):vR d e=0:=by unfold vR;rw[h,wo];rfl
theorem VN{d e:Dt}(h:d.2=[]):vR d e=0:=by unfold vR;rw[h];split<;>rfl
theorem VO{d e:Dt}(h:e.2=[]):vR d e=0:=by unfold vR;rw[h];split<;>(try rfl);split<;>first|rfl|simp_all
theorem xI{ns ms:List Nd}{a b:Int}{rs ss:List Int}(h1:vD (ns,a::rs)=true)(h2:vD (ms,b::ss)=true):vR (ns,a::rs) (ms,b::ss)=jf ns ms a b:=by unfold vR;rw[h1,h2];rfl
theorem jQ{ns:List Nd}{rs:List Int}(h:vD (ns,rs)=true):ns.length<=80/\rs.length<=12/\ns.all (zT ns.length)=true/\∀r∈rs,0<=r/\r<ns.length:=by
 unfold vD jG at h;simp only[ux,ut]at h;obtain⟨⟨⟨h1,h2⟩,h3⟩,h4⟩:=h;refine⟨h1,h2,h3,fun r hr=>?_⟩;have:=uI.1 h4 r hr;unfold kW at this;simpa using this
theorem KG(d e:Dt)(u v:Value)(w:World)(hd:DataAt w u d)(he:DataAt w v e)(hsd:d.1.length<=1048576/\d.2.length<=1048576/\qr d.1)(hse:e.1.length<=1048576/\e.2.length<=1048576/\qr e.1):
  Calls Tryz.prog 9 #[u,v] w fun r W'=>r=.returned (.int .i64 (vR d e))/\Below w.heap.size w W':=by
 obtain⟨ns,rs⟩:=d;obtain⟨ms,ss⟩:=e;have HD:=zb hd;have HE:=zb he;obtain⟨nv,rv,rfl,hn,hr⟩:=hd;obtain⟨mv,sv,rfl,hm,hs⟩:=he;simp only at hn hr hm hs hsd hse;have HN:=zb hn;have HM:=zb hm;have HR:=zb hr;have HS:=zb hs;obtain⟨an,cn,rfl,hn1,hn2⟩:=hn.form0;obtain⟨ar,cr,rfl,hr1,hr2⟩:=hr.form;obtain⟨am,cm,rfl,hm1,hm2⟩:=hm.form0;obtain⟨as_,cs,rfl,hs1,hs2⟩:=hs.form;unfold maxLen at hn2 hr2 hm2 hs2;have HSD:=zb hsd;have HSE:=zb hse;obtain⟨R,hR⟩:∃R,vR (ns,rs) (ms,ss)=R:=⟨_,rfl⟩
 rw[hR];have HTR:=zb hR;have HB:=zb (zf (zf (ue w.heap.size w) (.cells #[.slice an ns.length cn,.slice ar rs.length cr] 26)) (.cells #[.slice am ms.length cm,.slice as_ ss.length cs] 26));have HP:=zb ((AtC2.new w (.slice an ns.length cn) (.slice ar rs.length cr) 26).alloc (.cells #[.slice am ms.length cm,.slice as_ ss.length cs] 26));have HQ:=zb (AtC2.new (w.alloc (.cells #[.slice an ns.length cn,.slice ar rs.length cr] 26)) (.slice am ms.length cm) (.slice as_ ss.length cs) 26);rw[uk]at HQ;clear hn hr hm hs hsd hse hR;go_enter Tryz.func9,Tryz.ntmps9;go_wp2_with fail;obtain⟨W,hW⟩:∃W,(w.alloc (.cells #[.slice an ns.length cn,.slice ar rs.length cr] 26)).alloc (.cells #[.slice am ms.length cm,.slice as_ ss.length cs] 26)=W:=⟨_,rfl⟩
 rw[hW]at HB HP HQ⊢;clear hW;have h:=jX (ns,rs) _ W ((za HD).below (za HB)) (za HSD);refine h.mono ?_;clear h;rintro e' W1⟨rfl,hb1⟩;have HB1:=zb (zi (za HB) hb1);have HP1:=zb ((za HP).below hb1);have HQ1:=zb ((za HQ).below hb1);clear hb1 HB HP HQ;rcases uN (vD (ns,rs))with ho|ho
 . rw[ho]
   have HO1:=zb ho;clear ho;have q0:=(za HQ1).n0;have q1:=(za HQ1).n1;go_wp2_with fail;have h:=jX (ms,ss) _ W1 ((za HE).below (za HB1)) (za HSE);refine h.mono ?_;clear h;rintro e' W2⟨rfl,hb2⟩;have HB2:=zb (zi (za HB1) hb2);have HP2:=zb ((za HP1).below hb2);have HQ2:=zb ((za HQ1).below hb2);clear hb2 HB1 HP1 HQ1 q0 q1;rcases uN (vD (ms,ss))with ho|ho
   . rw[ho]
     have HO2:=zb ho;clear ho;have p0:=(za HP2).n0;have p1:=(za HP2).n1;have q0:=(za HQ2).n0;have q1:=(za HQ2).n1;by_cases hr0:rs=[]
     . have HZ:Hid (R=0):=zb (by rw[<-za HTR];exact VN hr0)
       have r1:((rs.length:Int)==0)=true:=by rw[hr0];rfl
       clear hr0;go_wp2_with fail;go_ret;exact⟨zK (za HZ).symm,za HB2⟩
     . obtain⟨a,rt,har⟩:∃a t,rs=a::t:=by cases rs with|nil=>exact absurd rfl hr0|cons a t=>exact⟨a,t,rfl⟩
       have hrl:0<rs.length:=UQ.2 hr0;have r1:((rs.length:Int)==0)=false:=by rw[ug];omega
       by_cases hs0:ss=[]
       . have HZ:Hid (R=0):=zb (by rw[<-za HTR];exact VO hs0)
         have r2:((ss.length:Int)==0)=true:=by rw[hs0];rfl
         clear hs0 hr0 har hrl;go_wp2_with fail;go_ret;exact⟨zK (za HZ).symm,za HB2⟩
       . obtain⟨b,st,hbs⟩:∃b t,ss=b::t:=by cases ss with|nil=>exact absurd rfl hs0|cons b t=>exact⟨b,t,rfl⟩
         have hsl:0<ss.length:=UQ.2 hs0;have r2:((ss.length:Int)==0)=false:=by rw[ug];omega
         have HZ:Hid (jf ns ms a b=R):=zb (by rw[<-za HTR];have h1:=za HO1;have h2:=za HO2;rw[har]at h1⊢;rw[hbs]at h2⊢;exact(xI h1 h2).symm);obtain⟨l1,_,k1,j1⟩:=jQ (za HO1);obtain⟨l2,_,k2,j2⟩:=jQ (za HO2);have ha:=j1 a (by rw[har];exact UK);have hb:=j2 b (by rw[hbs];exact UK);obtain⟨ga,oa,rfl,_,u0⟩:=((za HR).below (za HB2)).cell (k:=0) (x:=a) (by rw[har];rfl);obtain⟨gb,ob,rfl,_,u1⟩:=((za HS).below (za HB2)).cell (k:=0) (x:=b) (by rw[hbs];rfl);rw[wC]at u0 u1;have HC:Hid (∀X,Below W2.heap.size W2 X->Calls Tryz.prog 33 #[.slice an ns.length cn,.int .i64 a,.slice am ms.length cm,.int .i64 b] X fun r W'=>r=.returned (.int .i64 R)/\Below X.heap.size X W'):=zb (fun X hX=>by
          rw[<-za HZ];exact zet ns ms a b _ _ X ((za HN).below (zi (za HB2) hX)) ((za HM).below (zi (za HB2) hX)) k1 k2 ⟨ha,hb⟩ (za HSD).2.2 (za HSE).2.2 l1 l2)
         have t0:(0:Int)<(rs.length:Int):=by omega
         have t1:(0:Int)<(ss.length:Int):=by omega
         clear k1 k2 j1 j2 ha hb hr0 hs0 har hbs;go_wp2_with fail
         go_region_held3 (fun w'=>w'.cell? ⟨w.heap.size,0,none⟩=some (.slice an ns.length cn)/\w'.cell? ⟨w.heap.size,1,none⟩=some (.slice (some ⟨ga,oa,none⟩) rs.length cr)/\w'.cell? ⟨ga,oa,none⟩=some (.int .i64 a)/\w'.cell? ⟨w.heap.size+1,0,none⟩=some (.slice am ms.length cm)/\w'.cell? ⟨w.heap.size+1,1,none⟩=some (.slice (some ⟨gb,ob,none⟩) ss.length cs)/\w'.cell? ⟨gb,ob,none⟩=some (.int .i64 b)) (((try dsimp only);(repeat' apply And.intro)<;>(first|with_reducible assumption|exact p0|exact p1|exact u0|exact q0|exact q1|exact u1))) ((go_at_call 33;refine(za HC W2.drew (ue _ _).drew).mono ?_;rintro e w5⟨rfl,hb5⟩;have HB5:Hid (Below W2.heap.size W2 w5):=(ue _ _).drew.trans hb5;have c1:=zd (za HB5) p0;have c2:=zd (za HB5) p1;have c3:=zd (za HB5) u0;have c4:=zd (za HB5) q0;have c5:=zd (za HB5) q1;have c6:=zd (za HB5) u1;clear hb5))
         go_wp2_with fail;go_ret;exact⟨rfl,zi (za HB2) (za HB5)⟩
   . rw[ho]
     have HZ:Hid (R=0):=zb (by rw[<-za HTR];exact KJ ho);clear ho;go_wp2_with fail;go_ret;exact⟨zK (za HZ).symm,za HB2⟩
 . rw[ho]
   have HZ:Hid (R=0):=zb (by rw[<-za HTR];exact KI ho);clear ho;go_wp2_with fail;go_ret;exact⟨zK (za HZ).symm,za HB1⟩
end Go.Proofs.YtpbnmhnbkfnaeaaGreatDoor
namespace Go.Proofs.YtpbnmhnbkfnaeaaGreatDoor
open Go.RowKit Nt
structure Phs(N:Nat)(cs:List Nat)(v:Nat->Value)(P:Nat->(Nat->Value)->World->Prop)(l:Array Bool)(x:Nat->Value)(w:World):Prop where
 sz:l.size=N+1
 val:∀i,i<=N->i∉cs->LL l i->x i=v i
 ph:∃k,k<=cs.length/\(∀j c,cs[j]? =some c->(LL l c↔j<k))/\P k x w
 fin:LL l N->∀i,i<=N->LL l i
section
variable {N:Nat} {cs:List Nat} {v:Nat->Value} {P:Nat->(Nat->Value)->World->Prop} {l:Array Bool} {x:Nat->Value} {w w':World}
theorem Phs.start(n:l=Array.replicate (N+1) false)(h:P 0 x w):Phs N cs v P l x w:=by
 subst n;have hn:∀j,¬LL (Array.replicate (N+1) false) j:=fun j h=>by
  unfold LL at h;rw[we]at h
  split at h<;>simp at h
 exact⟨by simp,fun i _ _ h=>absurd h (hn _),⟨0,uD _,fun j c _=>⟨fun h=>absurd h (hn _),fun h=>absurd h (by omega)⟩,h⟩,fun h=>absurd h (hn _)⟩
theorem Phs.next(h:Phs N cs v P l x w)(hP:∀k x x' w,(∀c∈cs,x' c=x c)->P k x w->P k x' w)(i:Nat)(hi:i<N)(hc:i∉cs):Phs N cs v P (l.setIfInBounds i true) (fun j=>if j=i then v i else x j) w:=by
 have hs:=fun j=>j8 (l:=l) (i:=i) (by rw[h.sz];omega) j
 obtain⟨k,hk,ho,hp⟩:=h.ph;refine⟨by simp[h.sz],fun j hj hjc e=>?_,⟨k,hk,fun j c e=>?_,hP k x _ w (fun c hcc=>ul (fun(e:c=i)=>hc (e ▸ hcc))) hp⟩,fun e j hj=>(hs j).2 (.inr ?_)⟩
 . by_cases q:j=i
   . subst q
     show(if j=j then v j else x j)=v j;rw[uj rfl]
   . show(if j=i then v i else x j)=v j
     rw[ul q];exact h.val j hj hjc (((hs j).1 e).resolve_left q)
 . rw[hs,ho j c e]
   exact⟨fun e'=>e'.resolve_left fun e2=>hc (e2 ▸ un e),.inr⟩
 . exact h.fin (((hs N).1 e).resolve_left (by omega)) j hj
theorem Phs.at(h:Phs N cs v P l x w)(k:Nat){c:Nat}(hc:cs[k]? =some c)(hp:k=0\/∃d,cs[k-1]? =some d/\LL l d)(hn:¬LL l c):P k x w:=by
 obtain⟨k',hk',ho,hP⟩:=h.ph;have h1:¬k<k':=fun e=>hn ((ho k c hc).2 e)
 rcases hp with rfl|⟨d,hd,hl⟩
 . rw[show k'=0 by omega]at hP;exact hP
 . have:=(ho (k-1) d hd).1 hl
   rw[show k'=k by omega]at hP;exact hP
theorem Phs.before(h:Phs N cs v P l x w)(hl:cs[cs.length-1]? =some N){i:Nat}(hi:i<=N)(hn:¬LL l i):∃k,k<cs.length/\P k x w:=by
 obtain⟨k,hk,ho,hp⟩:=h.ph;refine⟨k,?_,hp⟩;have hlen:0<cs.length:=by
  have:=(ui.1 hl).1;omega
 have h1:¬LL l N:=fun e=>hn (h.fin e i hi)
 rw[ho _ _ hl]at h1;omega
theorem Phs.step(h:Phs N cs v P l x w)(hd:cs.Nodup)(k:Nat){c:Nat}(hc:cs[k]? =some c)(hcN:c<=N)(hp:k=0\/∃d,cs[k-1]? =some d/\LL l d)(hn:¬LL l c)(hall:c=N->∀i,i<N->LL l i)(u:Value)
  (hP:P (k+1) (fun j=>if j=c then u else x j) w'):Phs N cs v P (l.setIfInBounds c true) (fun j=>if j=c then u else x j) w':=by
 have hs:=fun j=>j8 (l:=l) (i:=c) (by rw[h.sz];omega) j
 obtain⟨k',hk',ho,_⟩:=h.ph;have h1:¬k<k':=fun e=>hn ((ho k c hc).2 e)
 have h2:k'=k:=by
  rcases hp with rfl|⟨d,hdd,hl⟩
  . omega
  . have:=(ho (k-1) d hdd).1 hl;omega
 subst h2;have hlt:=(ui.1 hc).1;have hinj:∀j,cs[j]? =some c->j=k':=fun j e=>by
  obtain⟨hj,e1⟩:=ui.1 e;obtain⟨hk2,e2⟩:=ui.1 hc;exact(List.getElem_inj hd).1 (e1.trans e2.symm)
 refine⟨by simp[h.sz],fun j hj hjc e=>?_,⟨k'+1,hlt,fun j d e=>?_,hP⟩,fun e j hj=>?_⟩
 . have q:j≠c:=fun e'=>hjc (e' ▸ un hc)
   show(if j=c then u else x j)=v j;rw[ul q];exact h.val j hj hjc (((hs j).1 e).resolve_left q)
 . rw[hs,ho j d e]
   constructor
   . rintro(e'|e')
     . have:=hinj j (e' ▸ e);omega
     . omega
   . intro e'
     by_cases q:j=k'
     . subst q;rw[e]at hc;exact .inl (Ui hc)
     . exact .inr (by omega)
 . by_cases q:j=c
   . exact(hs j).2 (.inl q)
   . refine(hs j).2 (.inr ?_)
     rcases(hs N).1 e with e'|e'
     . exact hall e'.symm j (by omega)
     . exact h.fin e' j hj
theorem Phs.done(h:Phs N cs v P l x w)(hl:cs[cs.length-1]? =some N)(hall:∀i,i<N+1->l[i]? =some true):P cs.length x w:=by
 obtain⟨k,hk,ho,hp⟩:=h.ph;have h1:=(ho _ _ hl).1 (hall N (by omega));rw[show k=cs.length by omega]at hp;exact hp
end
end Go.Proofs.YtpbnmhnbkfnaeaaGreatDoor
namespace Go.Proofs.YtpbnmhnbkfnaeaaGreatDoor
open Go.RowKit Nt
theorem qB{md:Region.Mode}{ops:Array Oper}{l:Array Bool}{i:Nat}(hi:i∈Region.ready md ops l)(d:Nat)(h:((ops[i]?).map (·.after.toList.any fun e=>Region.binds md e&&e.on==d)).getD false=true):LL l d:=by
 unfold Region.ready at hi;rw[uK]at hi;obtain⟨_,h2⟩:=hi;rw[ux]at h2;have h3:=h2.2;cases ho:ops[i]? with
 |none=>rw[ho]at h;simp at h
 |some o=>
  rw[ho]at h h3;simp only[Option.map_some,Option.getD_some]at h h3;obtain⟨e,hk,he⟩:=List.any_eq_true.1 h;rw[ux]at he;rw[<-Array.all_toList]at h3;have h4:=uI.1 h3 e hk;rw[he.1]at h4;have e2:e.on=d:=by simpa using he.2
  rw[e2]at h4;refine zA ?_;simpa[ua]using h4
theorem jR{md:Region.Mode}{ops:Array Oper}{l:Array Bool}{i:Nat}(hi:i∈Region.ready md ops l):i<ops.size:=by
 unfold Region.ready at hi;rw[uK]at hi;simpa using hi.1
theorem ye{md:Region.Mode}{ops:Array Oper}{l:Array Bool}{i:Nat}(hi:i∈Region.ready md ops l):¬LL l i:=by
 unfold Region.ready at hi;rw[uK]at hi;intro e;unfold LL at e;have h2:=hi.2;rw[ux]at h2;have h3:=h2.1;rw[ua,e]at h3;simp at h3
def zhv(md:Region.Mode)(ops:Array Oper):Bool:=(List.range ops.size).all fun i=>((ops[i]?).map (·.after.all fun e=> !Region.binds md e||decide (e.on<i))).getD false
theorem vE{md:Region.Mode}{ops:Array Oper}{l:Array Bool}(hd:zhv md ops=true)(hs:l.size=ops.size)(hr:Region.ready md ops l=[]):∀i,i<ops.size->l[i]? =some true:=by
 intro i
 induction i using Nat.strongRecOn with
 |_ i ih=>
  intro hi;refine zo hr i hi hs ?_;have h:=uI.1 hd i (by simpa using hi);cases ho:ops[i]? with
  |none=>rw[ho]at h;simp at h
  |some o=>
   rw[ho]at h;simp only[Option.map_some,Option.getD_some]at h⊢;rw[Array.all_eq_true]at h⊢;intro k hk;have h1:=h k hk;cases hb:Region.binds md o.after[k]with
   |false=>rfl
   |true=>
    rw[hb]at h1;have hlt:(o.after[k]).on<i:=by simpa using h1
    have:=ih _ hlt (by omega);simp[ua,this]
structure RdL(W:World)(vs:List Value)(l:Array Bool)(x:Nat->Value)(w:World):Prop where
 sz:l.size=vs.length
 val:∀i v,vs[i]? =some v->LL l i->x i=v
 bl:Below W.heap.size W w
section
variable {W w w':World} {vs:List Value} {x:Nat->Value} {l:Array Bool}
theorem RdL.start(n:l=Array.replicate vs.length false)(h:Below W.heap.size W w):RdL W vs l x w:=by
 subst n;refine⟨by simp,fun i _ _ h=>?_,h⟩;unfold LL at h;rw[we]at h
 split at h<;>simp at h
theorem RdL.call(h:RdL W vs l x w)(i:Nat){u:Value}(hi:vs[i]? =some u)(hb:Below w.heap.size w w'):RdL W vs (l.setIfInBounds i true) (fun j=>if j=i then u else x j) w':=by
 have hlt:=(ui.1 hi).1;have hs:=fun j=>j8 (l:=l) (i:=i) (by rw[h.sz];omega) j
 refine⟨by simp[h.sz],fun j v hj e=>?_,h.bl.trans (hb.mono h.bl.size)⟩;by_cases q:j=i
 . subst q
   exact(uj rfl).trans (Ui (hi.symm.trans hj))
 . exact(ul q).trans (h.val j v hj (((hs j).1 e).resolve_left q))
theorem RdL.nx(h:RdL W vs l x w)(i:Nat){u:Value}(hi:vs[i]? =some u):RdL W vs (l.setIfInBounds i true) (fun j=>if j=i then u else x j) w:=h.call i hi (ue _ _)
theorem RdL.dv{md:Region.Mode}{ops:Array Oper}{j:Nat}(h:RdL W vs l x w)(hi:j∈Region.ready md ops l)(d:Nat){u:Value}(hv:vs[d]? =some u)(hd:((ops[j]?).map (·.after.toList.any fun e=>Region.binds md e&&e.on==d)).getD false=true):x d=u:=h.val d u hv (qB hi d hd)
theorem RdL.fv(h:RdL W vs l x w){n:Nat}(ha:∀i,i<n->l[i]? =some true)(d:Nat){u:Value}(hv:vs[d]? =some u)(hd:d<n):x d=u:=h.val d u hv (ha d hd)
end
abbrev vL(vs:List Value):Nat->Value:=fun i=>vs.getD i undef
theorem zgH{vs:List Value}{d:Nat}{u:Value}(h:vs[d]? =some u):vL vs d=u:=by
 show vs.getD d undef=u;rw[uq,h];rfl
section
variable {N:Nat} {cs:List Nat} {vs:List Value} {P:Nat->(Nat->Value)->World->Prop} {l:Array Bool} {x:Nat->Value} {w:World}
theorem Phs.dv{md:Region.Mode}{ops:Array Oper}{j:Nat}(h:Phs N cs (vL vs) P l x w)(hi:j∈Region.ready md ops l)(d:Nat){u:Value}(hv:vs[d]? =some u)(hc:cs.contains d=false)(hN:Nat.ble d N=true)(hd:((ops[j]?).map (·.after.toList.any fun e=>Region.binds md e&&e.on==d)).getD false=true):x d=u:=
 (h.val d (Nat.le_of_ble_eq_true hN) (by simpa using hc) (qB hi d hd)).trans (zgH hv)
theorem Phs.nx(h:Phs N cs (vL vs) P l x w)(hP:∀k x x' w,(∀c∈cs,x' c=x c)->P k x w->P k x' w)(i:Nat){u:Value}(hv:vs[i]? =some u)(hi:Nat.blt i N=true)(hc:cs.contains i=false):Phs N cs (vL vs) P (l.setIfInBounds i true) (fun j=>if j=i then u else x j) w:=by
 rw[<-zgH hv];exact h.next hP i (by simpa[Nat.blt_eq]using hi) (by simpa using hc)
end
end Go.Proofs.YtpbnmhnbkfnaeaaGreatDoor
namespace Go.Proofs.YtpbnmhnbkfnaeaaGreatDoor
open Go.RowKit Go.Shelf Nt
theorem DataAt.slices'{w:World}{u:Value}{d:Dt}(h:DataAt w u d):∃an cn ar cr,u=.agg #[.slice an d.1.length cn,.slice ar d.2.length cr]/\NodesAt w (.slice an d.1.length cn) d.1/\IntsAt w (.slice ar d.2.length cr) d.2:=by
 obtain⟨nv,rv,rfl,hn,hr⟩:=h;obtain⟨an,cn,rfl,_⟩:=hn.form0;obtain⟨ar,cr,rfl,_⟩:=hr.form;exact⟨an,cn,ar,cr,rfl,hn,hr⟩
theorem K4{ns ms:List Nd}{nd:Nd}(h:nd∈jJ ns ms):nd∈ns\/∃x∈ms,nd=upN ns.length x:=by
 unfold jJ at h;rcases uA.1 h with h|h
 . exact .inl h
 . obtain⟨x,hx,e⟩:=UB.1 h
   exact .inr ⟨x,hx,e.symm⟩
theorem zeL{n:Nat}{nd:Nd}(h:zT n nd=true):nd.2.2.length<=40:=by
 have h:=Vt h;unfold qJ at h
 split at h
 . have:nd.2.2.length=2:=by simpa using h
   omega
 . split at h
   . simpa using h
   . have:nd.2.2.length=0:=by simpa using h
     omega
theorem zb4{n:Nat}{nd:Nd}(h:zT n nd=true):1<=nd.1/\nd.1<=9:=by
 unfold zT at h;simp only[ux,ut]at h;exact h.1.1
theorem zco{x:Int}(h:1<=x/\x<=9):(Lit.int .i64 x).wf=true:=by
 rcases(by omega:x=1\/x=2\/x=3\/x=4\/x=5\/x=6\/x=7\/x=8\/x=9)with rfl|rfl|rfl|rfl|rfl|rfl|rfl|rfl|rfl<;>rfl
theorem zfy{ns ms:List Nd}(hn:ns.all (zT ns.length)=true)(hm:ms.all (zT ms.length)=true):(∀nd∈jJ ns ms,nd.2.2.length<=40)/\∀nd∈jJ ns ms,(Lit.int .i64 nd.1).wf=true:=by
 refine⟨fun nd h=>?_,fun nd h=>?_⟩
 . rcases K4 h with h|⟨x,hx,rfl⟩
   . exact zeL (uI.1 hn _ h)
   . show(x.2.2.map _).length<=40
     rw[Ud];exact zeL (uI.1 hm _ hx)
 . rcases K4 h with h|⟨x,hx,rfl⟩
   . exact zco (zb4 (uI.1 hn _ h))
   . show(Lit.int .i64 x.1).wf=true
     exact zco (zb4 (uI.1 hm _ hx))
theorem Va(ns ms:List Nd)(r s:Int)(u v:Value)(w:World)(hd:DataAt w u (ns,[r]))(he:DataAt w v (ms,[s]))(ho1:vD (ns,[r])=true)(ho2:vD (ms,[s])=true)(hs1:qr ns)(hs2:qr ms)(hT:Tabz w)(hN:Tens w)(h3:3<w.heap.size)
  (htab:Lib.TabBelow Tryz.prog w.heap.size w "internal/strconv.uint64pow10" .u64 Lib.pow10Tab):
  Calls Tryz.prog 12 #[u,v] w fun e w'=>e=.returned (.bool (decide (jf ns ms r s=0)))/\Below w.heap.size w w':=by
 obtain⟨l1,_,hn,hr⟩:=jQ ho1;obtain⟨l2,_,hm,hs⟩:=jQ ho2;have hr:=hr r (by simp);have hs:=hs s (by simp);obtain⟨rn,rfl⟩:∃rn:Nat,r=rn:=⟨r.toNat,by omega⟩
 obtain⟨sn,rfl⟩:∃sn:Nat,s=sn:=⟨s.toNat,by omega⟩
 have hrn:rn<ns.length:=by omega
 have hsn:sn<ms.length:=by omega
 obtain⟨na,nc,ra,rc,rfl,hdn,hdr⟩:=hd.slices';obtain⟨ma,mc,sa,sc,rfl,hen,her⟩:=he.slices';simp only at hdn hdr hen her hd he⊢;obtain⟨rb,ro,rfl,_,xr⟩:=hdr.cell (k:=0) (x:=(rn:Int)) rfl;obtain⟨sb,so,rfl,_,xs⟩:=her.cell (k:=0) (x:=(sn:Int)) rfl;have HDN:=zb hdn;have HEN:=zb hen;have HOK:=zb (And.intro hn hm);obtain⟨D,hD⟩:∃D,decide (jf ns ms (rn:Int) (sn:Int)=0)=D:=⟨_,rfl⟩
 rw[hD];have HD:=zb hD;have HCON:Hid (∀W,Below w.heap.size w W->Tabz W/\Tens W/\3<W.heap.size):=zb (fun W hb=>⟨hT.below (by omega) hb,hN.belowB hb h3,uJ h3 hb.size⟩);have HR1:Hid (∀W,Below w.heap.size w W->Calls Tryz.prog 37 #[.agg #[.slice na ns.length nc,.slice (some ⟨rb,ro,none⟩) 1 rc]] W fun e w'=>e=.returned (.bool true)/\Below W.heap.size W w'):=zb (fun W hb=>by
  obtain⟨c1,c2,c3⟩:=za HCON W hb;have h:=xB _ _ (ns,[(rn:Int)]) W (hd.below hb) ⟨by show ns.length<=_;omega,by simp,hs1⟩ c1 c2 c3;rw[ho1]at h;exact h)
 have HR2:Hid (∀W,Below w.heap.size w W->Calls Tryz.prog 37 #[.agg #[.slice ma ms.length mc,.slice (some ⟨sb,so,none⟩) 1 sc]] W fun e w'=>e=.returned (.bool true)/\Below W.heap.size W w'):=zb (fun W hb=>by
  obtain⟨c1,c2,c3⟩:=za HCON W hb;have h:=xB _ _ (ms,[(sn:Int)]) W (he.below hb) ⟨by show ms.length<=_;omega,by simp,hs2⟩ c1 c2 c3;rw[ho2]at h;exact h)
 have HTB:=zb htab;have hst0:=zf (zf (ue w.heap.size w) (.cells #[.slice na ns.length nc,.slice (some ⟨rb,ro,none⟩) 1 rc] 26)) (.cells #[.slice ma ms.length mc,.slice (some ⟨sb,so,none⟩) 1 sc] 26);have HB0:=zb hst0;have HX0:=zb ((AtC2.new w (.slice na ns.length nc) (.slice (some ⟨rb,ro,none⟩) 1 rc) 26).alloc (.cells #[.slice ma ms.length mc,.slice (some ⟨sb,so,none⟩) 1 sc] 26));have HY0:=zb (AtC2.new (w.alloc (.cells #[.slice na ns.length nc,.slice (some ⟨rb,ro,none⟩) 1 rc] 26)) (.slice ma ms.length mc) (.slice (some ⟨sb,so,none⟩) 1 sc) 26);rw[uk]at HY0;have HXR:=zb xr;have HXS:=zb xs;clear hT hN h3 htab hd he hdn hdr hen her hst0 xr xs ho1 ho2 hs1 hs2 hD hn hm hr hs;go_enter Tryz.func12,Tryz.ntmps12;go_wp2_with fail;obtain⟨W0,hW0⟩:∃W,(w.alloc (.cells #[.slice na ns.length nc,.slice (some ⟨rb,ro,none⟩) 1 rc] 26)).alloc (.cells #[.slice ma ms.length mc,.slice (some ⟨sb,so,none⟩) 1 sc] 26)=W:=⟨_,rfl⟩
 rw[hW0]at HB0 HX0 HY0⊢;clear hW0;refine(za HR1 W0 (za HB0)).mono ?_;rintro e W1⟨rfl,hb1⟩;have HB1:=zb (zi (za HB0) hb1);have HX1:=zb ((za HX0).below hb1);have HY1:=zb ((za HY0).below hb1);have y0:=(za HY1).n0;have y1:=(za HY1).n1;clear hb1;go_wp2_with fail;refine(za HR2 W1 (za HB1)).mono ?_;rintro e W2⟨rfl,hb2⟩;have HB2:=zb (zi (za HB1) hb2);have HX2:=zb ((za HX1).below hb2);have HY2:=zb ((za HY1).below hb2);clear hb2 y0 y1 HX0 HY0 HX1 HY1 HB0 HB1;have x0:=(za HX2).n0;have x1:=(za HX2).n1;have y0:=(za HY2).n0;have y1:=(za HY2).n1;go_wp2_with fail;obtain⟨hn,hm⟩:=za HOK;have h:=zbk (.slice na ns.length nc) (.slice ma ms.length mc) ns ms W2 ((za HDN).below (za HB2)) ((za HEN).below (za HB2)) l1 l2 (fun nd h=>ZF (uI.1 hm _ h)) (fun nd h=>zeL (uI.1 hm _ h));refine h.mono ?_;clear h;rintro e W3⟨⟨bv,rfl,hbv⟩,hb3⟩;have HB3:=zb (zi (za HB2) hb3);have HX3:=zb ((za HX2).below hb3);have HY3:=zb ((za HY2).below hb3);have hblen:(jJ ns ms).length=ns.length+ms.length:=yX;clear hb3 x0 x1 y0 y1;go_wp2_with fail;obtain⟨k40,kwf⟩:=zfy hn hm;have h:=zaI bv (jJ ns ms) W3 hbv (by rw[hblen];omega) (zcx hn hm) k40 kwf (fun w' hb=>((za HTB).on (za HB3)) w' (hb.mono (za HB3).size));refine h.mono ?_;clear h;rintro e W4⟨⟨gv,of,rfl,hown,hol,hrg,hgg⟩,hb4⟩;have HB4:=zb (zi (za HB3) hb4);have HX4:=zb ((za HX3).below hb4);have HY4:=zb ((za HY3).below hb4);rw[hblen]at hol hgg;have hra:of[rn]? =some (zD of rn):=by
  have hl:rn<of.length:=by omega
  rw[uf hl];exact uB some (vn (uf hl)).symm
 have hsa:of[ns.length+sn]? =some (zD of ((ns.length+sn:Nat):Int)):=by
  have hl:ns.length+sn<of.length:=by omega
  rw[uf hl];exact uB some (vn (uf hl)).symm
 have hsame:(zD of (rn:Int)=zD of ((ns.length+sn:Nat):Int))↔D=true:=by
  rw[hgg rn (ns.length+sn) (by omega) (by omega),<-za HD,ut,<-zcy hn hm (a:=(rn:Int)) (b:=(sn:Int)) ⟨⟨by omega,by show(rn:Int)<_;omega⟩,by show(0:Int)<=(sn:Int);omega,by show(sn:Int)<_;omega⟩];rw[show(((ns.length+sn:Nat):Int))=(ns.length:Int)+(sn:Int) by omega]
 obtain⟨ga,hga⟩:∃ga,zD of (rn:Int)=ga:=⟨_,rfl⟩
 obtain⟨gb,hgb⟩:∃gb,zD of ((ns.length+sn:Nat):Int)=gb:=⟨_,rfl⟩
 rw[hga]at hra hsame;rw[hgb]at hsa hsame;obtain⟨gg,gc,e,hgl,hgc⟩:∃gg gc,gv=.slice (some ⟨gg,0,none⟩) of.length gc/\of.length<=gc/\gc<=maxLen:=by
  rcases hown.2 with⟨_,h0⟩|⟨g,cap,cur,rfl,_,_,h1,h2,_⟩
  . omega
  . exact⟨g,cap,rfl,h1,h2⟩
 subst e;have g0:W4.cell? ⟨gg,rn,none⟩=some (.int .i64 ga):=by
  have h:=hown.cellAt rn (by omega);rw[h,Ve,hra];rfl
 have g1:W4.cell? ⟨gg,ns.length+sn,none⟩=some (.int .i64 gb):=by
  have h:=hown.cellAt (ns.length+sn) (by omega);rw[h,Ve,hsa];rfl
 rw[hol]at hgl⊢;unfold maxLen at hgc;have HG0:=zb g0;have HG1:=zb g1;have HSM:=zb hsame;have HXR4:Hid (W4.cell? ⟨rb,ro,none⟩=some (.int .i64 (rn:Int))):=zb (((za HB4).cell (uo _ _ (by have:=za HXR;rwa[wC]at this))).trans (by have:=za HXR;rwa[wC]at this));have HXS4:Hid (W4.cell? ⟨sb,so,none⟩=some (.int .i64 (sn:Int))):=zb (((za HB4).cell (uo _ _ (by have:=za HXS;rwa[wC]at this))).trans (by have:=za HXS;rwa[wC]at this));clear hb4 hown hol hrg hgg hra hsa hga hgb g0 g1 hsame hbv k40 kwf hblen hn hm HDN HEN HTB HCON HR1 HR2 HXR HXS HOK HX2 HY2 HB2 HX3 HY3 HB3;have x1:=(za HX4).n1;go_wp2_with fail;clear x1
 go_loopw [34] (fun v wr=>((v=.int .i64 0)\/(v=.int .i64 1/\D=true))/\Below W4.heap.size W4 wr) (fun v _=>1-(intOf v).toNat)
 case atStart=>exact⟨.inl rfl,ue _ _⟩
 case round=>
  obtain⟨hv,hbr⟩:=hrel;have HBR:=zb hbr;clear hbr;rcases hv with rfl|⟨rfl,hDt⟩
  . have xr:=((za HBR).cell (uo _ _ (za HXR4))).trans (za HXR4)
    have wsum:IntKind.i64.wrap ((ns.length:Int)+(sn:Int))=(ns.length:Int)+(sn:Int):=by rw[qX _ (by omega) (by omega)]
    have hi1:rn<ns.length+ms.length:=by omega
    have hi2:ns.length+sn<ns.length+ms.length:=by omega
    have hi3:((ns.length:Int)+(sn:Int)).toNat=ns.length+sn:=by omega
    have hi4:(0:Int)<=(ns.length:Int)+(sn:Int):=by omega
    have hi5:(ns.length:Int)+(sn:Int)<(ns.length:Int)+(ms.length:Int):=by omega
    have hi6:(rn:Int)<(ns.length:Int)+(ms.length:Int):=by omega
    go_upto_region 7 with fail
    refine wH (by kernel_rfl) ?_;change wpAny _ _ _ _ _ _ _ (World.drew _);refine qS (fun l' a' w'=>∃x:Nat->Value,a'=⟨#[.agg #[.slice na ns.length nc,.slice (some ⟨rb,ro,none⟩) 1 rc],.agg #[.slice ma ms.length mc,.slice (some ⟨sb,so,none⟩) 1 sc],.pointer (some ⟨w.heap.size,0,none⟩),.pointer (some ⟨w.heap.size+1,0,none⟩),u4,.slice (some ⟨gg,0,none⟩) (ns.length+ms.length) gc,.int .i64 0,.int .i64 ↑rn,.agg #[.slice na ns.length nc,.slice (some ⟨rb,ro,none⟩) 1 rc],.bool true,.bool false,.bool false,.agg #[.slice ma ms.length mc,.slice (some ⟨sb,so,none⟩) 1 sc],.bool true,.bool false,.bool false,.bool false,.pointer (some ⟨w.heap.size,1,none⟩),.slice (some ⟨rb,ro,none⟩) 1 rc,.int .i64 1,.pointer (some ⟨w.heap.size+1,1,none⟩),.slice (some ⟨sb,so,none⟩) 1 sc,.int .i64 1,.bool false,.bool false,.pointer (some ⟨w.heap.size,0,none⟩),.slice na ns.length nc,.pointer (some ⟨w.heap.size+1,0,none⟩),.slice ma ms.length mc,bv,.slice (some ⟨gg,0,none⟩) (ns.length+ms.length) gc,.pointer (some ⟨w.heap.size,1,none⟩),.slice (some ⟨rb,ro,none⟩) 1 rc,.int .i64 1,.int .i64 0,.bool true,.int .i64 0,.pointer (some ⟨rb,ro,none⟩),.int .i64 ↑rn,x 0,x 1,x 2,x 3,x 4,x 5,x 6,x 7,x 8,x 9,x 10,x 11,x 12,x 13,x 14,x 15,x 16,u56],[]⟩/\RdL wr [.slice (some ⟨gg,0,none⟩) (ns.length+ms.length) gc,.int .i64 ↑rn,.pointer (some ⟨gg,rn,none⟩),.int .i64 ga,.slice (some ⟨gg,0,none⟩) (ns.length+ms.length) gc,.pointer (some ⟨w.heap.size,0,none⟩),.slice na ns.length nc,.int .i64 ↑ns.length,.pointer (some ⟨w.heap.size+1,1,none⟩),.slice (some ⟨sb,so,none⟩) 1 sc,.int .i64 0,.pointer (some ⟨sb,so,none⟩),.int .i64 ↑sn,.int .i64 (↑ns.length+ ↑sn),.pointer (some ⟨gg,(ns.length+sn),none⟩),.int .i64 gb,.bool (ga != gb)] l' x w') (fun _ _ _⟨_,_,h⟩=>h.sz) ?hend ?hstep (fun _ _ _⟨_,_,h⟩=>vE (by kernel_rfl) h.sz) _ _ _ _ ⟨fun j=>[u39,u40,u41,u42,u43,u44,u45,u46,u47,u48,u49,u50,u51,u52,u53,u54,u55].getD j undef,rfl,RdL.start rfl (ue _ _).drew⟩ (UA rfl)
    case hstep=>
     rintro l' a' w' j⟨x,rfl,h⟩ hi;have hj:j<17:=jR hi;rcases(by omega:j=0\/j=1\/j=2\/j=3\/j=4\/j=5\/j=6\/j=7\/j=8\/j=9\/j=10\/j=11\/j=12\/j=13\/j=14\/j=15\/j=16)with rfl|rfl|rfl|rfl|rfl|rfl|rfl|rfl|rfl|rfl|rfl|rfl|rfl|rfl|rfl|rfl|rfl
     . refine uh rfl (fun K hK=>?_)
       go_simp;exact hK _ _ ⟨_,by simp[],h.nx 0 rfl⟩
     . refine uh rfl (fun K hK=>?_)
       go_simp;exact hK _ _ ⟨_,by simp[],h.nx 1 rfl⟩
     . have w0:=h.dv hi 0 rfl rfl
       have w1:=h.dv hi 1 rfl rfl;simp only[w0,w1];refine uh rfl (fun K hK=>?_);go_simp;exact hK _ _ ⟨_,by simp[w0,w1],h.nx 2 rfl⟩
     . have w2:=h.dv hi 2 rfl rfl
       have hz:=(za HBR).trans (h.bl.mono (za HBR).size);have c0:=((za HX4).below hz).n0;have c1:=((za HY4).below hz).n1;have c2:=(hz.cell (uo _ _ (za HXS4))).trans (za HXS4);have c3:=(hz.cell (uo _ _ (za HG0))).trans (za HG0);have c4:=(hz.cell (uo _ _ (za HG1))).trans (za HG1);simp only[w2];refine uh rfl (fun K hK=>?_);go_simp;exact hK _ _ ⟨_,by simp[w2],h.nx 3 rfl⟩
     . refine uh rfl (fun K hK=>?_)
       go_simp;exact hK _ _ ⟨_,by simp[],h.nx 4 rfl⟩
     . refine uh rfl (fun K hK=>?_)
       go_simp;exact hK _ _ ⟨_,by simp[],h.nx 5 rfl⟩
     . have w5:=h.dv hi 5 rfl rfl
       have hz:=(za HBR).trans (h.bl.mono (za HBR).size);have c0:=((za HX4).below hz).n0;have c1:=((za HY4).below hz).n1;have c2:=(hz.cell (uo _ _ (za HXS4))).trans (za HXS4);have c3:=(hz.cell (uo _ _ (za HG0))).trans (za HG0);have c4:=(hz.cell (uo _ _ (za HG1))).trans (za HG1);simp only[w5];refine uh rfl (fun K hK=>?_);go_simp;exact hK _ _ ⟨_,by simp[w5],h.nx 6 rfl⟩
     . have w6:=h.dv hi 6 rfl rfl
       simp only[w6];refine uh rfl (fun K hK=>?_);go_simp;exact hK _ _ ⟨_,by simp[w6],h.nx 7 rfl⟩
     . refine uh rfl (fun K hK=>?_)
       go_simp;exact hK _ _ ⟨_,by simp[],h.nx 8 rfl⟩
     . have w8:=h.dv hi 8 rfl rfl
       have hz:=(za HBR).trans (h.bl.mono (za HBR).size);have c0:=((za HX4).below hz).n0;have c1:=((za HY4).below hz).n1;have c2:=(hz.cell (uo _ _ (za HXS4))).trans (za HXS4);have c3:=(hz.cell (uo _ _ (za HG0))).trans (za HG0);have c4:=(hz.cell (uo _ _ (za HG1))).trans (za HG1);simp only[w8];refine uh rfl (fun K hK=>?_);go_simp;exact hK _ _ ⟨_,by simp[w8],h.nx 9 rfl⟩
     . refine uh rfl (fun K hK=>?_)
       go_simp;exact hK _ _ ⟨_,by simp[],h.nx 10 rfl⟩
     . have w9:=h.dv hi 9 rfl rfl
       have w10:=h.dv hi 10 rfl rfl;simp only[w9,w10];refine uh rfl (fun K hK=>?_);go_simp;exact hK _ _ ⟨_,by simp[w9,w10],h.nx 11 rfl⟩
     . have w11:=h.dv hi 11 rfl rfl
       have hz:=(za HBR).trans (h.bl.mono (za HBR).size);have c0:=((za HX4).below hz).n0;have c1:=((za HY4).below hz).n1;have c2:=(hz.cell (uo _ _ (za HXS4))).trans (za HXS4);have c3:=(hz.cell (uo _ _ (za HG0))).trans (za HG0);have c4:=(hz.cell (uo _ _ (za HG1))).trans (za HG1);simp only[w11];refine uh rfl (fun K hK=>?_);go_simp;exact hK _ _ ⟨_,by simp[w11],h.nx 12 rfl⟩
     . have w7:=h.dv hi 7 rfl rfl
       have w12:=h.dv hi 12 rfl rfl;simp only[w7,w12];refine uh rfl (fun K hK=>?_);go_simp;exact hK _ _ ⟨_,by simp[w7,w12],h.nx 13 rfl⟩
     . have w4:=h.dv hi 4 rfl rfl
       have w13:=h.dv hi 13 rfl rfl;simp only[w4,w13];refine uh rfl (fun K hK=>?_);go_simp;exact hK _ _ ⟨_,by simp[w4,w13],h.nx 14 rfl⟩
     . have w14:=h.dv hi 14 rfl rfl
       have hz:=(za HBR).trans (h.bl.mono (za HBR).size);have c0:=((za HX4).below hz).n0;have c1:=((za HY4).below hz).n1;have c2:=(hz.cell (uo _ _ (za HXS4))).trans (za HXS4);have c3:=(hz.cell (uo _ _ (za HG0))).trans (za HG0);have c4:=(hz.cell (uo _ _ (za HG1))).trans (za HG1);simp only[w14];refine uh rfl (fun K hK=>?_);go_simp;exact hK _ _ ⟨_,by simp[w14],h.nx 15 rfl⟩
     . have w3:=h.dv hi 3 rfl rfl
       have w15:=h.dv hi 15 rfl rfl;simp only[w3,w15];refine uh rfl (fun K hK=>?_);go_simp;exact hK _ _ ⟨_,by simp[w3,w15],h.nx 16 rfl⟩
    case hend=>
     rintro l' a' w'⟨x,rfl,h⟩ ha;simp only[h.fv ha 0 rfl (by decide),h.fv ha 1 rfl (by decide),h.fv ha 2 rfl (by decide),h.fv ha 3 rfl (by decide),h.fv ha 4 rfl (by decide),h.fv ha 5 rfl (by decide),h.fv ha 6 rfl (by decide),h.fv ha 7 rfl (by decide),h.fv ha 8 rfl (by decide),h.fv ha 9 rfl (by decide),h.fv ha 10 rfl (by decide),h.fv ha 11 rfl (by decide),h.fv ha 12 rfl (by decide),h.fv ha 13 rfl (by decide),h.fv ha 14 rfl (by decide),h.fv ha 15 rfl (by decide),h.fv ha 16 rfl (by decide)];have HBE:=zb h.bl;clear h ha;cases D with
     |true=>
      have e:ga=gb:=(za HSM).2 rfl;have he:(ga != gb)=false:=by simp[e]
      simp only[he];clear he e;go_wp2_with fail;exact⟨⟨.inr ⟨rfl,trivial⟩,(za HBR).trans ((za HBE).mono (za HBR).size)⟩,by simp[intOf]⟩
     |false=>
      have e:¬ga=gb:=fun h=>by have:=(za HSM).1 h;simp at this
      have he:(ga != gb)=true:=by simp[e]
      simp only[he];clear he e;go_wp2_with fail;go_ret;exact⟨rfl,zi (za HB4) ((za HBR).trans ((za HBE).mono (za HBR).size))⟩
  . go_wp2_with fail
    go_ret;exact⟨by rw[hDt];rfl,zi (za HB4) (za HBR)⟩
end Go.Proofs.YtpbnmhnbkfnaeaaGreatDoor
namespace Go.Proofs.YtpbnmhnbkfnaeaaGreatDoor
open Go.RowKit Nt
theorem zb7{B B' b k m:Nat}{nv rv x y:Value}{w:World}(hA:AtC2 w b x y 26)(hsn:SN 1001 w B nv k)(hsi:SI w B rv m)(hB:B'<=B)(h1:1<=k)(h2:k<=200)(h3:m<=200):
  DtOut B' (.returned (.agg #[nv,rv])) ((w.setCell ⟨b,0,none⟩ nv).setCell ⟨b,1,none⟩ rv):=by
 have hty:Ty 1001 B w ((w.setCell ⟨b,0,none⟩ nv).setCell ⟨b,1,none⟩ rv):=(Ty.box hA (by decide) (by decide) _).trans (Ty.box (hA.st0 _) (by decide) (by decide) _);exact⟨_,_,k,m,rfl,h1,h2,h3,(hsn.ty hty).base hB,(hsi.ty hty).base hB⟩
theorem Vj(g p n cap:Nat)(a:Option Addr)(w:World)(h:Rd w g p a n cap)(hp:p<=400000000):
  Calls Tryz.prog 28 #[.pointer (some ⟨g,0,none⟩)] w fun e w'=>DtOut w.heap.size e w'/\Drawn w g p n cap a 500 w':=by
 have hlt:=h.lt;have Hlt:=zb hlt;have HKW:=zb ((Keeps.refl g w).alloc (.cells #[.slice none 0 0,.slice none 0 0] 26));have HR:=zb (h.alloc (.cells #[.slice none 0 0,.slice none 0 0] 26));have HA:=zb (AtC2.new w (.slice none 0 0) (.slice none 0 0) 26);clear h;go_enter Tryz.func28,Tryz.ntmps28;go_wp2_with fail;have h:=zbV g p n cap a _ (za HR) (by omega);refine h.mono ?_;clear h;rintro e w2⟨⟨neg,x,y,rfl,hx,hy⟩,⟨p2,hp2,hr2⟩,hk2⟩;have HR2:=zb hr2;have HK2:=zb ((za HKW).trans hk2);have hA2:=(za HA).keeps hk2 (by omega);clear hr2 hk2;go_wp2_with fail;have h:=kh neg (qj 10 x) (qj 10 y) 10 w2 (by rw[<-zJ];omega) (by rw[<-zJ];omega);refine h.mono ?_;clear h;rintro e w3⟨rfl,hb3⟩;have hl:=zb0 neg (qj 10 x) (qj 10 y) 10;rw[<-zj]at hl;obtain⟨t,ht⟩:∃t,B (qo neg (qj 10 x) (qj 10 y) 10)=t:=⟨_,rfl⟩
 rw[ht]at hl⊢;obtain⟨o1,ho1⟩:∃o,Obj.cells #[.int .i64 1,.string t,.slice none 0 0] 56=o:=⟨_,rfl⟩
 obtain⟨o2,ho2⟩:∃o,Obj.cells #[.int .i64 0] 3=o:=⟨_,rfl⟩
 obtain⟨z,hz⟩:∃z,w3.heap.size=z:=⟨_,rfl⟩
 obtain⟨W4,hW4⟩:∃W,(w3.alloc o1).alloc o2=W:=⟨_,rfl⟩
 have hs3:w.heap.size+1<=w3.heap.size:=by have:=((za HK2).trans (Keeps.of_below hb3)).size;have h2:=(hA2.below hb3).lt;omega
 have hk4:Below w3.heap.size w3 W4:=by rw[<-hW4];exact zf (zf (ue _ _) o1) o2
 have hA:=((hA2.below hb3).below hk4)
 have hsn:SN 1001 W4 w.heap.size (.slice (some ⟨z,0,none⟩) 1 1) 1:=by
  refine .inr ⟨_,_,rfl,by omega,by decide,by decide,?_⟩;have h1:BN 1001 (w3.alloc o1) w.heap.size z 1 1:=zdV (w3.alloc o1) z 1 t (.slice none 0 0) 0 (by omega) (by decide) (by rw[<-ho1,<-hz];exact Un w3 _) (jq _ _);rw[<-hW4];exact(Ty.below (K:=1001) (zf (ue (w3.alloc o1).heap.size _) o2)).bn _ _ _ (by omega) h1
 have hsi:SI W4 w.heap.size (.slice (some ⟨z+1,0,none⟩) 1 1) 1:=by
  have h1:=ze3 (w3.alloc o1) #[.int .i64 0] 1 rfl (by decide) (by intro u hu;simp at hu;exact⟨0,hu⟩);rw[uk,ho2,hW4,hz]at h1;exact h1.base (by omega)
 have HR4:=zb (((za HR2).keep hb3).keep hk4);have HK4:=zb (((za HK2).trans (Keeps.of_below hb3)).trans (Keeps.of_below hk4));have b0:=hA.n0;have b1:=hA.n1;have bf:=hA.f;have hZ:=(hA.st0 (.slice (some ⟨z,0,none⟩) 1 1)).st1 (.slice (some ⟨z+1,0,none⟩) 1 1);have HZ:=zb (And.intro hZ.n0 hZ.n1);have HOUT:=zb (zb7 (B':=w.heap.size) hA hsn hsi (ud _) (by decide) (by decide) (by decide));have hD:Drawn w g p n cap a 500 W4:=⟨⟨p2,by omega,za HR4⟩,za HK4⟩
 have HDR:=zb (hD.more (za Hlt) (((ue w.heap.size W4).setCell (p:=⟨w.heap.size,0,none⟩) (ud _) (.slice (some ⟨z,0,none⟩) 1 1)).setCell (p:=⟨w.heap.size,1,none⟩) (ud _) (.slice (some ⟨z+1,0,none⟩) 1 1)));clear hZ hD hA hA2 hsn hsi hk4 hb3;subst hW4 ho1 ho2 hz;go_wp2_with fail;have hz:=za HZ;refine um (v:=.agg #[.slice (some ⟨w3.heap.size,0,none⟩) 1 1,.slice (some ⟨w3.heap.size+1,0,none⟩) 1 1]) (by simp[results,Tryz.results28,go_sem,hz]) rfl ⟨za HOUT,za HDR⟩
theorem Vg(g p n cap:Nat)(a:Option Addr)(w:World)(h:Rd w g p a n cap)(hp:p<=400000000):
  Calls Tryz.prog 59 #[.pointer (some ⟨g,0,none⟩)] w fun e w'=>DtOut w.heap.size e w'/\Drawn w g p n cap a 20000 w':=by
 have hlt:=h.lt;have Hlt:=zb hlt;have HKW0:=zb ((Keeps.refl g w).alloc (.cells #[.slice none 0 0,.slice none 0 0] 26));have HR:=zb (h.alloc (.cells #[.slice none 0 0,.slice none 0 0] 26));have HA0:=zb (AtC2.new w (.slice none 0 0) (.slice none 0 0) 26);clear h;go_enter Tryz.func59,Tryz.ntmps59;go_wp2_with fail;obtain⟨W0,hW0⟩:∃W0,w.alloc (.cells #[.slice none 0 0,.slice none 0 0] 26)=W0:=⟨_,rfl⟩
 have hz0:W0.heap.size=w.heap.size+1:=by rw[<-hW0];simp
 rw[hW0]at HKW0 HR HA0⊢;have HKW:=HKW0;have HA:=HA0;clear hW0 HKW0 HA0;have h:=zcY g p n cap a W0 (za HR) (by omega);refine h.mono ?_;clear h;rintro e w1⟨⟨nv,rv,ln,lr,rfl,hn1,hn9,hr4,hsn,hsi⟩,⟨p1,hp1,hr1⟩,hk1⟩;obtain⟨na,nc,rfl,_,_⟩:=hsn.form;obtain⟨ra,rc,rfl,_,_⟩:=hsi.form;obtain⟨B,hB⟩:∃B,W0.heap.size=B:=⟨_,rfl⟩
 have HBW:Hid (w.heap.size<=B):=zb (by omega);obtain⟨b,hbb⟩:∃b,w1.heap.size=b:=⟨_,rfl⟩
 have HD1:Hid (DSt 1000 g B b W0 (.slice na ln nc) (.slice ra lr rc) ln lr (w1.alloc (.cells #[.slice na ln nc,.slice ra lr rc] 26))):=zb (by
  have hsz:=hk1.size;rw[hB]at hsn hsi;subst hbb;exact⟨AtC2.new w1 _ _ _,hsn.ty (Ty.below (zf (ue _ _) _)),hsi.ty (Ty.below (K:=1000) (zf (ue _ _) _)),hk1.alloc _,by omega,by omega,by omega,by omega,by simp;omega⟩)
 have HR1:=zb (hr1.alloc (.cells #[.slice na ln nc,.slice ra lr rc] 26));clear hsn hsi hr1 hk1 hB HR;go_wp2_with fail;clear hbb;refine(qk g p1 n cap a 24 _ (za HR1) (by omega) (by omega)).mono ?_;rintro e w8⟨⟨z8,rfl,_⟩,⟨p8,hp8,hr8⟩,hk8⟩;have HR8:=zb hr8;have HD8:=zb ((za HD1).keeps hk8);clear hr8 hk8;have a0:=(za HD8).box.n0;have a1:=(za HD8).box.n1;by_cases hz8:(z8:Int)=0
 . have hz8':((z8:Int)==0)=true:=by rw[Um];exact hz8
   obtain⟨d,hd,hd1,hd2,hd3⟩:=Qj (za HD8).nodes (za HD8).roots (by decide);have HDD:=zb hd3;clear hd3;go_wp2_with fail;have h:=zaP g p8 n cap a d _ w8 (za HR8) (by omega) hd (by rw[hd1];omega) (by rw[hd2];omega) (za HDD);refine h.mono ?_;clear h hd hz8' a0 a1;rintro e w9⟨⟨nz,rz,k9,m9,rfl,hk91,hk92,hm9,hsn,hsi⟩,⟨p9,hp9,hr9⟩,hk9⟩;obtain⟨na9,nc9,rfl,_,_⟩:=hsn.form;obtain⟨ra9,rc9,rfl,_,_⟩:=hsi.form;have HSN:=zb (hsn.base (by have:=(za HD8).low.2.2.2.2;have:=za HBW;omega:w.heap.size<=w8.heap.size));have HSI:=zb (hsi.base (by have:=(za HD8).low.2.2.2.2;have:=za HBW;omega:w.heap.size<=w8.heap.size));have HR9:=zb hr9;have HK9:=zb ((za HD8).keep.trans hk9);clear hsn hsi hr9 hk9;have hA:=(za HA).keeps (za HK9) (by have:=za Hlt;omega);have b0:=hA.n0;have b1:=hA.n1;have bf:=hA.f;have hZ:=(hA.st0 (.slice na9 k9 nc9)).st1 (.slice ra9 m9 rc9);have HZ:=zb (And.intro hZ.n0 hZ.n1);have HOUT:=zb (zb7 (B':=w.heap.size) hA (za HSN) (za HSI) (ud _) (by omega:1<=k9) (by omega) (by omega:m9<=200));have hD:Drawn w g p n cap a 20000 w9:=⟨⟨p9,by omega,(za HR9)⟩,(za HKW).trans (za HK9)⟩
   have HDR:=zb (hD.more (za Hlt) (((ue w.heap.size w9).setCell (p:=⟨w.heap.size,0,none⟩) (ud _) (.slice na9 k9 nc9)).setCell (p:=⟨w.heap.size,1,none⟩) (ud _) (.slice ra9 m9 rc9)));clear hZ hD hA;go_wp2_with fail;have hz:=za HZ;refine um (v:=.agg #[.slice na9 k9 nc9,.slice ra9 m9 rc9]) (by simp[results,Tryz.results59,go_sem,hz]) rfl ⟨za HOUT,za HDR⟩
 . have hz8':((z8:Int)==0)=false:=by rw[ug];exact hz8
   have HSN:=zb (((za HD8).nodes.wide (K':=1001) (by decide)).base (za HBW));have HSI:=zb ((za HD8).roots.base (za HBW));have hA:=(za HA).keeps ((za HD8).keep) (by have:=za Hlt;omega);have b0:=hA.n0;have b1:=hA.n1;have bf:=hA.f;have hZ:=(hA.st0 (.slice na ln nc)).st1 (.slice ra lr rc);have HZ:=zb (And.intro hZ.n0 hZ.n1);have HOUT:=zb (zb7 (B':=w.heap.size) hA (za HSN) (za HSI) (ud _) (by omega:1<=ln) (by omega) (by omega:lr<=200));have hD:Drawn w g p n cap a 20000 w8:=⟨⟨p8,by omega,(za HR8)⟩,(za HKW).trans ((za HD8).keep)⟩
   have HDR:=zb (hD.more (za Hlt) (((ue w.heap.size w8).setCell (p:=⟨w.heap.size,0,none⟩) (ud _) (.slice na ln nc)).setCell (p:=⟨w.heap.size,1,none⟩) (ud _) (.slice ra lr rc)));clear hZ hD hA;go_wp2_with fail;have hz:=za HZ;refine um (v:=.agg #[.slice na ln nc,.slice ra lr rc]) (by simp[results,Tryz.results59,go_sem,hz]) rfl ⟨za HOUT,za HDR⟩
end Go.Proofs.YtpbnmhnbkfnaeaaGreatDoor
namespace Go.Proofs.YtpbnmhnbkfnaeaaGreatDoor
open Go.RowKit Nt
def TwP(wr:World)(g B n cap p j:Nat)(a:Option Addr)(A:Addr)(c1 c2 c3 c4 c5:Nat):Nat->(Nat->Value)->World->Prop
 |0,_,W=>W=wr.drew
 |1,x,W=>(∃z:Int,x c1=.int .i64 z)/\Keeps g wr W/\∃p',p'<=p+1/\Rd W g p' a n cap
 |2,x,W=>(∃z:Int,x c2=.int .i64 z)/\Keeps g wr W/\∃p',p'<=p+1/\Rd W g p' a n cap
 |3,x,W=>(∃z:Int,x c3=.int .i64 z)/\Keeps g wr W/\∃p',p'<=p+1/\Rd W g p' a n cap
 |4,x,W=>(∃(z:Int)(r:Nat),x c4=.slice (some ⟨r,0,none⟩) 1 1/\W.cell? ⟨r,0,none⟩=some (.int .i64 z))/\Keeps g wr W/\∃p',p'<=p+1/\Rd W g p' a n cap
 |5,x,W=>∃(gg cp:Nat)(W4:World),x c5=.slice (some ⟨gg,0,none⟩) (j+1) cp/\SI W B (.slice (some ⟨gg,0,none⟩) (j+1) cp) (j+1)/\yI 3 1001 B W4 W/\Keeps g wr W4/\∃p',p'<=p+1/\Rd W4 g p' a n cap
 |_,_,W=>∃(gg cp:Nat)(W4 W5:World),W=W5.setCell A (.slice (some ⟨gg,0,none⟩) (j+1) cp)/\SI W5 B (.slice (some ⟨gg,0,none⟩) (j+1) cp) (j+1)/\yI 3 1001 B W4 W5/\Keeps g wr W4/\∃p',p'<=p+1/\Rd W4 g p' a n cap
section
variable {wr W:World} {g B n cap p j:Nat} {a:Option Addr} {A:Addr} {c1 c2 c3 c4 c5:Nat} {x x':Nat->Value}
theorem TwP.ext{k:Nat}(hx:∀c∈[c1,c2,c3,c4,c5],x' c=x c)(h:TwP wr g B n cap p j a A c1 c2 c3 c4 c5 k x W):TwP wr g B n cap p j a A c1 c2 c3 c4 c5 k x' W:=by
 match k,h with
 |0,h=>exact h
 |1,h=>simpa only[TwP,hx c1 (by simp)]using h
 |2,h=>simpa only[TwP,hx c2 (by simp)]using h
 |3,h=>simpa only[TwP,hx c3 (by simp)]using h
 |4,h=>simpa only[TwP,hx c4 (by simp)]using h
 |5,h=>simpa only[TwP,hx c5 (by simp)]using h
 |k+6,h=>exact h
theorem TwP.ext'{k c6:Nat}(_:c6=c6)(hx:∀c∈[c1,c2,c3,c4,c5,c6],x' c=x c)(h:TwP wr g B n cap p j a A c1 c2 c3 c4 c5 k x W):TwP wr g B n cap p j a A c1 c2 c3 c4 c5 k x' W:=
 h.ext fun c hc=>hx c (by simp at hc⊢;omega)
theorem TwP.kept{k:Nat}(h:TwP wr g B n cap p j a A c1 c2 c3 c4 c5 k x W)(hk:k<6):∃W4,Keeps g wr W4/\(W=W4\/yI 3 1001 B W4 W):=by
 match k,h,hk with
 |0,h,_=>subst h;exact⟨_,(Keeps.refl g wr).drew,.inl rfl⟩
 |1,h,_=>exact⟨W,h.2.1,.inl rfl⟩
 |2,h,_=>exact⟨W,h.2.1,.inl rfl⟩
 |3,h,_=>exact⟨W,h.2.1,.inl rfl⟩
 |4,h,_=>exact⟨W,h.2.1,.inl rfl⟩
 |5,h,_=>obtain⟨_,_,W4,_,_,h3,h4,_⟩:=h;exact⟨W4,h4,.inr h3⟩
theorem TwP.cell{k:Nat}(h:TwP wr g B n cap p j a A c1 c2 c3 c4 c5 k x W)(hk:k<6){d:Addr}{v:Value}(hc:wr.cell? d=some v)(hg:d.block≠g)(hB:d.block<B):W.cell? d=some v:=by
 obtain⟨W4,h1,rfl|h2⟩:=h.kept hk
 . exact h1.cell_of hc hg
 . exact(h2.low.cell hB).trans (h1.cell_of hc hg)
theorem TwP.box3{k b:Nat}{u v t:Value}{T:TypeId}(h:TwP wr g B n cap p j a A c1 c2 c3 c4 c5 k x W)(hk:k<6)(hb:AtC3 wr b u v t T)(hg:b≠g)(hT:T≠3):AtC3 W b u v t T:=by
 obtain⟨W4,h1,rfl|h2⟩:=h.kept hk
 . exact hb.keeps h1 hg
 . exact(hb.keeps h1 hg).gr h2 hT
theorem TwP.box2{k b:Nat}{u v:Value}{T:TypeId}(h:TwP wr g B n cap p j a A c1 c2 c3 c4 c5 k x W)(hk:k<6)(hb:AtC2 wr b u v T)(hg:b≠g)(hT:T≠3):AtC2 W b u v T:=by
 obtain⟨W4,h1,rfl|h2⟩:=h.kept hk
 . exact hb.keeps h1 hg
 . exact(hb.keeps h1 hg).gr h2 hT
end
section
variable {K B q kl:Nat} {w w':World} {x:Int} {s:ByteArray} {kv:Value}
theorem NSt.grI(h:NSt K B q x s kv kl w)(hg:yI 3 K B w w'):NSt K B q x s kv kl w':=⟨h.box.gr hg (by decide),h.kids.ty hg.ty,h.small,h.low⟩
theorem NSt.set2{lv:Value}{ll:Nat}(h:NSt K B q x s kv kl w)(hl:ll<=K)(hv:SI w B lv ll):NSt K B q x s lv ll (w.setCell ⟨q,2,none⟩ lv):=
 ⟨h.box.put2 lv,hv.oth (i:=2) h.box (by decide) lv,⟨h.small.1,hl⟩,h.low⟩
end
def NwP(wr:World)(c:Nat)(o:Obj)(Z:World):Nat->(Nat->Value)->World->Prop
 |0,_,W=>W=wr.drew
 |1,x,W=>x c=.pointer (some ⟨wr.heap.size,0,none⟩)/\W=wr.drew.alloc o
 |_,x,W=>x c=.pointer (some ⟨wr.heap.size,0,none⟩)/\W=Z
theorem NwP.ext{wr Z W:World}{c d:Nat}{o:Obj}{x x':Nat->Value}{k:Nat}(hx:∀e∈[c,d],x' e=x e)(h:NwP wr c o Z k x W):NwP wr c o Z k x' W:=by
 match k,h with
 |0,h=>exact h
 |1,h=>simpa only[NwP,hx c (by simp)]using h
 |k+2,h=>simpa only[NwP,hx c (by simp)]using h
theorem NwP.cell{wr Z W:World}{c:Nat}{o:Obj}{x:Nat->Value}{k:Nat}(h:NwP wr c o Z k x W)(hk:k<2){A:Addr}{u:Value}(hc:wr.cell? A=some u):W.cell? A=some u:=by
 match k,h,hk with
 |0,h,_=>subst h;exact hc
 |1,h,_=>
  rw[h.2];exact(Below.cell (zf (ue wr.drew.heap.size wr.drew) _) (uo _ _ hc)).trans hc
theorem zaQ(g p n cap:Nat)(a:Option Addr)(nv rv:Value)(n0 m0 B0:Nat)(w:World)(h:Rd w g p a n cap)(hp:p<=400000000)(hn:SN 1001 w B0 nv n0)(hr:SI w B0 rv m0)(hg:g<B0)(h1:1<=n0)(h2:n0<=80)(h3:m0<=200):
  Calls Tryz.prog 60 #[.pointer (some ⟨g,0,none⟩),.agg #[nv,rv]] w fun e w'=>DtOut w.heap.size e w'/\Drawn w g p n cap a 400000 w':=by
 obtain⟨na,nc,rfl,hnc,hnm⟩:=hn.form;obtain⟨ra,rc,rfl,hrc,hrm⟩:=hr.form;unfold maxLen at hnm hrm;obtain⟨gn,e,hgn,_⟩:=hn.node (k:=0) (by omega);subst e;have hlt:=h.lt;have Hlt:=zb hlt;have HKW0:=zb (((Keeps.refl g w).alloc (.cells #[.slice (some ⟨gn,0,none⟩) n0 nc,.slice ra m0 rc] 26)).alloc (.cells #[.slice none 0 0,.slice none 0 0] 26));have HA0:=zb (AtC2.new (w.alloc (.cells #[.slice (some ⟨gn,0,none⟩) n0 nc,.slice ra m0 rc] 26)) (.slice none 0 0) (.slice none 0 0) 26);have HA30:=zb ((AtC2.new w (.slice (some ⟨gn,0,none⟩) n0 nc) (.slice ra m0 rc) 26).alloc (.cells #[.slice none 0 0,.slice none 0 0] 26));rw[uk]at HA0;have HR:=zb h;clear h;go_enter Tryz.func60,Tryz.ntmps60
 go_upto_region 1 with fail
 obtain⟨W0,hW0⟩:∃W0,(w.alloc (.cells #[.slice (some ⟨gn,0,none⟩) n0 nc,.slice ra m0 rc] 26)).alloc (.cells #[.slice none 0 0,.slice none 0 0] 26)=W0:=⟨_,rfl⟩
 have hz0:W0.heap.size=w.heap.size+2:=by rw[<-hW0];simp
 have HR0:Hid (Rd W0 g p a n cap):=zb (by rw[<-hW0];exact((za HR).alloc _).alloc _);rw[hW0]at HKW0 HA0 HA30⊢;have HKW:=HKW0;have HA:=HA0;have HA3:=HA30;have HN0:=zb (hn.ty (Ty.keeps (K:=1001) (za HKW) hg));have HI0:=zb (hr.ty (Ty.keeps (K:=1001) (za HKW) hg));have HG:=zb hg;have HGN:=zb hgn;clear hW0 HKW0 HA0 HA30 HR hn hr hgn;have p0:=(za HA3).n0;obtain⟨b,hb⟩:∃b,W0.heap.size=b:=⟨_,rfl⟩
 have HBZ:Hid (W0.heap.size=b):=zb hb;have HD1:Hid (DSt 1001 g b b W0 (.slice none 0 0) (.slice none 0 0) 0 0 (W0.alloc (.cells #[.slice none 0 0,.slice none 0 0] 26))):=zb (by
  subst hb;exact⟨AtC2.new W0 _ _ _,ze5 _ _ _,jq _ _,(Keeps.refl g W0).alloc _,ud _,ud _,by omega,by omega,by simp⟩)
 have HR1:=zb ((za HR0).alloc (.cells #[.slice none 0 0,.slice none 0 0] 26));have HZ0:=zb hz0;clear hz0;go_wp2_with fail;clear p0 hb;have w2n:IntKind.i64.wrap (2*(n0:Int))=2*(n0:Int):=by rw[qX _ (by omega) (by omega)]
 go_loopw [7] (fun vi wr=>∃(i p':Nat)(nv:Value),vi=.int .i64 i/\i<=2*n0/\p'<=p+1001*i/\DSt 1001 g b b W0 nv (.slice none 0 0) i 0 wr/\Rd wr g p' a n cap) (fun vi _=>2*n0-(intOf vi).toNat)
 case atStart=>exact⟨0,p,_,rfl,by omega,by omega,za HD1,za HR1⟩
 case round=>
  obtain⟨i,p1,nv',rfl,hi,hp1,hD,hRr⟩:=hrel;obtain⟨na',nc',rfl,_,_⟩:=hD.nodes.form;have HD:=zb hD;have HRr:=zb hRr;clear hD hRr;by_cases hli:(i:Int)<2*(n0:Int)
  . go_wp2_with fail
    obtain⟨k,hk⟩:∃k,i%n0=k:=⟨_,rfl⟩
    have hkn:k<n0:=by rw[<-hk];exact Ua _ (by omega)
    have hmod:Int.tmod (i:Int) (n0:Int)=(k:Int):=by rw[<-hk];rfl
    obtain⟨gx,e,_,_,_,x0,s0,ka,kc,kl,C0,C1,C2,hs0,hkl0,hsk⟩:=(za HN0).node hkn;cases e;have hgng:gn≠g:=by have:=za HGN;have:=za HG;omega
    have c0:=(za HD).keep.cell_of C0 hgng;have c1:=(za HD).keep.cell_of C1 hgng;have HC2:=zb C2;have HSK:=zb hsk;have HGG:=zb hgng;have HA3r:=zb ((za HA3).keeps (za HD).keep (by have:=za Hlt;omega));have p0:=(za HA3r).n0;have hn00:¬(n0:Int)=0:=by omega
    have hn01:¬n0=0:=by omega
    have hk0:(0:Int)<=(k:Int):=by omega
    have hkn':(k:Int)<(n0:Int):=by omega
    have hkt:((k:Int)).toNat=k:=by omega
    obtain⟨Z,hZ⟩:∃Z,(wr.alloc (.cells #[.int .i64 x0,.string s0,.slice none 0 0] 56)).drew=Z:=⟨_,rfl⟩
    have HZZ:=zb hZ;have HNB:Hid (AtC3 (wr.drew.alloc (.cells #[.int .i64 0,.string ⟨#[]⟩,.slice none 0 0] 56)) wr.heap.size (.int .i64 0) (.string ⟨#[]⟩) (.slice none 0 0) 56):=zb (AtC3.new wr.drew _ _ _ _);clear hk hsk hZ C0 C1 C2 hgng;refine wH (by kernel_rfl) ?_;change wpAny _ _ _ _ _ _ _ (World.drew _);obtain⟨PD,hPD⟩:∃PD:Nat->(Nat->Value)->World->Prop,PD=NwP wr 17 (.cells #[.int .i64 0,.string ⟨#[]⟩,.slice none 0 0] 56) Z:=⟨_,rfl⟩
    have hst:∀k x x' w,(∀c∈([17,18]:List Nat),x' c=x c)->PD k x w->PD k x' w:=by subst hPD;exact(fun _ _ _ _=>NwP.ext)
    refine qS (fun l' a' w'=>∃x:Nat->Value,a'=⟨#[.pointer (some ⟨g,0,none⟩),.agg #[.slice (some ⟨gn,0,none⟩) n0 nc,.slice ra m0 rc],undef,.pointer (some ⟨w.heap.size,0,none⟩),.pointer (some ⟨w.heap.size+1,0,none⟩),.int .i64 (n0:Int),.pointer (some ⟨b,0,none⟩),.int .i64 (i:Int),x 17,u9,undef,.pointer (some ⟨w.heap.size,0,none⟩),.slice (some ⟨gn,0,none⟩) n0 nc,.int .i64 (n0:Int),.agg #[.slice none 0 0,.slice none 0 0],.int .i64 (i:Int),.int .i64 (n0:Int),.int .i64 (2*(n0:Int)),.bool true,u19,u20,x 0,x 1,x 2,x 3,x 4,x 5,x 6,x 7,x 8,x 9,x 10,x 11,x 12,x 13,x 14,x 15,x 16,u38,u39,u40,u41,u42,u43,u44,u45,u46,u47,u48,u49,u50,u51,u52,u53,u54,u55,u56,u57,u58,u59,u60,u61,u62,u63,u64,u65,u66,u67,u68,u69,u70,u71,u72,u73,u74,u75,u76,u77,undef,undef,undef,undef,undef,undef,undef,undef,undef,undef,undef,undef,undef,undef,undef,undef,undef,undef,undef,undef,undef,undef,undef],[]⟩/\Phs 18 [17,18] (vL [.pointer (some ⟨w.heap.size,0,none⟩),.slice (some ⟨gn,0,none⟩) n0 nc,.int .i64 (i:Int),.int .i64 (n0:Int),.int .i64 (k:Int),.pointer (some ⟨gn,k*3,none⟩),.pointer (some ⟨gn,k*3,none⟩),.int .i64 x0,.pointer (some ⟨w.heap.size,0,none⟩),.slice (some ⟨gn,0,none⟩) n0 nc,.int .i64 (i:Int),.int .i64 (n0:Int),.int .i64 (k:Int),.pointer (some ⟨gn,k*3,none⟩),.pointer (some ⟨gn,k*3+1,none⟩),.string s0,.agg #[.int .i64 x0,.string s0,.slice none 0 0],undef,undef]) PD l' x w') (fun _ _ _⟨_,_,h⟩=>by exact h.sz) ?hend ?hstep (fun _ _ _⟨_,_,h⟩=>vE (by kernel_rfl) (by exact h.sz)) _ _ _ _ ?h0 (UA rfl)
    case h0=>exact⟨fun j=>[u21,u22,u23,u24,u25,u26,u27,u28,u29,u30,u31,u32,u33,u34,u35,u36,u37,u8,undef].getD j undef,rfl,Phs.start rfl (by subst hPD;exact rfl)⟩
    case hstep=>
     rintro l' a' w' j⟨x,rfl,h⟩ hi;have hjj:j<19:=jR hi;have hjl:=ye hi;rcases(by omega:j=0\/j=1\/j=2\/j=3\/j=4\/j=5\/j=6\/j=7\/j=8\/j=9\/j=10\/j=11\/j=12\/j=13\/j=14\/j=15\/j=16\/j=17\/j=18)with rfl|rfl|rfl|rfl|rfl|rfl|rfl|rfl|rfl|rfl|rfl|rfl|rfl|rfl|rfl|rfl|rfl|rfl|rfl
     . refine uh rfl (fun K hK=>?_)
       go_simp;exact hK _ _ ⟨_,by simp[],h.nx hst 0 rfl rfl rfl⟩
     . have w0:=h.dv hi 0 rfl rfl rfl rfl
       obtain⟨k',hk',hp⟩:=h.before rfl (by omega) hjl;rw[hPD]at hp;have y0:=hp.cell hk' p0;simp only[w0];refine uh rfl (fun K hK=>?_);go_simp;exact hK _ _ ⟨_,by simp[w0],h.nx hst 1 rfl rfl rfl⟩
     . refine uh rfl (fun K hK=>?_)
       go_simp;exact hK _ _ ⟨_,by simp[],h.nx hst 2 rfl rfl rfl⟩
     . refine uh rfl (fun K hK=>?_)
       go_simp;exact hK _ _ ⟨_,by simp[],h.nx hst 3 rfl rfl rfl⟩
     . have w2:=h.dv hi 2 rfl rfl rfl rfl
       have w3:=h.dv hi 3 rfl rfl rfl rfl;simp only[w2,w3];refine uh rfl (fun K hK=>?_);go_simp;exact hK _ _ ⟨_,by simp[w2,w3],h.nx hst 4 rfl rfl rfl⟩
     . have w1:=h.dv hi 1 rfl rfl rfl rfl
       have w4:=h.dv hi 4 rfl rfl rfl rfl;simp only[w1,w4];refine uh rfl (fun K hK=>?_);go_simp;exact hK _ _ ⟨_,by simp[w1,w4],h.nx hst 5 rfl rfl rfl⟩
     . have w5:=h.dv hi 5 rfl rfl rfl rfl
       simp only[w5];refine uh rfl (fun K hK=>?_);go_simp;exact hK _ _ ⟨_,by simp[w5],h.nx hst 6 rfl rfl rfl⟩
     . have w6:=h.dv hi 6 rfl rfl rfl rfl
       obtain⟨k',hk',hp⟩:=h.before rfl (by omega) hjl;rw[hPD]at hp;have y0:=hp.cell hk' c0;simp only[w6];refine uh rfl (fun K hK=>?_);go_simp;exact hK _ _ ⟨_,by simp[w6],h.nx hst 7 rfl rfl rfl⟩
     . refine uh rfl (fun K hK=>?_)
       go_simp;exact hK _ _ ⟨_,by simp[],h.nx hst 8 rfl rfl rfl⟩
     . have w8:=h.dv hi 8 rfl rfl rfl rfl
       obtain⟨k',hk',hp⟩:=h.before rfl (by omega) hjl;rw[hPD]at hp;have y0:=hp.cell hk' p0;simp only[w8];refine uh rfl (fun K hK=>?_);go_simp;exact hK _ _ ⟨_,by simp[w8],h.nx hst 9 rfl rfl rfl⟩
     . refine uh rfl (fun K hK=>?_)
       go_simp;exact hK _ _ ⟨_,by simp[],h.nx hst 10 rfl rfl rfl⟩
     . refine uh rfl (fun K hK=>?_)
       go_simp;exact hK _ _ ⟨_,by simp[],h.nx hst 11 rfl rfl rfl⟩
     . have w10:=h.dv hi 10 rfl rfl rfl rfl
       have w11:=h.dv hi 11 rfl rfl rfl rfl;simp only[w10,w11];refine uh rfl (fun K hK=>?_);go_simp;exact hK _ _ ⟨_,by simp[w10,w11],h.nx hst 12 rfl rfl rfl⟩
     . have w9:=h.dv hi 9 rfl rfl rfl rfl
       have w12:=h.dv hi 12 rfl rfl rfl rfl;simp only[w9,w12];refine uh rfl (fun K hK=>?_);go_simp;exact hK _ _ ⟨_,by simp[w9,w12],h.nx hst 13 rfl rfl rfl⟩
     . have w13:=h.dv hi 13 rfl rfl rfl rfl
       simp only[w13];refine uh rfl (fun K hK=>?_);go_simp;exact hK _ _ ⟨_,by simp[w13],h.nx hst 14 rfl rfl rfl⟩
     . have w14:=h.dv hi 14 rfl rfl rfl rfl
       obtain⟨k',hk',hp⟩:=h.before rfl (by omega) hjl;rw[hPD]at hp;have y0:=hp.cell hk' c1;simp only[w14];refine uh rfl (fun K hK=>?_);go_simp;exact hK _ _ ⟨_,by simp[w14],h.nx hst 15 rfl rfl rfl⟩
     . have w7:=h.dv hi 7 rfl rfl rfl rfl
       have w15:=h.dv hi 15 rfl rfl rfl rfl;simp only[w7,w15];refine uh rfl (fun K hK=>?_);go_simp;exact hK _ _ ⟨_,by simp[w7,w15],h.nx hst 16 rfl rfl rfl⟩
     . have hpv:0=0\/∃d,([17,18]:List Nat)[0-1]? =some d/\LL l' d:=.inl rfl
       have hp:=h.at 0 rfl hpv hjl;rw[hPD]at hp;have hp:w'=wr.drew:=hp;subst hp;refine uh rfl (fun K hK=>?_);go_simp;exact hK _ _ ⟨_,by simp[],h.step (by decide) 0 rfl (by omega) hpv hjl (fun e=>absurd e (by omega)) (.pointer (some ⟨wr.heap.size,0,none⟩)) (by rw[hPD];exact⟨rfl,rfl⟩)⟩
     . have w16:=h.dv hi 16 rfl rfl rfl rfl
       have hpv:1=0\/∃d,([17,18]:List Nat)[1-1]? =some d/\LL l' d:=.inr ⟨17,rfl,qB hi _ rfl⟩;have hall:∀i,i<18->LL l' i:=fun i h7=>by
        rcases(by omega:i=0\/i=1\/i=2\/i=3\/i=4\/i=5\/i=6\/i=7\/i=8\/i=9\/i=10\/i=11\/i=12\/i=13\/i=14\/i=15\/i=16\/i=17)with rfl|rfl|rfl|rfl|rfl|rfl|rfl|rfl|rfl|rfl|rfl|rfl|rfl|rfl|rfl|rfl|rfl|rfl
        all_goals exact qB hi _ rfl
       have hp:=h.at 1 rfl hpv hjl;rw[hPD]at hp;obtain⟨e17,hp⟩:x 17=.pointer (some ⟨wr.heap.size,0,none⟩)/\w'=wr.drew.alloc (.cells #[.int .i64 0,.string ⟨#[]⟩,.slice none 0 0] 56):=hp;subst hp;have q0:=(za HNB).n0;have q1:=(za HNB).n1;have q2:=(za HNB).n2;have mf:=(za HNB).f;simp only[e17];simp only[w16];refine uh rfl (fun K hK=>?_);go_simp;exact hK _ _ ⟨_,by simp[w16,e17],h.step (by decide) 1 rfl (by omega) hpv hjl (fun _=>hall) undef (by rw[hPD];exact⟨by simpa using e17,za HZZ⟩)⟩
    case hend=>
     rintro l' a' wz⟨xa,rfl,h⟩ hall;have HP:=zb (h.done rfl hall);rw[hPD]at HP;clear h hall hst;obtain⟨e17,hw⟩:=za HP;have hw:wz=Z:=hw;subst hw;obtain⟨q,hq⟩:∃q,wr.heap.size=q:=⟨_,rfl⟩
     have hbq:b<=q:=by rw[<-hq];exact(za HD).low.2.2.2.2
     have HN6:Hid (NSt 1001 b q x0 s0 (.slice none 0 0) 0 wz):=zb (by
      rw[<-za HZZ,<-hq];exact⟨AtC3.new wr _ _ _ _,jq _ _,⟨hs0,uD _⟩,by rw[hq];exact hbq⟩)
     have HD6:Hid (DSt 1001 g b b W0 (.slice na' i nc') (.slice none 0 0) i 0 wz):=zb (by
      rw[<-za HZZ];exact(za HD).below ((zf (ue _ _) _).drew))
     have HR6:Hid (Rd wz g p1 a n cap):=zb (by
      rw[<-za HZZ];exact((za HRr).alloc _).drew)
     rw[hq]at e17;simp only[e17];clear p0 c0 c1 e17 hq;go_wp2_with fail
     go_loopw [9] (fun vj wk=>∃(j p2:Nat)(kv:Value),vj=.int .i64 j/\j<=kl/\p2<=p1+j/\DSt 1001 g b b W0 (.slice na' i nc') (.slice none 0 0) i 0 wk/\NSt 1001 b q x0 s0 kv j wk/\Rd wk g p2 a n cap) (fun vj _=>kl-(intOf vj).toNat)
     case atStart=>exact⟨0,p1,_,rfl,by omega,by omega,za HD6,za HN6,za HR6⟩
     case round=>
      obtain⟨j,p2,kv,rfl,hj,hp2,hD,hN,hR⟩:=hrel;obtain⟨wk,hwk⟩:∃wk,wk=wr:=⟨_,rfl⟩
      subst hwk;obtain⟨kva,kvc,rfl,hkvc,hkvm⟩:=hN.kids.form;have HDk:=zb hD;have HNk:=zb hN;have HRk:=zb hR;clear hD hN hR;have HA3k:=zb ((za HA3).keeps (za HDk).keep (by have:=za Hlt;omega));have p0:=(za HA3k).n0;have c2:=(za HDk).keep.cell_of (za HC2) (za HGG);go_wp2_with fail;refine wH (by kernel_rfl) ?_;change wpAny _ _ _ _ _ _ _ (World.drew _);refine qS (fun l' a' w'=>∃x:Nat->Value,a'=⟨#[.pointer (some ⟨g,0,none⟩),.agg #[.slice (some ⟨gn,0,none⟩) n0 nc,.slice ra m0 rc],undef,.pointer (some ⟨w.heap.size,0,none⟩),.pointer (some ⟨w.heap.size+1,0,none⟩),.int .i64 (n0:Int),.pointer (some ⟨b,0,none⟩),.int .i64 (i:Int),.pointer (some ⟨q,0,none⟩),.int .i64 (j:Int),undef,.pointer (some ⟨w.heap.size,0,none⟩),.slice (some ⟨gn,0,none⟩) n0 nc,.int .i64 (n0:Int),.agg #[.slice none 0 0,.slice none 0 0],.int .i64 (i:Int),.int .i64 (n0:Int),.int .i64 (2*(n0:Int)),.bool true,u19,u20,xa 0,xa 1,xa 2,xa 3,xa 4,xa 5,xa 6,xa 7,xa 8,xa 9,xa 10,xa 11,xa 12,xa 13,xa 14,xa 15,xa 16,x 0,x 1,x 2,x 3,x 4,x 5,x 6,x 7,x 8,x 9,x 10,u49,u50,u51,u52,u53,u54,u55,u56,u57,u58,u59,u60,u61,u62,u63,u64,u65,u66,u67,u68,u69,u70,u71,u72,u73,u74,u75,u76,u77,undef,undef,undef,undef,undef,undef,undef,undef,undef,undef,undef,undef,undef,undef,undef,undef,undef,undef,undef,undef,undef,undef,undef],[]⟩/\RdL wk [.int .i64 (j:Int),.pointer (some ⟨w.heap.size,0,none⟩),.slice (some ⟨gn,0,none⟩) n0 nc,.int .i64 (i:Int),.int .i64 (n0:Int),.int .i64 (k:Int),.pointer (some ⟨gn,k*3,none⟩),.pointer (some ⟨gn,k*3+2,none⟩),.slice ka kl kc,.int .i64 (kl:Int),.bool (decide ((j:Int)<(kl:Int)))] l' x w') (fun _ _ _⟨_,_,h⟩=>h.sz) ?hend ?hstep (fun _ _ _⟨_,_,h⟩=>vE (by kernel_rfl) h.sz) _ _ _ _ ⟨fun j=>[u38,u39,u40,u41,u42,u43,u44,u45,u46,u47,u48].getD j undef,rfl,RdL.start rfl (ue _ _).drew⟩ (UA rfl)
      case hstep=>
       rintro l' a' w' j⟨x,rfl,h⟩ hi;have hj:j<11:=jR hi;rcases(by omega:j=0\/j=1\/j=2\/j=3\/j=4\/j=5\/j=6\/j=7\/j=8\/j=9\/j=10)with rfl|rfl|rfl|rfl|rfl|rfl|rfl|rfl|rfl|rfl|rfl
       . refine uh rfl (fun K hK=>?_)
         go_simp;exact hK _ _ ⟨_,by simp[],h.nx 0 rfl⟩
       . refine uh rfl (fun K hK=>?_)
         go_simp;exact hK _ _ ⟨_,by simp[],h.nx 1 rfl⟩
       . have w1:=h.dv hi 1 rfl rfl
         have y0:=jm h.bl p0;have y1:=jm h.bl c2;simp only[w1];refine uh rfl (fun K hK=>?_);go_simp;exact hK _ _ ⟨_,by simp[w1],h.nx 2 rfl⟩
       . refine uh rfl (fun K hK=>?_)
         go_simp;exact hK _ _ ⟨_,by simp[],h.nx 3 rfl⟩
       . refine uh rfl (fun K hK=>?_)
         go_simp;exact hK _ _ ⟨_,by simp[],h.nx 4 rfl⟩
       . have w3:=h.dv hi 3 rfl rfl
         have w4:=h.dv hi 4 rfl rfl;simp only[w3,w4];refine uh rfl (fun K hK=>?_);go_simp;exact hK _ _ ⟨_,by simp[w3,w4],h.nx 5 rfl⟩
       . have w2:=h.dv hi 2 rfl rfl
         have w5:=h.dv hi 5 rfl rfl;simp only[w2,w5];refine uh rfl (fun K hK=>?_);go_simp;exact hK _ _ ⟨_,by simp[w2,w5],h.nx 6 rfl⟩
       . have w6:=h.dv hi 6 rfl rfl
         simp only[w6];refine uh rfl (fun K hK=>?_);go_simp;exact hK _ _ ⟨_,by simp[w6],h.nx 7 rfl⟩
       . have w7:=h.dv hi 7 rfl rfl
         have y0:=jm h.bl p0;have y1:=jm h.bl c2;simp only[w7];refine uh rfl (fun K hK=>?_);go_simp;exact hK _ _ ⟨_,by simp[w7],h.nx 8 rfl⟩
       . have w8:=h.dv hi 8 rfl rfl
         simp only[w8];refine uh rfl (fun K hK=>?_);go_simp;exact hK _ _ ⟨_,by simp[w8],h.nx 9 rfl⟩
       . have w0:=h.dv hi 0 rfl rfl
         have w9:=h.dv hi 9 rfl rfl;simp only[w0,w9];refine uh rfl (fun K hK=>?_);go_simp;exact hK _ _ ⟨_,by simp[w0,w9],h.nx 10 rfl⟩
      case hend=>
       rintro l' a' w8⟨xb,rfl,h⟩ ha;simp only[h.fv ha 0 rfl (by decide),h.fv ha 1 rfl (by decide),h.fv ha 2 rfl (by decide),h.fv ha 3 rfl (by decide),h.fv ha 4 rfl (by decide),h.fv ha 5 rfl (by decide),h.fv ha 6 rfl (by decide),h.fv ha 7 rfl (by decide),h.fv ha 8 rfl (by decide),h.fv ha 9 rfl (by decide),h.fv ha 10 rfl (by decide)];have HBE:=zb h.bl;clear h ha;have HD8:=zb ((za HDk).below (za HBE));have HN8:=zb ((za HNk).keeps (Keeps.of_below (za HBE)) (za HDk).low.2.2.1);have HR8:=zb ((za HRk).keep (za HBE));clear p0 c2;by_cases hjk:(j:Int)<(kl:Int)
       . go_wp2_with fail
         obtain⟨kb,rfl,hkb,hbi,hklc⟩:∃kb,ka=some ⟨kb,0,none⟩/\B0<=kb/\BI W0 kb kc kl/\kl<=kc:=by
          rcases za HSK with⟨e,e0⟩|⟨kb,c',e,e1,e2,_,e4⟩
          . omega
          . cases e;exact⟨kb,rfl,e1,e4,e2⟩
         obtain⟨u,C3,z0,rfl⟩:=hbi.cell hklc (j:=j) (by omega);have hb0:W0.heap.size=b:=za HBZ;have hws:w.heap.size≠g/\w.heap.size<b:=by have:=za Hlt;have:=za HZ0;omega
         have hgs:gn≠g/\gn<b:=⟨za HGG,by rw[<-hb0];exact uo _ _ (za HC2)⟩
         have hks:kb≠g/\kb<b:=⟨by have:=za HG;omega,by rw[<-hb0];exact hbi.lt⟩
         have hgb:g<b:=(za HD8).low.2.2.1;have hqg:q≠g:=by omega
         have hbw8:b<=w8.heap.size:=(za HD8).low.2.2.2.2;have p0:=((za HA3).keeps (za HD8).keep hws.1).n0;have c2:=(za HD8).keep.cell_of (za HC2) hgs.1;have c3:=(za HD8).keep.cell_of C3 hks.1;have hjk0:(0:Int)<=(j:Int):=by omega
         have hjt:((j:Int)).toNat=j:=by omega
         have hjk':j<kl:=by omega
         clear hb0 hbi C3 hkb;refine wH (by kernel_rfl) ?_;change wpAny _ _ _ _ _ _ _ (World.drew _);obtain⟨PD,hPD⟩:∃PD:Nat->(Nat->Value)->World->Prop,PD=TwP w8 g b n cap p2 j a ⟨q,2,none⟩ 15 16 17 18 19:=⟨_,rfl⟩
         have hst:∀k x x' w,(∀c∈([15,16,17,18,19,21]:List Nat),x' c=x c)->PD k x w->PD k x' w:=by subst hPD;exact(fun _ _ _ _=>TwP.ext' rfl)
         refine qS (fun l' a' w'=>∃x:Nat->Value,a'=⟨#[.pointer (some ⟨g,0,none⟩),.agg #[.slice (some ⟨gn,0,none⟩) n0 nc,.slice ra m0 rc],undef,.pointer (some ⟨w.heap.size,0,none⟩),.pointer (some ⟨w.heap.size+1,0,none⟩),.int .i64 (n0:Int),.pointer (some ⟨b,0,none⟩),.int .i64 (i:Int),.pointer (some ⟨q,0,none⟩),.int .i64 (j:Int),undef,.pointer (some ⟨w.heap.size,0,none⟩),.slice (some ⟨gn,0,none⟩) n0 nc,.int .i64 (n0:Int),.agg #[.slice none 0 0,.slice none 0 0],.int .i64 (i:Int),.int .i64 (n0:Int),.int .i64 (2*(n0:Int)),.bool true,u19,u20,xa 0,xa 1,xa 2,xa 3,xa 4,xa 5,xa 6,xa 7,xa 8,xa 9,xa 10,xa 11,xa 12,xa 13,xa 14,xa 15,xa 16,.int .i64 (j:Int),.pointer (some ⟨w.heap.size,0,none⟩),.slice (some ⟨gn,0,none⟩) n0 nc,.int .i64 (i:Int),.int .i64 (n0:Int),.int .i64 (k:Int),.pointer (some ⟨gn,k*3,none⟩),.pointer (some ⟨gn,k*3+2,none⟩),.slice (some ⟨kb,0,none⟩) kl kc,.int .i64 (kl:Int),.bool (decide ((j:Int)<(kl:Int))),u49,u50,x 0,x 1,x 2,x 3,x 4,x 5,x 6,x 7,x 8,x 9,x 10,x 11,x 12,x 13,x 14,x 15,x 16,x 17,x 18,x 19,x 20,u72,u73,u74,u75,u76,u77,undef,undef,undef,undef,undef,undef,undef,undef,undef,undef,undef,undef,undef,undef,undef,undef,undef,undef,undef,undef,undef,undef,undef],[]⟩/\Phs 21 [15,16,17,18,19,21] (vL [.pointer (some ⟨q,2,none⟩),.slice kva j kvc,.pointer (some ⟨w.heap.size,0,none⟩),.slice (some ⟨gn,0,none⟩) n0 nc,.int .i64 (i:Int),.int .i64 (n0:Int),.int .i64 (k:Int),.pointer (some ⟨gn,k*3,none⟩),.pointer (some ⟨gn,k*3+2,none⟩),.slice (some ⟨kb,0,none⟩) kl kc,.int .i64 (j:Int),.pointer (some ⟨kb,j,none⟩),.int .i64 z0,.int .i64 (n0:Int),.pointer (some ⟨g,0,none⟩),undef,undef,undef,undef,undef,.pointer (some ⟨q,2,none⟩),undef]) PD l' x w') (fun _ _ _⟨_,_,h⟩=>by exact h.sz) ?hend ?hstep (fun _ _ _⟨_,_,h⟩=>vE (by kernel_rfl) (by exact h.sz)) _ _ _ _ ?h0 (UA rfl)
         case h0=>exact⟨fun j=>[u51,u52,u53,u54,u55,u56,u57,u58,u59,u60,u61,u62,u63,u64,u65,u66,u67,u68,u69,u70,u71,undef].getD j undef,rfl,Phs.start rfl (by subst hPD;exact rfl)⟩
         case hstep=>
          rintro l' a' w' j⟨x,rfl,h⟩ hi;have hjj:j<22:=jR hi;have hjl:=ye hi;rcases(by omega:j=0\/j=1\/j=2\/j=3\/j=4\/j=5\/j=6\/j=7\/j=8\/j=9\/j=10\/j=11\/j=12\/j=13\/j=14\/j=15\/j=16\/j=17\/j=18\/j=19\/j=20\/j=21)with rfl|rfl|rfl|rfl|rfl|rfl|rfl|rfl|rfl|rfl|rfl|rfl|rfl|rfl|rfl|rfl|rfl|rfl|rfl|rfl|rfl|rfl
          . refine uh rfl (fun K hK=>?_)
            go_simp;exact hK _ _ ⟨_,by simp[hjk'],h.nx hst 0 rfl rfl rfl⟩
          . have w0:=h.dv hi 0 rfl rfl rfl rfl
            obtain⟨k',hk',hp⟩:=h.before rfl (by omega) hjl;rw[hPD]at hp;have y0:=(hp.box3 hk' (za HN8).box hqg (by decide)).n2;simp only[w0];refine uh rfl (fun K hK=>?_);go_simp;exact hK _ _ ⟨_,by simp[w0,hjk'],h.nx hst 1 rfl rfl rfl⟩
          . refine uh rfl (fun K hK=>?_)
            go_simp;exact hK _ _ ⟨_,by simp[hjk'],h.nx hst 2 rfl rfl rfl⟩
          . have w2:=h.dv hi 2 rfl rfl rfl rfl
            obtain⟨k',hk',hp⟩:=h.before rfl (by omega) hjl;rw[hPD]at hp;have y0:=hp.cell hk' p0 hws.1 hws.2;simp only[w2];refine uh rfl (fun K hK=>?_);go_simp;exact hK _ _ ⟨_,by simp[w2,hjk'],h.nx hst 3 rfl rfl rfl⟩
          . refine uh rfl (fun K hK=>?_)
            go_simp;exact hK _ _ ⟨_,by simp[hjk'],h.nx hst 4 rfl rfl rfl⟩
          . refine uh rfl (fun K hK=>?_)
            go_simp;exact hK _ _ ⟨_,by simp[hjk'],h.nx hst 5 rfl rfl rfl⟩
          . have w4:=h.dv hi 4 rfl rfl rfl rfl
            have w5:=h.dv hi 5 rfl rfl rfl rfl;simp only[w4,w5];refine uh rfl (fun K hK=>?_);go_simp;exact hK _ _ ⟨_,by simp[w4,w5,hjk'],h.nx hst 6 rfl rfl rfl⟩
          . have w3:=h.dv hi 3 rfl rfl rfl rfl
            have w6:=h.dv hi 6 rfl rfl rfl rfl;simp only[w3,w6];refine uh rfl (fun K hK=>?_);go_simp;exact hK _ _ ⟨_,by simp[w3,w6,hjk'],h.nx hst 7 rfl rfl rfl⟩
          . have w7:=h.dv hi 7 rfl rfl rfl rfl
            simp only[w7];refine uh rfl (fun K hK=>?_);go_simp;exact hK _ _ ⟨_,by simp[w7,hjk'],h.nx hst 8 rfl rfl rfl⟩
          . have w8:=h.dv hi 8 rfl rfl rfl rfl
            obtain⟨k',hk',hp⟩:=h.before rfl (by omega) hjl;rw[hPD]at hp;have y0:=hp.cell hk' c2 hgs.1 hgs.2;simp only[w8];refine uh rfl (fun K hK=>?_);go_simp;exact hK _ _ ⟨_,by simp[w8,hjk'],h.nx hst 9 rfl rfl rfl⟩
          . refine uh rfl (fun K hK=>?_)
            go_simp;exact hK _ _ ⟨_,by simp[hjk'],h.nx hst 10 rfl rfl rfl⟩
          . have w9:=h.dv hi 9 rfl rfl rfl rfl
            have w10:=h.dv hi 10 rfl rfl rfl rfl;simp only[w9,w10];refine uh rfl (fun K hK=>?_);go_simp;exact hK _ _ ⟨_,by simp[w9,w10,hjk'],h.nx hst 11 rfl rfl rfl⟩
          . have w11:=h.dv hi 11 rfl rfl rfl rfl
            obtain⟨k',hk',hp⟩:=h.before rfl (by omega) hjl;rw[hPD]at hp;have y0:=hp.cell hk' c3 hks.1 hks.2;simp only[w11];refine uh rfl (fun K hK=>?_);go_simp;exact hK _ _ ⟨_,by simp[w11,hjk'],h.nx hst 12 rfl rfl rfl⟩
          . refine uh rfl (fun K hK=>?_)
            go_simp;exact hK _ _ ⟨_,by simp[hjk'],h.nx hst 13 rfl rfl rfl⟩
          . refine uh rfl (fun K hK=>?_)
            go_simp;exact hK _ _ ⟨_,by simp[hjk'],h.nx hst 14 rfl rfl rfl⟩
          . have w14:=h.dv hi 14 rfl rfl rfl rfl
            have hpv:0=0\/∃d,([15,16,17,18,19,21]:List Nat)[0-1]? =some d/\LL l' d:=.inl rfl;have hp:=h.at 0 rfl hpv hjl;rw[hPD]at hp;have hp:w'=w8.drew:=hp;subst hp;simp only[w14];refine uh rfl (fun K hK=>?_);go_simp
            go_at_call 27
            refine(qk g p2 n cap a 2 _ (by exact(za HR8).drew) (by omega) (by omega)).mono ?_;rintro e wy⟨⟨y,rfl,_⟩,⟨p5,hp5,hr5⟩,hk5⟩;have hk5:=(Keeps.refl g w8).drew.trans hk5
            (try dsimp only)
            exact hK _ _ ⟨_,by simp[w14,hjk'],h.step (by decide) 0 rfl (by omega) hpv hjl (fun e=>absurd e (by omega)) (.int .i64 (y:Int)) (by rw[hPD];exact⟨⟨_,rfl⟩,hk5,p5,by omega,hr5⟩)⟩
          . have w13:=h.dv hi 13 rfl rfl rfl rfl
            have hpv:1=0\/∃d,([15,16,17,18,19,21]:List Nat)[1-1]? =some d/\LL l' d:=.inr ⟨15,rfl,qB hi _ rfl⟩;have hp:=h.at 1 rfl hpv hjl;rw[hPD]at hp;obtain⟨⟨z1,e1⟩,hk5,hr5⟩:=hp;simp only[e1];simp only[w13];refine uh rfl (fun K hK=>?_);go_simp;exact hK _ _ ⟨_,by simp[w13,e1,hjk'],h.step (by decide) 1 rfl (by omega) hpv hjl (fun e=>absurd e (by omega)) (.int .i64 (IntKind.i64.wrap ((n0:Int)*z1))) (by rw[hPD];exact⟨⟨_,rfl⟩,hk5,hr5⟩)⟩
          . have w12:=h.dv hi 12 rfl rfl rfl rfl
            have hpv:2=0\/∃d,([15,16,17,18,19,21]:List Nat)[2-1]? =some d/\LL l' d:=.inr ⟨16,rfl,qB hi _ rfl⟩;have hp:=h.at 2 rfl hpv hjl;rw[hPD]at hp;obtain⟨⟨z1,e1⟩,hk5,hr5⟩:=hp;simp only[e1];simp only[w12];refine uh rfl (fun K hK=>?_);go_simp;exact hK _ _ ⟨_,by simp[w12,e1,hjk'],h.step (by decide) 2 rfl (by omega) hpv hjl (fun e=>absurd e (by omega)) (.int .i64 (IntKind.i64.wrap (z0+z1))) (by rw[hPD];exact⟨⟨_,rfl⟩,hk5,hr5⟩)⟩
          . have hpv:3=0\/∃d,([15,16,17,18,19,21]:List Nat)[3-1]? =some d/\LL l' d:=.inr ⟨17,rfl,qB hi _ rfl⟩
            have hp:=h.at 3 rfl hpv hjl;rw[hPD]at hp;obtain⟨⟨z1,e1⟩,hk5,p5,hp5,hr5⟩:=hp;simp only[e1];refine uh rfl (fun K hK=>?_);go_simp;exact hK _ _ ⟨_,by simp[e1,hjk'],h.step (by decide) 3 rfl (by omega) hpv hjl (fun e=>absurd e (by omega)) (.slice (some ⟨w'.heap.size,0,none⟩) 1 1) (by rw[hPD];exact⟨⟨z1,_,rfl,World.news_of_block (Un w' _) 0 _ rfl⟩,hk5.alloc _,p5,hp5,hr5.alloc _⟩)⟩
          . have w1:=h.dv hi 1 rfl rfl rfl rfl
            have hpv:4=0\/∃d,([15,16,17,18,19,21]:List Nat)[4-1]? =some d/\LL l' d:=.inr ⟨18,rfl,qB hi _ rfl⟩;have hp:=h.at 4 rfl hpv hjl;rw[hPD]at hp;obtain⟨⟨z1,r1,e1,hcr⟩,hk5,p5,hp5,hr5⟩:=hp;simp only[e1];simp only[w1];refine uh rfl (fun K hK=>?_);refine jr (by rfl) _ _ (by rfl) 1001 b (.slice kva j kvc) j r1 z1 (by rfl) (by rfl) ((za HN8).kids.ty (Ty.keeps (K:=1001) hk5 hgb)) hcr (by omega) (uC hbw8 hk5.size) (some 70) (by rfl) ?_;intro g6 c6 w6 hs6 hg6;exact hK _ _ ⟨_,by simp[w1,e1,go_sem,hjk'],h.step (by decide) 4 rfl (by omega) hpv hjl (fun e=>absurd e (by omega)) (.slice (some ⟨g6,0,none⟩) (j+1) c6) (by rw[hPD];exact⟨g6,c6,w',rfl,hs6,hg6,hk5,p5,hp5,hr5⟩)⟩
          . refine uh rfl (fun K hK=>?_)
            go_simp;exact hK _ _ ⟨_,by simp[hjk'],h.nx hst 20 rfl rfl rfl⟩
          . have w20:=h.dv hi 20 rfl rfl rfl rfl
            have hpv:5=0\/∃d,([15,16,17,18,19,21]:List Nat)[5-1]? =some d/\LL l' d:=.inr ⟨19,rfl,qB hi _ rfl⟩;have hall:∀i,i<21->LL l' i:=fun i h7=>by
             rcases(by omega:i=0\/i=1\/i=2\/i=3\/i=4\/i=5\/i=6\/i=7\/i=8\/i=9\/i=10\/i=11\/i=12\/i=13\/i=14\/i=15\/i=16\/i=17\/i=18\/i=19\/i=20)with rfl|rfl|rfl|rfl|rfl|rfl|rfl|rfl|rfl|rfl|rfl|rfl|rfl|rfl|rfl|rfl|rfl|rfl|rfl|rfl|rfl
             all_goals exact qB hi _ rfl
            have hp:=h.at 5 rfl hpv hjl;rw[hPD]at hp;obtain⟨gg,cp,W4,e1,hs5,hg5,hk5,hr5⟩:=hp;have hbx:=((za HN8).box.keeps hk5 hqg).gr hg5 (by decide);have y2:=hbx.n2;have yf:=hbx.f;simp only[e1];simp only[w20];refine uh rfl (fun K hK=>?_);go_simp;exact hK _ _ ⟨_,by simp[w20,e1,hjk'],h.step (by decide) 5 rfl (by omega) hpv hjl (fun _=>hall) undef (by rw[hPD];exact⟨gg,cp,W4,w',rfl,hs5,hg5,hk5,hr5⟩)⟩
         case hend=>
          rintro l' a' w9⟨xc,rfl,h⟩ hall;have HP:=zb (h.done rfl hall);rw[hPD]at HP;clear h hall hst;obtain⟨gg,cp,W4,W5,hw,hs5,hg5,hk5,p5,hp5,hr5⟩:=za HP;subst hw;have HN9:=zb ((((za HN8).keeps hk5 hgb).grI hg5).set2 (by omega) hs5);have HD9:=zb ((((za HD8).keeps hk5).grI hg5).setN (((za HN8).keeps hk5 hgb).grI hg5).bn hbq (j:=2) (x:=.slice (some ⟨gg,0,none⟩) (j+1) cp) ⟨fun e=>by simp at e,fun e=>by simp at e,fun _=>⟨j+1,by omega,hs5⟩⟩);have HR9:=zb (hr5.from hgb (hg5.low.setCell (p:=⟨q,2,none⟩) hbq (.slice (some ⟨gg,0,none⟩) (j+1) cp)));clear p0 c2 c3 hs5 hg5 hk5 hr5;go_wp2_with fail;go_roundw
          case rel=>exact⟨j+1,p5,_,by go_num,by omega,by omega,za HD9,za HN9,za HR9⟩
          case measure=>simp[intOf];omega
       . have b0:=(za HD8).box.n0
         have c0:=(za HN8).box.n0;have c1:=(za HN8).box.n1;have c2:=(za HN8).box.n2;have HRA:=zb ((za HR8).alloc (.cells #[.int .i64 x0,.string s0,.slice kva j kvc] 56));have HDA:=zb ((za HD8).alloc (.cells #[.int .i64 x0,.string s0,.slice kva j kvc] 56));have HKA:=zb ((za HN8).kids.ty (Ty.below (K:=1001) (zf (ue w8.heap.size w8) (.cells #[.int .i64 x0,.string s0,.slice kva j kvc] 56))));have HSM:=zb (za HN8).small;have HNW:=zb (AtC3.new w8 (.int .i64 x0) (.string s0) (.slice kva j kvc) 56);go_wp2_with (at_builtin;refine qy (by rfl) (.tmp 73) (.tmp 75) (by rfl) 1001 b (.slice na' i nc') i w8.heap.size x0 s0 (.slice kva j kvc) j (by rfl) (by rfl) (za HDA).nodes (za HNW).n0 (za HNW).n1 (za HNW).n2 (za HSM).1 (za HSM).2 (za HKA) (by omega) (za HDA).low.2.2.2.2 ?_;intro g6 c6 w6 hs6 hg6;have HS6:=zb hs6;have HG6:=zb hg6;have f0:=((za HDA).box.gr hg6 (by decide)).n0;have f1:=((za HDA).box.gr hg6 (by decide)).f;clear hs6 hg6 b0 c0 c1 c2);have HD7:=zb ((za HDA).appN (za HG6) (za HS6));have HR7:=zb ((za HRA).from (za HDA).low.2.2.1 ((za HG6).low.setCell (p:=⟨b,0,none⟩) (ud _) (.slice (some ⟨g6,0,none⟩) (i+1) c6)));clear f0 f1;go_wp2_with fail;go_roundw
         case rel=>exact⟨i+1,p2,_,by go_num,by omega,by omega,za HD7,za HR7⟩
         case measure=>simp[intOf];omega
  . obtain rfl:i=2*n0:=by omega
    go_wp2_with fail
    go_loopw [10] (fun v wk=>∃(j p2:Nat)(rv':Value),v=.int .i64 j/\j<=m0/\p2<=p1+j/\DSt 1001 g b b W0 (.slice na' (2*n0) nc') rv' (2*n0) j wk/\Rd wk g p2 a n cap) (fun v _=>m0-(intOf v).toNat)
    case atStart=>exact⟨0,p1,_,rfl,by omega,by omega,za HD,za HRr⟩
    case round=>
     obtain⟨j,p2,rv',rfl,hj,hp2,hD,hR⟩:=hrel;obtain⟨wk,hwk⟩:∃wk,wk=wr:=⟨_,rfl⟩
     subst hwk;obtain⟨rva,rvc,rfl,hrvc,hrvm⟩:=hD.roots.form;have HDk:=zb hD;have HRk:=zb hR;clear hD hR;have hb0:W0.heap.size=b:=za HBZ;have hws:w.heap.size≠g/\w.heap.size<b:=by have:=za Hlt;have:=za HZ0;omega
     have p1c:=((za HA3).keeps (za HDk).keep hws.1).n1;have hgb:g<b:=(za HDk).low.2.2.1;have hbg:b≠g:=by omega
     have hbwk:b<=wk.heap.size:=(za HDk).low.2.2.2.2;by_cases hjm:(j:Int)<(m0:Int)
     . go_wp2_with fail
       obtain⟨rb,rfl,hrb,hbi,hrlc⟩:∃rb,ra=some ⟨rb,0,none⟩/\B0<=rb/\BI W0 rb rc m0/\m0<=rc:=by
        rcases za HI0 with⟨e,e0⟩|⟨rb,c',e,e1,e2,_,e4⟩
        . omega
        . cases e;exact⟨rb,rfl,e1,e4,e2⟩
       obtain⟨u,C3,z0,rfl⟩:=hbi.cell hrlc (j:=j) (by omega);have hks:rb≠g/\rb<b:=⟨by have:=za HG;omega,by rw[<-hb0];exact hbi.lt⟩
       have c3:=(za HDk).keep.cell_of C3 hks.1;have hj0:(0:Int)<=(j:Int):=by omega
       have hjt:((j:Int)).toNat=j:=by omega
       have hjm':j<m0:=by omega
       clear hb0 hbi C3 hrb;refine wH (by kernel_rfl) ?_;change wpAny _ _ _ _ _ _ _ (World.drew _);obtain⟨PD,hPD⟩:∃PD:Nat->(Nat->Value)->World->Prop,PD=TwP wk g b n cap p2 j a ⟨b,1,none⟩ 9 10 11 12 13:=⟨_,rfl⟩
       have hst:∀k x x' w,(∀c∈([9,10,11,12,13,15]:List Nat),x' c=x c)->PD k x w->PD k x' w:=by subst hPD;exact(fun _ _ _ _=>TwP.ext' rfl)
       refine qS (fun l' a' w'=>∃x:Nat->Value,a'=⟨#[.pointer (some ⟨g,0,none⟩),.agg #[.slice (some ⟨gn,0,none⟩) n0 nc,.slice (some ⟨rb,0,none⟩) m0 rc],undef,.pointer (some ⟨w.heap.size,0,none⟩),.pointer (some ⟨w.heap.size+1,0,none⟩),.int .i64 (n0:Int),.pointer (some ⟨b,0,none⟩),.int .i64 (2*(n0:Int)),u8,u9,.int .i64 (j:Int),.pointer (some ⟨w.heap.size,0,none⟩),.slice (some ⟨gn,0,none⟩) n0 nc,.int .i64 (n0:Int),.agg #[.slice none 0 0,.slice none 0 0],.int .i64 (2*(n0:Int)),.int .i64 (n0:Int),.int .i64 (2*(n0:Int)),.bool false,u19,u20,u21,u22,u23,u24,u25,u26,u27,u28,u29,u30,u31,u32,u33,u34,u35,u36,u37,u38,u39,u40,u41,u42,u43,u44,u45,u46,u47,u48,u49,u50,u51,u52,u53,u54,u55,u56,u57,u58,u59,u60,u61,u62,u63,u64,u65,u66,u67,u68,u69,u70,u71,u72,u73,u74,u75,u76,u77,.int .i64 (j:Int),.pointer (some ⟨w.heap.size,1,none⟩),.slice (some ⟨rb,0,none⟩) m0 rc,.int .i64 (m0:Int),.bool true,u83,u84,x 0,x 1,x 2,x 3,x 4,x 5,x 6,x 7,x 8,x 9,x 10,x 11,x 12,x 13,x 14,undef],[]⟩/\Phs 15 [9,10,11,12,13,15] (vL [.pointer (some ⟨b,1,none⟩),.slice rva j rvc,.pointer (some ⟨w.heap.size,1,none⟩),.slice (some ⟨rb,0,none⟩) m0 rc,.int .i64 (j:Int),.pointer (some ⟨rb,j,none⟩),.int .i64 z0,.int .i64 (n0:Int),.pointer (some ⟨g,0,none⟩),undef,undef,undef,undef,undef,.pointer (some ⟨b,1,none⟩),undef]) PD l' x w') (fun _ _ _⟨_,_,h⟩=>by exact h.sz) ?hend ?hstep (fun _ _ _⟨_,_,h⟩=>vE (by kernel_rfl) (by exact h.sz)) _ _ _ _ ?h0 (UA rfl)
       case h0=>exact⟨fun j=>[u85,u86,u87,u88,u89,u90,u91,u92,u93,u94,u95,u96,u97,u98,u99,undef].getD j undef,rfl,Phs.start rfl (by subst hPD;exact rfl)⟩
       case hstep=>
        rintro l' a' w' j⟨x,rfl,h⟩ hi;have hjj:j<16:=jR hi;have hjl:=ye hi;rcases(by omega:j=0\/j=1\/j=2\/j=3\/j=4\/j=5\/j=6\/j=7\/j=8\/j=9\/j=10\/j=11\/j=12\/j=13\/j=14\/j=15)with rfl|rfl|rfl|rfl|rfl|rfl|rfl|rfl|rfl|rfl|rfl|rfl|rfl|rfl|rfl|rfl
        . refine uh rfl (fun K hK=>?_)
          go_simp;exact hK _ _ ⟨_,by simp[hjm'],h.nx hst 0 rfl rfl rfl⟩
        . have w0:=h.dv hi 0 rfl rfl rfl rfl
          obtain⟨k',hk',hp⟩:=h.before rfl (by omega) hjl;rw[hPD]at hp;have y0:=(hp.box2 hk' (za HDk).box hbg (by decide)).n1;simp only[w0];refine uh rfl (fun K hK=>?_);go_simp;exact hK _ _ ⟨_,by simp[w0,hjm'],h.nx hst 1 rfl rfl rfl⟩
        . refine uh rfl (fun K hK=>?_)
          go_simp;exact hK _ _ ⟨_,by simp[hjm'],h.nx hst 2 rfl rfl rfl⟩
        . have w2:=h.dv hi 2 rfl rfl rfl rfl
          obtain⟨k',hk',hp⟩:=h.before rfl (by omega) hjl;rw[hPD]at hp;have y0:=hp.cell hk' p1c hws.1 hws.2;simp only[w2];refine uh rfl (fun K hK=>?_);go_simp;exact hK _ _ ⟨_,by simp[w2,hjm'],h.nx hst 3 rfl rfl rfl⟩
        . refine uh rfl (fun K hK=>?_)
          go_simp;exact hK _ _ ⟨_,by simp[hjm'],h.nx hst 4 rfl rfl rfl⟩
        . have w3:=h.dv hi 3 rfl rfl rfl rfl
          have w4:=h.dv hi 4 rfl rfl rfl rfl;simp only[w3,w4];refine uh rfl (fun K hK=>?_);go_simp;exact hK _ _ ⟨_,by simp[w3,w4,hjm'],h.nx hst 5 rfl rfl rfl⟩
        . have w5:=h.dv hi 5 rfl rfl rfl rfl
          obtain⟨k',hk',hp⟩:=h.before rfl (by omega) hjl;rw[hPD]at hp;have y0:=hp.cell hk' c3 hks.1 hks.2;simp only[w5];refine uh rfl (fun K hK=>?_);go_simp;exact hK _ _ ⟨_,by simp[w5,hjm'],h.nx hst 6 rfl rfl rfl⟩
        . refine uh rfl (fun K hK=>?_)
          go_simp;exact hK _ _ ⟨_,by simp[hjm'],h.nx hst 7 rfl rfl rfl⟩
        . refine uh rfl (fun K hK=>?_)
          go_simp;exact hK _ _ ⟨_,by simp[hjm'],h.nx hst 8 rfl rfl rfl⟩
        . have w8:=h.dv hi 8 rfl rfl rfl rfl
          have hpv:0=0\/∃d,([9,10,11,12,13,15]:List Nat)[0-1]? =some d/\LL l' d:=.inl rfl;have hp:=h.at 0 rfl hpv hjl;rw[hPD]at hp;have hp:w'=wk.drew:=hp;subst hp;simp only[w8];refine uh rfl (fun K hK=>?_);go_simp
          go_at_call 27
          refine(qk g p2 n cap a 2 _ (by exact(za HRk).drew) (by omega) (by omega)).mono ?_;rintro e wy⟨⟨y,rfl,_⟩,⟨p5,hp5,hr5⟩,hk5⟩;have hk5:=(Keeps.refl g wk).drew.trans hk5
          (try dsimp only)
          exact hK _ _ ⟨_,by simp[w8,hjm'],h.step (by decide) 0 rfl (by omega) hpv hjl (fun e=>absurd e (by omega)) (.int .i64 (y:Int)) (by rw[hPD];exact⟨⟨_,rfl⟩,hk5,p5,by omega,hr5⟩)⟩
        . have w7:=h.dv hi 7 rfl rfl rfl rfl
          have hpv:1=0\/∃d,([9,10,11,12,13,15]:List Nat)[1-1]? =some d/\LL l' d:=.inr ⟨9,rfl,qB hi _ rfl⟩;have hp:=h.at 1 rfl hpv hjl;rw[hPD]at hp;obtain⟨⟨z1,e1⟩,hk5,hr5⟩:=hp;simp only[e1];simp only[w7];refine uh rfl (fun K hK=>?_);go_simp;exact hK _ _ ⟨_,by simp[w7,e1,hjm'],h.step (by decide) 1 rfl (by omega) hpv hjl (fun e=>absurd e (by omega)) (.int .i64 (IntKind.i64.wrap ((n0:Int)*z1))) (by rw[hPD];exact⟨⟨_,rfl⟩,hk5,hr5⟩)⟩
        . have w6:=h.dv hi 6 rfl rfl rfl rfl
          have hpv:2=0\/∃d,([9,10,11,12,13,15]:List Nat)[2-1]? =some d/\LL l' d:=.inr ⟨10,rfl,qB hi _ rfl⟩;have hp:=h.at 2 rfl hpv hjl;rw[hPD]at hp;obtain⟨⟨z1,e1⟩,hk5,hr5⟩:=hp;simp only[e1];simp only[w6];refine uh rfl (fun K hK=>?_);go_simp;exact hK _ _ ⟨_,by simp[w6,e1,hjm'],h.step (by decide) 2 rfl (by omega) hpv hjl (fun e=>absurd e (by omega)) (.int .i64 (IntKind.i64.wrap (z0+z1))) (by rw[hPD];exact⟨⟨_,rfl⟩,hk5,hr5⟩)⟩
        . have hpv:3=0\/∃d,([9,10,11,12,13,15]:List Nat)[3-1]? =some d/\LL l' d:=.inr ⟨11,rfl,qB hi _ rfl⟩
          have hp:=h.at 3 rfl hpv hjl;rw[hPD]at hp;obtain⟨⟨z1,e1⟩,hk5,p5,hp5,hr5⟩:=hp;simp only[e1];refine uh rfl (fun K hK=>?_);go_simp;exact hK _ _ ⟨_,by simp[e1,hjm'],h.step (by decide) 3 rfl (by omega) hpv hjl (fun e=>absurd e (by omega)) (.slice (some ⟨w'.heap.size,0,none⟩) 1 1) (by rw[hPD];exact⟨⟨z1,_,rfl,World.news_of_block (Un w' _) 0 _ rfl⟩,hk5.alloc _,p5,hp5,hr5.alloc _⟩)⟩
        . have w1:=h.dv hi 1 rfl rfl rfl rfl
          have hpv:4=0\/∃d,([9,10,11,12,13,15]:List Nat)[4-1]? =some d/\LL l' d:=.inr ⟨12,rfl,qB hi _ rfl⟩;have hp:=h.at 4 rfl hpv hjl;rw[hPD]at hp;obtain⟨⟨z1,r1,e1,hcr⟩,hk5,p5,hp5,hr5⟩:=hp;simp only[e1];simp only[w1];refine uh rfl (fun K hK=>?_);refine jr (by rfl) _ _ (by rfl) 1001 b (.slice rva j rvc) j r1 z1 (by rfl) (by rfl) ((za HDk).roots.ty (Ty.keeps (K:=1001) hk5 hgb)) hcr (by omega) (uC hbwk hk5.size) (some 98) (by rfl) ?_;intro g6 c6 w6 hs6 hg6;exact hK _ _ ⟨_,by simp[w1,e1,go_sem,hjm'],h.step (by decide) 4 rfl (by omega) hpv hjl (fun e=>absurd e (by omega)) (.slice (some ⟨g6,0,none⟩) (j+1) c6) (by rw[hPD];exact⟨g6,c6,w',rfl,hs6,hg6,hk5,p5,hp5,hr5⟩)⟩
        . refine uh rfl (fun K hK=>?_)
          go_simp;exact hK _ _ ⟨_,by simp[hjm'],h.nx hst 14 rfl rfl rfl⟩
        . have w14:=h.dv hi 14 rfl rfl rfl rfl
          have hpv:5=0\/∃d,([9,10,11,12,13,15]:List Nat)[5-1]? =some d/\LL l' d:=.inr ⟨13,rfl,qB hi _ rfl⟩;have hall:∀i,i<15->LL l' i:=fun i h7=>by
           rcases(by omega:i=0\/i=1\/i=2\/i=3\/i=4\/i=5\/i=6\/i=7\/i=8\/i=9\/i=10\/i=11\/i=12\/i=13\/i=14)with rfl|rfl|rfl|rfl|rfl|rfl|rfl|rfl|rfl|rfl|rfl|rfl|rfl|rfl|rfl
           all_goals exact qB hi _ rfl
          have hp:=h.at 5 rfl hpv hjl;rw[hPD]at hp;obtain⟨gg,cp,W4,e1,hs5,hg5,hk5,hr5⟩:=hp;have hbx:=((za HDk).box.keeps hk5 hbg).gr hg5 (by decide);have y1:=hbx.n1;have yf:=hbx.f;simp only[e1];simp only[w14];refine uh rfl (fun K hK=>?_);go_simp;exact hK _ _ ⟨_,by simp[w14,e1,hjm'],h.step (by decide) 5 rfl (by omega) hpv hjl (fun _=>hall) undef (by rw[hPD];exact⟨gg,cp,W4,w',rfl,hs5,hg5,hk5,hr5⟩)⟩
       case hend=>
        rintro l' a' w9⟨xc,rfl,h⟩ hall;have HP:=zb (h.done rfl hall);rw[hPD]at HP;clear h hall hst;obtain⟨gg,cp,W4,W5,hw,hs5,hg5,hk5,p5,hp5,hr5⟩:=za HP;subst hw;have HD9:=zb (((za HDk).keeps hk5).appI hg5 hs5);have HR9:=zb (hr5.from hgb (hg5.low.setCell (p:=⟨b,1,none⟩) (ud _) (.slice (some ⟨gg,0,none⟩) (j+1) cp)));clear p1c c3 hs5 hg5 hk5 hr5;go_wp2_with fail;go_roundw
        case rel=>exact⟨j+1,p5,_,by go_num,by omega,by omega,za HD9,za HR9⟩
        case measure=>simp[intOf];omega
     . obtain rfl:j=m0:=by omega
       have a0:=(za HDk).box.n0;have a1:=(za HDk).box.n1;have hA:=(za HA).keeps (za HDk).keep (by have:=za Hlt;omega);have b0:=hA.n0;have b1:=hA.n1;have bf:=hA.f;have hZ:=(hA.st0 (.slice na' (2*n0) nc')).st1 (.slice rva j rvc);have HZ:=zb (And.intro hZ.n0 hZ.n1);have HOUT:=zb (zb7 (B':=w.heap.size) hA (za HDk).nodes (za HDk).roots (dh hws.2) (by omega) (by omega) (by omega));have hD:Drawn w g p n cap a 400000 wk:=⟨⟨p2,by omega,za HRk⟩,(za HKW).trans (za HDk).keep⟩
       have HDR:=zb (hD.more (za Hlt) (((ue w.heap.size wk).setCell (p:=⟨w.heap.size+1,0,none⟩) (Uc _) (.slice na' (2*n0) nc')).setCell (p:=⟨w.heap.size+1,1,none⟩) (Uc _) (.slice rva j rvc)));clear hZ hD hA hb0;go_wp2_with fail;have hz:=za HZ;refine um (v:=.agg #[.slice na' (2*n0) nc',.slice rva j rvc]) (by simp[results,Tryz.results60,go_sem,hz]) rfl ⟨za HOUT,za HDR⟩
end Go.Proofs.YtpbnmhnbkfnaeaaGreatDoor
namespace Go.Proofs.YtpbnmhnbkfnaeaaGreatDoor
open Go.RowKit Nt
structure Dy(B:Nat)(nv rv:Value)(k m:Nat)(w:World):Prop where
 nodes:SN 1001 w B nv k
 roots:SI w B rv m
 num:1<=k/\k<=200/\m<=200
section
variable {B k m:Nat} {nv rv:Value} {w w':World}
theorem Dy.ty(h:Dy B nv rv k m w)(t:Ty 1001 B w w'):Dy B nv rv k m w':=⟨h.nodes.ty t,h.roots.ty t,h.num⟩
theorem Dy.keeps{g:Nat}(h:Dy B nv rv k m w)(t:Keeps g w w')(hg:g<B):Dy B nv rv k m w':=h.ty (Ty.keeps t hg)
theorem Dy.base{B':Nat}(h:Dy B nv rv k m w)(hB:B'<=B):Dy B' nv rv k m w:=⟨h.nodes.base hB,h.roots.base hB,h.num⟩
theorem Dy.out(h:Dy B nv rv k m w):DtOut B (.returned (.agg #[nv,rv])) w:=⟨nv,rv,k,m,rfl,h.num.1,h.num.2.1,h.num.2.2,h.nodes,h.roots⟩
theorem DtOut.dy{u:Value}(h:DtOut B (.returned u) w):∃na nc ra rc k m,u=.agg #[.slice na k nc,.slice ra m rc]/\Dy B (.slice na k nc) (.slice ra m rc) k m w:=by
 obtain⟨nv,rv,k,m,e,h1,h2,h3,h4,h5⟩:=h;obtain⟨na,nc,rfl,_,_⟩:=h4.form;obtain⟨ra,rc,rfl,_,_⟩:=h5.form;injection e with e;exact⟨na,nc,ra,rc,k,m,e,h4,h5,h1,h2,h3⟩
theorem Dy.data(h:Dy B nv rv k m w):∃d:Dt,DataAt w (.agg #[nv,rv]) d/\d.1.length=k/\d.2.length=m/\qr d.1:=by
 obtain⟨d,h1,h2,h3,h4⟩:=Qj h.nodes h.roots (by decide);exact⟨d,h1,h2,h3,fun nd hnd=>by have:=h4 nd hnd;omega⟩
theorem Dy.box{b i:Nat}{x y u:Value}(h:Dy B nv rv k m w)(hb:AtC2 w b x y 26):Dy B nv rv k m (w.setCell ⟨b,i,none⟩ u):=h.ty (Ty.box hb (by decide) (by decide) u)
theorem Dy.two{b:Nat}{x y u v:Value}(h:Dy B nv rv k m w)(hb:AtC2 w b x y 26):Dy B nv rv k m ((w.setCell ⟨b,0,none⟩ u).setCell ⟨b,1,none⟩ v):=(h.box hb).box (hb.st0 u)
end
theorem JR{B base A E k m k' m':Nat}{nu ru nv rv x y x' y':Value}{w W:World}(hA:AtC2 W A x y 26)(hE:AtC2 W E x' y' 26)(hne:A≠E)(hu:Dy B nu ru k m W)(hv:Dy B nv rv k' m' W)(hB:base<=B)(hb:Below base w W)(hbA:base<=A)(hbE:base<=E)(Z:World)(hZ:Z=(((W.setCell ⟨A,0,none⟩ nu).setCell ⟨A,1,none⟩ ru).setCell ⟨E,0,none⟩ nv).setCell ⟨E,1,none⟩ rv):
  (Z.cell? ⟨A,0,none⟩=some nu/\Z.cell? ⟨A,1,none⟩=some ru/\Z.cell? ⟨E,0,none⟩=some nv/\Z.cell? ⟨E,1,none⟩=some rv)/\(DtOut base (.returned (.agg #[nu,ru])) Z/\DtOut base (.returned (.agg #[nv,rv])) Z)/\Below base w Z:=by
 subst hZ;have a1:=(hA.st0 nu).st1 ru;have e1:AtC2 ((W.setCell ⟨A,0,none⟩ nu).setCell ⟨A,1,none⟩ ru) E x' y' 26:=(hE.far (a:=⟨A,0,none⟩) hne nu).far (a:=⟨A,1,none⟩) hne ru;have e2:=(e1.st0 nv).st1 rv;have a2:=(a1.far (a:=⟨E,0,none⟩) (U8 hne) nv).far (a:=⟨E,1,none⟩) (U8 hne) rv;exact⟨⟨a2.n0,a2.n1,e2.n0,e2.n1⟩,⟨(((hu.two hA).two e1).base hB).out,(((hv.two hA).two e1).base hB).out⟩,(((hb.setCell (p:=⟨A,0,none⟩) hbA nu).setCell (p:=⟨A,1,none⟩) hbA ru).setCell (p:=⟨E,0,none⟩) hbE nv).setCell (p:=⟨E,1,none⟩) hbE rv⟩
def PiP(wr:World)(g c:Nat)(A:Addr):Nat->(Nat->Value)->World->Prop
 |0,_,W=>W=wr.drew
 |1,x,W=>(∃y:Int,x c=.int .i64 y)/\Keeps g wr W
 |_,_,W=>∃(y:Int)(W5:World),W=W5.setCell A (.int .i64 y)/\Keeps g wr W5
theorem PiP.ext{wr W:World}{g c d:Nat}{A:Addr}{x x':Nat->Value}{k:Nat}(hx:∀e∈[c,d],x' e=x e)(h:PiP wr g c A k x W):PiP wr g c A k x' W:=by
 match k,h with
 |0,h=>exact h
 |1,h=>simpa only[PiP,hx c (by simp)]using h
 |k+2,h=>exact h
theorem PiP.keeps{wr W:World}{g c:Nat}{A:Addr}{x:Nat->Value}{k:Nat}(h:PiP wr g c A k x W)(hk:k<2):Keeps g wr W:=by
 match k,h,hk with
 |0,h,_=>subst h;exact(Keeps.refl g wr).drew
 |1,h,_=>exact h.2
theorem AtC2.farI{w:World}{b q c n j:Nat}{x y u:Value}(h:AtC2 w b x y 26)(hq:BI w q c n):AtC2 (w.setCell ⟨q,j,none⟩ u) b x y 26:=by
 refine h.far (a:=⟨q,j,none⟩) (fun e=>?_) u;obtain⟨cs,k1,_⟩:=hq;unfold AtC2 at h;simp only at e;rw[e,h]at k1;cases k1
theorem AtC2.farN{w:World}{K B b q c n j:Nat}{x y u:Value}(h:AtC2 w b x y 26)(hq:BN K w B q c n):AtC2 (w.setCell ⟨q,j,none⟩ u) b x y 26:=by
 refine h.far (a:=⟨q,j,none⟩) (fun e=>?_) u;obtain⟨cs,k1,_⟩:=hq;unfold AtC2 at h;simp only at e;rw[e,h]at k1;cases k1
section
variable {B q c n k:Nat} {w:World}
theorem Ty.put3(hq:BN 1001 w B q c n)(hB:B<=q)(x:Int)(t:ByteArray)(ht:t.size<=1001):Ty 1001 B w (((w.setCell ⟨q,k*3,none⟩ (.int .i64 x)).setCell ⟨q,k*3+1,none⟩ (.string t)).setCell ⟨q,k*3+2,none⟩ (.slice none 0 0)):=by
 have q0:qN 1001 w B ((k*3)%3) (.int .i64 x):=⟨fun _=>⟨x,rfl⟩,fun e=>by omega,fun e=>by omega⟩
 have t1:=Ty.setN (K:=1001) (base:=B) hq (i:=k*3) q0;have b1:=t1.bn _ _ _ hB hq;have t2:=Ty.setN (K:=1001) (base:=B) b1 (i:=k*3+1) (x:=.string t) ⟨fun e=>by omega,fun _=>⟨t,rfl,ht⟩,fun e=>by omega⟩;have b2:=t2.bn _ _ _ hB b1;exact(t1.trans t2).trans (Ty.setN b2 (i:=k*3+2) ⟨fun e=>by omega,fun e=>by omega,fun _=>⟨0,uD _,jq _ _⟩⟩)
theorem AtC2.farN3{b:Nat}{u v:Value}(h:AtC2 w b u v 26)(hq:BN 1001 w B q c n)(hB:B<=q)(x:Int)(t:ByteArray)(ht:t.size<=1001):AtC2 (((w.setCell ⟨q,k*3,none⟩ (.int .i64 x)).setCell ⟨q,k*3+1,none⟩ (.string t)).setCell ⟨q,k*3+2,none⟩ (.slice none 0 0)) b u v 26:=by
 have t1:=Ty.setN (K:=1001) (base:=B) hq (i:=k*3) (x:=.int .i64 x) ⟨fun _=>⟨x,rfl⟩,fun e=>by omega,fun e=>by omega⟩;have b1:=t1.bn _ _ _ hB hq;have t2:=Ty.setN (K:=1001) (base:=B) b1 (i:=k*3+1) (x:=.string t) ⟨fun e=>by omega,fun _=>⟨t,rfl,ht⟩,fun e=>by omega⟩;exact((h.farN hq).farN b1).farN (t2.bn _ _ _ hB b1)
end
theorem DtOut.drew{B:Nat}{e:Ending}{w:World}(h:DtOut B e w):DtOut B e w.drew:=by
 obtain⟨nv,rv,k,m,rfl,h1,h2,h3,h4,h5⟩:=h;exact⟨nv,rv,k,m,rfl,h1,h2,h3,h4.ty (Ty.below (ue _ _).drew),h5.ty (Ty.below (K:=1001) (ue _ _).drew)⟩
theorem yS{B base A E k m k' m':Nat}{nu ru nv rv x y x' y':Value}{w W:World}(hA:AtC2 W A x y 26)(hE:AtC2 W E x' y' 26)(hne:A≠E)(hu:Dy B nu ru k m W)(hv:Dy B nv rv k' m' W)(hB:base<=B)(hb:Below base w W)(hbA:base<=A)(hbE:base<=E)(Z:World)(hZ:Z=((((W.setCell ⟨A,0,none⟩ nu).setCell ⟨A,1,none⟩ ru).setCell ⟨E,0,none⟩ nv).setCell ⟨E,1,none⟩ rv).drew):
  (Z.cell? ⟨A,0,none⟩=some nu/\Z.cell? ⟨A,1,none⟩=some ru/\Z.cell? ⟨E,0,none⟩=some nv/\Z.cell? ⟨E,1,none⟩=some rv)/\(DtOut base (.returned (.agg #[nu,ru])) Z/\DtOut base (.returned (.agg #[nv,rv])) Z)/\Below base w Z:=by
 subst hZ;obtain⟨X,hX⟩:∃X,(((W.setCell ⟨A,0,none⟩ nu).setCell ⟨A,1,none⟩ ru).setCell ⟨E,0,none⟩ nv).setCell ⟨E,1,none⟩ rv=X:=⟨_,rfl⟩
 have h:=JR hA hE hne hu hv hB hb hbA hbE X hX.symm;rw[hX];exact⟨h.1,⟨h.2.1.1.drew,h.2.1.2.drew⟩,h.2.2.drew⟩
theorem JT(a:Option Addr)(n cap:Nat)(w:World)(h:Bytes0 w a n)(hcap:n<=cap)(hmax:cap<=maxLen):
  Calls Tryz.prog 29 #[.slice a n cap] w fun e w'=>(∃u v,e=.returned (.tuple #[u,v])/\DtOut w.heap.size (.returned u) w'/\DtOut w.heap.size (.returned v) w')/\Below w.heap.size w w':=by
 have hb00:=zf (zf (ue w.heap.size w) (.cells #[.slice none 0 0,.slice none 0 0] 26)) (.cells #[.slice none 0 0,.slice none 0 0] 26);have H:=zb (h.below hb00);have HA0:=zb ((AtC2.new w (.slice none 0 0) (.slice none 0 0) 26).alloc (.cells #[.slice none 0 0,.slice none 0 0] 26));have HE0:=zb (AtC2.new (w.alloc (.cells #[.slice none 0 0,.slice none 0 0] 26)) (.slice none 0 0) (.slice none 0 0) 26);rw[uk]at HE0;have HB0:=zb hb00;clear h hb00;go_enter Tryz.func29,Tryz.ntmps29;go_wp2_with fail;refine(Xw a n cap _ (za H) hcap hmax).mono ?_;rintro e W1⟨rfl,⟨m,hm,hr1⟩,hb1⟩;rw[uk,uk]at hr1 hb1⊢;have HR1:=zb hr1;have hgl:w.heap.size+1+1<W1.heap.size:=hr1.lt;have HA:=zb ((za HA0).below (by rw[uk,uk];exact hb1));have HE:=zb ((za HE0).below (by rw[uk,uk];exact hb1));have HB1:=zb ((za HB0).trans (hb1.mono (by omega)));obtain⟨g,hg⟩:∃g,w.heap.size+1+1=g:=⟨_,rfl⟩
 rw[hg]at HR1 hgl⊢;have HG:=zb hg;clear hr1 hb1 hg HA0 HE0 HB0 H;go_wp2_with fail;have h:=Vg g 0 m cap a W1 (za HR1) (by omega);refine h.mono ?_;clear h;rintro e w2⟨hout,⟨p2,hp2,hr2⟩,hk2⟩;obtain⟨_,_,_,_,rfl,_⟩:=id hout;obtain⟨na,nc,ra,rc,ka,ma,e,hdy⟩:=hout.dy;rw[e]at hout⊢;clear e hout;obtain⟨B,hB⟩:∃B,W1.heap.size=B:=⟨_,rfl⟩
 rw[hB]at hdy hgl;have hB2:B<=w2.heap.size:=by rw[<-hB];exact hk2.size
 have HBB:=zb hB;obtain⟨b5,hb5⟩:∃b,w2.heap.size=b:=⟨_,rfl⟩
 rw[hb5]at hB2;have HX5:=zb (AtC2.new w2 (.slice na ka nc) (.slice ra ma rc) 26);rw[hb5]at HX5;have HD2:=zb (hdy.ty (Ty.below (zf (ue w2.heap.size w2) (.cells #[.slice na ka nc,.slice ra ma rc] 26))));have HK2:=zb (hk2.alloc (.cells #[.slice na ka nc,.slice ra ma rc] 26));have HR2:=zb (hr2.alloc (.cells #[.slice na ka nc,.slice ra ma rc] 26));obtain⟨W2,hW2⟩:∃W,w2.alloc (.cells #[.slice na ka nc,.slice ra ma rc] 26)=W:=⟨_,rfl⟩
 rw[hW2]at HX5 HD2 HK2 HR2;have HW2:=zb (And.intro hW2 hb5);clear hdy hr2 hk2 hB hW2 hb5;go_wp2_with fail;obtain⟨hW2,hb5⟩:=za HW2;rw[hW2,hb5];clear hW2 hb5 HW2;obtain⟨d,hd,hd1,hd2,hds⟩:=(za HD2).data;have hnum:=(za HD2).num;have x0:=(za HX5).n0;have x1:=(za HX5).n1;go_wp2_with fail;refine(jX d _ W2 hd ⟨by omega,by omega,hds⟩).mono ?_;rintro e W3⟨rfl,hb3⟩;have HX3:=zb ((za HX5).below hb3);have HD3:=zb ((za HD2).ty (Ty.below hb3));have HK3:=zb ((za HK2).trans (Keeps.of_below hb3));have HR3:=zb ((za HR2).keep hb3);have hgw:w.heap.size<g:=by have:=za HG;omega
 have hgw1:w.heap.size+1<g:=by have:=za HG;omega
 have hBg:B<=b5:=hB2;clear hb3 hd x0 x1;rcases uN (vD d)with ho|ho
 . rw[ho]
   go_wp2_with fail;refine(qk g p2 m cap a 4 _ (za HR3) (by omega) (by omega)).mono ?_;rintro e W4⟨⟨z4,rfl,_⟩,⟨p4,hp4,hr4⟩,hk4⟩;have HR4:=zb hr4;have HK4:=zb ((za HK3).trans hk4);have HD4:=zb ((za HD3).keeps hk4 hgl);have HX4:=zb ((za HX3).keeps hk4 (by omega));clear hr4 hk4;by_cases hz4:(z4:Int)=0
   . have hz4':((z4:Int)==0)=true:=by rw[Um];exact hz4
     have x0:=(za HX4).n0;have x1:=(za HX4).n1;go_wp2_with fail
     go_region_law (first|(go_simp;go_at_call 59;refine(Vg g p4 m cap a W4.drew (by exact(za HR4).drew) (by omega)).mono ?_;rintro e w5⟨⟨nz,rz,kz,mz,rfl,hk91,hk92,hm9,hsn,hsi⟩,_,hk5⟩;obtain⟨nb,ncb,rfl,_,_⟩:=hsn.form;obtain⟨rb,rcb,rfl,_,_⟩:=hsi.form;have hk5:=(Keeps.refl g W4).drew.trans hk5;have HK5:=zb ((za HK4).trans hk5);have y0:=((za HX4).keeps hk5 (by omega)).n0;have y1:=((za HX4).keeps hk5 (by omega)).n1;have hA:=(za HA).keeps (za HK5) (by omega);have hE:=(za HE).keeps (za HK5) (by omega);have a0:=hA.n0;have a1:=hA.n1;have af:=hA.f;have e0:=hE.n0;have e1:=hE.n1;have ef:=hE.f;have hs4:B<=W4.heap.size:=(by rw[<-za HBB];exact(za HK4).size);have HO:=zb (JR hA hE (by omega) ((za HD4).keeps hk5 hgl) (Dy.base ⟨hsn,hsi,hk91,hk92,hm9⟩ hs4) (by omega:w.heap.size<=B) ((za HB1).trans ((za HK5).below (by omega) (by rw[za HBB];omega))) (ud _) (Uc _) _ rfl);clear hsn hsi hk5 hA hE hs4;(try dsimp only)))
     all_goals
      have HZ:=zb (za HO).1;have HP:=zb (za HO).2;clear HO;go_wp2_with fail;obtain⟨z0,z1,z2,z3⟩:=za HZ;refine um (v:=.tuple #[.agg #[.slice na ka nc,.slice ra ma rc],.agg #[.slice nb kz ncb,.slice rb mz rcb]]) (by simp[results,Tryz.results29,go_sem,z0,z1,z2,z3]) rfl ⟨⟨_,_,rfl,(za HP).1⟩,(za HP).2⟩
   . have hz4':((z4:Int)==0)=false:=by rw[ug];exact hz4
     have hok:=ho;have hka:ka<=80:=by
      unfold vD jG at hok;simp only[ux,ut]at hok;have:=hok.1.1.1;omega
     clear hok ho;have x0:=(za HX4).n0;have x1:=(za HX4).n1;go_wp2_with fail;have h:=zaQ g p4 m cap a _ _ ka ma B W4 (za HR4) (by omega) (za HD4).nodes (za HD4).roots hgl (by omega) hka (by omega);refine h.mono ?_;clear h;rintro e w5⟨⟨nz,rz,kz,mz,rfl,hk91,hk92,hm9,hsn,hsi⟩,⟨p5,hp5,hr5⟩,hk5⟩;obtain⟨nb,ncb,rfl,_,_⟩:=hsn.form;obtain⟨rb,rcb,rfl,_,_⟩:=hsi.form;have hs4:B<=W4.heap.size:=by rw[<-za HBB];exact(za HK4).size
     obtain⟨b6,hb6⟩:∃b,w5.heap.size=b:=⟨_,rfl⟩
     have hst:=zf (ue w5.heap.size w5) (.cells #[.slice nb kz ncb,.slice rb mz rcb] 26);have HX6:=zb (AtC2.new w5 (.slice nb kz ncb) (.slice rb mz rcb) 26);rw[hb6]at HX6;have HD6:=zb (((za HD4).keeps hk5 hgl).ty (Ty.below hst));have HX5':=zb (((za HX4).keeps hk5 (by omega)).below hst);have HE6:Hid (Dy B (.slice nb kz ncb) (.slice rb mz rcb) kz mz (w5.alloc (.cells #[.slice nb kz ncb,.slice rb mz rcb] 26))):=zb ((Dy.base ⟨hsn,hsi,hk91,hk92,hm9⟩ hs4).ty (Ty.below hst));have HK6:=zb (((za HK4).trans hk5).alloc (.cells #[.slice nb kz ncb,.slice rb mz rcb] 26));have HR6:=zb (hr5.alloc (.cells #[.slice nb kz ncb,.slice rb mz rcb] 26));have hB6:B<=b6:=by rw[<-hb6];exact uC hs4 hk5.size
     have hb56:b5<b6:=by rw[<-hb6];exact((za HX4).keeps hk5 (by omega)).lt
     obtain⟨W6,hW6⟩:∃W,w5.alloc (.cells #[.slice nb kz ncb,.slice rb mz rcb] 26)=W:=⟨_,rfl⟩
     rw[hW6]at HX6 HD6 HX5' HE6 HK6 HR6;have HW6:=zb (And.intro hW6 hb6);clear hsn hsi hr5 hk5 hW6 hb6 hst x0 x1;go_wp2_with fail;obtain⟨hW6,hb6⟩:=za HW6;rw[hW6,hb6];clear hW6 hb6 HW6;refine(qk g p5 m cap a 3 _ (za HR6) (by omega) (by omega)).mono ?_;rintro e W7⟨⟨z7,rfl,_⟩,⟨p7,hp7,hr7⟩,hk7⟩;have HR7:=zb hr7;have HK7:=zb ((za HK6).trans hk7);have HD7:=zb ((za HD6).keeps hk7 hgl);have HE7:=zb ((za HE6).keeps hk7 hgl);have HX7:=zb ((za HX5').keeps hk7 (by omega));have HY7:=zb ((za HX6).keeps hk7 (by omega));clear hr7 hk7 HD6 HE6 HX5' HX6 HK6 HR6;by_cases hz7:(z7:Int)=0
     . have hz7':((z7:Int)==0)=true:=by rw[Um];exact hz7
       have x0:=(za HY7).n0;go_wp2_with fail;refine(qk g p7 m cap a (kz:Int) _ (za HR7) (by omega) (by omega)).mono ?_;rintro e W8⟨⟨k,rfl,hk⟩,⟨p8,hp8,hr8⟩,hk8⟩;have hkz:k<kz:=by rcases hk with h|h<;>omega
       have HR8:=zb hr8;have HK8:=zb ((za HK7).trans hk8);have HD8:=zb ((za HD7).keeps hk8 hgl);have HE8:=zb ((za HE7).keeps hk8 hgl);have HX8:=zb ((za HX7).keeps hk8 (by omega));have HY8:=zb ((za HY7).keeps hk8 (by omega));clear hr8 hk8 x0 hk;obtain⟨gn,e,hgn,hbn,hfz,xk,sk,kka,kkc,kkl,c0,c1,c2,hsk,hkkl,hkk⟩:=(za HE8).nodes.node hkz;subst e;have HBN:=zb hbn;have HKK:=zb hkk;have hkz':(k:Int)<(kz:Int):=by omega
       have hk0:(0:Int)<=(k:Int):=by omega
       have hkt:((k:Int)).toNat=k:=by omega
       have x0:=(za HY8).n0;clear hbn hkk;by_cases hkp:0<kkl
       . have hkp':(0:Int)<(kkl:Int):=by omega
         go_wp2_with fail;obtain⟨kb,rfl,hkb,hbi,hkc⟩:∃kb,kka=some ⟨kb,0,none⟩/\B<=kb/\BI W8 kb kkc kkl/\kkl<=kkc:=by
          rcases za HKK with⟨e,e0⟩|⟨kb,c',e,e1,e2,_,e4⟩
          . omega
          . cases e;exact⟨kb,rfl,e1,e4,e2⟩
         have HBI:=zb hbi;have hb6g:b6≠g:=by omega
         have hgng:gn≠g:=by omega
         have hk00:(0:Int)<(kkl:Int):=hkp';clear hbi;refine wH (by kernel_rfl) ?_;change wpAny _ _ _ _ _ _ _ (World.drew _);obtain⟨PD,hPD⟩:∃PD:Nat->(Nat->Value)->World->Prop,PD=PiP W8 g 10 ⟨kb,0,none⟩:=⟨_,rfl⟩
         have hst:∀k x x' w,(∀c∈([10,12]:List Nat),x' c=x c)->PD k x w->PD k x' w:=by subst hPD;exact(fun _ _ _ _=>PiP.ext)
         refine qS (fun l' a' w'=>∃x:Nat->Value,a'=⟨#[.slice a n cap,undef,.pointer (some ⟨w.heap.size,0,none⟩),.pointer (some ⟨w.heap.size+1,0,none⟩),.pointer (some ⟨g,0,none⟩),.pointer (some ⟨b5,0,none⟩),.pointer (some ⟨b6,0,none⟩),.int .i64 (k:Int),.slice a n cap,.pointer (some ⟨g,0,none⟩),.pointer (some ⟨g,0,none⟩),.agg #[.slice na ka nc,.slice ra ma rc],.agg #[.slice na ka nc,.slice ra ma rc],.bool true,.bool false,.bool false,.pointer (some ⟨g,0,none⟩),.int .i64 (z4:Int),.bool false,.bool false,undef,undef,undef,.pointer (some ⟨g,0,none⟩),.agg #[.slice na ka nc,.slice ra ma rc],.agg #[.slice (some ⟨gn,0,none⟩) kz ncb,.slice rb mz rcb],.pointer (some ⟨g,0,none⟩),.int .i64 0,.bool true,.pointer (some ⟨g,0,none⟩),.pointer (some ⟨b6,0,none⟩),.slice (some ⟨gn,0,none⟩) kz ncb,.int .i64 (kz:Int),.int .i64 (k:Int),.pointer (some ⟨b6,0,none⟩),.slice (some ⟨gn,0,none⟩) kz ncb,.int .i64 (k:Int),.pointer (some ⟨gn,k*3,none⟩),.pointer (some ⟨gn,k*3+2,none⟩),.slice (some ⟨kb,0,none⟩) kkl kkc,.int .i64 (kkl:Int),.bool true,x 0,x 1,x 2,x 3,x 4,x 5,x 6,x 7,x 8,x 9,x 10,x 11,undef,undef,undef,undef,undef,undef,undef],[]⟩/\Phs 12 [10,12] (vL [.pointer (some ⟨b6,0,none⟩),.slice (some ⟨gn,0,none⟩) kz ncb,.int .i64 (k:Int),.pointer (some ⟨gn,k*3,none⟩),.pointer (some ⟨gn,k*3+2,none⟩),.slice (some ⟨kb,0,none⟩) kkl kkc,.pointer (some ⟨g,0,none⟩),.pointer (some ⟨b6,0,none⟩),.slice (some ⟨gn,0,none⟩) kz ncb,.int .i64 (kz:Int),undef,.pointer (some ⟨kb,0,none⟩),undef]) PD l' x w') (fun _ _ _⟨_,_,h⟩=>by exact h.sz) ?hend ?hstep (fun _ _ _⟨_,_,h⟩=>vE (by kernel_rfl) (by exact h.sz)) _ _ _ _ ?h0 (UA rfl)
         case h0=>exact⟨fun j=>[undef,undef,undef,undef,undef,undef,undef,undef,undef,undef,undef,undef,undef].getD j undef,rfl,Phs.start rfl (by subst hPD;exact rfl)⟩
         case hstep=>
          rintro l' a' w' j⟨x,rfl,h⟩ hi;have hjj:j<13:=jR hi;have hjl:=ye hi;rcases(by omega:j=0\/j=1\/j=2\/j=3\/j=4\/j=5\/j=6\/j=7\/j=8\/j=9\/j=10\/j=11\/j=12)with rfl|rfl|rfl|rfl|rfl|rfl|rfl|rfl|rfl|rfl|rfl|rfl|rfl
          . refine uh rfl (fun K hK=>?_)
            go_simp;exact hK _ _ ⟨_,by simp[],h.nx hst 0 rfl rfl rfl⟩
          . have w0:=h.dv hi 0 rfl rfl rfl rfl
            obtain⟨k',hk',hp⟩:=h.before rfl (by omega) hjl;rw[hPD]at hp;have y0:=(hp.keeps hk').cell_of x0 hb6g;simp only[w0];refine uh rfl (fun K hK=>?_);go_simp;exact hK _ _ ⟨_,by simp[w0],h.nx hst 1 rfl rfl rfl⟩
          . refine uh rfl (fun K hK=>?_)
            go_simp;exact hK _ _ ⟨_,by simp[],h.nx hst 2 rfl rfl rfl⟩
          . have w1:=h.dv hi 1 rfl rfl rfl rfl
            have w2:=h.dv hi 2 rfl rfl rfl rfl;simp only[w1,w2];refine uh rfl (fun K hK=>?_);go_simp;exact hK _ _ ⟨_,by simp[w1,w2],h.nx hst 3 rfl rfl rfl⟩
          . have w3:=h.dv hi 3 rfl rfl rfl rfl
            simp only[w3];refine uh rfl (fun K hK=>?_);go_simp;exact hK _ _ ⟨_,by simp[w3],h.nx hst 4 rfl rfl rfl⟩
          . have w4:=h.dv hi 4 rfl rfl rfl rfl
            obtain⟨k',hk',hp⟩:=h.before rfl (by omega) hjl;rw[hPD]at hp;have y0:=(hp.keeps hk').cell_of c2 hgng;simp only[w4];refine uh rfl (fun K hK=>?_);go_simp;exact hK _ _ ⟨_,by simp[w4],h.nx hst 5 rfl rfl rfl⟩
          . refine uh rfl (fun K hK=>?_)
            go_simp;exact hK _ _ ⟨_,by simp[],h.nx hst 6 rfl rfl rfl⟩
          . refine uh rfl (fun K hK=>?_)
            go_simp;exact hK _ _ ⟨_,by simp[],h.nx hst 7 rfl rfl rfl⟩
          . have w7:=h.dv hi 7 rfl rfl rfl rfl
            obtain⟨k',hk',hp⟩:=h.before rfl (by omega) hjl;rw[hPD]at hp;have y0:=(hp.keeps hk').cell_of x0 hb6g;simp only[w7];refine uh rfl (fun K hK=>?_);go_simp;exact hK _ _ ⟨_,by simp[w7],h.nx hst 8 rfl rfl rfl⟩
          . have w8:=h.dv hi 8 rfl rfl rfl rfl
            simp only[w8];refine uh rfl (fun K hK=>?_);go_simp;exact hK _ _ ⟨_,by simp[w8],h.nx hst 9 rfl rfl rfl⟩
          . have w6:=h.dv hi 6 rfl rfl rfl rfl
            have w9:=h.dv hi 9 rfl rfl rfl rfl;have hpv:0=0\/∃d,([10,12]:List Nat)[0-1]? =some d/\LL l' d:=.inl rfl;have hp:=h.at 0 rfl hpv hjl;rw[hPD]at hp;have hp:w'=W8.drew:=hp;subst hp;simp only[w6,w9];refine uh rfl (fun K hK=>?_);go_simp
            go_at_call 27
            refine(qk g p8 m cap a (kz:Int) _ (by exact(za HR8).drew) (by omega) (by omega)).mono ?_;rintro e wy⟨⟨y,rfl,_⟩,_,hk5⟩;have hk5:=(Keeps.refl g W8).drew.trans hk5
            (try dsimp only)
            exact hK _ _ ⟨_,by simp[w6,w9],h.step (by decide) 0 rfl (by omega) hpv hjl (fun e=>absurd e (by omega)) (.int .i64 (y:Int)) (by rw[hPD];exact⟨⟨_,rfl⟩,hk5⟩)⟩
          . have w5:=h.dv hi 5 rfl rfl rfl rfl
            simp only[w5];refine uh rfl (fun K hK=>?_);go_simp;exact hK _ _ ⟨_,by simp[w5],h.nx hst 11 rfl rfl rfl⟩
          . have w11:=h.dv hi 11 rfl rfl rfl rfl
            have hpv:1=0\/∃d,([10,12]:List Nat)[1-1]? =some d/\LL l' d:=.inr ⟨10,rfl,qB hi _ rfl⟩;have hall:∀i,i<12->LL l' i:=fun i h7=>by
             rcases(by omega:i=0\/i=1\/i=2\/i=3\/i=4\/i=5\/i=6\/i=7\/i=8\/i=9\/i=10\/i=11)with rfl|rfl|rfl|rfl|rfl|rfl|rfl|rfl|rfl|rfl|rfl|rfl
             all_goals exact qB hi _ rfl
            have hp:=h.at 1 rfl hpv hjl;rw[hPD]at hp;obtain⟨⟨y,e1⟩,hk5⟩:=hp;have hbi:=(Ty.keeps (K:=1001) hk5 hgl).bi _ _ _ hkb (za HBI);obtain⟨u5,y2,_⟩:=hbi.cell hkc (j:=0) (by omega);have yf:=hbi.frozen 0;simp only[e1];simp only[w11];refine uh rfl (fun K hK=>?_);go_simp;exact hK _ _ ⟨_,by simp[w11,e1],h.step (by decide) 1 rfl (by omega) hpv hjl (fun _=>hall) undef (by rw[hPD];exact⟨y,w',rfl,hk5⟩)⟩
         case hend=>
          rintro l' a' w9⟨xc,rfl,h⟩ hall;have HP:=zb (h.done rfl hall);rw[hPD]at HP;clear h hall hst;obtain⟨y,W5,hw,hk5⟩:=za HP;subst hw;have hbi:=(Ty.keeps (K:=1001) hk5 hgl).bi _ _ _ hkb (za HBI);have HT:Hid (Ty 1001 B W5 (W5.setCell ⟨kb,0,none⟩ (.int .i64 y))):=zb (Ty.setI hbi);have HDZ:=zb (((za HD8).keeps hk5 hgl).ty (za HT));have HEZ:=zb (((za HE8).keeps hk5 hgl).ty (za HT));have HXZ:=zb (((za HX8).keeps hk5 (by omega)).farI hbi (j:=0) (u:=.int .i64 y));have HYZ:=zb (((za HY8).keeps hk5 (by omega)).farI hbi (j:=0) (u:=.int .i64 y));have HKZ:=zb (((za HK8).trans hk5).more ((ue W1.heap.size W5).setCell (p:=⟨kb,0,none⟩) (by rw[za HBB];exact hkb) (.int .i64 y)));clear x0 c0 c1 c2 hk5 hbi;go_wp2_with fail;have x0:=(za HXZ).n0;have x1:=(za HXZ).n1;have y0:=(za HYZ).n0;have y1:=(za HYZ).n1;have hA:=(za HA).keeps (za HKZ) (by omega);have hE:=(za HE).keeps (za HKZ) (by omega);have a0:=hA.n0;have a1:=hA.n1;have af:=hA.f;have e0:=hE.n0;have e1:=hE.n1;have ef:=hE.f;have HO:=zb (yS hA hE (by omega) (za HDZ) (za HEZ) (by omega:w.heap.size<=B) ((za HB1).trans ((za HKZ).below (by omega) (by rw[za HBB];omega))) (ud _) (Uc _) _ rfl);clear hA hE
          go_region
          all_goals
           have HZ:=zb (za HO).1;have HP:=zb (za HO).2;clear HO;go_wp2_with fail;obtain⟨z0,z1,z2,z3⟩:=za HZ;refine um (v:=.tuple #[.agg #[.slice na ka nc,.slice ra ma rc],.agg #[.slice (some ⟨gn,0,none⟩) kz ncb,.slice rb mz rcb]]) (by simp[results,Tryz.results29,go_sem,z0,z1,z2,z3]) rfl ⟨⟨_,_,rfl,(za HP).1⟩,(za HP).2⟩
       . obtain rfl:kkl=0:=by omega
         have HT:Hid (Ty 1001 B W8 (((W8.setCell ⟨gn,k*3,none⟩ (.int .i64 5)).setCell ⟨gn,k*3+1,none⟩ (.string ⟨#[116]⟩)).setCell ⟨gn,k*3+2,none⟩ (.slice none 0 0))):=zb (Ty.put3 (za HBN) hgn 5 ⟨#[116]⟩ (by decide));have HDZ:=zb ((za HD8).ty (za HT));have HEZ:=zb ((za HE8).ty (za HT));have HXZ:=zb ((za HX8).farN3 (za HBN) hgn 5 ⟨#[116]⟩ (by decide) (k:=k));have HYZ:=zb ((za HY8).farN3 (za HBN) hgn 5 ⟨#[116]⟩ (by decide) (k:=k));have HKZ:=zb ((za HK8).more ((((ue W1.heap.size W8).setCell (p:=⟨gn,k*3,none⟩) (by rw[za HBB];exact hgn) (.int .i64 5)).setCell (p:=⟨gn,k*3+1,none⟩) (by rw[za HBB];exact hgn) (.string ⟨#[116]⟩)).setCell (p:=⟨gn,k*3+2,none⟩) (by rw[za HBB];exact hgn) (.slice none 0 0)));go_wp2_with fail;clear x0 c0 c1 c2 hfz;have x0:=(za HXZ).n0;have x1:=(za HXZ).n1;have y0:=(za HYZ).n0;have y1:=(za HYZ).n1;have hA:=(za HA).keeps (za HKZ) (by omega);have hE:=(za HE).keeps (za HKZ) (by omega);have a0:=hA.n0;have a1:=hA.n1;have af:=hA.f;have e0:=hE.n0;have e1:=hE.n1;have ef:=hE.f;have HO:=zb (yS hA hE (by omega) (za HDZ) (za HEZ) (by omega:w.heap.size<=B) ((za HB1).trans ((za HKZ).below (by omega) (by rw[za HBB];omega))) (ud _) (Uc _) _ rfl);clear hA hE
         go_region
         all_goals
          have HZ:=zb (za HO).1;have HP:=zb (za HO).2;clear HO;go_wp2_with fail;obtain⟨z0,z1,z2,z3⟩:=za HZ;refine um (v:=.tuple #[.agg #[.slice na ka nc,.slice ra ma rc],.agg #[.slice (some ⟨gn,0,none⟩) kz ncb,.slice rb mz rcb]]) (by simp[results,Tryz.results29,go_sem,z0,z1,z2,z3]) rfl ⟨⟨_,_,rfl,(za HP).1⟩,(za HP).2⟩
     . have hz7':((z7:Int)==0)=false:=by rw[ug];exact hz7
       have HDZ:=HD7;have HEZ:=HE7;have HXZ:=HX7;have HYZ:=HY7;have HKZ:=HK7;go_wp2_with fail;have x0:=(za HXZ).n0;have x1:=(za HXZ).n1;have y0:=(za HYZ).n0;have y1:=(za HYZ).n1;have hA:=(za HA).keeps (za HKZ) (by omega);have hE:=(za HE).keeps (za HKZ) (by omega);have a0:=hA.n0;have a1:=hA.n1;have af:=hA.f;have e0:=hE.n0;have e1:=hE.n1;have ef:=hE.f;have HO:=zb (yS hA hE (by omega) (za HDZ) (za HEZ) (by omega:w.heap.size<=B) ((za HB1).trans ((za HKZ).below (by omega) (by rw[za HBB];omega))) (ud _) (Uc _) _ rfl);clear hA hE
       go_region
       all_goals
        have HZ:=zb (za HO).1;have HP:=zb (za HO).2;clear HO;go_wp2_with fail;obtain⟨z0,z1,z2,z3⟩:=za HZ;refine um (v:=.tuple #[.agg #[.slice na ka nc,.slice ra ma rc],.agg #[.slice nb kz ncb,.slice rb mz rcb]]) (by simp[results,Tryz.results29,go_sem,z0,z1,z2,z3]) rfl ⟨⟨_,_,rfl,(za HP).1⟩,(za HP).2⟩
 . rw[ho]
   have HR4:=HR3;have HK4:=HK3;have HD4:=HD3;have HX4:=HX3;have x0:=(za HX4).n0;have x1:=(za HX4).n1;go_wp2_with fail
   go_region_law (first|(go_simp;go_at_call 59;refine(Vg g p2 m cap a W3.drew (by exact(za HR4).drew) (by omega)).mono ?_;rintro e w5⟨⟨nz,rz,kz,mz,rfl,hk91,hk92,hm9,hsn,hsi⟩,_,hk5⟩;obtain⟨nb,ncb,rfl,_,_⟩:=hsn.form;obtain⟨rb,rcb,rfl,_,_⟩:=hsi.form;have hk5:=(Keeps.refl g W3).drew.trans hk5;have HK5:=zb ((za HK4).trans hk5);have y0:=((za HX4).keeps hk5 (by omega)).n0;have y1:=((za HX4).keeps hk5 (by omega)).n1;have hA:=(za HA).keeps (za HK5) (by omega);have hE:=(za HE).keeps (za HK5) (by omega);have a0:=hA.n0;have a1:=hA.n1;have af:=hA.f;have e0:=hE.n0;have e1:=hE.n1;have ef:=hE.f;have hs4:B<=W3.heap.size:=(by rw[<-za HBB];exact(za HK4).size);have HO:=zb (JR hA hE (by omega) ((za HD4).keeps hk5 hgl) (Dy.base ⟨hsn,hsi,hk91,hk92,hm9⟩ hs4) (by omega:w.heap.size<=B) ((za HB1).trans ((za HK5).below (by omega) (by rw[za HBB];omega))) (ud _) (Uc _) _ rfl);clear hsn hsi hk5 hA hE hs4;(try dsimp only)))
   all_goals
    have HZ:=zb (za HO).1;have HP:=zb (za HO).2;clear HO;go_wp2_with fail;obtain⟨z0,z1,z2,z3⟩:=za HZ;refine um (v:=.tuple #[.agg #[.slice na ka nc,.slice ra ma rc],.agg #[.slice nb kz ncb,.slice rb mz rcb]]) (by simp[results,Tryz.results29,go_sem,z0,z1,z2,z3]) rfl ⟨⟨_,_,rfl,(za HP).1⟩,(za HP).2⟩
end Go.Proofs.YtpbnmhnbkfnaeaaGreatDoor
