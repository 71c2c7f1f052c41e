/- A part of the proof, put together out of smaller texts. -/
import Derived.Test.YtpbnmhnbkfnaeaaGreatDoorM0
import Derived.Test.YtpbnmhnbkfnaeaaGreatDoorM1
import Derived.Deep.QuietTactic
import Derived.BigQuiet
import Derived.Laws.CopyOwn
import Derived.BigRegion
import Derived.Deep.RegionWith
import Derived.Deep.RegionHeld3
import Derived.Handy
set_option linter.all false
set_option maxRecDepth 100000
set_option maxHeartbeats 32000000
namespace Go.Proofs.YtpbnmhnbkfnaeaaGreatDoor
open Go.RowKit Nt
theorem Tryz.infoU64:(Tryz.prog.info? 173).map (fun i=>(i.zero,i.size,i.bytes))=some (some (.int .u64 0),1,8):=by kernel_rfl
theorem zdG(xs:List Nat)(base:Nat)(v:Value)(w:World)(hs:xs.length<=1000000000)(h:w.ownsRow base 173 1 v xs.length (zO xs)):
  Calls Tryz.prog 205 #[v] w fun e w'=>(∃v',e=.returned v'/\w.ownsRow base 173 1 v' (qQ xs).length (zO (qQ xs))/\v'.ownBlock=v.ownBlock)/\w'=w:=by
 rcases vY h with⟨rfl,hn,hx⟩|⟨g,cap,rfl,hnc,hbg,hgw⟩
 . have:xs=[]:=ur hn
   subst this;have H:=zb h;clear h hn hx hs;go_enter Tryz.func205,Tryz.ntmps205;go_wp2;refine wp_loop_rounds 1 ?_;rw[W9];go_wp2;go_ret;exact⟨⟨_,rfl,za H,rfl⟩,rfl⟩
 . go_enter Tryz.func205,Tryz.ntmps205
   go_wp2
   go_loop [0] (fun v'=>∃ys:List Nat,v'=.slice (some ⟨g,0,none⟩) ys.length cap/\ys.length<=xs.length/\w.ownsRow base 173 1 (.slice (some ⟨g,0,none⟩) ys.length cap) ys.length (zO ys)/\Hid (qQ ys=qQ xs))
    (fun v'=>match v' with| .slice _ n _=>n|_=>0)
   case atStart=>exact⟨xs,rfl,ud _,h,zb rfl⟩
   case round=>
    obtain⟨ys,rfl,hyl,hown,hst⟩:=hrel;by_cases hy0:0<ys.length
    . have hc:=hown.cellAt (ys.length-1) (by omega)
      rw[zz _ _ (by omega)]at hc;have hsp:ys=ys.take (ys.length-1)++[ys[ys.length-1]'(by omega)]:=by
       rw[<-uQ (by omega),show ys.length-1+1=ys.length from by omega,Uh]
      have htk:=Vy hown (ys.length-1) (by omega);generalize hd:ys[ys.length-1]'(by omega)=d at *;by_cases hd0:d=0
      . have hst2:qQ (ys.take (ys.length-1))=qQ xs:=by
         rw[<-za hst]
         conv=>rhs;rw[hsp,hd0]
         rw[xM]
        have hq:((d:Int)==0)=true:=by rw[Um];omega
        have e1:zO (ys.take (ys.length-1))=(zO ys).take (ys.length-1):=by simp[zO,List.map_take]
        rw[<-e1]at htk;have hl1:(ys.take (ys.length-1)).length=ys.length-1:=by simp
        generalize ys.take (ys.length-1)=zs at *;have hzl:zs.length+1=ys.length:=by omega
        have Htk:=zb htk;have Hst2:=zb hst2;clear hst2 htk hsp hd0 e1 hd;go_wp2;go_round
        case rel=>exact⟨zs,by rw[hl1],by omega,by rw[hl1];exact za Htk,Hst2⟩
        case measure=>show ys.length-1<ys.length;omega
      . have hq:((d:Int)==0)=false:=by rw[ug];omega
        have hfin:qQ xs=ys:=by rw[<-za hst,hsp,ki _ _ hd0]
        have Hfin:=zb hfin;clear hfin hsp htk hd0 hd;go_wp2;go_ret;refine⟨⟨_,rfl,?_,rfl⟩,rfl⟩;rw[za Hfin];exact hown
    . have:ys=[]:=ur (by omega)
      subst this;have H:=zb hown;go_wp2;go_ret;refine⟨⟨_,rfl,?_,rfl⟩,rfl⟩;rw[<-za hst];exact za H
def gr(x:Nat):List Nat:=dg 1000000000 x
theorem jM(x:Nat):zG 1000000000 (gr x)=x:=Zf (by omega) x
theorem yw(x:Nat):∀d∈gr x,d<1000000000:=Ym (by omega) x
theorem vr:gr 0=[]:=jH _
theorem QQ{x:Nat}:gr x=[]↔x=0:=Zx (by omega)
theorem Xi{l:List Nat}(h:∀d∈l,d<1000000000):qQ l=gr (zG 1000000000 l):=Jr (by omega) h
theorem jW{x y:Nat}(h:x<=y):(gr x).length<=(gr y).length:=
 yO (by omega) (wQ h (vV (by omega) y))
def zy(w:World)(v:Value)(x:Nat):Prop:=w.ownsRow 0 173 1 v (gr x).length (zO (gr x))
def isNatB(w:World)(base:Nat)(v:Value)(x:Nat):Prop:=w.ownsRow base 173 1 v (gr x).length (zO (gr x))
theorem isNatB.nat{w:World}{base:Nat}{v:Value}{x:Nat}(h:isNatB w base v x):zy w v x:=zV h (uD _)
theorem zt{w w':World}{v:Value}{x:Nat}(h:zy w v x)(hb:Below w.heap.size w w'):zy w' v x:=zu h hb
theorem jY(xs:List Nat)(base:Nat)(v:Value)(w:World)(hs:xs.length<=1000000000)(hd:∀d∈xs,d<1000000000)(h:w.ownsRow base 173 1 v xs.length (zO xs)):
  Calls Tryz.prog 205 #[v] w fun e w'=>(∃v',e=.returned v'/\isNatB w base v' (zG 1000000000 xs))/\w'=w:=by
 refine(zdG xs base v w hs h).mono ?_;rintro e w'⟨⟨v',rfl,h1,_⟩,rfl⟩;refine⟨⟨v',rfl,?_⟩,rfl⟩;unfold isNatB;rw[<-Xi hd];exact h1
theorem zbU(x:Nat)(v:Value)(w:World)(h:zy w v x)(hs:(gr x).length<=1000000000):
  Calls Tryz.prog 187 #[v] w fun e w'=>e=.returned (.bool (decide (x=1)))/\w'=w:=by
 have g1:gr 1=[1]:=by unfold gr;rw[yF (by omega) (by omega)];simp[jH]
 have hx1:x=1↔gr x=[1]:=by
  constructor
  . intro hh;rw[hh,g1]
  . intro hh;rw[<-jM x,hh];simp[zG]
 unfold zy at h;generalize gr x=xs at *;rcases vY h with⟨rfl,hn,hx⟩|⟨g,cap,rfl,hnc,hbg,hgw⟩
 . have hf:decide (x=1)=false:=by
    rw[wn,hx1];intro hh;rw[hh]at hn;simp at hn
   rw[hf];clear h hn hx hs hx1 hf g1;go_enter Tryz.func187,Tryz.ntmps187;go_wp2;go_ret;exact⟨rfl,rfl⟩
 . by_cases hl:xs.length=1
   . have hc:=h.cellAt 0 (by omega)
     rw[zz _ _ (by omega)]at hc;have hxs:xs=[xs[0]'(by omega)]:=by
      match xs,hl with
      | [a],_=>rfl
     generalize xs[0]'(by omega)=a at *;have hlI:((xs.length:Int)==1)=true:=by rw[Um];omega
     have hf:decide (x=1)=((a:Int)==1):=by
      rw[UW,decide_eq_true_iff,hx1,hxs,Um];simp;omega
     rw[hf];have h0:0<xs.length:=by omega
     clear hf hxs hx1 h hl g1;go_enter Tryz.func187,Tryz.ntmps187;go_wp2;go_ret;exact⟨rfl,rfl⟩
   . have hlI:((xs.length:Int)==1)=false:=by rw[ug];omega
     have hf:decide (x=1)=false:=by
      rw[wn,hx1];intro hh;rw[hh]at hl;simp at hl
     rw[hf];clear hf hx1 hl g1;go_enter Tryz.func187,Tryz.ntmps187;go_wp2;go_ret;exact⟨rfl,rfl⟩
theorem Q2(b:Nat)(l:List Nat)(i:Nat)(h:i<l.length):zG b l=zG b (l.take i)+b^i*(l[i]+b*zG b (l.drop (i+1))):=by
 have e:l=l.take i++(l[i]::l.drop (i+1)):=by rw[<-Uk h,WV]
 conv=>lhs;rw[e]
 rw[vX];simp only[zG,uH];rw[Uq (by omega)]
theorem zbY{l m:List Nat}{b i:Nat}(hl:i<l.length)(hm:i<m.length)(hlen:l.length=m.length)(hb:∀d∈l,d<b)(hup:∀t(h1:t<l.length)(h2:t<m.length),i<t->l[t]=m[t])(hlt:l[i]<m[i]):
  zG b l<zG b m:=by
 have hdr:l.drop (i+1)=m.drop (i+1):=by
  apply wD
  . simp[hlen]
  . intro t h1 h2
    simp only[List.getElem_drop];exact hup _ _ _ (by omega)
 rw[Q2 b l i hl,Q2 b m i hm,hdr];have h1:=Zg (b:=b) (l.take i) (fun d hd=>hb d (UV hd));rw[uH,Uq (by omega)]at h1;generalize zG b (m.drop (i+1))=D;have h2:b^i*(l[i]+b*D+1)<=b^i*(m[i]+b*D):=UP _ (by omega);rw[uS]at h2;omega
theorem Kj(x y:Nat)(v u:Value)(w:World)(hx:zy w v x)(hy:zy w u y)(hsx:(gr x).length<=1000000)(_hsy:(gr y).length<=1000000):
  Calls Tryz.prog 202 #[v,u] w fun e w'=>e=.returned (.bool (decide (x<y)))/\Below w.heap.size w w':=by
 by_cases hlen:(gr x).length=(gr y).length
 . by_cases h0:(gr x).length=0
   . have hx0:x=0:=QQ.1 (ur h0)
     have hy0:y=0:=QQ.1 (ur (by omega));obtain⟨p1,c1,rfl⟩:=zq hx;obtain⟨p2,c2,rfl⟩:=zq hy;rw[show decide (x<y)=false from by rw[hx0,hy0];rfl,<-hlen,h0];clear hx hy hlen h0 hsx hx0 hy0;go_enter Tryz.func202,Tryz.ntmps202;go_wp2;refine wp_loop_rounds 1 ?_;rw[W9];go_wp2;go_ret;exact⟨rfl,ue _ _⟩
   . obtain⟨g,cap,rfl,hnc,_,hgw⟩:=zY hx (by omega)
     obtain⟨g2,cap2,rfl,hnc2,_,hgw2⟩:=zY hy (by omega);have hxd:=yw x;have hyd:=yw y;have hxo:=jM x;have hyo:=jM y;unfold zy at hx hy;generalize gr x=xs at *;generalize gr y=ys at *;have Hxd:=zb hxd;have Hyd:=zb hyd;have Hxo:=zb hxo;have Hyo:=zb hyo;have Hlen:=zb hlen;have hneI:((xs.length:Int) != (ys.length:Int))=false:=by rw[hlen];simp
     have hleI:(ys.length:Int)=(xs.length:Int):=by omega
     clear hxd hyd hxo hyo;go_enter Tryz.func202,Tryz.ntmps202;go_wp2
     go_loopw [5] (fun i wr=>∃k:Nat,k<=xs.length/\i=.int .i64 ((k:Int)-1)/\(∃m,wr=w.drewN m)/\Hid (∀t(h1:t<xs.length)(h2:t<ys.length),k<=t->xs[t]=ys[t]))
      (fun i _=>((intOf i)+1).toNat)
     case atStart=>exact⟨xs.length,ud _,by go_num,⟨0,rfl⟩,zb (fun t h1 _ h=>by omega)⟩
     case round=>
      obtain⟨k,hk,rfl,⟨m,rfl⟩,hup⟩:=hrel;cases k with
      |zero=>
       have hxy:x=y:=by
        rw[<-za Hxo,<-za Hyo]
        congr 1
        apply wD (za Hlen);intro t h1 h2;exact za hup t h1 h2 (uD _)
       rw[show(((0:Nat):Int)-1)= -1 from rfl];have hdf:decide (x<y)=false:=by rw[hxy];simp
       have Hdf:=zb hdf;clear hxy hdf;go_wp2;go_ret;exact⟨zF (za Hdf).symm,jI (ue _ _) _⟩
      |succ k=>
       rw[show(((k+1:Nat):Int)-1)=(k:Int)from by omega];have hc1:=hx.cellAt k (by omega);have hc2:=hy.cellAt k (by omega);rw[zz _ _ (by omega)]at hc1;rw[zz _ _ (by omega)]at hc2;have hk2:(k:Int)<xs.length:=by omega
       obtain⟨xk,hxk⟩:∃a,xs[k]'(by omega)=a:=⟨_,rfl⟩
       obtain⟨yk,hyk⟩:∃a,ys[k]'(by omega)=a:=⟨_,rfl⟩
       rw[hxk]at hc1;rw[hyk]at hc2;have Hxk:=zb hxk;have Hyk:=zb hyk;have hc1':(w.drewN m).cell? ⟨g,k,none⟩=some (.int .u64 (xk:Int)):=hc1;have hc2':(w.drewN m).cell? ⟨g2,k,none⟩=some (.int .u64 (yk:Int)):=hc2;clear hxk hyk;by_cases heq:xk=yk
       . have hq:((xk:Int) != (yk:Int))=false:=by rw[heq];simp
         have Heq:=zb heq;clear heq;go_wp2
         go_quiet (fail)
         go_wp2;go_roundw
         case rel=>
          refine⟨k,by omega,rfl,⟨m+nq,rfl⟩,?_⟩;intro t h1 h2 ht;by_cases htk:t=k
          . subst htk;rw[za Hxk,za Hyk];exact za Heq
          . exact za hup t h1 h2 (by omega)
         case measure=>simp[intOf]
       . have hq:((xk:Int) != (yk:Int))=true:=by rw[WL];omega
         have Heq:=zb heq;clear heq;go_wp2
         go_quiet (fail)
         go_wp2
         go_quiet (fail)
         go_wp2;go_ret;refine⟨zF ?_,jI (jI (jI (ue _ _) _) _) _⟩;have hup':=za hup;have hne:=za Heq;rcases df xk yk with h1|h1
         . have:=zbY (l:=xs) (m:=ys) (i:=k) (by omega) (by omega) hlen (za Hxd) (fun t a b hh=>hup' t a b (by omega)) (by rw[za Hxk,za Hyk];exact h1)
           rw[za Hxo,za Hyo]at this;rw[uy this,uy h1]
         . have:=zbY (l:=ys) (m:=xs) (i:=k) (by omega) (by omega) hlen.symm (za Hyd) (fun t a b hh=>(hup' t b a (by omega)).symm) (by rw[za Hxk,za Hyk];omega)
           rw[za Hxo,za Hyo]at this;rw[uw (show ¬x<y by omega),uw (show ¬xk<yk by omega)]
 . have hf:decide (x<y)=decide ((gr x).length<(gr y).length):=by
    rw[UW,decide_eq_true_iff,decide_eq_true_iff];constructor
    . intro h;have:=jW (dh h);omega
    . intro h
      rcases df x y with h1|h1
      . exact h1
      . have:=jW h1;omega
   rw[hf];unfold zy at hx hy;have hne:(((gr x).length:Int) != ((gr y).length:Int))=true:=by rw[WL];omega
   generalize gr x=xs at *;generalize gr y=ys at *;obtain⟨p1,c1,rfl⟩:=zq hx;obtain⟨p2,c2,rfl⟩:=zq hy;clear hf hlen hx hy;go_enter Tryz.func202,Tryz.ntmps202;go_wp2;go_ret;exact⟨rfl,ue _ _⟩
theorem XF{d f c:Nat}(hd:d<1000000000)(hf:f<1000000000)(hc:c<1000000000):c+d*f<1000000000*1000000000:=by
 have:d*f<=999999999*999999999:=WH (by omega) (by omega);omega
theorem zgo{xs:List Nat}{k:Nat}(hk:k<xs.length){f c0 c c' d X:Nat}(h:X+c*1000000000^k=zG 1000000000 (xs.take k)*f+c0)(he:d+1000000000*c'=c+xs[k] *f):
  X+1000000000^k*d+c'*1000000000^(k+1)=zG 1000000000 (xs.take (k+1))*f+c0:=by
 rw[uQ hk,qz,uH,Uq (by omega),uZ];generalize 1000000000^k=p at *;have h2:=uB (p* ·) he;simp only[uS]at h2;rw[wP,Ut];have e1:c'*(p*1000000000)=p*(1000000000*c'):=by rw[uE c',Ut]
 have e2:c*p=p*c:=uE _ _;omega
theorem Jt(x f c:Nat)(v:Value)(w:World)(hx:zy w v x)(hs:(gr x).length<=1000000)(hf:f<1000000000)(hc:c<1000000000):
  Calls Tryz.prog 201 #[v,.int .u64 f,.int .u64 c] w fun e w'=>(∃v',e=.returned v'/\isNatB w' w.heap.size v' (x*f+c))/\Below w.heap.size w w':=by
 obtain⟨i0,hi,hz0,hz1,hz2⟩:=Ue Tryz.infoU64;have hxd:=yw x;have hxo:=jM x;unfold zy at hx;generalize gr x=xs at *;obtain⟨p,cap,rfl⟩:=zq hx;have Hxd:=zb hxd;have Hxo:=zb hxo;have Hx:=zb hx;clear hxd hxo;go_enter Tryz.func201,Tryz.ntmps201;go_wp2_with (refine UY _ rfl (.tmp 11) (.tmp 11) 178 rfl w.heap.size 173 i0 (.int .u64 0) 1 UJ hi hz0 hz1 .i64 .i64 ((xs.length+1:Nat):Int) ((xs.length+1:Nat):Int) (xs.length+1) rfl rfl rfl rfl (by rw[hz2];omega) (by unfold maxLen;omega) (ud _) ?_;intro w1 hown1 hg1)
 go_loopw [2,15] (fun cy i wr=>∃(k c':Nat)(ys:List Nat),k<=xs.length/\cy=.int .u64 c'/\c'<1000000000/\i=.int .i64 k/\ys.length=xs.length+1/\
   wr.ownsRow w.heap.size 173 1 (.slice (some ⟨w.heap.size,0,none⟩) (xs.length+1) (xs.length+1)) (xs.length+1) (zO ys)/\Below w.heap.size w wr/\
   Hid (∀d∈ys,d<1000000000)/\Hid (zG 1000000000 (ys.take k)+c'*1000000000^k=zG 1000000000 (xs.take k)*f+c))
  (fun _ i _=>xs.length-(intOf i).toNat)
 case atStart=>
  refine⟨0,c,List.replicate (xs.length+1) 0,uD _,rfl,hc,rfl,by simp,?_,(ue _ _).grown hg1 (ud _) (fun _ h=>by cases h),?_,?_⟩
  . simpa[Value.cells,Ul,jC]using hown1
  . intro d hd;simp at hd;omega
  . show _=_;simp[zG]
 case round=>
  clear hown1 hg1;obtain⟨k,c',ys,hk,rfl,hc',rfl,hyl,hown,hb,hyd,hval⟩:=hrel;by_cases hlt:k<xs.length
  . obtain⟨g,cap',hv,_⟩:=zY (za Hx) (by omega)
    simp only[wm,WJ]at hv;obtain⟨rfl,rfl⟩:=hv;have hcx:=(zu (za Hx) hb).cellAt k (by omega);rw[zz _ _ hlt]at hcx;obtain⟨v0,hv0⟩:=qP hown k (by omega);have hfr:=hown.frozenAt k;have hxk:xs[k]'hlt<1000000000:=za Hxd _ (uF _);have hstep:=fun d c2=>@zgo xs k hlt f c c' c2 d
    generalize xs[k]'hlt=xk at *;have Hstep:=zb hstep;have hfit:=XF hxk hf hc';generalize hpp:xk*f=pp at *;have hppI:(xk:Int)*f=pp:=by rw[<-hpp];simp
    clear hstep hpp;obtain⟨d,hd⟩:∃d:Nat,((c':Int)+pp)%1000000000=d:=⟨(c'+pp)%1000000000,by omega⟩
    obtain⟨c2,hc2⟩:∃d:Nat,((c':Int)+pp)/1000000000=d:=⟨(c'+pp)/1000000000,by omega⟩
    have hdl:d<1000000000:=by omega
    have hcl:c2<1000000000:=by omega
    have hsum:Hid (d+1000000000*c2=c'+pp):=by show _=_;omega
    have hst:=hown.stored k (.int .u64 (d:Int));rw[jU _ _ d _ rfl]at hst;have Hst:=zb hst;have hk2:(k:Int)<(xs.length:Int)+1:=by omega
    clear hst;go_wp2;go_roundw
    case rel=>
     refine⟨k+1,c2,ys.set k d,by omega,by rw[hc2],hcl,by go_num,by simpa using hyl,(za Hst).1,hb.setCell (by simp) _,jp (za hyd) hdl,?_⟩;have h1:=za Hstep d c2 (za hval) (za hsum);show _=_;rw[<-h1]
     congr 1
     rw[show(ys.set k d).take (k+1)=ys.take k++[d]from by
      rw[uQ (by simp;omega),dm (ud _),uR],qz,uH,Uq (by omega)]
    case measure=>simp[intOf];omega
  . have hkl:k=xs.length:=by omega
    subst hkl;obtain⟨v0,hv0⟩:=qP hown xs.length (by omega);have hfr:=hown.frozenAt xs.length;have hst:=hown.stored xs.length (.int .u64 (c':Int));rw[jU _ _ c' _ rfl]at hst;have hbX:=hb.setCell (p:=⟨w.heap.size,xs.length,none⟩) (by simp) (.int .u64 (c':Int));have hk2:(xs.length:Int)<(xs.length:Int)+1:=by omega
    have hfin:zG 1000000000 (ys.set xs.length c')=x*f+c:=by
     have h1:=za hval;rw[Uh,za Hxo]at h1;rw[<-h1,show ys.set xs.length c'=ys.take xs.length++[c']from by
      conv=>lhs;rw[<-Uh (l:=ys.set xs.length c')]
      rw[List.length_set,hyl,uQ (by simp;omega),dm (ud _),uR],qz,uH,Uq (by omega),uE]
    have hall:=jp (j:=xs.length) (v:=c') (za hyd) hc';have hyl2:(ys.set xs.length c').length=xs.length+1:=by simpa using hyl
    generalize ys.set xs.length c'=zs at *;have Hst:=zb hst;have Hfin:=zb hfin;have Hall:=zb hall;clear hst hfin hall;go_wp2_with fail;refine(jY zs w.heap.size _ _ (by omega) (za Hall) (by rw[hyl2];exact(za Hst).1)).mono ?_;rintro e w2⟨⟨v',rfl,hv'⟩,rfl⟩;rw[za Hfin]at hv';go_wp2;go_ret;exact⟨⟨v',rfl,hv'⟩,hbX⟩
theorem zf8{xs:List Nat}{k:Nat}(hk:k<xs.length){by_ r X q r':Nat}(h:zG 1000000000 (xs.drop (k+1))=by_*X+r)(he:r*1000000000+xs[k]=by_*q+r'):
  zG 1000000000 (xs.drop k)=by_*(q+1000000000*X)+r':=by
 rw[Uk hk];simp only[zG];rw[h,uS,uS,<-Ut,uE 1000000000 by_,Ut];rw[uE r]at he;have e:by_*(1000000000*X)=1000000000*(by_*X):=by rw[UT]
 omega
theorem zbb{x b q r:Nat}(h:x=b*q+r)(hr:r<b):x/b=q/\x%b=r:=by
 have hb:0<b:=by omega
 subst h;rw[Nat.mul_add_div hb,Nat.mul_add_mod,wY hr,Uu hr];exact⟨by omega,rfl⟩
theorem Jl(x b:Nat)(v:Value)(w:World)(hx:zy w v x)(hs:(gr x).length<=1000000)(hb0:0<b)(hb9:b<1000000000):
  Calls Tryz.prog 206 #[v,.int .u64 b] w fun e w'=>(∃v',e=.returned (.tuple #[v',.int .u64 ((x%b:Nat):Int)])/\isNatB w' w.heap.size v' (x/b))/\Below w.heap.size w w':=by
 obtain⟨i0,hi,hz0,hz1,hz2⟩:=Ue Tryz.infoU64;have hxd:=yw x;have hxo:=jM x;unfold zy at hx;generalize gr x=xs at *;obtain⟨p,cap,rfl⟩:=zq hx;have Hxd:=zb hxd;have Hxo:=zb hxo;have Hx:=zb hx;clear hxd hxo;go_enter Tryz.func206,Tryz.ntmps206;go_wp2_with (refine UY _ rfl (.tmp 10) (.tmp 10) 178 rfl w.heap.size 173 i0 (.int .u64 0) 1 UJ hi hz0 hz1 .i64 .i64 xs.length xs.length xs.length rfl rfl rfl rfl (by rw[hz2];omega) (by unfold maxLen;omega) (ud _) ?_;intro w1 hown1 hg1)
 go_loopw [7,8] (fun lf i wr=>∃(k r:Nat)(ys:List Nat),k<=xs.length/\lf=.int .u64 r/\r<b/\i=.int .i64 ((k:Int)-1)/\ys.length=xs.length/\
   wr.ownsRow w.heap.size 173 1 (.slice (some ⟨w.heap.size,0,none⟩) xs.length xs.length) xs.length (zO ys)/\Below w.heap.size w wr/\
   Hid (∀d∈ys,d<1000000000)/\Hid (zG 1000000000 (xs.drop k)=b*zG 1000000000 (ys.drop k)+r))
  (fun _ i _=>((intOf i)+1).toNat)
 case atStart=>
  refine⟨xs.length,0,List.replicate xs.length 0,ud _,rfl,hb0,by go_num,by simp,?_,(ue _ _).grown hg1 (ud _) (fun _ h=>by cases h),?_,?_⟩
  . simpa[Value.cells,Ul,jC]using hown1
  . intro d hd;simp at hd;omega
  . show _=_;simp[zG]
 case round=>
  clear hown1 hg1;obtain⟨k,r,ys,hk,rfl,hr,rfl,hyl,hown,hb,hyd,hval⟩:=hrel;cases k with
  |succ k=>
   rw[show(((k+1:Nat):Int)-1)=(k:Int)from by omega];have hlt:k<xs.length:=by omega
   obtain⟨g,cap',hv,_⟩:=zY (za Hx) (by omega);simp only[wm,WJ]at hv;obtain⟨rfl,rfl⟩:=hv;have hcx:=(zu (za Hx) hb).cellAt k (by omega);rw[zz _ _ hlt]at hcx;obtain⟨v0,hv0⟩:=qP hown k (by omega);have hfr:=hown.frozenAt k;have hxk:xs[k]'hlt<1000000000:=za Hxd _ (uF _);have hstep:=fun q r'=>@zf8 xs k hlt b r (zG 1000000000 (ys.drop (k+1))) q r' (za hval)
   generalize xs[k]'hlt=xk at *;have Hstep:=zb hstep;clear hstep;have hS:r*1000000000+xk<b*1000000000:=by
    have:(r+1)*1000000000<=b*1000000000:=U5 _ hr;omega
   have hq9:(r*1000000000+xk)/b<1000000000:=by
    rw[Nat.div_lt_iff_lt_mul hb0];omega
   have hrb:(r*1000000000+xk)%b<b:=Ua _ hb0;have hdm:=WS (r*1000000000+xk) b;have hSI:((r*1000000000+xk:Nat):Int)=(r:Int)*1000000000+xk:=by simp
   have hqI:((r:Int)*1000000000+xk)/(b:Int)=(((r*1000000000+xk)/b:Nat):Int):=by rw[<-hSI];rfl
   have hrI:((r:Int)*1000000000+xk)%(b:Int)=(((r*1000000000+xk)%b:Nat):Int):=by rw[<-hSI];rfl
   generalize hq:(r*1000000000+xk)/b=q at *;generalize hr':(r*1000000000+xk)%b=r' at *;have Hdm:=zb hdm;have hst:=hown.stored k (.int .u64 (q:Int));rw[jU _ _ q _ rfl]at hst;have Hst:=zb hst;have hkI:(k:Int)<xs.length:=by omega
   have hbI:(0:Int)<b:=by omega
   clear hst hdm hSI hq hr';go_wp2;go_roundw
   case rel=>
    refine⟨k,r',ys.set k q,by omega,by rw[hrI],hrb,rfl,by simpa using hyl,(za Hst).1,hb.setCell (by simp) _,jp (za hyd) hq9,?_⟩;show _=_;rw[za Hstep q r' (za Hdm).symm,Uk (l:=ys.set k q) (by simp;omega),uR,dq (by omega)];simp only[zG]
   case measure=>simp[intOf]
  |zero=>
   rw[show(((0:Nat):Int)-1)= -1 from rfl];have hfin:=zbb (x:=x) (b:=b) (q:=zG 1000000000 ys) (r:=r) (by rw[<-za Hxo];have:=za hval;simpa using this) hr;have Hfin:=zb hfin;clear hfin;go_wp2_with fail;refine(jY ys w.heap.size _ _ (by omega) (za hyd) (by rw[hyl];exact hown)).mono ?_;rintro e w2⟨⟨v',rfl,hv'⟩,rfl⟩;rw[<-(za Hfin).1]at hv';go_wp2
   go_ret2
   refine⟨⟨v',?_,hv'⟩,hb⟩;rw[(za Hfin).2];rfl
theorem za6(x b:Nat)(v:Value)(w:World)(hx:zy w v x)(hs:(gr x).length<=1000000)(hb0:0<b)(hb9:b<1000000000):
  Calls Tryz.prog 206 #[v,.int .u64 b] w fun e w'=>(∃v',e=.returned (.tuple #[v',.int .u64 ((x%b:Nat):Int)])/\zy w' v' (x/b))/\Below w.heap.size w w':=by
 refine(Jl x b v w hx hs hb0 hb9).mono ?_;rintro e w'⟨⟨v',h1,h2⟩,h3⟩;exact⟨⟨v',h1,h2.nat⟩,h3⟩
end Go.Proofs.YtpbnmhnbkfnaeaaGreatDoor
namespace Go.Proofs.YtpbnmhnbkfnaeaaGreatDoor.Nt
theorem ZL(b:Nat)(l:List Nat)(k:Nat):zG b (l.take (k+1))=zG b (l.take k)+b^k*l.getD k 0:=by
 by_cases h:k<l.length
 . rw[uQ h,qz,uH,Uq (by omega),uq,uf h];rfl
 . rw[uz (by omega),uz (by omega),uq,UM (by omega)];simp
theorem X4{L:List Nat}{k d:Nat}(h:k<L.length):(L.set k d).take (k+1)=L.take k++[d]:=by
 rw[uQ (by simpa using h),dm (ud k)];simp
theorem zaZ{b:Nat}{L xs ys:List Nat}{k c c' d:Nat}(h:zG b (L.take k)+zG b (ys.take k)=zG b (xs.take k)+c*b^k)(hk:k<L.length)(he:d+(c+ys.getD k 0)=xs.getD k 0+c'*b):
  zG b ((L.set k d).take (k+1))+zG b (ys.take (k+1))=zG b (xs.take (k+1))+c'*b^(k+1):=by
 rw[X4 hk,qz,ZL,ZL,uH,Uq (by omega),uZ];generalize ys.getD k 0=yk at *;generalize xs.getD k 0=xk at *;generalize b^k=p at *;have e:=uB (p* ·) he;simp only[uS]at e;rw[uE c p]at h;rw[show c'*(p*b)=p*(c'*b)from by rw[UT]];omega
theorem zc9{b:Nat}{L xs ys:List Nat}{c:Nat}(hl:L.length=xs.length)(hly:ys.length<=xs.length)(hd:∀d∈L,d<b)(h:zG b (L.take xs.length)+zG b (ys.take xs.length)=zG b (xs.take xs.length)+c*b^xs.length)
  (hle:zG b ys<=zG b xs):zG b L=zG b xs-zG b ys:=by
 rw[uz (by omega),uz hly,uz (by omega)]at h;have hL:=Zg L hd;rw[hl]at hL;have:c=0:=by
  rcases ws c with h0|h0
  . exact h0
  . have:=U5 (b^xs.length) h0
    omega
 subst this;omega
theorem YH{b:Nat}{L:List Nat}{ys:List Nat}{k a x:Nat}{V:Nat}(hk:k+1<L.length)(ha:L[k]+ys.getD k 0=a)(hx:L[k+1]=x)(h:zG b L+b^k*zG b (ys.drop k)=V):
  zG b (((L.set k a).set (k+1) (x+a/b)).set k (a%b))+b^(k+1)*zG b (ys.drop (k+1))=V:=by
 have h1:=ym b L k a (by omega);have h2:=ym b (L.set k a) (k+1) (x+a/b) (by simpa using hk);have h3:=ym b ((L.set k a).set (k+1) (x+a/b)) k (a%b) (by simp;omega);have e2:(L.set k a)[k+1]'(by simpa using hk)=x:=by rw[uU (by omega)];exact hx
 have e3:((L.set k a).set (k+1) (x+a/b))[k]'(by simp;omega)=a:=by rw[uU (by omega)];simp
 rw[e2]at h2;rw[e3]at h3;have hdrop:zG b (ys.drop k)=ys.getD k 0+b*zG b (ys.drop (k+1)):=by
  by_cases hh:k<ys.length
  . rw[Uk hh,uq,uf hh];rfl
  . rw[wT (by omega),wT (by omega),uq,UM (by omega)];simp[zG]
 rw[hdrop]at h;have hdm:=WS a b;generalize zG b (ys.drop (k+1))=Y at *;generalize ys.getD k 0=yk at *;rw[<-ha]at h1;generalize L[k]=lk at *;rw[uZ]at h2⊢;generalize b^k=p at *;have e4:p*a=p*b*(a/b)+p*(a%b):=by rw[Ut,<-uS,hdm]
 rw[uS]at h1 h2;rw[uS,<-Ut]at h;rw[<-ha]at h2 h3 e4⊢;rw[uS]at e4;rw[uS]at h3;omega
theorem Qu{b:Nat}{L:List Nat}{k a' v u:Nat}(hk:k+1<L.length)(h1:∀d∈L.take k,d<b)(h2:∀d∈L.drop (k+1),d<b)(ha:a'<b)(hv:v<=b):
  (∀d∈(((L.set k u).set (k+1) v).set k a').take (k+1),d<b)/\(∀d∈(((L.set k u).set (k+1) v).set k a').drop (k+1+1),d<b)/\(((L.set k u).set (k+1) v).set k a').getD (k+1) 0<=b:=by
 refine⟨?_,?_,?_⟩
 . rw[X4 (by simp;omega)]
   intro d hd;rcases uA.1 hd with h|h
   . rw[dm (by omega),dm (ud k)]at h
     exact h1 d h
   . simp at h;omega
 . intro d hd
   rw[dq (by omega),dq (by omega),dq (by omega)]at hd;apply h2 d;rw[show k+1+1=(k+1)+1 from rfl,<-List.drop_drop]at hd;exact WY hd
 . rw[uq,Wb (by omega),Wh (by simpa using hk)]
   simpa using hv
theorem zbP{b:Nat}{L:List Nat}{k:Nat}(hk:k+1<L.length)(h2:∀d∈L.drop (k+1),d<b):L[k+1]<b:=by
 apply h2;rw[show List.drop (k+1) L=L[k+1]::List.drop (k+1+1) L from Uk hk];exact UK
theorem YP{b:Nat}{L:List Nat}{n V:Nat}(hl:L.length=n+1)(h:zG b L=V)(hV:V<2*b^n)(hb:2<=b):L[n]<b:=by
 have h1:=za4 b L n (by omega);rcases df L[n] b with h2|h2
 . exact h2
 . have h3:b^n*b<=b^n*L[n]:=UP _ h2
   have h4:b^n*2<=b^n*b:=UP _ hb;omega
theorem zbC{b:Nat}{L ys:List Nat}{i j c t xi yj P:Nat}(hk:i+j<L.length)(hy:ys.getD j 0=yj)(ht:L[i+j]+xi*yj+c=t)(h:zG b L+c*b^(i+j)=P+b^i*(xi*zG b (ys.take j))):
  zG b (L.set (i+j) (t%b))+(t/b)*b^(i+(j+1))=P+b^i*(xi*zG b (ys.take (j+1))):=by
 have h1:=ym b L (i+j) (t%b) hk;rw[ZL,hy,<-Nat.add_assoc,uZ];have hdm:=WS t b;generalize zG b (L.set (i+j) (t%b))=A at *;generalize L[i+j]=lk at *;have e1:b^i*(xi*(zG b (ys.take j)+b^j*yj))=b^i*(xi*zG b (ys.take j))+b^(i+j)*(xi*yj):=by
  rw[uS,uS,da];congr 1;rw[UT xi,Ut]
 rw[e1];generalize b^i*(xi*zG b (ys.take j))=Q at *;generalize b^(i+j)=p at *;have e2:p*t=p*lk+p*(xi*yj)+p*c:=by rw[<-ht,uS,uS]
 have e3:p*t=t/b*(p*b)+p*(t%b):=by
  have:=uB (p* ·) hdm;simp only[uS]at this;rw[<-this];congr 1;rw[uE b (t/b),UT]
 rw[uE c p]at h;omega
theorem zdB{b:Nat}{L xs ys:List Nat}{i m c:Nat}(hk:i+m<L.length)(hm:ys.length=m)(h0:L[i+m]=0)(h:zG b L+c*b^(i+m)=zG b (xs.take i)*zG b ys+b^i*(xs.getD i 0*zG b (ys.take m))):
  zG b (L.set (i+m) c)=zG b (xs.take (i+1))*zG b ys:=by
 have h1:=ym b L (i+m) c hk;rw[h0,Nat.mul_zero,wC]at h1;rw[uz (l:=ys) (by omega)]at h;rw[ZL,wP,h1,Ut,<-h,uE c]
end Go.Proofs.YtpbnmhnbkfnaeaaGreatDoor.Nt
namespace Go.Proofs.YtpbnmhnbkfnaeaaGreatDoor
open Go.RowKit Nt
theorem yL{l:List Nat}{k:Nat}(h:k<l.length):l.getD k 0=l[k]:=by rw[uq,uf h];rfl
theorem QP{l:List Nat}{k:Nat}(h:l.length<=k):l.getD k 0=0:=by rw[uq,UM h];rfl
theorem kk{w:World}{base e:Nat}{p:Option Addr}{cap:Nat}{xs:List Nat}(h:w.ownsRow base e 1 (.slice p xs.length cap) xs.length (zO xs))(k:Nat)(hk:k<xs.length):∃g,p=some ⟨g,0,none⟩/\w.cell? ⟨g,k,none⟩=some (.int .u64 ((xs[k]:Nat):Int)):=by
 obtain⟨g,cap',hv,_⟩:=zY h (by omega);simp only[wm,WJ]at hv;obtain⟨rfl,rfl⟩:=hv;have hc:=h.cellAt k (by omega);rw[zz _ _ hk]at hc;exact⟨g,rfl,hc⟩
theorem ji{wr:World}{base e g N cap:Nat}{L:List Nat}(hown:wr.ownsRow base e 1 (.slice (some ⟨g,0,none⟩) N cap) N (zO L))(k d:Nat)(v:Int)(hv:v=(d:Int)):
  (wr.setCell ⟨g,k,none⟩ (.int .u64 v)).ownsRow base e 1 (.slice (some ⟨g,0,none⟩) N cap) N (zO (L.set k d)):=by
 have h:=hown.stored k (.int .u64 v);rw[jU _ _ d _ hv]at h;exact h.1
theorem zbZ(x y:Nat)(v u:Value)(w:World)(hx:zy w v x)(hy:zy w u y)(hyx:y<=x)(hs:(gr x).length<=1000000):
  Calls Tryz.prog 209 #[v,u] w fun e w'=>(∃v',e=.returned v'/\isNatB w' w.heap.size v' (x-y))/\Below w.heap.size w w':=by
 obtain⟨i0,hi,hz0,hz1,hz2⟩:=Ue Tryz.infoU64;have hxd:=yw x;have hyd:=yw y;have hxo:=jM x;have hyo:=jM y;have hlen:=jW hyx;have hend:=fun L c=>@zc9 1000000000 L (gr x) (gr y) c
 rw[hxo,hyo]at hend;unfold zy at hx hy;generalize gr x=xs at *;generalize gr y=ys at *;obtain⟨p,cap,rfl⟩:=zq hx;obtain⟨q,cap2,rfl⟩:=zq hy;have Hxd:=zb hxd;have Hyd:=zb hyd;have Hx:=zb hx;have Hy:=zb hy;have Hend:=zb hend;clear hxd hyd hxo hyo hx hy hend;go_enter Tryz.func209,Tryz.ntmps209;go_wp2_with (refine UY _ rfl (.tmp 10) (.tmp 10) 178 rfl w.heap.size 173 i0 (.int .u64 0) 1 UJ hi hz0 hz1 .i64 .i64 xs.length xs.length xs.length rfl rfl rfl rfl (by rw[hz2];omega) (by unfold maxLen;omega) (ud _) ?_;intro w1 hown1 hg1)
 go_loopw [6,14] (fun ow i wr=>∃(k c:Nat)(L:List Nat),k<=xs.length/\i=.int .i64 (k:Int)/\ow=.int .u64 (c:Int)/\c<=1/\L.length=xs.length/\
   wr.ownsRow w.heap.size 173 1 (.slice (some ⟨w.heap.size,0,none⟩) xs.length xs.length) xs.length (zO L)/\Below w.heap.size w wr/\
   Hid (∀d∈L,d<1000000000)/\Hid (zG 1000000000 (L.take k)+zG 1000000000 (ys.take k)=zG 1000000000 (xs.take k)+c*1000000000^k))
  (fun _ i _=>(xs.length-intOf i).toNat)
 case atStart=>
  refine⟨0,0,List.replicate xs.length 0,uD _,rfl,rfl,by omega,by simp,?_,(ue _ _).grown hg1 (ud _) (fun _ h=>by cases h),?_,?_⟩
  . simpa[Value.cells,Ul,jC]using hown1
  . intro d hd;simp at hd;omega
  . show _=_;simp[zG]
 case round=>
  clear hown1 hg1;obtain⟨k,c,L,hk,rfl,rfl,hc,hLl,hown,hb,hLd,hval⟩:=hrel;by_cases hlt:k<xs.length
  . obtain⟨g,rfl,hcx⟩:=kk (zu (za Hx) hb) k hlt
    have hxk:xs[k]'hlt<1000000000:=za Hxd _ (uF _);obtain⟨v0,hv0⟩:=qP hown k (by omega);have hfr:=hown.frozenAt k;have hstep:=fun d c'=>@zaZ 1000000000 L xs ys k c c' d (za hval) (by omega)
    rw[yL hlt]at hstep;generalize xs[k]'hlt=xk at *;have hkI:(k:Int)<xs.length:=by omega
    by_cases hky:k<ys.length
    . obtain⟨g2,rfl,hcy⟩:=kk (zu (za Hy) hb) k hky
      have hyk:ys[k]'hky<1000000000:=za Hyd _ (uF _);rw[yL hky]at hstep;generalize ys[k]'hky=yk at *;have Hstep:=zb hstep;clear hstep;have hkyI:(k:Int)<ys.length:=by omega
      by_cases hge:xk<c+yk
      . skip
        go_wp2;go_roundw
        case rel=>exact⟨k+1,1,L.set k (xk+1000000000-(c+yk)),by omega,by go_num,rfl,by omega,by simpa using hLl,ji hown k (xk+1000000000-(c+yk)) _ (by omega),hb.setCell (by simp) _,jp (za hLd) (by omega),za Hstep (xk+1000000000-(c+yk)) 1 (by omega)⟩
        case measure=>simp[intOf];omega
      . skip
        go_wp2;go_roundw
        case rel=>exact⟨k+1,0,L.set k (xk-(c+yk)),by omega,by go_num,rfl,by omega,by simpa using hLl,ji hown k (xk-(c+yk)) _ (by omega),hb.setCell (by simp) _,jp (za hLd) (by omega),za Hstep (xk-(c+yk)) 0 (by omega)⟩
        case measure=>simp[intOf];omega
    . rw[QP (by omega)]at hstep
      have Hstep:=zb hstep;clear hstep;have hkyI:¬(k:Int)<ys.length:=by omega
      by_cases hge:xk<c
      . skip
        go_wp2;go_roundw
        case rel=>exact⟨k+1,1,L.set k (xk+1000000000-c),by omega,by go_num,rfl,by omega,by simpa using hLl,ji hown k (xk+1000000000-c) _ (by omega),hb.setCell (by simp) _,jp (za hLd) (by omega),za Hstep (xk+1000000000-c) 1 (by omega)⟩
        case measure=>simp[intOf];omega
      . skip
        go_wp2;go_roundw
        case rel=>exact⟨k+1,0,L.set k (xk-c),by omega,by go_num,rfl,by omega,by simpa using hLl,ji hown k (xk-c) _ (by omega),hb.setCell (by simp) _,jp (za hLd) (by omega),za Hstep (xk-c) 0 (by omega)⟩
        case measure=>simp[intOf];omega
  . have hkn:k=xs.length:=by omega
    subst hkn;have hfin:=za Hend L c hLl hlen (za hLd) (za hval) hyx;have Hfin:=zb hfin;clear hfin;go_wp2_with fail;refine(jY L w.heap.size _ _ (by omega) (za hLd) (by rw[hLl];exact hown)).mono ?_;rintro e w2⟨⟨v',rfl,hv'⟩,rfl⟩;rw[za Hfin]at hv';go_wp2;go_ret;exact⟨⟨v',rfl,hv'⟩,hb⟩
theorem XO(b:Nat)(l:List Nat)(k:Nat):zG b (l++List.replicate k 0)=zG b l:=by rw[vX,qD];omega
theorem zbX(x y:Nat)(h:(gr y).length<=(gr x).length):x+y<2*1000000000^(gr x).length:=by
 have h1:=vV (b:=1000000000) (by omega) x;have h2:=vV (b:=1000000000) (by omega) y;have h3:1000000000^(gr y).length<=1000000000^(gr x).length:=UC (by omega) h;unfold gr at *;omega
theorem Xc{P:Program}{w w0:World}{dT ty elem t:TypeId}{g B dLen dCap sLen sCap:Nat}{sp:Option Addr}{cur cs:List Value}(hu:P.underlying dT=some (.slice elem))(hsz:(P.info? elem).map (·.size)=some 1)
  (hg:w.heap[g]? =some (.cells cur.toArray t (0,0)))(hn:cs.length=Nat.min sLen dLen)(hpos:0<cs.length->∃ad,sp=some ad/\∀j v,cs[j]? =some v->w.cell? (ad.add j)=some v)
  (hfit:cs.length<=cur.length)(h1:∀v∈cs,v.oneCell'=true)(hb:Below B w0 w)(hBg:B<=g):
  ∃w',(Builtin.copy_ #[dT,dT] ty #[.slice (some ⟨g,0,none⟩) dLen dCap,.slice sp sLen sCap]).run P w=.ok (.int .i64 (cs.length:Int)) w'/\w'.heap[g]? =some (.cells (splice cur 0 cs).toArray t (0,0))/\Below B w0 w':=by
 by_cases h0:cs.length=0
 . obtain rfl:cs=[]:=ur h0
   exact⟨w,run_copy_none w dT dT ty elem _ _ _ _ _ _ hu hsz (by simpa using hn.symm),by simpa[splice]using hg,hb⟩
 . obtain⟨ad,rfl,hsrc⟩:=hpos (by omega)
   refine⟨_,run_copy_row (P:=P) w dT dT ty elem g 0 dLen dCap ad sLen sCap cur.toArray t cs hu hsz hg hn hsrc (by simpa using hfit) h1,?_,below_setRow hb hBg _⟩;have hh:=setRow_heap w g cur.toArray (cur.toArray.toList.take 0++cs++cur.toArray.toList.drop (0+cs.length)).toArray t (0,0) hg;simpa[splice]using hh
theorem zdj(x y:Nat)(v u:Value)(w:World)(hx:zy w v x)(hy:zy w u y)(hl:(gr y).length<=(gr x).length)(hs:(gr x).length<=1000000):
  Calls Tryz.prog 208 #[v,u] w fun e w'=>(∃v',e=.returned v'/\isNatB w' w.heap.size v' (x+y))/\Below w.heap.size w w':=by
 obtain⟨i0,hi,hz0,hz1,hz2⟩:=Ue Tryz.infoU64;have hxd:=yw x;have hyd:=yw y;have hxo:=jM x;have hyo:=jM y;have hV:=zbX x y hl;unfold zy at hx hy;generalize gr x=xs at *;generalize gr y=ys at *;obtain⟨p,cap,rfl⟩:=zq hx;obtain⟨q,cap2,rfl⟩:=zq hy;have h2cells:=fun g cap'(h:Value.slice p xs.length cap=.slice (some ⟨g,0,none⟩) xs.length cap')(w1:World)(hb:Below w.heap.size w w1)=>(h ▸ zu hx hb:w1.ownsRow 0 173 1 (.slice (some ⟨g,0,none⟩) xs.length cap') xs.length (zO xs)).cells (g:=g) rfl
 have Hxd:=zb hxd;have Hyd:=zb hyd;have Hx:=zb hx;have Hy:=zb hy;have HV:=zb hV;have Hxo:=zb hxo;have Hyo:=zb hyo;have hnl:¬(xs.length:Int)<ys.length:=by omega
 clear hxd hyd hxo hyo hx hy hV;go_enter Tryz.func208,Tryz.ntmps208;go_wp2_with (refine UY _ rfl (.tmp 16) (.tmp 16) 178 rfl w.heap.size 173 i0 (.int .u64 0) 1 UJ hi hz0 hz1 .i64 .i64 (xs.length+1) (xs.length+1) (xs.length+1) rfl rfl (by go_num) (by go_num) (by rw[hz2];omega) (by unfold maxLen;omega) (ud _) ?_;intro w1 hown1 hg1);have hb1:Below w.heap.size w w1:=(ue _ _).grown hg1 (ud _) (fun _ h=>by cases h);have hown1':w1.ownsRow w.heap.size 173 1 (.slice (some ⟨w.heap.size,0,none⟩) (xs.length+1) (xs.length+1)) (xs.length+1) (zO (List.replicate (xs.length+1) 0)):=by
  simpa[Value.cells,Ul,jC]using hown1
 have hblk:=ke hown1';have Hblk:=zb hblk;have hpos:0<(zO xs).length->∃ad,p=some ad/\∀j v,(zO xs)[j]? =some v->w1.cell? (ad.add j)=some v:=by
  intro h;obtain⟨g,cap',hh,_⟩:=zY (za Hx) (by rwa[qi]at h);have h2:=(h2cells g cap' hh w1 hb1)
  simp only[wm,WJ]at hh;exact⟨_,hh.1,h2⟩
 have Hpos:=zb hpos;clear hown1 hg1 hown1' hblk hpos;obtain⟨w2,hcopy,hg2,hb2⟩:=Xc (P:=Tryz.prog) (dT:=178) (ty:=3) (elem:=173) (sp:=p) (sLen:=xs.length) (sCap:=cap) (dLen:=xs.length+1) (dCap:=xs.length+1) (cs:=zO xs) UJ (by simp[hi,hz1]) (za Hblk) (by rw[qi];exact(Uq (by omega)).symm) (za Hpos) (by simp[zO]) (VT _) hb1 (ud _);have hrow:splice (zO (List.replicate (xs.length+1) 0)) 0 (zO xs)=zO (xs++[0]):=by
  unfold splice;rw[List.take_zero,UE,Uz,qi,<-Jb,List.drop_replicate,Zr,show xs.length+1-xs.length=1 from by omega];rfl
 rw[hrow]at hg2;rw[qi]at hcopy;have hownL:=vM (base:=w.heap.size) (n:=xs.length+1) hg2 (by rw[qi];simp) (by unfold maxLen;omega) (ud _);have HownL:=zb hownL;have Hb2:=zb hb2;clear hrow hg2 hownL hb2 hb1 Hblk Hpos h2cells;rw[hcopy];simp only[Result.andThen];rw[Oper.upon_value];clear hcopy;go_wp2
 go_loopw [23] (fun i wr=>∃(k:Nat)(L:List Nat),k<=xs.length/\i=.int .i64 (k:Int)/\L.length=xs.length+1/\
   wr.ownsRow w.heap.size 173 1 (.slice (some ⟨w.heap.size,0,none⟩) (xs.length+1) (xs.length+1)) (xs.length+1) (zO L)/\Below w.heap.size w wr/\
   Hid (∀d∈L.take k,d<1000000000)/\Hid (∀d∈L.drop (k+1),d<1000000000)/\L.getD k 0<=1000000000/\Hid (zG 1000000000 L+1000000000^k*zG 1000000000 (ys.drop k)=x+y))
  (fun i _=>(xs.length-intOf i).toNat)
 case atStart=>
  refine⟨0,xs++[0],uD _,rfl,by simp,za HownL,za Hb2,by show ∀d∈_,_;simp,?_,?_,?_⟩
  . intro d hd
    have:=WY hd;rcases uA.1 this with h|h
    . exact za Hxd d h
    . simp at h;omega
  . cases xs with
    |nil=>simp
    |cons a r=>have:=za Hxd a (by simp);simp;omega
  . show _=_
    rw[show [0]=List.replicate 1 0 from rfl,XO,List.drop_zero,za Hxo,za Hyo,Nat.pow_zero,Nat.one_mul]
 case round=>
  clear HownL Hb2;obtain⟨k,L,hk,rfl,hLl,hown,hb,hLt,hLd,hLk,hval⟩:=hrel;by_cases hlt:k<xs.length
  . have hk1:k+1<L.length:=by omega
    have hx1:=zbP hk1 (za hLd);have hc0:=hown.cellAt k (by omega);rw[zz _ _ (by omega)]at hc0;have hc1:=hown.cellAt (k+1) (by omega);rw[zz _ _ hk1]at hc1;have hf0:=hown.frozenAt k;have hf1:=hown.frozenAt (k+1);rw[yL (by omega)]at hLk;have hstep:=fun a=>@YH 1000000000 L ys k a L[k+1] (x+y) hk1
    obtain⟨a0,ha0⟩:∃a0,L[k]'(by omega)=a0:=⟨_,rfl⟩
    obtain⟨x1,hx1e⟩:∃x1,L[k+1]'hk1=x1:=⟨_,rfl⟩
    rw[ha0]at hc0 hLk hstep;rw[hx1e]at hc1 hx1 hstep;have Hstep:=zb hstep;have Ha0:=zb ha0;have hx1e':=hx1e;have hkI:(k:Int)<xs.length:=by omega
    clear hstep ha0 hx1e;have Hx1e:=zb hx1e';clear hx1e';by_cases hky:k<ys.length
    . obtain⟨g2,rfl,hcy⟩:=kk (zu (za Hy) hb) k hky
      have hyk:ys[k]'hky<1000000000:=za Hyd _ (uF _);obtain⟨yk,hye⟩:∃yk,ys[k]'hky=yk:=⟨_,rfl⟩
      rw[hye]at hcy hyk;have Hye:=zb hye;clear hye;have hkyI:(k:Int)<ys.length:=by omega
      obtain⟨a,ha⟩:∃a:Nat,a0+yk=a:=⟨_,rfl⟩
      have hIa:(a0:Int)+yk=a:=by omega
      have ha2:a<=1999999999:=by omega
      have e1:=yN (a:Int) (by omega) (by omega);have Haa:Hid (a0+ys.getD k 0=a):=by show _=_;rw[yL hky,za Hye];exact ha
      have hown1:=ji hown k a (a:Int) rfl;have Hown1:=zb (show((wr.setCell ⟨w.heap.size,k,none⟩ (.int .u64 (a:Int))).drew).ownsRow w.heap.size 173 1 (.slice (some ⟨w.heap.size,0,none⟩) (xs.length+1) (xs.length+1)) (xs.length+1) (zO (L.set k a))from hown1);have Hb1:=zb ((hb.setCell (p:=⟨w.heap.size,k,none⟩) (ud _) (.int .u64 (a:Int))).drew);clear ha hown1 hown hb;go_wp2
      go_region
      clear hc0 hc1 hf0 hf1 hcy hIa e1;generalize (wr.setCell ⟨w.heap.size,k,none⟩ (.int .u64 (a:Int))).drew=W1 at *;have hL1:(L.set k a).length=xs.length+1:=by simpa using hLl
      have hc0:=(za Hown1).cellAt k (by omega);rw[zz _ _ (by omega),uR]at hc0;have hc1:=(za Hown1).cellAt (k+1) (by omega);rw[zz _ _ (by simpa using hk1),uU (by omega),za Hx1e]at hc1;have hf0:=(za Hown1).frozenAt k;have hf1:=(za Hown1).frozenAt (k+1);obtain⟨q9,hq9⟩:∃q9,a/1000000000=q9:=⟨_,rfl⟩
      have hq9':q9<=1:=by omega
      have e2:(a:Int).tdiv 1000000000=q9:=by rw[Up (by omega)];omega
      have e3:=yN (q9:Int) (by omega) (by omega);have e4:=yN ((x1:Int)+q9) (by omega) (by omega);have hstep:=za Hstep a (za Haa) (by first|trivial|rfl) (za hval);rw[hq9]at hstep;have hinv:=@Qu 1000000000 L k (a%1000000000) (x1+q9) a hk1 (za hLt) (za hLd) (Ua _ (by omega)) (by omega);have hown2:=ji (za Hown1) (k+1) (x1+q9) ((x1:Int)+q9) (by omega);have Hinv:=zb hinv;have Hstep2:=zb hstep;have Hown2:=zb hown2;clear hstep hinv hown2;go_wp2
      go_region
      clear hc0 hc1 hf0 hf1 e2 e3 e4;have hb2:=((za Hb1).setCell (p:=⟨w.heap.size,k+1,none⟩) (ud _) (.int .u64 ((x1:Int)+q9))).drew;have hown2:(World.drew (World.setCell _ ⟨w.heap.size,k+1,none⟩ (.int .u64 ((x1:Int)+q9)))).ownsRow w.heap.size 173 1 (.slice (some ⟨w.heap.size,0,none⟩) (xs.length+1) (xs.length+1)) (xs.length+1) (zO ((L.set k a).set (k+1) (x1+q9))):=za Hown2;have hc0:=hown2.cellAt k (by omega);rw[zz _ _ (by simp;omega),uU (by omega),uR]at hc0;have hf0:=hown2.frozenAt k;have hown3:=ji hown2 k (a%1000000000) ((a:Int)%1000000000) (by omega);have Hown3:=zb hown3;have Hb2:=zb hb2;clear hown2 hown3 hb2;go_wp2;go_roundw
      case rel=>exact⟨k+1,_,by omega,by go_num,by simpa using hLl,za Hown3,(za Hb2).setCell (ud _) _,(za Hinv).1,(za Hinv).2.1,(za Hinv).2.2,Hstep2⟩
      case measure=>simp[intOf];omega
    . obtain⟨a,ha⟩:∃a:Nat,a0=a:=⟨_,rfl⟩
      have ha2:a<=1999999999:=by omega
      have Haa:Hid (a0+ys.getD k 0=a):=by show _=_;rw[QP (by omega)];exact ha
      have hLs:L.set k a=L:=by rw[<-ha,<-za Ha0];exact List.set_getElem_self (by omega)
      have Hown1:=zb (show wr.ownsRow w.heap.size 173 1 (.slice (some ⟨w.heap.size,0,none⟩) (xs.length+1) (xs.length+1)) (xs.length+1) (zO (L.set k a))from by rw[hLs];exact hown);have Hb1:=zb hb;have hkyI:¬(k:Int)<ys.length:=by omega
      clear ha hown hb hLs hc0 hc1 hf0 hf1;obtain⟨W1,hW1⟩:∃W1,wr=W1:=⟨_,rfl⟩
      subst hW1;have hL1:(L.set k a).length=xs.length+1:=by simpa using hLl
      have hc0:=(za Hown1).cellAt k (by omega);rw[zz _ _ (by omega),uR]at hc0;have hc1:=(za Hown1).cellAt (k+1) (by omega);rw[zz _ _ (by simpa using hk1),uU (by omega),za Hx1e]at hc1;have hf0:=(za Hown1).frozenAt k;have hf1:=(za Hown1).frozenAt (k+1);obtain⟨q9,hq9⟩:∃q9,a/1000000000=q9:=⟨_,rfl⟩
      have hq9':q9<=1:=by omega
      have e2:(a:Int).tdiv 1000000000=q9:=by rw[Up (by omega)];omega
      have e3:=yN (q9:Int) (by omega) (by omega);have e4:=yN ((x1:Int)+q9) (by omega) (by omega);have hstep:=za Hstep a (za Haa) (by first|trivial|rfl) (za hval);rw[hq9]at hstep;have hinv:=@Qu 1000000000 L k (a%1000000000) (x1+q9) a hk1 (za hLt) (za hLd) (Ua _ (by omega)) (by omega);have hown2:=ji (za Hown1) (k+1) (x1+q9) ((x1:Int)+q9) (by omega);have Hinv:=zb hinv;have Hstep2:=zb hstep;have Hown2:=zb hown2;clear hstep hinv hown2;go_wp2
      go_region
      clear hc0 hc1 hf0 hf1 e2 e3 e4;have hb2:=((za Hb1).setCell (p:=⟨w.heap.size,k+1,none⟩) (ud _) (.int .u64 ((x1:Int)+q9))).drew;have hown2:(World.drew (World.setCell _ ⟨w.heap.size,k+1,none⟩ (.int .u64 ((x1:Int)+q9)))).ownsRow w.heap.size 173 1 (.slice (some ⟨w.heap.size,0,none⟩) (xs.length+1) (xs.length+1)) (xs.length+1) (zO ((L.set k a).set (k+1) (x1+q9))):=za Hown2;have hc0:=hown2.cellAt k (by omega);rw[zz _ _ (by simp;omega),uU (by omega),uR]at hc0;have hf0:=hown2.frozenAt k;have hown3:=ji hown2 k (a%1000000000) ((a:Int)%1000000000) (by omega);have Hown3:=zb hown3;have Hb2:=zb hb2;clear hown2 hown3 hb2;go_wp2;go_roundw
      case rel=>exact⟨k+1,_,by omega,by go_num,by simpa using hLl,za Hown3,(za Hb2).setCell (ud _) _,(za Hinv).1,(za Hinv).2.1,(za Hinv).2.2,Hstep2⟩
      case measure=>simp[intOf];omega
  . have hkn:k=xs.length:=by omega
    subst hkn;have hval':=za hval;rw[wT (by omega)]at hval';have hval2:zG 1000000000 L=x+y:=by simpa[zG]using hval'
    have htop:=YP hLl hval2 (za HV) (by omega);have hall:∀d∈L,d<1000000000:=by
     intro d hd;obtain⟨j,hj,rfl⟩:=dp hd;by_cases hjn:j=xs.length
     . subst hjn;exact htop
     . exact za hLt _ (by rw[List.mem_take_iff_getElem];exact⟨j,by omega,rfl⟩)
    have Hall:=zb hall;have Hv2:=zb hval2;clear hval' hval2 htop hall;go_wp2_with fail;refine(jY L w.heap.size _ _ (by omega) (za Hall) (by rw[hLl];exact hown)).mono ?_;rintro e w2⟨⟨v',rfl,hv'⟩,rfl⟩;rw[za Hv2]at hv';go_wp2;go_ret;exact⟨⟨v',rfl,hv'⟩,hb⟩
theorem zbf(x y:Nat)(v u:Value)(w:World)(hx:zy w v x)(hy:zy w u y)(hl:(gr y).length<(gr x).length)(hs:(gr x).length<=1000000):
  Calls Tryz.prog 208 #[u,v] w fun e w'=>(∃v',e=.returned v'/\isNatB w' w.heap.size v' (x+y))/\Below w.heap.size w w':=by
 obtain⟨i0,hi,hz0,hz1,hz2⟩:=Ue Tryz.infoU64;have hxd:=yw x;have hyd:=yw y;have hxo:=jM x;have hyo:=jM y;have hV:=zbX x y (by omega);unfold zy at hx hy;generalize gr x=xs at *;generalize gr y=ys at *;obtain⟨p,cap,rfl⟩:=zq hx;obtain⟨q,cap2,rfl⟩:=zq hy;have h2cells:=fun g cap'(h:Value.slice p xs.length cap=.slice (some ⟨g,0,none⟩) xs.length cap')(w1:World)(hb:Below w.heap.size w w1)=>(h ▸ zu hx hb:w1.ownsRow 0 173 1 (.slice (some ⟨g,0,none⟩) xs.length cap') xs.length (zO xs)).cells (g:=g) rfl
 have Hxd:=zb hxd;have Hyd:=zb hyd;have Hx:=zb hx;have Hy:=zb hy;have HV:=zb hV;have Hxo:=zb hxo;have Hyo:=zb hyo;have hnl:(ys.length:Int)<xs.length:=by omega
 clear hxd hyd hxo hyo hx hy hV;go_enter Tryz.func208,Tryz.ntmps208;go_wp2_with (refine UY _ rfl (.tmp 16) (.tmp 16) 178 rfl w.heap.size 173 i0 (.int .u64 0) 1 UJ hi hz0 hz1 .i64 .i64 (xs.length+1) (xs.length+1) (xs.length+1) rfl rfl (by go_num) (by go_num) (by rw[hz2];omega) (by unfold maxLen;omega) (ud _) ?_;intro w1 hown1 hg1);have hb1:Below w.heap.size w w1:=(ue _ _).grown hg1 (ud _) (fun _ h=>by cases h);have hown1':w1.ownsRow w.heap.size 173 1 (.slice (some ⟨w.heap.size,0,none⟩) (xs.length+1) (xs.length+1)) (xs.length+1) (zO (List.replicate (xs.length+1) 0)):=by
  simpa[Value.cells,Ul,jC]using hown1
 have hblk:=ke hown1';have Hblk:=zb hblk;have hpos:0<(zO xs).length->∃ad,p=some ad/\∀j v,(zO xs)[j]? =some v->w1.cell? (ad.add j)=some v:=by
  intro h;obtain⟨g,cap',hh,_⟩:=zY (za Hx) (by rwa[qi]at h);have h2:=(h2cells g cap' hh w1 hb1)
  simp only[wm,WJ]at hh;exact⟨_,hh.1,h2⟩
 have Hpos:=zb hpos;clear hown1 hg1 hown1' hblk hpos;obtain⟨w2,hcopy,hg2,hb2⟩:=Xc (P:=Tryz.prog) (dT:=178) (ty:=3) (elem:=173) (sp:=p) (sLen:=xs.length) (sCap:=cap) (dLen:=xs.length+1) (dCap:=xs.length+1) (cs:=zO xs) UJ (by simp[hi,hz1]) (za Hblk) (by rw[qi];exact(Uq (by omega)).symm) (za Hpos) (by simp[zO]) (VT _) hb1 (ud _);have hrow:splice (zO (List.replicate (xs.length+1) 0)) 0 (zO xs)=zO (xs++[0]):=by
  unfold splice;rw[List.take_zero,UE,Uz,qi,<-Jb,List.drop_replicate,Zr,show xs.length+1-xs.length=1 from by omega];rfl
 rw[hrow]at hg2;rw[qi]at hcopy;have hownL:=vM (base:=w.heap.size) (n:=xs.length+1) hg2 (by rw[qi];simp) (by unfold maxLen;omega) (ud _);have HownL:=zb hownL;have Hb2:=zb hb2;clear hrow hg2 hownL hb2 hb1 Hblk Hpos h2cells;rw[hcopy];simp only[Result.andThen];rw[Oper.upon_value];clear hcopy;go_wp2
 go_loopw [23] (fun i wr=>∃(k:Nat)(L:List Nat),k<=xs.length/\i=.int .i64 (k:Int)/\L.length=xs.length+1/\
   wr.ownsRow w.heap.size 173 1 (.slice (some ⟨w.heap.size,0,none⟩) (xs.length+1) (xs.length+1)) (xs.length+1) (zO L)/\Below w.heap.size w wr/\
   Hid (∀d∈L.take k,d<1000000000)/\Hid (∀d∈L.drop (k+1),d<1000000000)/\L.getD k 0<=1000000000/\Hid (zG 1000000000 L+1000000000^k*zG 1000000000 (ys.drop k)=x+y))
  (fun i _=>(xs.length-intOf i).toNat)
 case atStart=>
  refine⟨0,xs++[0],uD _,rfl,by simp,za HownL,za Hb2,by show ∀d∈_,_;simp,?_,?_,?_⟩
  . intro d hd
    have:=WY hd;rcases uA.1 this with h|h
    . exact za Hxd d h
    . simp at h;omega
  . cases xs with
    |nil=>simp
    |cons a r=>have:=za Hxd a (by simp);simp;omega
  . show _=_
    rw[show [0]=List.replicate 1 0 from rfl,XO,List.drop_zero,za Hxo,za Hyo,Nat.pow_zero,Nat.one_mul]
 case round=>
  clear HownL Hb2;obtain⟨k,L,hk,rfl,hLl,hown,hb,hLt,hLd,hLk,hval⟩:=hrel;by_cases hlt:k<xs.length
  . have hk1:k+1<L.length:=by omega
    have hx1:=zbP hk1 (za hLd);have hc0:=hown.cellAt k (by omega);rw[zz _ _ (by omega)]at hc0;have hc1:=hown.cellAt (k+1) (by omega);rw[zz _ _ hk1]at hc1;have hf0:=hown.frozenAt k;have hf1:=hown.frozenAt (k+1);rw[yL (by omega)]at hLk;have hstep:=fun a=>@YH 1000000000 L ys k a L[k+1] (x+y) hk1
    obtain⟨a0,ha0⟩:∃a0,L[k]'(by omega)=a0:=⟨_,rfl⟩
    obtain⟨x1,hx1e⟩:∃x1,L[k+1]'hk1=x1:=⟨_,rfl⟩
    rw[ha0]at hc0 hLk hstep;rw[hx1e]at hc1 hx1 hstep;have Hstep:=zb hstep;have Ha0:=zb ha0;have hx1e':=hx1e;have hkI:(k:Int)<xs.length:=by omega
    clear hstep ha0 hx1e;have Hx1e:=zb hx1e';clear hx1e';by_cases hky:k<ys.length
    . obtain⟨g2,rfl,hcy⟩:=kk (zu (za Hy) hb) k hky
      have hyk:ys[k]'hky<1000000000:=za Hyd _ (uF _);obtain⟨yk,hye⟩:∃yk,ys[k]'hky=yk:=⟨_,rfl⟩
      rw[hye]at hcy hyk;have Hye:=zb hye;clear hye;have hkyI:(k:Int)<ys.length:=by omega
      obtain⟨a,ha⟩:∃a:Nat,a0+yk=a:=⟨_,rfl⟩
      have hIa:(a0:Int)+yk=a:=by omega
      have ha2:a<=1999999999:=by omega
      have e1:=yN (a:Int) (by omega) (by omega);have Haa:Hid (a0+ys.getD k 0=a):=by show _=_;rw[yL hky,za Hye];exact ha
      have hown1:=ji hown k a (a:Int) rfl;have Hown1:=zb (show((wr.setCell ⟨w.heap.size,k,none⟩ (.int .u64 (a:Int))).drew).ownsRow w.heap.size 173 1 (.slice (some ⟨w.heap.size,0,none⟩) (xs.length+1) (xs.length+1)) (xs.length+1) (zO (L.set k a))from hown1);have Hb1:=zb ((hb.setCell (p:=⟨w.heap.size,k,none⟩) (ud _) (.int .u64 (a:Int))).drew);clear ha hown1 hown hb;go_wp2
      go_region
      clear hc0 hc1 hf0 hf1 hcy hIa e1;generalize (wr.setCell ⟨w.heap.size,k,none⟩ (.int .u64 (a:Int))).drew=W1 at *;have hL1:(L.set k a).length=xs.length+1:=by simpa using hLl
      have hc0:=(za Hown1).cellAt k (by omega);rw[zz _ _ (by omega),uR]at hc0;have hc1:=(za Hown1).cellAt (k+1) (by omega);rw[zz _ _ (by simpa using hk1),uU (by omega),za Hx1e]at hc1;have hf0:=(za Hown1).frozenAt k;have hf1:=(za Hown1).frozenAt (k+1);obtain⟨q9,hq9⟩:∃q9,a/1000000000=q9:=⟨_,rfl⟩
      have hq9':q9<=1:=by omega
      have e2:(a:Int).tdiv 1000000000=q9:=by rw[Up (by omega)];omega
      have e3:=yN (q9:Int) (by omega) (by omega);have e4:=yN ((x1:Int)+q9) (by omega) (by omega);have hstep:=za Hstep a (za Haa) (by first|trivial|rfl) (za hval);rw[hq9]at hstep;have hinv:=@Qu 1000000000 L k (a%1000000000) (x1+q9) a hk1 (za hLt) (za hLd) (Ua _ (by omega)) (by omega);have hown2:=ji (za Hown1) (k+1) (x1+q9) ((x1:Int)+q9) (by omega);have Hinv:=zb hinv;have Hstep2:=zb hstep;have Hown2:=zb hown2;clear hstep hinv hown2;go_wp2
      go_region
      clear hc0 hc1 hf0 hf1 e2 e3 e4;have hb2:=((za Hb1).setCell (p:=⟨w.heap.size,k+1,none⟩) (ud _) (.int .u64 ((x1:Int)+q9))).drew;have hown2:(World.drew (World.setCell _ ⟨w.heap.size,k+1,none⟩ (.int .u64 ((x1:Int)+q9)))).ownsRow w.heap.size 173 1 (.slice (some ⟨w.heap.size,0,none⟩) (xs.length+1) (xs.length+1)) (xs.length+1) (zO ((L.set k a).set (k+1) (x1+q9))):=za Hown2;have hc0:=hown2.cellAt k (by omega);rw[zz _ _ (by simp;omega),uU (by omega),uR]at hc0;have hf0:=hown2.frozenAt k;have hown3:=ji hown2 k (a%1000000000) ((a:Int)%1000000000) (by omega);have Hown3:=zb hown3;have Hb2:=zb hb2;clear hown2 hown3 hb2;go_wp2;go_roundw
      case rel=>exact⟨k+1,_,by omega,by go_num,by simpa using hLl,za Hown3,(za Hb2).setCell (ud _) _,(za Hinv).1,(za Hinv).2.1,(za Hinv).2.2,Hstep2⟩
      case measure=>simp[intOf];omega
    . obtain⟨a,ha⟩:∃a:Nat,a0=a:=⟨_,rfl⟩
      have ha2:a<=1999999999:=by omega
      have Haa:Hid (a0+ys.getD k 0=a):=by show _=_;rw[QP (by omega)];exact ha
      have hLs:L.set k a=L:=by rw[<-ha,<-za Ha0];exact List.set_getElem_self (by omega)
      have Hown1:=zb (show wr.ownsRow w.heap.size 173 1 (.slice (some ⟨w.heap.size,0,none⟩) (xs.length+1) (xs.length+1)) (xs.length+1) (zO (L.set k a))from by rw[hLs];exact hown);have Hb1:=zb hb;have hkyI:¬(k:Int)<ys.length:=by omega
      clear ha hown hb hLs hc0 hc1 hf0 hf1;obtain⟨W1,hW1⟩:∃W1,wr=W1:=⟨_,rfl⟩
      subst hW1;have hL1:(L.set k a).length=xs.length+1:=by simpa using hLl
      have hc0:=(za Hown1).cellAt k (by omega);rw[zz _ _ (by omega),uR]at hc0;have hc1:=(za Hown1).cellAt (k+1) (by omega);rw[zz _ _ (by simpa using hk1),uU (by omega),za Hx1e]at hc1;have hf0:=(za Hown1).frozenAt k;have hf1:=(za Hown1).frozenAt (k+1);obtain⟨q9,hq9⟩:∃q9,a/1000000000=q9:=⟨_,rfl⟩
      have hq9':q9<=1:=by omega
      have e2:(a:Int).tdiv 1000000000=q9:=by rw[Up (by omega)];omega
      have e3:=yN (q9:Int) (by omega) (by omega);have e4:=yN ((x1:Int)+q9) (by omega) (by omega);have hstep:=za Hstep a (za Haa) (by first|trivial|rfl) (za hval);rw[hq9]at hstep;have hinv:=@Qu 1000000000 L k (a%1000000000) (x1+q9) a hk1 (za hLt) (za hLd) (Ua _ (by omega)) (by omega);have hown2:=ji (za Hown1) (k+1) (x1+q9) ((x1:Int)+q9) (by omega);have Hinv:=zb hinv;have Hstep2:=zb hstep;have Hown2:=zb hown2;clear hstep hinv hown2;go_wp2
      go_region
      clear hc0 hc1 hf0 hf1 e2 e3 e4;have hb2:=((za Hb1).setCell (p:=⟨w.heap.size,k+1,none⟩) (ud _) (.int .u64 ((x1:Int)+q9))).drew;have hown2:(World.drew (World.setCell _ ⟨w.heap.size,k+1,none⟩ (.int .u64 ((x1:Int)+q9)))).ownsRow w.heap.size 173 1 (.slice (some ⟨w.heap.size,0,none⟩) (xs.length+1) (xs.length+1)) (xs.length+1) (zO ((L.set k a).set (k+1) (x1+q9))):=za Hown2;have hc0:=hown2.cellAt k (by omega);rw[zz _ _ (by simp;omega),uU (by omega),uR]at hc0;have hf0:=hown2.frozenAt k;have hown3:=ji hown2 k (a%1000000000) ((a:Int)%1000000000) (by omega);have Hown3:=zb hown3;have Hb2:=zb hb2;clear hown2 hown3 hb2;go_wp2;go_roundw
      case rel=>exact⟨k+1,_,by omega,by go_num,by simpa using hLl,za Hown3,(za Hb2).setCell (ud _) _,(za Hinv).1,(za Hinv).2.1,(za Hinv).2.2,Hstep2⟩
      case measure=>simp[intOf];omega
  . have hkn:k=xs.length:=by omega
    subst hkn;have hval':=za hval;rw[wT (by omega)]at hval';have hval2:zG 1000000000 L=x+y:=by simpa[zG]using hval'
    have htop:=YP hLl hval2 (za HV) (by omega);have hall:∀d∈L,d<1000000000:=by
     intro d hd;obtain⟨j,hj,rfl⟩:=dp hd;by_cases hjn:j=xs.length
     . subst hjn;exact htop
     . exact za hLt _ (by rw[List.mem_take_iff_getElem];exact⟨j,by omega,rfl⟩)
    have Hall:=zb hall;have Hv2:=zb hval2;clear hval' hval2 htop hall;go_wp2_with fail;refine(jY L w.heap.size _ _ (by omega) (za Hall) (by rw[hLl];exact hown)).mono ?_;rintro e w2⟨⟨v',rfl,hv'⟩,rfl⟩;rw[za Hv2]at hv';go_wp2;go_ret;exact⟨⟨v',rfl,hv'⟩,hb⟩
theorem zhc(x y:Nat)(v u:Value)(w:World)(hx:zy w v x)(hy:zy w u y)(hsx:(gr x).length<=1000000)(hsy:(gr y).length<=1000000):
  Calls Tryz.prog 208 #[v,u] w fun e w'=>(∃v',e=.returned v'/\isNatB w' w.heap.size v' (x+y))/\Below w.heap.size w w':=by
 by_cases hl:(gr y).length<=(gr x).length
 . exact zdj x y v u w hx hy hl hsx
 . have h:=zbf y x u v w hy hx (by omega) hsy
   rw[Nat.add_comm y x]at h;exact h
theorem X5{L:List Nat}{n j d:Nat}(h:∀t,n<=t->L.getD t 0=0)(hj:j<n):∀t,n<=t->(L.set j d).getD t 0=0:=by
 intro t ht;rw[uq,Wb (by omega),<-uq];exact h t ht
theorem V8{w:World}{base:Nat}{e:TypeId}{size:Nat}{v:Value}{n:Nat}{xs:List Value}{a:Addr}{u:Value}(h:(w.setCell a u).ownsRow base e size v n xs)(k:Nat):((w.drewN k).setCell a u).ownsRow base e size v n xs:=h
theorem YU{B:Nat}{a w:World}(h:Below B a w)(n:Nat):Below B a (w.drewN n):=⟨h.os,h.tape,h.output,h.size,h.block⟩
theorem zgm(x y:Nat)(v u:Value)(w:World)(hx:zy w v x)(hy:zy w u y)(hsx:(gr x).length<=1000000)(hsy:(gr y).length<=1000000):
  Calls Tryz.prog 188 #[v,u] w fun e w'=>(∃v',e=.returned v'/\isNatB w' w.heap.size v' (x*y))/\Below w.heap.size w w':=by
 obtain⟨i0,hi,hz0,hz1,hz2⟩:=Ue Tryz.infoU64;have hxd:=yw x;have hyd:=yw y;have hxo:=jM x;have hyo:=jM y;unfold zy at hx hy;generalize gr x=xs at *;generalize gr y=ys at *;obtain⟨p,cap,rfl⟩:=zq hx;obtain⟨q,cap2,rfl⟩:=zq hy;have Hxd:=zb hxd;have Hyd:=zb hyd;have Hx:=zb hx;have Hy:=zb hy;have Hxo:=zb hxo;have Hyo:=zb hyo;clear hxd hyd hxo hyo hx hy;go_enter Tryz.func188,Tryz.ntmps188;go_wp2_with (refine UY _ rfl (.tmp 13) (.tmp 13) 178 rfl w.heap.size 173 i0 (.int .u64 0) 1 UJ hi hz0 hz1 .i64 .i64 (xs.length+ys.length) (xs.length+ys.length) (xs.length+ys.length) rfl rfl (by go_num) (by go_num) (by rw[hz2];omega) (by unfold maxLen;omega) (ud _) ?_;intro w1 hown1 hg1)
 go_loopw [17] (fun i wr=>∃(k:Nat)(L:List Nat),k<=xs.length/\i=.int .i64 (k:Int)/\L.length=xs.length+ys.length/\
   wr.ownsRow w.heap.size 173 1 (.slice (some ⟨w.heap.size,0,none⟩) (xs.length+ys.length) (xs.length+ys.length)) (xs.length+ys.length) (zO L)/\Below w.heap.size w wr/\
   Hid (∀d∈L,d<1000000000)/\Hid (∀t,k+ys.length<=t->L.getD t 0=0)/\Hid (zG 1000000000 L=zG 1000000000 (xs.take k)*zG 1000000000 ys))
  (fun i _=>(xs.length-intOf i).toNat)
 case atStart=>
  refine⟨0,List.replicate (xs.length+ys.length) 0,uD _,rfl,by simp,?_,(ue _ _).grown hg1 (ud _) (fun _ h=>by cases h),?_,?_,?_⟩
  . simpa[Value.cells,Ul,jC]using hown1
  . intro d hd;simp at hd;omega
  . intro t _;rw[uq,Wc];split<;>rfl
  . show _=_;simp[zG,qD]
 case round=>
  clear hown1 hg1;obtain⟨k,L,hk,rfl,hLl,hown,hb,hLd,hLz,hval⟩:=hrel;by_cases hlt:k<xs.length
  . obtain⟨g,rfl,hcx⟩:=kk (zu (za Hx) hb) k hlt
    have hxk:xs[k]'hlt<1000000000:=za Hxd _ (uF _);obtain⟨xk,hxe⟩:∃xk,xs[k]'hlt=xk:=⟨_,rfl⟩
    rw[hxe]at hcx hxk;have Hxe:=zb hxe;have hkI:(k:Int)<xs.length:=by omega
    have Hown:=zb hown;clear hxe hown hcx;go_wp2
    go_loopw [7,22] (fun cv jv wr=>∃(j c:Nat)(L:List Nat),j<=ys.length/\jv=.int .i64 (j:Int)/\cv=.int .u64 (c:Int)/\c<1000000000/\L.length=xs.length+ys.length/\
      wr.ownsRow w.heap.size 173 1 (.slice (some ⟨w.heap.size,0,none⟩) (xs.length+ys.length) (xs.length+ys.length)) (xs.length+ys.length) (zO L)/\Below w.heap.size w wr/\
      Hid (∀d∈L,d<1000000000)/\Hid (∀t,k+ys.length<=t->L.getD t 0=0)/\Hid (zG 1000000000 L+c*1000000000^(k+j)=zG 1000000000 (xs.take k)*zG 1000000000 ys+1000000000^k*(xk*zG 1000000000 (ys.take j))))
     (fun _ jv _=>(ys.length-intOf jv).toNat)
    case atStart=>
     refine⟨0,0,L,uD _,rfl,rfl,by omega,hLl,za Hown,hb,hLd,hLz,?_⟩;show _=_;rw[za hval];simp[zG]
    case round=>
     clear Hown hb hLd hLz hval hLl;obtain⟨j,c,L,hj,rfl,rfl,hc,hLl,hown,hb,hLd,hLz,hval⟩:=hrel;by_cases hjl:j<ys.length
     . obtain⟨g2,rfl,hcy⟩:=kk (zu (za Hy) hb) j hjl
       obtain⟨g',hg',hcx⟩:=kk (zu (za Hx) hb) k hlt;obtain rfl:g'=g:=by simpa using hg'.symm
       have hyk:ys[j]'hjl<1000000000:=za Hyd _ (uF _);obtain⟨yk,hye⟩:∃yk,ys[j]'hjl=yk:=⟨_,rfl⟩
       rw[hye]at hcy hyk;rw[za Hxe]at hcx;have hkj:k+j<L.length:=by omega
       have hcL:=hown.cellAt (k+j) (by omega);rw[zz _ _ hkj]at hcL;have hfL:=hown.frozenAt (k+j);have hLk:L[k+j]'hkj<1000000000:=za hLd _ (uF _);have hstep:=fun t=>@zbC 1000000000 L ys k j c t xk yk (zG 1000000000 (xs.take k)*zG 1000000000 ys) hkj (by rw[yL hjl];exact hye)
       obtain⟨lk,hle⟩:∃lk,L[k+j]'hkj=lk:=⟨_,rfl⟩
       rw[hle]at hcL hLk hstep;have hxy:xk*yk<=999999999*999999999:=WH (by omega) (by omega);obtain⟨m,hm⟩:∃m,xk*yk=m:=⟨_,rfl⟩
       rw[hm]at hxy hstep;have e0:IntKind.u64.wrap ((xk:Int)*yk)=(m:Int):=by rw[show(xk:Int)*yk=(m:Int)from by rw[<-hm];simp];exact yN _ (by omega) (by omega)
       obtain⟨s1,hs1⟩:∃s1,lk+m=s1:=⟨_,rfl⟩
       have e1:IntKind.u64.wrap ((lk:Int)+m)=(s1:Int):=by rw[show(lk:Int)+m=(s1:Int)from by omega];exact yN _ (by omega) (by omega)
       obtain⟨t,ht⟩:∃t,s1+c=t:=⟨_,rfl⟩
       have e2:IntKind.u64.wrap ((c:Int)+s1)=(t:Int):=by rw[show(c:Int)+s1=(t:Int)from by omega];exact yN _ (by omega) (by omega)
       have ht9:t<=999999999999999999:=by omega
       have hst:=hstep t (by omega) (za hval);have Hst:=zb hst;have hjI:(j:Int)<ys.length:=by omega
       have hown2:=fun v hv=>ji hown (k+j) (t%1000000000) v hv
       have Hown2:=zb hown2;have hkj2:(k:Int)+j<xs.length+ys.length:=by omega
       clear hstep hst hye hle hm hs1 ht hown2 hg';go_wp2
       go_quiet (fail)
       go_wp2;go_roundw
       case rel=>exact⟨j+1,t/1000000000,L.set (k+j) (t%1000000000),by omega,by go_num,by go_num,by omega,by simpa using hLl,V8 (za Hown2 _ (by omega)) nq,(YU hb nq).setCell (ud _) _,jp (za hLd) (Ua _ (by omega)),X5 (za hLz) (by omega),za Hst⟩
       case measure=>simp[intOf];omega
     . have hjn:j=ys.length:=by omega
       have hkm:k+ys.length<L.length:=by omega
       have hz:=za hLz (k+ys.length) (ud _);rw[yL hkm]at hz;have hval':=za hval;rw[hjn]at hval';have hrow:=@zdB 1000000000 L xs ys k ys.length c hkm rfl hz (by rw[yL hlt,za Hxe];exact hval');have hcL:=hown.cellAt (k+ys.length) (by omega);rw[zz _ _ hkm]at hcL;have hfL:=hown.frozenAt (k+ys.length);obtain⟨lk,hle⟩:∃lk,L[k+ys.length]'hkm=lk:=⟨_,rfl⟩
       rw[hle]at hcL;have hown2:=fun v hv=>ji hown (k+ys.length) c v hv
       have Hown2:=zb hown2;have Hrow:=zb hrow;have hkm2:(k:Int)+ys.length<xs.length+ys.length:=by omega
       clear hz hval' hrow hle hown2;go_wp2;go_roundw
       case rel=>exact⟨k+1,L.set (k+ys.length) c,by omega,by go_num,by simpa using hLl,za Hown2 _ rfl,hb.setCell (ud _) _,jp (za hLd) hc,fun t ht=>X5 (n:=k+1+ys.length) (fun t ht=>za hLz t (by omega)) (by omega) t ht,za Hrow⟩
       case measure=>simp[intOf];omega
  . have hkn:k=xs.length:=by omega
    subst hkn;have hval':=za hval;rw[uz (by omega),za Hxo,za Hyo]at hval';have Hv:=zb hval';clear hval';go_wp2_with fail;refine(jY L w.heap.size _ _ (by omega) (za hLd) (by rw[hLl];exact hown)).mono ?_;rintro e w2⟨⟨v',rfl,hv'⟩,rfl⟩;rw[za Hv]at hv';go_wp2;go_ret;exact⟨⟨v',rfl,hv'⟩,hb⟩
def AtC(w:World)(b:Nat)(cs:Array Value)(T:TypeId):Prop:=w.heap[b]? =some (.cells cs T (0,0))
theorem AtC.lt{w:World}{b:Nat}{cs:Array Value}{T:TypeId}(h:AtC w b cs T):b<w.heap.size:=(uu.1 h).1
theorem AtC.new(w:World)(cs:Array Value)(T:TypeId):AtC (w.alloc (.cells cs T)) w.heap.size cs T:=by
 show(w.heap.push _)[w.heap.size]? =_;rw[WG,uj rfl]
theorem AtC.below{w w':World}{b:Nat}{cs:Array Value}{T:TypeId}(h:AtC w b cs T)(k:Below w.heap.size w w'):AtC w' b cs T:=(k.block b h.lt).trans h
theorem AtC.alloc{w:World}{b:Nat}{cs:Array Value}{T:TypeId}(h:AtC w b cs T)(o:Obj):AtC (w.alloc o) b cs T:=h.below ((ue _ _).alloc (ud _) o)
theorem AtC.drew{w:World}{b:Nat}{cs:Array Value}{T:TypeId}(h:AtC w b cs T):AtC w.drew b cs T:=h
theorem AtC.c{w:World}{b:Nat}{cs:Array Value}{T:TypeId}(h:AtC w b cs T)(j:Nat):w.cell? ⟨b,j,none⟩=cs[j]? :=by unfold AtC at h;simp[World.cell?,h]
theorem AtC.f{w:World}{b:Nat}{cs:Array Value}{T:TypeId}(h:AtC w b cs T)(j:Nat):w.frozen? ⟨b,j,none⟩=false:=by unfold AtC at h;simp[World.frozen?,h]
theorem far2{w:World}{b i j:Nat}{u v:Value}{a:Addr}(h:b≠a.block):((w.setCell ⟨b,i,none⟩ u).setCell ⟨b,j,none⟩ v).cell? a=w.cell? a:=by
 rw[World.cell?_setCell_far _ _ _ _ h,World.cell?_setCell_far _ _ _ _ h]
def ql(n:Bool)(v:Value):Value:=.agg #[.bool n,v]
def yB(a b:Bool×Nat):Bool×Nat:=if a.1=b.1 then(a.1,a.2+b.2)else if a.2<b.2 then(b.1,b.2-a.2)else(a.1,a.2-b.2)
def zfM(w:World)(u:Value)(a:Bool×Nat):Prop:=∃v,u=ql a.1 v/\zy w v a.2
def xX(w:World)(base:Nat)(u:Value)(a:Bool×Nat):Prop:=∃v,u=ql a.1 v/\isNatB w base v a.2
theorem qH{w:World}{base b i:Nat}{v u:Value}{x:Nat}(h:isNatB w base v x)(hb:b<base):isNatB (w.setCell ⟨b,i,none⟩ u) base v x:=WU h hb u
theorem zhn(n:Bool)(v:Value)(x:Nat)(w:World)(hx:zy w v x):
  Calls Tryz.prog 190 #[ql n v] w fun e w'=>(∃u,e=.returned u/\zfM w' u (!n,x))/\Below w.heap.size w w':=by
 obtain⟨p,cap,rfl⟩:=zq hx;have Hx:=zb hx;clear hx;unfold ql;go_enter Tryz.func190,Tryz.ntmps190;go_wp2;refine um (v:=.agg #[.bool (!n),.slice p (gr x).length cap]) (by simp[results,Tryz.results190,go_sem]) rfl ⟨⟨_,rfl,⟨_,rfl,?_⟩⟩,?_⟩
 . exact zt (za Hx) (((ue _ _).alloc (ud _) _).alloc (by simp) _)
 . exact((ue _ _).alloc (ud _) _).alloc (by simp) _
theorem zfh(n m:Bool)(v u:Value)(x y:Nat)(w:World)(hx:zy w v x)(hy:zy w u y)(hsx:(gr x).length<=1000000)(hsy:(gr y).length<=1000000):
  Calls Tryz.prog 161 #[ql n v,ql m u] w fun e w'=>(∃z,e=.returned z/\xX w' w.heap.size z (n != m,x*y))/\Below w.heap.size w w':=by
 obtain⟨p,cap,rfl⟩:=zq hx;obtain⟨q,cap2,rfl⟩:=zq hy;obtain⟨lx,hlx⟩:∃l,(gr x).length=l:=⟨_,rfl⟩
 obtain⟨ly,hly⟩:∃l,(gr y).length=l:=⟨_,rfl⟩
 rw[hlx]at hx;rw[hly]at hy;rw[hlx,hly]
 have hW:Below w.heap.size w (((w.alloc (.cells #[.bool n,.slice p lx cap] 183)).alloc (.cells #[.bool m,.slice q ly cap2] 183)).alloc (.cells #[.bool false,.slice none 0 0] 183)):=
  (((ue _ _).alloc (ud _) _).alloc (by simp) _).alloc (by simp;omega) _
 have Hx:=zb (zt hx hW);have Hy:=zb (zt hy hW);have HW:=zb hW;have HA:=zb (((AtC.new w #[.bool n,.slice p lx cap] 183).alloc (.cells #[.bool m,.slice q ly cap2] 183)).alloc (.cells #[.bool false,.slice none 0 0] 183));have HB:=zb ((AtC.new (w.alloc (.cells #[.bool n,.slice p lx cap] 183)) #[.bool m,.slice q ly cap2] 183).alloc (.cells #[.bool false,.slice none 0 0] 183));have HC:=zb (AtC.new ((w.alloc (.cells #[.bool n,.slice p lx cap] 183)).alloc (.cells #[.bool m,.slice q ly cap2] 183)) #[.bool false,.slice none 0 0] 183);have Hl:=zb (And.intro hlx hly);clear hx hy hW hlx hly;rw[uk]at HB;rw[uk,uk]at HC;unfold ql;go_enter Tryz.func161,Tryz.ntmps161;go_wp2
 go_region_held3 (fun w'=>w'.cell? ⟨w.heap.size,0,none⟩=some (.bool n)/\w'.cell? ⟨w.heap.size,1,none⟩=some (.slice p lx cap)/\w'.cell? ⟨w.heap.size+1,0,none⟩=some (.bool m)/\w'.cell? ⟨w.heap.size+1,1,none⟩=some (.slice q ly cap2)) (((try dsimp only);(repeat' apply And.intro)<;>(first|assumption|(rw[far2 (by first|(simp;done)|(simp;omega))];assumption)|go_keep))) (first|(go_at_call 188;refine(zgm x y _ _ _ (by first|exact za Hx) (by first|exact za Hy) hsx hsy).mono ?_;rintro e w1⟨⟨z,rfl,hz⟩,hb1⟩;obtain⟨zp,zc,rfl⟩:=zq hz;have hA:=(za HA).drew.below hb1;have hB:=(za HB).drew.below hb1;have hC:=(za HC).drew.below hb1;have a0:w1.cell? ⟨w.heap.size,0,none⟩=some (.bool n):=hA.c 0;have a1:w1.cell? ⟨w.heap.size,1,none⟩=some (.slice p lx cap):=hA.c 1;have b0:w1.cell? ⟨w.heap.size+1,0,none⟩=some (.bool m):=hB.c 0;have b1:w1.cell? ⟨w.heap.size+1,1,none⟩=some (.slice q ly cap2):=hB.c 1;have c0:w1.cell? ⟨w.heap.size+1+1,0,none⟩=some (.bool false):=hC.c 0;have c1:w1.cell? ⟨w.heap.size+1+1,1,none⟩=some (.slice none 0 0):=hC.c 1;have cf:=hC.f;have Hz:=zb hz;have Hb1:=zb hb1;clear hA hB hC hz hb1))
 have hfin:Below w.heap.size w w1:=(za HW).drew.trans ((za Hb1).mono (za HW).drew.size);have hs:=(za HC).drew.below (za Hb1) |>.lt;have Hfin:=zb hfin;clear hfin;go_wp2;refine um (v:=.agg #[.bool (n != m),.slice zp (gr (x*y)).length zc]) (by simp[results,Tryz.results161,go_sem,c0,c1];cases n<;>cases m<;>rfl) rfl ⟨⟨_,rfl,⟨_,rfl,?_⟩⟩,?_⟩
 . have h0:=za Hz
   have h1:=qH h0 (b:=w.heap.size+1+1) (i:=0) (u:=.bool (n != m)) (by simp);exact zV (qH h1 (b:=w.heap.size+1+1) (i:=1) (by simp)) (by simp;omega)
 . exact((za Hfin).setCell (by show w.heap.size<=w.heap.size+1+1;omega) _).setCell (by show w.heap.size<=w.heap.size+1+1;omega) _
theorem AtC.put2{w:World}{b:Nat}{x y:Value}{T:TypeId}(h:AtC w b #[x,y] T)(u v:Value):AtC ((w.setCell ⟨b,0,none⟩ u).setCell ⟨b,1,none⟩ v) b #[u,v] T:=by
 have h1:(w.setCell ⟨b,0,none⟩ u).heap[b]? =some (.cells #[u,y] T (0,0)):=by
  show(w.heap.modify b _)[b]? =_;rw[UN,uj rfl,show w.heap[b]? =_ from h];rfl
 show((w.setCell ⟨b,0,none⟩ u).heap.modify b _)[b]? =_;rw[UN,uj rfl,h1];rfl
theorem AtC.far2{w:World}{b c:Nat}{cs:Array Value}{T:TypeId}(h:AtC w b cs T)(hc:b≠c)(u v:Value)(i j:Nat):AtC ((w.setCell ⟨c,i,none⟩ u).setCell ⟨c,j,none⟩ v) b cs T:=by
 unfold AtC;rw[Uj _ _ _ _ hc,Uj _ _ _ _ hc];exact h
theorem zbe(n:Bool)(x y:Nat):yB (n,x) (n,y)=(n,x+y):=by simp[yB]
theorem zeQ{n m:Bool}(h:n≠m){x y:Nat}(hl:x<y):yB (n,x) (m,y)=(m,y-x):=by simp[yB,h,hl]
theorem zeP{n m:Bool}(h:n≠m){x y:Nat}(hl:¬x<y):yB (n,x) (m,y)=(n,x-y):=by simp[yB,h,hl]
theorem zbF(n m:Bool)(v u:Value)(x y:Nat)(w:World)(hnm:n=m)(hx:zy w v x)(hy:zy w u y)(hsx:(gr x).length<=1000000)(hsy:(gr y).length<=1000000):
  Calls Tryz.prog 189 #[ql n v,ql m u] w fun e w'=>(∃z,e=.returned z/\xX w' w.heap.size z (yB (n,x) (m,y)))/\Below w.heap.size w w':=by
 have hp:yB (n,x) (m,y)=(n,x+y):=by rw[<-hnm,zbe]
 rw[hp];clear hp;have hb:(n==m)=true:=by rw[hnm];simp
 obtain⟨p,cap,rfl⟩:=zq hx;obtain⟨q,cap2,rfl⟩:=zq hy;obtain⟨lx,hlx⟩:∃l,(gr x).length=l:=⟨_,rfl⟩
 obtain⟨ly,hly⟩:∃l,(gr y).length=l:=⟨_,rfl⟩
 rw[hlx]at hx;rw[hly]at hy;rw[hlx,hly]
 have hW:Below w.heap.size w (((w.alloc (.cells #[.bool n,.slice p lx cap] 183)).alloc (.cells #[.bool m,.slice q ly cap2] 183)).alloc (.cells #[.bool false,.slice none 0 0] 183)):=
  (((ue _ _).alloc (ud _) _).alloc (by simp) _).alloc (by simp;omega) _
 have Hx0:=zb hx;have Hy0:=zb hy;have Hx:=zb (zt hx hW);have Hy:=zb (zt hy hW);have HW:=zb hW;have HA:=zb (((AtC.new w #[.bool n,.slice p lx cap] 183).alloc (.cells #[.bool m,.slice q ly cap2] 183)).alloc (.cells #[.bool false,.slice none 0 0] 183));have HB:=zb ((AtC.new (w.alloc (.cells #[.bool n,.slice p lx cap] 183)) #[.bool m,.slice q ly cap2] 183).alloc (.cells #[.bool false,.slice none 0 0] 183));have HC:=zb (AtC.new ((w.alloc (.cells #[.bool n,.slice p lx cap] 183)).alloc (.cells #[.bool m,.slice q ly cap2] 183)) #[.bool false,.slice none 0 0] 183);have Hl:=zb (And.intro hlx hly);clear hx hy hW hlx hly;rw[uk]at HB;rw[uk,uk]at HC;unfold ql;clear hnm;go_enter Tryz.func189,Tryz.ntmps189;go_wp2
 go_region_held3 (fun w'=>w'.cell? ⟨w.heap.size,0,none⟩=some (.bool n)/\w'.cell? ⟨w.heap.size,1,none⟩=some (.slice p lx cap)/\w'.cell? ⟨w.heap.size+1,0,none⟩=some (.bool m)/\w'.cell? ⟨w.heap.size+1,1,none⟩=some (.slice q ly cap2)) (((try dsimp only);(repeat' apply And.intro)<;>(first|assumption|(rw[far2 (by first|(simp;done)|(simp;omega))];assumption)|go_keep))) (first|(go_at_call 208;refine(zhc x y _ _ _ (by first|exact za Hx) (by first|exact za Hy) hsx hsy).mono ?_;rintro e w1⟨⟨z,rfl,hz⟩,hb1⟩;obtain⟨zp,zc,rfl⟩:=zq hz;have hA:=(za HA).drew.below hb1;have hB:=(za HB).drew.below hb1;have hC:=(za HC).drew.below hb1;have a0:w1.cell? ⟨w.heap.size,0,none⟩=some (.bool n):=hA.c 0;have a1:w1.cell? ⟨w.heap.size,1,none⟩=some (.slice p lx cap):=hA.c 1;have b0:w1.cell? ⟨w.heap.size+1,0,none⟩=some (.bool m):=hB.c 0;have b1:w1.cell? ⟨w.heap.size+1,1,none⟩=some (.slice q ly cap2):=hB.c 1;have c0:w1.cell? ⟨w.heap.size+1+1,0,none⟩=some (.bool false):=hC.c 0;have c1:w1.cell? ⟨w.heap.size+1+1,1,none⟩=some (.slice none 0 0):=hC.c 1;have cf:=hC.f;have Hz:=zb hz;have Hb1:=zb hb1;clear hA hB hC hz hb1))
 have hfin:Below w.heap.size w w1:=(za HW).drew.trans ((za Hb1).mono (za HW).drew.size);have hs:=(za HC).drew.below (za Hb1) |>.lt;have Hfin:=zb hfin;clear hfin;go_wp2;refine um (v:=.agg #[.bool n,.slice zp (gr (x+y)).length zc]) (by simp[results,Tryz.results189,go_sem,c0,c1]) rfl ⟨⟨_,rfl,⟨_,rfl,?_⟩⟩,?_⟩
 . have h0:=za Hz
   have h1:=qH h0 (b:=w.heap.size+1+1) (i:=0) (u:=.bool n) (by simp);exact zV (qH h1 (b:=w.heap.size+1+1) (i:=1) (by simp)) (by simp;omega)
 . exact((za Hfin).setCell (by show w.heap.size<=w.heap.size+1+1;omega) _).setCell (by show w.heap.size<=w.heap.size+1+1;omega) _
theorem zff(n m:Bool)(v u:Value)(x y:Nat)(w:World)(hnm:n≠m)(hl:¬x<y)(hx:zy w v x)(hy:zy w u y)(hsx:(gr x).length<=1000000)(hsy:(gr y).length<=1000000):
  Calls Tryz.prog 189 #[ql n v,ql m u] w fun e w'=>(∃z,e=.returned z/\xX w' w.heap.size z (yB (n,x) (m,y)))/\Below w.heap.size w w':=by
 rw[zeP hnm hl];have hb:(n==m)=false:=by simp[hnm]
 have hd:decide (x<y)=false:=uw hl;have hle:y<=x:=by omega
 obtain⟨p,cap,rfl⟩:=zq hx;obtain⟨q,cap2,rfl⟩:=zq hy;obtain⟨lx,hlx⟩:∃l,(gr x).length=l:=⟨_,rfl⟩
 obtain⟨ly,hly⟩:∃l,(gr y).length=l:=⟨_,rfl⟩
 rw[hlx]at hx;rw[hly]at hy;rw[hlx,hly]
 have hW:Below w.heap.size w (((w.alloc (.cells #[.bool n,.slice p lx cap] 183)).alloc (.cells #[.bool m,.slice q ly cap2] 183)).alloc (.cells #[.bool false,.slice none 0 0] 183)):=
  (((ue _ _).alloc (ud _) _).alloc (by simp) _).alloc (by simp;omega) _
 have Hx0:=zb hx;have Hy0:=zb hy;have Hx:=zb (zt hx hW);have Hy:=zb (zt hy hW);have HW:=zb hW;have HA:=zb (((AtC.new w #[.bool n,.slice p lx cap] 183).alloc (.cells #[.bool m,.slice q ly cap2] 183)).alloc (.cells #[.bool false,.slice none 0 0] 183));have HB:=zb ((AtC.new (w.alloc (.cells #[.bool n,.slice p lx cap] 183)) #[.bool m,.slice q ly cap2] 183).alloc (.cells #[.bool false,.slice none 0 0] 183));have HC:=zb (AtC.new ((w.alloc (.cells #[.bool n,.slice p lx cap] 183)).alloc (.cells #[.bool m,.slice q ly cap2] 183)) #[.bool false,.slice none 0 0] 183);have Hl:=zb (And.intro hlx hly);clear hx hy hW hlx hly;rw[uk]at HB;rw[uk,uk]at HC;unfold ql;clear hnm hl;go_enter Tryz.func189,Tryz.ntmps189;go_wp2_with fail;have h:=Kj x y (.slice p lx cap) (.slice q ly cap2) _ (za Hx) (za Hy) (by omega) (by omega);refine h.mono ?_;clear h;rw[hd];rintro e w0⟨rfl,hb0⟩;have hA0:=(za HA).below hb0;have hB0:=(za HB).below hb0;have hC0:=(za HC).below hb0;have HW0:=zb ((za HW).trans (hb0.mono (za HW).size));have ca0:=hA0.c 0;have ca1:=hA0.c 1;have cb0:=hB0.c 0;have cb1:=hB0.c 1;have fa:=hA0.f;have fb:=hB0.f;simp at ca0 ca1 cb0 cb1;have HA0:=zb hA0;have HB0:=zb hB0;have HC0:=zb hC0;clear hA0 hB0 hC0 hb0;go_wp2
 go_region_held3 (fun w'=>w'.cell? ⟨w.heap.size,0,none⟩=some (.bool n)/\w'.cell? ⟨w.heap.size,1,none⟩=some (.slice p lx cap)/\w'.cell? ⟨w.heap.size+1,0,none⟩=some (.bool m)/\w'.cell? ⟨w.heap.size+1,1,none⟩=some (.slice q ly cap2)) (((try dsimp only);(repeat' apply And.intro)<;>(first|assumption|(rw[far2 (by first|(simp;done)|(simp;omega))];assumption)|go_keep))) (first|(go_at_call 209;refine(zbZ x y _ _ _ (by exact zt (za Hx0) (za HW0).drew) (by exact zt (za Hy0) (za HW0).drew) hle hsx).mono ?_;rintro e w1⟨⟨z,rfl,hz⟩,hb1⟩;obtain⟨zp,zc,rfl⟩:=zq hz;have hA:=(za HA0).drew.below hb1;have hB:=(za HB0).drew.below hb1;have hC:=(za HC0).drew.below hb1;have a0:=hA.c 0;have a1:=hA.c 1;have b0:=hB.c 0;have b1:=hB.c 1;simp at a0 a1 b0 b1;have c0:w1.cell? ⟨w.heap.size+1+1,0,none⟩=some (.bool false):=hC.c 0;have c1:w1.cell? ⟨w.heap.size+1+1,1,none⟩=some (.slice none 0 0):=hC.c 1;have cf:=hC.f;have Hz:=zb hz;have Hb1:=zb hb1;clear hA hB hC hz hb1))
 have hbig:w.heap.size+1+1<(w0).heap.size:=(za HC0).lt;have hfin:Below w.heap.size w w1:=(za HW0).drew.trans ((za Hb1).mono (za HW0).drew.size);have hs:=(za HC0).drew.below (za Hb1) |>.lt;have Hfin:=zb hfin;clear hfin;go_wp2;refine um (v:=.agg #[.bool n,.slice zp (gr (x-y)).length zc]) (by simp[results,Tryz.results189,go_sem,c0,c1]) rfl ⟨⟨_,rfl,⟨_,rfl,?_⟩⟩,?_⟩
 . have h0:=za Hz
   have h1:=qH h0 (b:=w.heap.size+1+1) (i:=0) (u:=.bool n) (by simpa using hbig);exact zV (qH h1 (b:=w.heap.size+1+1) (i:=1) (by simpa using hbig)) (by simp;omega)
 . exact((za Hfin).setCell (by show w.heap.size<=w.heap.size+1+1;omega) _).setCell (by show w.heap.size<=w.heap.size+1+1;omega) _
theorem zfg(n m:Bool)(v u:Value)(x y:Nat)(w:World)(hnm:n≠m)(hl:x<y)(hx:zy w v x)(hy:zy w u y)(hsx:(gr x).length<=1000000)(hsy:(gr y).length<=1000000):
  Calls Tryz.prog 189 #[ql n v,ql m u] w fun e w'=>(∃z,e=.returned z/\xX w' w.heap.size z (yB (n,x) (m,y)))/\Below w.heap.size w w':=by
 rw[zeQ hnm hl];have hb:(n==m)=false:=by simp[hnm]
 have hd:decide (x<y)=true:=uy hl;have hle:x<=y:=by omega
 obtain⟨p,cap,rfl⟩:=zq hx;obtain⟨q,cap2,rfl⟩:=zq hy;obtain⟨lx,hlx⟩:∃l,(gr x).length=l:=⟨_,rfl⟩
 obtain⟨ly,hly⟩:∃l,(gr y).length=l:=⟨_,rfl⟩
 rw[hlx]at hx;rw[hly]at hy;rw[hlx,hly]
 have hW:Below w.heap.size w (((w.alloc (.cells #[.bool n,.slice p lx cap] 183)).alloc (.cells #[.bool m,.slice q ly cap2] 183)).alloc (.cells #[.bool false,.slice none 0 0] 183)):=
  (((ue _ _).alloc (ud _) _).alloc (by simp) _).alloc (by simp;omega) _
 have Hx0:=zb hx;have Hy0:=zb hy;have Hx:=zb (zt hx hW);have Hy:=zb (zt hy hW);have HW:=zb hW;have HA:=zb (((AtC.new w #[.bool n,.slice p lx cap] 183).alloc (.cells #[.bool m,.slice q ly cap2] 183)).alloc (.cells #[.bool false,.slice none 0 0] 183));have HB:=zb ((AtC.new (w.alloc (.cells #[.bool n,.slice p lx cap] 183)) #[.bool m,.slice q ly cap2] 183).alloc (.cells #[.bool false,.slice none 0 0] 183));have HC:=zb (AtC.new ((w.alloc (.cells #[.bool n,.slice p lx cap] 183)).alloc (.cells #[.bool m,.slice q ly cap2] 183)) #[.bool false,.slice none 0 0] 183);have Hl:=zb (And.intro hlx hly);clear hx hy hW hlx hly;rw[uk]at HB;rw[uk,uk]at HC;unfold ql;clear hnm hl;go_enter Tryz.func189,Tryz.ntmps189;go_wp2_with fail;have h:=Kj x y (.slice p lx cap) (.slice q ly cap2) _ (za Hx) (za Hy) (by omega) (by omega);refine h.mono ?_;clear h;rw[hd];rintro e w0⟨rfl,hb0⟩;have hA0:=(za HA).below hb0;have hB0:=(za HB).below hb0;have hC0:=(za HC).below hb0;have HW0:=zb ((za HW).trans (hb0.mono (za HW).size));have ca0:=hA0.c 0;have ca1:=hA0.c 1;have cb0:=hB0.c 0;have cb1:=hB0.c 1;have fa:=hA0.f;have fb:=hB0.f;simp at ca0 ca1 cb0 cb1;have HA0:=zb ((hA0.put2 (.bool m) (.slice q ly cap2)).far2 (c:=w.heap.size+1) (by omega) (.bool n) (.slice p lx cap) 0 1);have HB0:=zb ((hB0.far2 (c:=w.heap.size) (by omega) (.bool m) (.slice q ly cap2) 0 1).put2 (.bool n) (.slice p lx cap));have HC0:=zb ((hC0.far2 (c:=w.heap.size) (by omega) (.bool m) (.slice q ly cap2) 0 1).far2 (c:=w.heap.size+1) (by omega) (.bool n) (.slice p lx cap) 0 1);have HW1:=zb (((((za HW0).setCell (p:=⟨w.heap.size,0,none⟩) (ud _) (.bool m)).setCell (p:=⟨w.heap.size,1,none⟩) (ud _) (.slice q ly cap2)).setCell (p:=⟨w.heap.size+1,0,none⟩) (by show w.heap.size<=w.heap.size+1;omega) (.bool n)).setCell (p:=⟨w.heap.size+1,1,none⟩) (by show w.heap.size<=w.heap.size+1;omega) (.slice p lx cap));clear hA0 hB0 hC0 hb0;go_wp2;clear ca0 ca1 cb0 cb1 fa fb;generalize (((w0.setCell ⟨w.heap.size,0,none⟩ (.bool m)).setCell ⟨w.heap.size,1,none⟩ (.slice q ly cap2)).setCell ⟨w.heap.size+1,0,none⟩ (.bool n)).setCell ⟨w.heap.size+1,1,none⟩ (.slice p lx cap)=W1 at *;have ca0:=(za HA0).c 0;have ca1:=(za HA0).c 1;have cb0:=(za HB0).c 0;have cb1:=(za HB0).c 1;simp at ca0 ca1 cb0 cb1;go_wp2
 go_region_held3 (fun w'=>w'.cell? ⟨w.heap.size,0,none⟩=some (.bool m)/\w'.cell? ⟨w.heap.size,1,none⟩=some (.slice q ly cap2)/\w'.cell? ⟨w.heap.size+1,0,none⟩=some (.bool n)/\w'.cell? ⟨w.heap.size+1,1,none⟩=some (.slice p lx cap)) (((try dsimp only);(repeat' apply And.intro)<;>(first|assumption|(rw[far2 (by first|(simp;done)|(simp;omega))];assumption)|go_keep))) (first|(go_at_call 209;refine(zbZ y x _ _ _ (by exact zt (za Hy0) (za HW1).drew) (by exact zt (za Hx0) (za HW1).drew) hle hsy).mono ?_;rintro e w1⟨⟨z,rfl,hz⟩,hb1⟩;obtain⟨zp,zc,rfl⟩:=zq hz;have hA:=(za HA0).drew.below hb1;have hB:=(za HB0).drew.below hb1;have hC:=(za HC0).drew.below hb1;have a0:=hA.c 0;have a1:=hA.c 1;have b0:=hB.c 0;have b1:=hB.c 1;simp at a0 a1 b0 b1;have c0:w1.cell? ⟨w.heap.size+1+1,0,none⟩=some (.bool false):=hC.c 0;have c1:w1.cell? ⟨w.heap.size+1+1,1,none⟩=some (.slice none 0 0):=hC.c 1;have cf:=hC.f;have Hz:=zb hz;have Hb1:=zb hb1;clear hA hB hC hz hb1))
 have hbig:w.heap.size+1+1<(W1).heap.size:=(za HC0).lt;have hfin:Below w.heap.size w w1:=(za HW1).drew.trans ((za Hb1).mono (za HW1).drew.size);have hs:=(za HC0).drew.below (za Hb1) |>.lt;have Hfin:=zb hfin;clear hfin;go_wp2;refine um (v:=.agg #[.bool m,.slice zp (gr (y-x)).length zc]) (by simp[results,Tryz.results189,go_sem,c0,c1]) rfl ⟨⟨_,rfl,⟨_,rfl,?_⟩⟩,?_⟩
 . have h0:=za Hz
   have h1:=qH h0 (b:=w.heap.size+1+1) (i:=0) (u:=.bool m) (by simpa using hbig);exact zV (qH h1 (b:=w.heap.size+1+1) (i:=1) (by simpa using hbig)) (by simp;omega)
 . exact((za Hfin).setCell (by show w.heap.size<=w.heap.size+1+1;omega) _).setCell (by show w.heap.size<=w.heap.size+1+1;omega) _
theorem zgu(n m:Bool)(v u:Value)(x y:Nat)(w:World)(hx:zy w v x)(hy:zy w u y)(hsx:(gr x).length<=1000000)(hsy:(gr y).length<=1000000):
  Calls Tryz.prog 189 #[ql n v,ql m u] w fun e w'=>(∃z,e=.returned z/\xX w' w.heap.size z (yB (n,x) (m,y)))/\Below w.heap.size w w':=by
 by_cases hnm:n=m
 . exact zbF n m v u x y w hnm hx hy hsx hsy
 . by_cases hl:x<y
   . exact zfg n m v u x y w hnm hl hx hy hsx hsy
   . exact zff n m v u x y w hnm hl hx hy hsx hsy
def zhw(n m:Bool)(v u:Value):Value:=.agg #[.bool n,v,.bool m,u]
def yH(L:List Nat)(i k:Nat):Nat:=zG 1000000000 ((L.drop i).take k)
theorem zap(L:List Nat)(i:Nat):yH L i 0=0:=by simp[yH,zG]
theorem ko(L:List Nat)(i k:Nat)(h:i+k<L.length):yH L i (k+1)=yH L i k+1000000000^k*L[i+k]:=by
 unfold yH;have hl:(L.drop i).length=L.length-i:=wR;rw[uQ (by omega),qz,uH,Uq (by omega),List.getElem_drop]
theorem zgw(L:List Nat)(i k j d:Nat)(h:i+k<=j):yH (L.set j d) i k=yH L i k:=by
 unfold yH
 congr 1
 apply wD
 . simp
 . intro t h1 h2
   simp only[List.getElem_take,List.getElem_drop];rw[uU];simp only[uH,wR]at h2;omega
theorem xK(L:List Nat)(i k d:Nat)(h:i+k<L.length):yH (L.set (i+k) d) i (k+1)=yH L i k+1000000000^k*d:=by
 rw[ko _ _ _ (by simpa using h),zgw _ _ _ _ _ (ud _),uR]
theorem kQ{w a b:World}{g:Nat}(h:w.grownBy a (some g))(k:a.grownBy b (some g)):w.grownBy b (some g):=
 ⟨k.os.trans h.os,k.tape.trans h.tape,k.output.trans h.output,uC h.size k.size,fun j hj hne=>(k.block j (uJ hj h.size) hne).trans (h.block j hj hne)⟩
theorem yg{w wr:World}{base e g N cap:Nat}{L:List Nat}(hown:wr.ownsRow base e 1 (.slice (some ⟨g,0,none⟩) N cap) N (zO L))(hgr:w.grownBy wr (some g))(j d:Nat)(v:Int)(hv:v=(d:Int)):
  (wr.setCell ⟨g,j,none⟩ (.int .u64 v)).ownsRow base e 1 (.slice (some ⟨g,0,none⟩) N cap) N (zO (L.set j d))/\w.grownBy (wr.setCell ⟨g,j,none⟩ (.int .u64 v)) (some g):=by
 have h:=hown.stored j (.int .u64 v);rw[jU _ _ d _ hv]at h;exact⟨h.1,kQ hgr h.2⟩
def jc(L L':List Nat)(i k:Nat):Prop:=L'.length=L.length/\(∀d∈L',d<1000000000)/\∀t(h:t<L.length)(h':t<L'.length),t<i\/i+k<=t->L'[t]=L[t]
theorem QB{L:List Nat}(h:∀d∈L,d<1000000000)(i k:Nat):jc L L i k:=⟨rfl,h,fun _ _ _ _=>rfl⟩
theorem jS{L L':List Nat}{i k d:Nat}(h:jc L L' i k)(hd:d<1000000000):jc L (L'.set (i+k) d) i (k+1):=by
 refine⟨by simpa using h.1,jp h.2.1 hd,?_⟩;intro t h1 h2 ht;rw[uU (by omega)];exact h.2.2 t h1 (by simpa using h2) (by omega)
theorem KL{X Y V q o o' y x d:Nat}{j:Nat}(h:X+q*Y=V+o*1000000000^j)(he:d+(o+y*q)=x+o'*1000000000):
  X+1000000000^j*d+q*(Y+1000000000^j*y)=V+1000000000^j*x+o'*1000000000^(j+1):=by
 rw[uZ];generalize 1000000000^j=p at *;have h2:=uB (p* ·) he;simp only[uS]at h2;rw[uS,show q*(p*y)=p*(y*q)from by rw[UT,uE q y],show o'*(p*1000000000)=p*(o'*1000000000)from by rw[UT]];rw[uE o p]at h;omega
theorem zah{y q o:Nat}(hy:y<1000000000)(hq:q<1000000000)(ho:o<1000000000):o+y*q<=999999999*1000000000:=by
 have:y*q<=999999999*999999999:=WH (by omega) (by omega);omega
theorem YO(L ys:List Nat)(g gb i m N cap capb q base:Nat)(w:World)(hm:ys.length=m)(hNl:L.length=N)(hN:N<=2000000)(hi:i+m+1<=N)(hcap:m+1<=cap)
  (hL:w.ownsRow base 173 1 (.slice (some ⟨g,0,none⟩) N N) N (zO L))(hY:w.ownsRow 0 173 1 (.slice (some ⟨gb,0,none⟩) m capb) m (zO ys))(hgg:gb≠g)
  (hLd:∀d∈L,d<1000000000)(hYd:∀d∈ys,d<1000000000)(hq:q<1000000000):
  Calls Tryz.prog 203 #[.slice (some ⟨g,i,none⟩) (m+1) cap,.slice (some ⟨gb,0,none⟩) m capb,.int .u64 q] w fun e w'=>
   ∃(neg:Bool)(L':List Nat),e=.returned (.bool neg)/\w'.ownsRow base 173 1 (.slice (some ⟨g,0,none⟩) N N) N (zO L')/\w.grownBy w' (some g)/\jc L L' i (m+1)/\
    yH L' i (m+1)+q*zG 1000000000 ys=yH L i (m+1)+(if neg then 1000000000^(m+1)else 0):=by
 have HLd:=zb hLd;have HYd:=zb hYd;have HL:=zb hL;have HY:=zb hY;clear hLd hYd hL hY;go_enter Tryz.func203,Tryz.ntmps203;go_wp2
 go_loopw [7,13] (fun ow j wr=>∃(k o:Nat)(L':List Nat),k<=m/\ow=.int .u64 o/\o<1000000000/\j=.int .i64 k/\wr.ownsRow base 173 1 (.slice (some ⟨g,0,none⟩) N N) N (zO L')/\w.grownBy wr (some g)/\
   Hid (jc L L' i k)/\Hid (yH L' i k+q*zG 1000000000 (ys.take k)=yH L i k+o*1000000000^k))
  (fun _ j _=>m-(intOf j).toNat)
 case atStart=>
  exact⟨0,0,L,uD _,rfl,by omega,rfl,za HL,World.grownBy.refl _ _,zb (QB (za HLd) _ _),zb (by simp[zap,zG])⟩
 case round=>
  obtain⟨k,o,L',hk,rfl,ho,rfl,hown,hgr,hso,hval⟩:=hrel;by_cases hlt:k<m
  . have hL'l:L'.length=N:=(za hso).1.trans hNl
    have hcy:=(za HY).kept hgr (.inr (by simp[Value.ownBlock];omega));have hcy:=hcy.cellAt k (by omega);rw[zz _ _ (by omega)]at hcy;have hcx:=hown.cellAt (i+k) (by omega);rw[zz _ _ (by omega)]at hcx;have hfr:=hown.frozenAt (i+k);have hy9:ys[k]'(by omega)<1000000000:=za HYd _ (uF _);have hx9:L'[i+k]'(by omega)<1000000000:=(za hso).2.1 _ (uF _);have hxL:L[i+k]'(by omega)=L'[i+k]'(by omega):=((za hso).2.2 (i+k) (by omega) (by omega) (.inr (ud _))).symm;have hwin:=ko L i k (by omega);have hofd:zG 1000000000 (ys.take (k+1))=zG 1000000000 (ys.take k)+1000000000^k*ys[k]'(by omega):=by
     rw[uQ (by omega),qz,uH,Uq (by omega)]
    rw[hxL]at hwin;generalize ys[k]'(by omega)=y at *;generalize L'[i+k]'(by omega)=x at *;have hfit:=zah hy9 hq ho;have Hwin:=zb hwin;have Hofd:=zb hofd;have hstep:=fun d o'=>@KL (yH L' i k) (zG 1000000000 (ys.take k)) (yH L i k) q o o' y x d k (za hval)
    generalize hpp:y*q=pp at *;have hppI:(y:Int)*q=pp:=by rw[<-hpp];simp
    have Hstep:=zb hstep;clear hwin hofd hstep hxL hpp;obtain⟨t,ht⟩:∃d:Nat,((o:Int)+pp)%1000000000=d:=⟨(o+pp)%1000000000,by omega⟩
    obtain⟨c,hc⟩:∃d:Nat,((o:Int)+pp)/1000000000=d:=⟨(o+pp)/1000000000,by omega⟩
    have hkI:(k:Int)<(m:Int)+1:=by omega
    have hkI2:(k:Int)<(m:Int):=by omega
    by_cases hbr:(x:Int)<t
    . obtain⟨d,hd⟩:∃d:Nat,(x:Int)+1000000000-t=d:=⟨x+1000000000-t,by omega⟩
      have hst1:=yg hown hgr (i+k) (x+1000000000) ((x:Int)+1000000000) (by simp);have hst2:=yg hst1.1 hst1.2 (i+k) d ((x:Int)+1000000000-t) hd;rw[List.set_set]at hst2;have Hst:=zb hst2;have HD:=zb hd;clear hst1 hst2 hd;go_wp2;go_roundw
      case rel=>
       refine⟨k+1,c+1,L'.set (i+k) d,by omega,rfl,by omega,by go_num,(za Hst).1,(za Hst).2,zb (jS (za hso) (by have:=za HD;omega)),?_⟩;show _=_;rw[xK _ _ _ _ (by omega),za Hofd,za Hwin];exact za Hstep d (c+1) (by have:=za HD;omega)
      case measure=>simp[intOf];omega
    . obtain⟨d,hd⟩:∃d:Nat,(x:Int)-t=d:=⟨x-t,by omega⟩
      have hst2:=yg hown hgr (i+k) d ((x:Int)-t) hd;have Hst:=zb hst2;have HD:=zb hd;clear hst2 hd;go_wp2;go_roundw
      case rel=>
       refine⟨k+1,c,L'.set (i+k) d,by omega,by rw[hc],by omega,by go_num,(za Hst).1,(za Hst).2,zb (jS (za hso) (by have:=za HD;omega)),?_⟩;show _=_;rw[xK _ _ _ _ (by omega),za Hofd,za Hwin];exact za Hstep d c (by have:=za HD;omega)
      case measure=>simp[intOf];omega
  . have hkm:k=m:=by omega
    subst hkm;have hL'l:L'.length=N:=(za hso).1.trans hNl;have hcx:=hown.cellAt (i+k) (by omega);rw[zz _ _ (by omega)]at hcx;have hfr:=hown.frozenAt (i+k);have hx9:L'[i+k]'(by omega)<1000000000:=(za hso).2.1 _ (uF _);have hxL:L[i+k]'(by omega)=L'[i+k]'(by omega):=((za hso).2.2 (i+k) (by omega) (by omega) (.inr (ud _))).symm;have hwin:=ko L i k (by omega);rw[hxL]at hwin;generalize L'[i+k]'(by omega)=x at *;have Hwin:=zb hwin;have hval':=za hval;rw[<-hm,Uh,hm]at hval';have Hval:=zb hval';clear hwin hxL hval';have hkI:(k:Int)<(k:Int)+1:=by omega
    by_cases hge:o<=x
    . obtain⟨d,hd⟩:∃d:Nat,(x:Int)-o=d:=⟨x-o,by omega⟩
      have hst2:=yg hown hgr (i+k) d ((x:Int)-o) hd;have Hst:=zb hst2;have HD:=zb hd;clear hst2 hd;go_wp2;go_ret;refine⟨false,L'.set (i+k) d,rfl,(za Hst).1,(za Hst).2,jS (za hso) (by have:=za HD;omega),?_⟩;rw[xK _ _ _ _ (by omega),za Hwin];have h1:=za Hval;have h2:x=d+o:=by have:=za HD;omega
      rw[h2,uS];rw[uE o]at h1;simp only[dB,if_false];omega
    . obtain⟨d,hd⟩:∃d:Nat,(x:Int)+(1000000000-o)=d:=⟨x+(1000000000-o),by omega⟩
      have hst2:=yg hown hgr (i+k) d ((x:Int)+(1000000000-o)) hd;have Hst:=zb hst2;have HD:=zb hd;clear hst2 hd;go_wp2;go_ret;refine⟨true,L'.set (i+k) d,rfl,(za Hst).1,(za Hst).2,jS (za hso) (by have:=za HD;omega),?_⟩;rw[xK _ _ _ _ (by omega),za Hwin];have h1:=za Hval;have h2:d+o=x+1000000000:=by have:=za HD;omega
      have h3:=uB (1000000000^k* ·) h2;simp only[uS]at h3;rw[uE o]at h1;rw[uZ];simp only[if_true];omega
theorem Ku{X Y V c c' y x d:Nat}{j:Nat}(h:X+c*1000000000^j=V+Y)(he:d+1000000000*c'=c+(x+y)):
  X+1000000000^j*d+c'*1000000000^(j+1)=V+1000000000^j*x+(Y+1000000000^j*y):=by
 rw[uZ];generalize 1000000000^j=p at *;have h2:=uB (p* ·) he;simp only[uS]at h2;rw[show c'*(p*1000000000)=p*(1000000000*c')from by rw[UT,uE c']];rw[uE c p]at h;omega
theorem YF{w:World}{base:Nat}{e:TypeId}{size:Nat}{v:Value}{n:Nat}{xs:List Value}(h:w.ownsRow base e size v n xs)(k:Nat):(w.drewN k).ownsRow base e size v n xs:=h
theorem V3{w wr:World}{r:Option Nat}(h:w.grownBy wr r)(k:Nat):w.grownBy (wr.drewN k) r:=⟨h.os,h.tape,h.output,h.size,h.block⟩
theorem YI(L ys:List Nat)(g gb i m N cap capb base:Nat)(w:World)(hm:ys.length=m)(hNl:L.length=N)(hN:N<=2000000)(hi:i+m+1<=N)(hcap:m+1<=cap)
  (hL:w.ownsRow base 173 1 (.slice (some ⟨g,0,none⟩) N N) N (zO L))(hY:w.ownsRow 0 173 1 (.slice (some ⟨gb,0,none⟩) m capb) m (zO ys))(hgg:gb≠g)
  (hLd:∀d∈L,d<1000000000)(hYd:∀d∈ys,d<1000000000):
  Calls Tryz.prog 204 #[.slice (some ⟨g,i,none⟩) (m+1) cap,.slice (some ⟨gb,0,none⟩) m capb] w fun e w'=>
   ∃(up:Bool)(L':List Nat),e=.returned (.bool up)/\w'.ownsRow base 173 1 (.slice (some ⟨g,0,none⟩) N N) N (zO L')/\w.grownBy w' (some g)/\jc L L' i (m+1)/\
    yH L' i (m+1)+(if up then 1000000000^(m+1)else 0)=yH L i (m+1)+zG 1000000000 ys:=by
 have HLd:=zb hLd;have HYd:=zb hYd;have HL:=zb hL;have HY:=zb hY;clear hLd hYd hL hY;go_enter Tryz.func204,Tryz.ntmps204;go_wp2
 go_loopw [5,10] (fun cy j wr=>∃(k c:Nat)(L':List Nat),k<=m/\cy=.int .u64 c/\c<=1/\j=.int .i64 k/\wr.ownsRow base 173 1 (.slice (some ⟨g,0,none⟩) N N) N (zO L')/\w.grownBy wr (some g)/\
   Hid (jc L L' i k)/\Hid (yH L' i k+c*1000000000^k=yH L i k+zG 1000000000 (ys.take k)))
  (fun _ j _=>m-(intOf j).toNat)
 case atStart=>
  exact⟨0,0,L,uD _,rfl,by omega,rfl,za HL,World.grownBy.refl _ _,zb (QB (za HLd) _ _),zb (by simp[zap,zG])⟩
 case round=>
  obtain⟨k,c,L',hk,rfl,hc,rfl,hown,hgr,hso,hval⟩:=hrel;by_cases hlt:k<m
  . have hL'l:L'.length=N:=(za hso).1.trans hNl
    have hcy:=(za HY).kept hgr (.inr (by simp[Value.ownBlock];omega));have hcy:=hcy.cellAt k (by omega);rw[zz _ _ (by omega)]at hcy;have hcx:=hown.cellAt (i+k) (by omega);rw[zz _ _ (by omega)]at hcx;have hfr:=hown.frozenAt (i+k);have hy9:ys[k]'(by omega)<1000000000:=za HYd _ (uF _);have hx9:L'[i+k]'(by omega)<1000000000:=(za hso).2.1 _ (uF _);have hxL:L[i+k]'(by omega)=L'[i+k]'(by omega):=((za hso).2.2 (i+k) (by omega) (by omega) (.inr (ud _))).symm;have hwin:=ko L i k (by omega);have hofd:zG 1000000000 (ys.take (k+1))=zG 1000000000 (ys.take k)+1000000000^k*ys[k]'(by omega):=by
     rw[uQ (by omega),qz,uH,Uq (by omega)]
    rw[hxL]at hwin;generalize ys[k]'(by omega)=y at *;generalize L'[i+k]'(by omega)=x at *;have Hwin:=zb hwin;have Hofd:=zb hofd;have hstep:=fun d c'=>@Ku (yH L' i k) (zG 1000000000 (ys.take k)) (yH L i k) c c' y x d k (za hval)
    have Hstep:=zb hstep;clear hwin hofd hstep hxL;obtain⟨d,hd⟩:∃d:Nat,((c:Int)+(x+y))%1000000000=d:=⟨(c+(x+y))%1000000000,by omega⟩
    obtain⟨c2,hc2⟩:∃d:Nat,((c:Int)+(x+y))/1000000000=d:=⟨(c+(x+y))/1000000000,by omega⟩
    have hkI:(k:Int)<(m:Int)+1:=by omega
    have hkI2:(k:Int)<(m:Int):=by omega
    have hdl:d<1000000000:=by omega
    have hsum:Hid (d+1000000000*c2=c+(x+y)):=by show _=_;omega
    have hc21:c2<=1:=by omega
    have hst:=fun nq=>yg (YF hown nq) (V3 hgr nq) (i+k) d (d:Int) rfl
    have Hst:=zb hst;clear hst;go_wp2
    go_quiet (fail)
    go_wp2;go_roundw
    case rel=>
     refine⟨k+1,c2,L'.set (i+k) d,by omega,by rw[hc2],hc21,by go_num,(za Hst nq).1,(za Hst nq).2,zb (jS (za hso) hdl),?_⟩;show _=_;rw[xK _ _ _ _ (by omega),za Hofd,za Hwin];exact za Hstep d c2 (za hsum)
    case measure=>simp[intOf];omega
  . have hkm:k=m:=by omega
    subst hkm;have hL'l:L'.length=N:=(za hso).1.trans hNl;have hcx:=hown.cellAt (i+k) (by omega);rw[zz _ _ (by omega)]at hcx;have hfr:=hown.frozenAt (i+k);have hx9:L'[i+k]'(by omega)<1000000000:=(za hso).2.1 _ (uF _);have hxL:L[i+k]'(by omega)=L'[i+k]'(by omega):=((za hso).2.2 (i+k) (by omega) (by omega) (.inr (ud _))).symm;have hwin:=ko L i k (by omega);rw[hxL]at hwin;generalize L'[i+k]'(by omega)=x at *;have Hwin:=zb hwin;have hval':=za hval;rw[<-hm,Uh,hm]at hval';have Hval:=zb hval';clear hwin hxL hval';have hkI:(k:Int)<(k:Int)+1:=by omega
    obtain⟨d,hd⟩:∃d:Nat,((c:Int)+x)%1000000000=d:=⟨(c+x)%1000000000,by omega⟩
    have hdl:d<1000000000:=by omega
    have hst:=yg hown hgr (i+k) d (d:Int) rfl;have Hst:=zb hst;clear hst;by_cases hup:c+x=1000000000
    . have hq:((c:Int)+x==1000000000)=true:=by rw[Um];omega
      have Hup:=zb hup;clear hup;go_wp2;go_ret;refine⟨true,L'.set (i+k) d,rfl,(za Hst).1,(za Hst).2,jS (za hso) hdl,?_⟩;rw[xK _ _ _ _ (by omega),za Hwin];have h1:=za Hval;have h2:d=0:=by have:=za Hup;omega
      have h3:=uB (1000000000^k* ·) (za Hup);simp only[uS]at h3;rw[uE c]at h1;rw[uZ,h2];simp only[if_true];omega
    . have hq:((c:Int)+x==1000000000)=false:=by rw[ug];omega
      have Hup:=zb hup;clear hup;go_wp2;go_ret;refine⟨false,L'.set (i+k) d,rfl,(za Hst).1,(za Hst).2,jS (za hso) hdl,?_⟩;rw[xK _ _ _ _ (by omega),za Hwin];have h1:=za Hval;have h2:d=c+x:=by have:=za Hup;omega
      rw[h2,uS];rw[uE c]at h1;simp only[dB,if_false];omega
theorem yp(b:Nat)(l:List Nat)(k:Nat)(h:k<=l.length):zG b l=zG b (l.take k)+b^k*zG b (l.drop k):=by
 conv=>lhs;rw[<-WV k l]
 rw[vX,uH,Uq h]
theorem zfa{l:List Nat}{m:Nat}(h:zG 1000000000 l<1000000000^m)(hm:m<=l.length):zG 1000000000 (l.drop m)=0/\zG 1000000000 l=zG 1000000000 (l.take m):=by
 have e:=yp 1000000000 l m hm;rcases ws (zG 1000000000 (l.drop m))with h0|h0
 . exact⟨h0,by rw[e,h0];simp⟩
 . have:=UP (1000000000^m) h0
   omega
theorem zep{V Y top yl p:Nat}(hV:V<(top+1)*p)(hY:yl*p<=Y)(hyl:0<yl):V/Y<=top/yl:=by
 rw[Nat.le_div_iff_mul_le hyl];have h1:V/Y*(yl*p)<=V:=uC (UP _ hY) (Nat.div_mul_le_self V Y);rw[<-Ut]at h1;have h2:V/Y*yl*p<(top+1)*p:=by omega
 have:=Nat.lt_of_mul_lt_mul_right h2;omega
theorem zeN{L:List Nat}{i m Y:Nat}(hl:i+m+1<=L.length)(hd:∀d∈L,d<1000000000)(hR:zG 1000000000 (L.drop (i+1))<Y)(hY:Y<1000000000^m):
  zG 1000000000 (L.drop i)=yH L i (m+1)/\zG 1000000000 (L.drop (i+m+1))=0/\yH L i (m+1)<1000000000*Y:=by
 have hi:i<L.length:=by omega
 have e:L.drop i=L[i]::L.drop (i+1):=Uk hi;have hx:L[i]<1000000000:=hd _ (uF hi);have hV:zG 1000000000 (L.drop i)<1000000000*Y:=by
  rw[e];simp only[zG];have:=UP 1000000000 (Nat.succ_le_of_lt hR);rw[Nat.mul_succ]at this;omega
 have hV2:zG 1000000000 (L.drop i)<1000000000^(m+1):=by
  rw[uZ,uE];exact uJ hV (UP _ (dh hY))
 have ht:=zfa hV2 (by simp;omega);rw[List.drop_drop]at ht;refine⟨ht.2,?_,?_⟩
 . rw[show i+m+1=i+(m+1)from by omega];exact ht.1
 . rw[<-show zG 1000000000 (L.drop i)=yH L i (m+1)from ht.2];exact hV
theorem KB{L L':List Nat}{i k:Nat}(h:jc L L' i k):L'.take i=L.take i:=by
 apply wD
 . simp[h.1]
 . intro t h1 h2
   simp only[List.getElem_take];have:t<i:=by simp at h1;omega
   exact h.2.2 t _ _ (.inl this)
theorem KA{L L':List Nat}{i k:Nat}(h:jc L L' i k):L'.drop (i+k)=L.drop (i+k):=by
 apply wD
 . simp[h.1]
 . intro t h1 h2
   simp only[List.getElem_drop];exact h.2.2 _ _ _ (.inr (by omega))
theorem zdf(b T p li Y D R W q:Nat)(h:li+b*R=W+q*Y):T+p*li+p*b*(Y*D+R)=T+p*(Y*(q+b*D)+W):=by
 have key:li+b*(Y*D+R)=Y*(q+b*D)+W:=by
  rw[uS,uS,UT Y,uE Y q];omega
 rw[<-key,uS p,Ut,Nat.add_assoc]
theorem XL(b:Nat){L L' O:List Nat}{i Y X q W V:Nat}(hi:i<L.length)(hO:i<O.length)
  (hinv:X=zG b (L.take (i+1))+b^(i+1)*(Y*zG b (O.drop (i+1))+zG b (L.drop (i+1))))
  (hV:zG b (L.drop i)=V)(htk:L'.take i=L.take i)(hW:zG b (L'.drop i)=W)(hw:W+q*Y=V):
  X=zG b (L'.take i)+b^i*(Y*zG b ((O.set i q).drop i)+zG b (L'.drop i)):=by
 have e:L.drop i=L[i]::L.drop (i+1):=Uk hi;rw[e]at hV;simp only[zG]at hV;rw[hW,htk,Uk (l:=O.set i q) (by simpa using hO),uR,dq (by omega)];simp only[zG];rw[hinv,uQ hi,qz,uH,Uq (by omega),uZ];exact zdf b _ _ _ _ _ _ _ _ (hV.trans hw.symm)
theorem zdg(b:Nat){L L':List Nat}{i k:Nat}(hl:i+k<=L'.length)(hdr:L'.drop (i+k)=L.drop (i+k))(h0:zG b (L.drop (i+k))=0):zG b (L'.drop i)=zG b ((L'.drop i).take k):=by
 rw[yp b (L'.drop i) k (by simp;omega),List.drop_drop,hdr,h0,Nat.mul_zero,wC]
theorem YE{L L' O:List Nat}{i m Y X q:Nat}(hl:i+m+1<=L.length)(hO:i<O.length)(hd:∀d∈L,d<1000000000)(hY:Y<1000000000^m)
  (hinv:X=zG 1000000000 (L.take (i+1))+1000000000^(i+1)*(Y*zG 1000000000 (O.drop (i+1))+zG 1000000000 (L.drop (i+1))))(hR:zG 1000000000 (L.drop (i+1))<Y)
  (hso:jc L L' i (m+1))(hw:yH L' i (m+1)+q*Y=yH L i (m+1))(hlt:yH L' i (m+1)<Y):
  X=zG 1000000000 (L'.take i)+1000000000^i*(Y*zG 1000000000 ((O.set i q).drop i)+zG 1000000000 (L'.drop i))/\zG 1000000000 (L'.drop i)<Y:=by
 obtain⟨h1,h2,_⟩:=zeN hl hd hR hY
 have hL':zG 1000000000 (L'.drop i)=yH L' i (m+1):=
  zdg 1000000000 (by have:=hso.1;omega) (KA hso) h2
 have hi:i<L.length:=uJ (wQ (Nat.le_add_right i m) (Nat.lt_succ_self _)) hl;exact⟨XL 1000000000 hi hO hinv h1 (KB hso) hL' hw,hL' ▸ hlt⟩
theorem Vw{V Y W q:Nat}(hw:W+q*Y=V)(hq:V/Y<=q)(hY:0<Y):W<Y:=by
 have h1:q<=V/Y:=by
  rw[Nat.le_div_iff_mul_le hY];omega
 have:q=V/Y:=by omega
 have h2:=WS V Y;rw[<-this,uE]at h2;have:=Ua V hY;omega
theorem YD{V Y W q p:Nat}(hw:W+q*Y=V+p)(hW:W<p):V/Y<q:=by
 have hY:0<Y:=by
  rcases ws Y with h|h
  . subst h;simp at hw;omega
  . exact h
 rw[Nat.div_lt_iff_lt_mul hY];omega
theorem zbG{L:List Nat}(hd:∀d∈L,d<1000000000)(i k:Nat)(h:i+k<=L.length):yH L i k<1000000000^k:=by
 have:=Zg (b:=1000000000) ((L.drop i).take k) (fun d hd'=>hd d (WY (UV hd')));rw[uH,wR,Uq (by omega)]at this;exact this
theorem zgx{L:List Nat}(hd:∀d∈L,d<1000000000)(i m:Nat)(h:i+(m+1)<L.length):
  yH L i (m+1+1)<(L[i+(m+1)] *1000000000+L[i+m]+1)*1000000000^m:=by
 rw[ko L i (m+1) h,ko L i m (by omega),uZ];have:=zbG hd i m (by omega);generalize L[i+(m+1)]=a;generalize L[i+m]=b;generalize 1000000000^m=p at *;rw[wP,wP,Ut a,uE p b,uE p 1000000000,uE (1000000000*p) a];omega
theorem zhi{ys:List Nat}{m:Nat}(h:ys.length=m+1):ys[m] *1000000000^m<=zG 1000000000 ys:=by
 have:=za4 1000000000 ys m (by omega);rw[uE];exact this
theorem zdo{y:Nat}(h:y<1000000000):0<1000000000/(y+1):=Nat.div_pos (by omega) (by omega)
theorem zeZ{y:Nat}(h:0<y):1000000000/(y+1)<1000000000:=WB (by omega) (by omega)
theorem zbs{y s m:Nat}{ys:List Nat}(hy:ys=gr y)(hm:ys.length=m+1)(hs:1000000000/(ys[m]+1)=s)(hs0:0<s):(gr (y*s)).length=m+1/\y*s<1000000000^(m+1):=by
 have hyd:∀d∈ys,d<1000000000:=by rw[hy];exact yw y
 have hyo:zG 1000000000 ys=y:=by rw[hy];exact jM y
 have h1:y<(ys[m]+1)*1000000000^m:=by
  have e:=Q2 1000000000 ys m (by omega);rw[show ys.drop (m+1)=[]from List.drop_eq_nil_of_le (by omega)]at e;simp only[zG,Nat.mul_zero,wC]at e;have h2:=Zg (b:=1000000000) (ys.take m) (fun d hd=>hyd d (UV hd));rw[uH,Uq (by omega)]at h2;rw[hyo]at e;rw[wP,e,uE];omega
 have h3:(ys[m]+1)*s<=1000000000:=by rw[<-hs,uE];exact Nat.div_mul_le_self _ _
 have h4:y*s<1000000000^(m+1):=by
  have h5:y*s<(ys[m]+1)*1000000000^m*s:=Nat.mul_lt_mul_of_pos_right h1 hs0;rw[Nat.mul_right_comm]at h5;have h6:(ys[m]+1)*s*1000000000^m<=1000000000*1000000000^m:=U5 _ h3;rw[uZ,uE (1000000000^m)];omega
 refine⟨?_,h4⟩;have h7:(gr (y*s)).length<=m+1:=yO (by omega) h4;have h8:(gr y).length<=(gr (y*s)).length:=jW (Nat.le_mul_of_pos_right y hs0);rw[<-hy]at h8;omega
theorem zbg{y m:Nat}(h:(gr y).length=m+1):1000000000^m<=y:=by
 rcases df y (1000000000^m)with h1|h1
 . have:=yO (b:=1000000000) (by omega) h1
   unfold gr at h;omega
 . exact h1
theorem zba{x y s n m:Nat}{L:List Nat}(hx:(gr x).length=n)(hy:(gr y).length=m+1)(hmn:m+1<=n)(hL:zG 1000000000 L=x*s)(hLl:L.length=n+1)(hs0:0<s):
  zG 1000000000 (L.drop (n-m))<y*s:=by
 have h1:x<1000000000^n:=by rw[<-hx];exact vV (by omega) x
 have h2:=zbg hy;have e:=yp 1000000000 L (n-m) (by omega);rw[hL]at e;have h3:1000000000^(n-m)*zG 1000000000 (L.drop (n-m))<=x*s:=by omega
 have h4:x*s<1000000000^n*s:=Nat.mul_lt_mul_of_pos_right h1 hs0;have h5:1000000000^n*s=1000000000^(n-m)*(1000000000^m*s):=by
  rw[<-Ut,<-da];congr 2;omega
 have h6:1000000000^(n-m)*(1000000000^m*s)<=1000000000^(n-m)*(y*s):=UP _ (U5 _ h2);have h7:1000000000^(n-m)*zG 1000000000 (L.drop (n-m))<1000000000^(n-m)*(y*s):=by omega
 exact Nat.lt_of_mul_lt_mul_left h7
theorem zeO{x y s Q R:Nat}(h:x*s=y*s*Q+R)(hR:R<y*s)(hs:0<s):x/y=Q/\R/s=x%y:=by
 have hy:0<y:=by
  rcases ws y with h0|h0
  . subst h0;simp at hR
  . exact h0
 have hQ:x/y=Q:=by
  have h1:x*s/(y*s)=Q:=(zbb h hR).1;rwa[Nat.mul_div_mul_right _ _ hs]at h1
 refine⟨hQ,?_⟩;have h2:x*s%(y*s)=R:=(zbb h hR).2;rw[Nat.mul_mod_mul_right]at h2;rw[<-h2,Nat.mul_div_cancel _ hs]
theorem Ju(x f:Nat)(v:Value)(w:World)(hx:zy w v x)(hs:(gr x).length<=1000000)(hf:f<1000000000):
  Calls Tryz.prog 201 #[v,.int .u64 f,.int .u64 0] w fun e w'=>(∃v',e=.returned v'/\isNatB w' w.heap.size v' (x*f))/\Below w.heap.size w w':=by
 have:=Jt x f 0 v w hx hs hf (by omega);simpa using this
def Je(w:World)(b j:Nat):Nat:=match w.cell? ⟨b,j,none⟩with
 |some v=>(intOf v).toNat
 |none=>0
theorem xT{w:World}{b j d:Nat}(h:w.cell? ⟨b,j,none⟩=some (.int .u64 (d:Int))):Je w b j=d:=by
 unfold Je;rw[h];rfl
theorem yA{w:World}{base:Nat}{e:TypeId}{size:Nat}{v:Value}{n:Nat}{xs:List Value}(h:w.ownsRow base e size v n xs):w.drew.ownsRow base e size v n xs:=h
theorem ZT{L L1 L2:List Nat}{i k:Nat}(h:jc L L1 i k)(h':jc L1 L2 i k):jc L L2 i k:=by
 refine⟨h'.1.trans h.1,h'.2.1,?_⟩;intro t h1 h2 ht;rw[h'.2.2 t (by rw[h.1];exact h1) h2 ht];exact h.2.2 t h1 _ ht
theorem ZR{W W' V Y q p:Nat}{up:Bool}(h:W+(q+1)*Y=V+if true then p else 0)(h':W'+(if up then p else 0)=W+Y):W'+q*Y=V+if(!up)then p else 0:=by
 rw[wP]at h;cases up<;>simp at h h'⊢ <;>omega
theorem zgb(l:List Nat)(k:Nat)(b:Nat):zG b (l++List.replicate k 0)=zG b l:=by
 rw[vX,qD];simp
theorem za9(x y:Nat)(v u:Value)(w:World)(hx:zy w v x)(hy:zy w u y)(hsx:(gr x).length<=1000000)(hsy:(gr y).length<=1000000)(hlt:x<y):
  Calls Tryz.prog 183 #[v,u] w fun e w'=>(∃v1 v2,e=.returned (.tuple #[v1,v2])/\zy w' v1 (x/y)/\zy w' v2 (x%y))/\Below w.heap.size w w':=by
 rw[wY hlt,Uu hlt];have hl:=Kj x y v u w hx hy hsx hsy;rw[uy hlt]at hl;have Hl:=zb hl;have Hx:=zb hx;clear hl hx hy hlt hsx hsy;go_enter Tryz.func183,Tryz.ntmps183;go_wp2_with fail;refine(za Hl).mono ?_;rintro e w1⟨rfl,hb1⟩;go_wp2
 go_ret2
 have hbX:=hb1.alloc hb1.size (.cells #[] 173);refine⟨⟨_,_,rfl,?_,zu (za Hx) hbX⟩,hbX⟩;have:=Wt (base:=0) (e:=173) (size:=1) w1 #[] 0 (uD _) (by decide) (by simp);unfold zy;rw[vr];exact this
theorem za8(x y:Nat)(v u:Value)(w:World)(hx:zy w v x)(hy:zy w u y)(hsx:(gr x).length<=1000000)(hsy:(gr y).length<=1000000)(hle:y<=x)(hy0:0<y):
  Calls Tryz.prog 183 #[v,u] w fun e w'=>(∃v1 v2,e=.returned (.tuple #[v1,v2])/\zy w' v1 (x/y)/\zy w' v2 (x%y))/\Below w.heap.size w w':=by
 obtain⟨i0,hi,hz0,hz1,hz2⟩:=Ue Tryz.infoU64;have hl:=Kj x y v u w hx hy hsx hsy;rw[uw (by omega)]at hl;have Hl:=zb hl;have Hx:=zb hx;have Hy:=zb hy;clear hl;have hyne:gr y≠[]:=fun h=>by have:=QQ.1 h;omega
 have hml:(gr y).length<=(gr x).length:=jW hle;obtain⟨m,hm⟩:∃m,(gr y).length=m+1:=⟨(gr y).length-1,by have:(gr y).length≠0:=fun h=>hyne (ur h);omega⟩
 obtain⟨n,hn⟩:∃n,(gr x).length=n:=⟨_,rfl⟩
 obtain⟨K,hKI⟩:∃K:Nat,(n:Int)-m=K:=⟨n-m,by omega⟩
 obtain⟨gy,cy,hu,hcy,_,hgy⟩:=zY hy (by omega);obtain⟨gx,cx,hv,hcx,_,hgx⟩:=zY hx (by omega);subst hu;subst hv;have hcell:=Hy.out.cellAt m (by omega);rw[zz _ _ (by omega)]at hcell;have htop9:(gr y)[m]'(by omega)<1000000000:=yw y _ (uF _);have htop0:0<(gr y)[m]'(by omega):=by
  have:=(zd9 (b:=1000000000) (by omega) y).2 ((gr y)[m]'(by omega)) (by
   rw[List.getLast?_eq_getElem?];show(gr y)[(gr y).length-1]? =_;rw[show(gr y).length-1=m from by omega];exact uf _)
  omega
 have hsc:=fun s hs hs0=>@zbs y s m (gr y) rfl hm hs hs0
 obtain⟨yt,hyt⟩:∃a,(gr y)[m]'(by omega)=a:=⟨_,rfl⟩
 rw[hyt]at hcell htop9 htop0;simp only[hyt]at hsc;have hs0:=zdo htop9;have hs9:=zeZ htop0;obtain⟨s,hs⟩:∃s,1000000000/(yt+1)=s:=⟨_,rfl⟩
 rw[hs]at hs0 hs9;have hsc:=hsc s hs hs0;have hsI:(1000000000:Int)/((yt:Int)+1)=(s:Int):=by rw[<-hs];rfl
 have Hsc:=zb hsc;have Hm:=zb hm;have Hn:=zb hn;rw[hm]at hml hsy hcy Hy Hl;rw[hn]at hml hsx hcx Hx Hl;rw[hm,hn];clear hx hy hsc hs hyt hyne hm hn;go_enter Tryz.func183,Tryz.ntmps183;go_wp2_with fail;refine(za Hl).mono ?_;clear Hl;rintro e w1⟨rfl,hb1⟩;have hcell1:w1.cell? ⟨gy,m,none⟩=some (.int .u64 (yt:Int)):=by rw[hb1.cell (p:=⟨gy,m,none⟩) hgy];exact hcell
 go_wp2_with (refine UY _ rfl (.tmp 31) (.tmp 31) 178 rfl w.heap.size 173 i0 (.int .u64 0) 1 UJ hi hz0 hz1 .i64 .i64 ((n+1:Nat):Int) ((n+1:Nat):Int) (n+1) rfl rfl rfl rfl (by rw[hz2];omega) (by unfold maxLen;omega) hb1.size ?_;intro w2 hown2 hg2);have hb2:Below w.heap.size w w2:=hb1.grown hg2 hb1.size (fun _ h=>by cases h);have hxs9:(gr (x*s)).length<=n+1:=by
  apply yO (by omega);have h1:x<1000000000^n:=by have:=vV (b:=1000000000) (by omega) x;rwa[show(dg 1000000000 x).length=n from za Hn]at this
  rw[uZ];exact Nat.mul_lt_mul'' h1 hs9
 refine(Ju x s _ _ (zu (za Hx) hb2) (by rw[za Hn];exact hsx) hs9).mono ?_;rintro e w3⟨⟨v3,rfl,hv3⟩,hb3⟩;have hown3:=zu hown2 hb3;have hb03:=hb2.trans (hb3.mono hb2.size);rw[show(madeCells (Value.int IntKind.u64 0).cells ((n+1)*1)).toList=zO (List.replicate (n+1) 0)from by
  rw[Nat.mul_one,show(Value.int IntKind.u64 0).cells=#[.int .u64 0]from rfl,Ul,jC]]at hown3
 have hblk:=ke hown3;obtain⟨p3,c3,hv3s⟩:=zq hv3;subst hv3s;obtain⟨k3,hk3⟩:∃k3,(gr (x*s)).length=k3:=⟨_,rfl⟩
 have hsome:=fun h=>zY hv3 h
 have hcells:=fun g cap(h:Value.slice p3 (gr (x*s)).length c3=.slice (some ⟨g,0,none⟩) (gr (x*s)).length cap)=>(h ▸ hv3:w3.ownsRow w2.heap.size 173 1 (.slice (some ⟨g,0,none⟩) (gr (x*s)).length cap) (gr (x*s)).length (zO (gr (x*s)))).cells (g:=g) rfl
 have hpos:0<(zO (gr (x*s))).length->∃ad,p3=some ad/\∀j v,(zO (gr (x*s)))[j]? =some v->w3.cell? (ad.add j)=some v:=by
  intro h;obtain⟨g,cap,hh,_⟩:=hsome (by rwa[qi]at h);have h2:=hcells g cap hh;simp only[wm,WJ]at hh;exact⟨_,hh.1,h2⟩
 have Hblk:=zb hblk;have Hpos:=zb hpos;have hsz1:=hb1.size;clear hblk hpos hsome hcells hown3 hown2 hg2 hb1 hb2 hb3 hv3 hcell hcell1;have hk3l:k3<=n+1:=by omega
 have Hk3:=zb hk3;rw[hk3];clear hk3;go_wp2_with (refine wpList_copy_splice rfl (.tmp 33) (.tmp 36) 178 178 rfl 173 UJ (by simp[hi,hz1]) (some ⟨w1.heap.size,0,none⟩) p3 (n+1) (n+1) k3 c3 rfl rfl w1.heap.size 0 (zO (List.replicate (n+1) 0)) 173 (za Hblk) (zO (gr (x*s))) (by rw[qi,za Hk3];exact(Uq hk3l).symm) (fun h=>⟨rfl,za Hpos h⟩) (by simp[zO];have:=za Hk3;omega) (VT _) w.heap.size w hb03 hsz1 ?_;intro w4 hg4 hb4);have hrow:splice (zO (List.replicate (n+1) 0)) 0 (zO (gr (x*s)))=zO (gr (x*s)++List.replicate (n+1-k3) 0):=by
  unfold splice;rw[List.take_zero,UE,Uz,qi,za Hk3,<-Jb,List.drop_replicate,Zr]
 have hg4':=za hg4;rw[hrow]at hg4';have hLl:(gr (x*s)++List.replicate (n+1-k3) 0).length=n+1:=by
  rw[uG,Wv,za Hk3];omega
 have hLo:zG 1000000000 (gr (x*s)++List.replicate (n+1-k3) 0)=x*s:=by rw[zgb,jM]
 have hLd:∀d∈gr (x*s)++List.replicate (n+1-k3) 0,d<1000000000:=by
  intro d hd;rcases uA.1 hd with h|h
  . exact yw _ d h
  . simp at h;omega
 have hownL:=vM (base:=w.heap.size) (n:=n+1) hg4' (by rw[qi];exact hLl) (by unfold maxLen;omega) hsz1;have hgl4:w1.heap.size<w4.heap.size:=(uu.1 hg4').1;generalize gr (x*s)++List.replicate (n+1-k3) 0=L0 at *;have HLl:=zb hLl;have HLo:=zb hLo;have HLd:=zb hLd;have HownL:=zb hownL;generalize w1.heap.size=gl at *;clear hrow hg4 hg4' hLl hLo hLd hownL Hblk Hpos hb03 hxs9;refine(Ju y s _ _ (zu (za Hy) hb4) (by rw[za Hm];exact hsy) hs9).mono ?_;rintro e w5⟨⟨v5,rfl,hv5⟩,hb5⟩;have hl5:=(za Hsc).1;obtain⟨gb,cb,hv5s,hcb,hgb4,hgb5⟩:=zY hv5 (by omega);subst hv5s;rw[hl5]at hcb;have hownL5:=zu (za HownL) hb5;have hb05:=hb4.trans (hb5.mono hb4.size);have hys9:=yw (y*s);have hyso:=jM (y*s);have hytop:=(zd9 (b:=1000000000) (by omega) (y*s)).2;rw[show dg 1000000000 (y*s)=gr (y*s)from rfl]at hytop;have hYl:=(za Hsc).2;unfold isNatB at hv5;have hpos0:0<y*s:=Nat.mul_pos hy0 hs0;have hstart:=fun L hL hLl=>@zba x y s n m L (za Hn) (za Hm) hml hL hLl hs0
 have Hstart:=zb (hstart L0 (za HLo) (za HLl));obtain⟨Y,hY⟩:∃Y,y*s=Y:=⟨_,rfl⟩
 rw[hY]at hl5 hv5 hys9 hyso hYl hpos0 Hstart;rw[hY]at hytop;rw[show(gr (y*s)).length=m+1 from(za Hsc).1];generalize gr Y=ys at *;have HY:=zb hY;have Hys9:=zb hys9;have Hytop:=zb hytop;have Hyso:=zb hyso;have HYl:=zb hYl;have Hl5:=zb hl5;clear hys9 hyso hytop hYl hY hstart hb4 hb5 HownL hsc hl5;go_wp2_with (refine UY _ rfl (.tmp 44) (.tmp 44) 178 rfl w.heap.size 173 i0 (.int .u64 0) 1 UJ hi hz0 hz1 .i64 .i64 K K K rfl rfl rfl rfl (by rw[hz2];omega) (by unfold maxLen;omega) hb05.size ?_;intro w6 hown6 hg6);have hownO0:w6.ownsRow w.heap.size 173 1 (.slice (some ⟨w5.heap.size,0,none⟩) K K) K (zO (List.replicate K 0)):=by
  simpa[Value.cells,Ul,jC]using hown6
 have hb56:Below w5.heap.size w5 w6:=(ue _ _).grown hg6 (ud _) (fun _ h=>by cases h);have hownL6:=zu hownL5 hb56;have hownB6:=zV (zu hv5 hb56) (uD _);rw[za Hl5]at hownB6;have hb06:=hb05.trans (hb56.mono hb05.size);have hob:w.heap.size<=w5.heap.size:=hb05.size;generalize w5.heap.size=bo at *;have hglb:gl≠gb:=by omega
 have hgbo:gb≠bo:=by omega
 have hglo:gl≠bo:=by omega
 have hK0:0<K:=by omega
 have hnK:n=m+K:=by omega
 have HnK:=zb hnK;clear hown6 hg6 hv5 hownL5 hb56 hb05 hnK
 go_loopw [10] (fun i wr=>∃(k:Nat)(L O:List Nat),k<=K/\i=.int .i64 ((k:Int)-1)/\L.length=n+1/\O.length=K/\
   wr.ownsRow w.heap.size 173 1 (.slice (some ⟨gl,0,none⟩) (n+1) (n+1)) (n+1) (zO L)/\wr.ownsRow w.heap.size 173 1 (.slice (some ⟨bo,0,none⟩) K K) K (zO O)/\
   wr.ownsRow 0 173 1 (.slice (some ⟨gb,0,none⟩) (m+1) cb) (m+1) (zO ys)/\Below w.heap.size w wr/\Hid (∀d∈L,d<1000000000)/\Hid (∀d∈O,d<1000000000)/\
   Hid (x*s=zG 1000000000 (L.take k)+1000000000^k*(Y*zG 1000000000 (O.drop k)+zG 1000000000 (L.drop k)))/\Hid (zG 1000000000 (L.drop k)<Y))
  (fun i _=>((intOf i)+1).toNat)
 case atStart=>
  refine⟨K,L0,List.replicate K 0,ud _,rfl,za HLl,by simp,hownL6,hownO0,hownB6,hb06,HLd,zb (by intro d hd;simp at hd;omega),?_,?_⟩
  . show _=_
    rw[wT (by simp),zG,Nat.mul_zero,Uz,<-yp 1000000000 L0 K (by rw[za HLl];have:=za HnK;omega),za HLo]
  . show _<_
    have:=za Hstart;rwa[show n-m=K from by have:=za HnK;omega]at this
 case round=>
  clear hownL6 hownO0 hownB6 hb06;obtain⟨k,L,O,hk,rfl,hLl,hOl,hownL,hownO,hownB,hb,hLd,hOd,hinv,hR⟩:=hrel;cases k with
  |zero=>
   rw[show(((0:Nat):Int)-1)= -1 from rfl];have hinv0:x*s=Y*zG 1000000000 O+zG 1000000000 L:=by have:=za hinv;simpa[zG]using this
   have hR0:zG 1000000000 L<Y:=by have:=za hR;simpa using this
   have hend:=zeO (x:=x) (y:=y) (s:=s) (Q:=zG 1000000000 O) (R:=zG 1000000000 L) (by rw[za HY];exact hinv0) (by rw[za HY];exact hR0) hs0;have Hend:=zb hend;have HO:=zb hownO;have hLlen:=jW (dh hR0);have hYlen:(gr Y).length<=1000000:=by rw[<-za HY,(za Hsc).1];omega
   clear hinv0 hR0 hend hinv hR hownO hownB;go_wp2_with fail;refine(jY L w.heap.size _ _ (by omega) (za hLd) (by rw[hLl];exact hownL)).mono ?_;rintro e w7⟨⟨v7,rfl,hv7⟩,rfl⟩;have hv7n:=hv7.nat;clear hv7;go_wp2_with fail;refine(za6 (zG 1000000000 L) s v7 _ hv7n (by omega) hs0 hs9).mono ?_;rintro e w8⟨⟨v8,rfl,hv8⟩,hb8⟩;have hO8:=zu (za HO) hb8;have hbZ:=hb.trans (hb8.mono hb.size);rw[(za Hend).2]at hv8;clear hownL hv7n;go_wp2_with fail;refine(jY O w.heap.size _ _ (by omega) (za hOd) (by rw[hOl];exact hO8)).mono ?_;rintro e w9⟨⟨v9,rfl,hv9⟩,rfl⟩;have hv9n:=hv9.nat;rw[<-(za Hend).1]at hv9n;clear hv9 hO8;go_wp2
   go_ret2
   exact⟨⟨_,_,rfl,hv9n,hv8⟩,hbZ⟩
  |succ i=>
   rw[show(((i+1:Nat):Int)-1)=(i:Int)from by omega];have hin:i+(m+1)<L.length:=by have:=za HnK;omega
   have hcT1:=hownL.cellAt (i+(m+1)) (by omega);rw[zz _ _ hin]at hcT1;have hcT0:=hownL.cellAt (i+m) (by omega);rw[zz _ _ (by omega)]at hcT0;have hcY:=hownB.cellAt m (by omega);rw[zz _ _ (by have:=za Hl5;omega)]at hcY;obtain⟨v0,hv0⟩:=qP hownO i (by omega);have hfO:=hownO.frozenAt i;have hiI:(i:Int)+(m+1)<n+1:=by have:=za HnK;omega
   have hiK:(i:Int)<K:=by omega
   have hT1:L[i+(m+1)]'hin<1000000000:=za hLd _ (uF _);have hT0:L[i+m]'(by omega)<1000000000:=za hLd _ (uF _);have hwt:=zgx (za hLd) i m hin;have htl:=zhi (za Hl5);have hyl0:0<ys[m]'(by have:=za Hl5;omega):=by
    have hl5:=za Hl5;have:=za Hytop (ys[m]'(by omega)) (by
     rw[List.getLast?_eq_getElem?,show ys.length-1=m from by omega];exact uf _)
    omega
   have hyl9:ys[m]'(by have:=za Hl5;omega)<1000000000:=za Hys9 _ (uF _);generalize L[i+(m+1)]'hin=ta at *;generalize L[i+m]'(by omega)=tb at *;generalize ys[m]'(by have:=za Hl5;omega)=yl at *;have Hwt:=zb hwt;have Htl:=zb htl;clear hwt htl;obtain⟨q0,hq0⟩:∃q:Nat,((ta:Int)*1000000000+tb)/yl=q:=⟨(ta*1000000000+tb)/yl,rfl⟩
   have Hq0:Hid ((ta*1000000000+tb)/yl=q0):=by
    show _=_;have:(((ta*1000000000+tb)/yl:Nat):Int)=(q0:Int):=by rw[<-hq0];rfl
    omega
   have hq0d:((ta:Int)*1000000000+tb).tdiv yl=q0:=by rw[Up (by omega)];exact hq0
   have hq0le:q0<=ta*1000000000+tb:=by rw[<-za Hq0];exact WR _ _
   have e1:=qX ((m:Int)+1) (by omega) (by omega);have e2:((m:Int)+1).toNat=m+1:=by omega
   have e3:=yN ((ta:Int)*1000000000) (by omega) (by omega);have e4:=yN ((ta:Int)*1000000000+tb) (by omega) (by omega);have e5:i+(m+1)+1-i=m+1+1:=by omega
   have e6:=yN (q0:Int) (by omega) (by omega);have hyl0I:(0:Int)<yl:=by omega
   have hyl0N:¬(yl:Int)=0:=by omega
   go_wp2_with fail
   go_region
   have hV:=zeN (m:=m+1) (by omega) (za hLd) (za hR) (za HYl);have hVq:yH L i (m+1+1)/Y<=999999999:=by
    have:=(Nat.div_lt_iff_lt_mul hpos0).2 hV.2.2;omega
   have hVg:yH L i (m+1+1)/Y<=q0:=by
    have h1:=zep (Y:=Y) (za Hwt) (by rw[<-za Hyso];exact za Htl) hyl0;rw[za Hq0]at h1;exact h1
   have HVq:=zb hVq;have HVg:=zb hVg;clear hV hVq hVg;go_wp2_with fail
   .
    obtain⟨q1,hq1⟩:∃q1:Nat,999999999=q1:=⟨_,rfl⟩
    rw[show(999999999:Int)=(q1:Int)from by rw[<-hq1];rfl];have HV1:Hid (yH L i (m+1+1)/Y<=q1):=by rw[<-hq1];exact HVq
    have hq9:q1<1000000000:=by omega
    clear hq1;have hO1:=(hownO.stored i (.int .u64 (q1:Int))).1;rw[jU _ _ q1 _ rfl]at hO1;have hbW:=(hb.setCell (p:=⟨bo,i,none⟩) hob (.int .u64 (q1:Int))).drew;have hL1:=wJ hownL (a:=⟨bo,i,none⟩) (by simp[Value.ownBlock];omega) (.int .u64 (q1:Int));have hB1:=wJ hownB (a:=⟨bo,i,none⟩) (by simp[Value.ownBlock];omega) (.int .u64 (q1:Int));have h:=YO L ys gl gb i (m+1) (n+1) (n+1-i) cb q1 w.heap.size _ (za Hl5) hLl (by omega) (by omega) (by omega) (yA hL1) (yA hB1) (by omega) (za hLd) (za Hys9) hq9;refine h.mono ?_;clear h;rintro e w7⟨neg,L1,rfl,hL7,hg7,hso7,hw7⟩;have hO7:=(yA hO1).kept hg7 (.inr (by simp[Value.ownBlock];omega));have hB7:=(yA hB1).kept hg7 (.inr (by simp[Value.ownBlock];omega));have hb7:=hbW.grown hg7 hbW.size (fun k hk=>by cases hk;omega);rw[za Hyso]at hw7;have Hso7:=zb hso7;have Hw7:=zb hw7;clear hO1 hL1 hB1 hbW hg7 hso7 hw7;go_wp2_with fail
    go_loopw [12] (fun bl wr=>∃(q:Nat)(neg:Bool)(L2:List Nat),bl=.bool neg/\q<1000000000/\wr.ownsRow w.heap.size 173 1 (.slice (some ⟨gl,0,none⟩) (n+1) (n+1)) (n+1) (zO L2)/\wr.ownsRow w.heap.size 173 1 (.slice (some ⟨bo,0,none⟩) K K) K (zO (O.set i q))/\
      wr.ownsRow 0 173 1 (.slice (some ⟨gb,0,none⟩) (m+1) cb) (m+1) (zO ys)/\Below w.heap.size w wr/\Hid (jc L L2 i (m+1+1))/\
      Hid (yH L2 i (m+1+1)+q*Y=yH L i (m+1+1)+if neg then 1000000000^(m+1+1)else 0)/\Hid (yH L i (m+1+1)/Y<=q))
     (fun _ wr=>Je wr bo i)
    case atStart=>exact⟨q1,neg,L1,rfl,hq9,hL7,hO7,hB7,hb7,Hso7,Hw7,HV1⟩
    case round=>
     clear hL7 hO7 hB7 hb7 Hso7 Hw7 HV1 hownL hownO hownB hb;obtain⟨q,ng,L2,rfl,hq,hL2,hO2,hB2,hb2,hso2,hw2,hV2⟩:=hrel;cases ng with
     |false=>
      go_wp2_with fail;go_roundw
      case rel=>
       have hw3:yH L2 i (m+1+1)+q*Y=yH L i (m+1+1):=by have:=za hw2;simpa using this
       have hlt3:=Vw hw3 (za hV2) hpos0;have hst:=YE (m:=m+1) (by omega) (by omega) (za hLd) (za HYl) (za hinv) (za hR) (za hso2) hw3 hlt3;exact⟨i,L2,O.set i q,by omega,rfl,(za hso2).1.trans hLl,by simpa using hOl,hL2,hO2,hB2,hb2,zb (za hso2).2.1,zb (jp (za hOd) hq),zb hst.1,zb hst.2⟩
      case measure=>simp[intOf]
     |true=>
      have hcO:=hO2.cellAt i (by omega);rw[zz _ _ (by simp;omega),uR]at hcO;have hfO2:=hO2.frozenAt i;have hmore:=YD (za hw2) (zbG (za hso2).2.1 i (m+1+1) (by have:=(za hso2).1;omega));have hq0':0<q:=wQ (uD _) hmore;obtain⟨q',rfl⟩:∃q',q=q'+1:=⟨q-1,by omega⟩
      have HV3:Hid (yH L i (m+1+1)/Y<=q'):=Nat.le_of_lt_succ hmore;clear hmore;have hO3:=(hO2.stored i (.int .u64 (q':Int))).1;rw[jU _ _ q' _ rfl,List.set_set]at hO3;have hbW:=hb2.setCell (p:=⟨bo,i,none⟩) hob (.int .u64 (q':Int));have hL3:=wJ hL2 (a:=⟨bo,i,none⟩) (by simp[Value.ownBlock];omega) (.int .u64 (q':Int));have hB3:=wJ hB2 (a:=⟨bo,i,none⟩) (by simp[Value.ownBlock];omega) (.int .u64 (q':Int));have hcq:Je wr bo i=q'+1:=xT hcO;have Hcq:=zb hcq;have hL2l:=(za hso2).1.trans hLl;have HO3:=zb hO3;clear hL2 hO2 hB2 hb2 hcq hO3;go_wp2_with fail;have h:=YI L2 ys gl gb i (m+1) (n+1) (n+1-i) cb w.heap.size _ (za Hl5) hL2l (by omega) (by omega) (by omega) hL3 hB3 (by omega) (za hso2).2.1 (za Hys9);refine h.mono ?_;clear h;rintro e w8⟨up,L3,rfl,hL8,hg8,hso8,hw8⟩;have hO8:=(za HO3).kept hg8 (.inr (by simp[Value.ownBlock];omega));have hB8:=hB3.kept hg8 (.inr (by simp[Value.ownBlock];omega));have hb8:=hbW.grown hg8 hbW.size (fun k hk=>by cases hk;omega);have hc8:=hO8.cellAt i (by omega);rw[zz _ _ (by simp;omega),uR]at hc8;have Hc8:=zb (xT hc8);have Hso8:Hid (jc L L3 i (m+1+1)):=ZT (za hso2) hso8;have Hw8:Hid (yH L3 i (m+1+1)+q'*Y=yH L i (m+1+1)+if(!up)then 1000000000^(m+1+1)else 0):=by
       rw[za Hyso]at hw8;exact ZR (za hw2) hw8
      clear hc8 hL3 hB3 hbW hg8 hso8 hw8 hso2 hw2;have hnot:∀(x:Bool)(w:World),(Op.unary .not (.bool x)).run Tryz.prog w=.ok (.bool (!x)) w:=fun _ _=>rfl
      go_wp2_with fail;go_roundw
      case rel=>exact⟨q', !up,L3,rfl,by omega,hL8,hO8,hB8,hb8,Hso8,Hw8,HV3⟩
      case measure=>rw[za Hc8,za Hcq];omega
   .
    obtain⟨q1,hq1⟩:∃q1:Nat,q0=q1:=⟨_,rfl⟩
    have hq9:q1<1000000000:=by omega
    rw[hq1];have HV1:Hid (yH L i (m+1+1)/Y<=q1):=by rw[<-hq1];exact HVg
    clear hq1;have hO1:=(hownO.stored i (.int .u64 (q1:Int))).1;rw[jU _ _ q1 _ rfl]at hO1;have hbW:=(hb.setCell (p:=⟨bo,i,none⟩) hob (.int .u64 (q1:Int))).drew;have hL1:=wJ hownL (a:=⟨bo,i,none⟩) (by simp[Value.ownBlock];omega) (.int .u64 (q1:Int));have hB1:=wJ hownB (a:=⟨bo,i,none⟩) (by simp[Value.ownBlock];omega) (.int .u64 (q1:Int));have h:=YO L ys gl gb i (m+1) (n+1) (n+1-i) cb q1 w.heap.size _ (za Hl5) hLl (by omega) (by omega) (by omega) (yA hL1) (yA hB1) (by omega) (za hLd) (za Hys9) hq9;refine h.mono ?_;clear h;rintro e w7⟨neg,L1,rfl,hL7,hg7,hso7,hw7⟩;have hO7:=(yA hO1).kept hg7 (.inr (by simp[Value.ownBlock];omega));have hB7:=(yA hB1).kept hg7 (.inr (by simp[Value.ownBlock];omega));have hb7:=hbW.grown hg7 hbW.size (fun k hk=>by cases hk;omega);rw[za Hyso]at hw7;have Hso7:=zb hso7;have Hw7:=zb hw7;clear hO1 hL1 hB1 hbW hg7 hso7 hw7;go_wp2_with fail
    go_loopw [12] (fun bl wr=>∃(q:Nat)(neg:Bool)(L2:List Nat),bl=.bool neg/\q<1000000000/\wr.ownsRow w.heap.size 173 1 (.slice (some ⟨gl,0,none⟩) (n+1) (n+1)) (n+1) (zO L2)/\wr.ownsRow w.heap.size 173 1 (.slice (some ⟨bo,0,none⟩) K K) K (zO (O.set i q))/\
      wr.ownsRow 0 173 1 (.slice (some ⟨gb,0,none⟩) (m+1) cb) (m+1) (zO ys)/\Below w.heap.size w wr/\Hid (jc L L2 i (m+1+1))/\
      Hid (yH L2 i (m+1+1)+q*Y=yH L i (m+1+1)+if neg then 1000000000^(m+1+1)else 0)/\Hid (yH L i (m+1+1)/Y<=q))
     (fun _ wr=>Je wr bo i)
    case atStart=>exact⟨q1,neg,L1,rfl,hq9,hL7,hO7,hB7,hb7,Hso7,Hw7,HV1⟩
    case round=>
     clear hL7 hO7 hB7 hb7 Hso7 Hw7 HV1 hownL hownO hownB hb;obtain⟨q,ng,L2,rfl,hq,hL2,hO2,hB2,hb2,hso2,hw2,hV2⟩:=hrel;cases ng with
     |false=>
      go_wp2_with fail;go_roundw
      case rel=>
       have hw3:yH L2 i (m+1+1)+q*Y=yH L i (m+1+1):=by have:=za hw2;simpa using this
       have hlt3:=Vw hw3 (za hV2) hpos0;have hst:=YE (m:=m+1) (by omega) (by omega) (za hLd) (za HYl) (za hinv) (za hR) (za hso2) hw3 hlt3;exact⟨i,L2,O.set i q,by omega,rfl,(za hso2).1.trans hLl,by simpa using hOl,hL2,hO2,hB2,hb2,zb (za hso2).2.1,zb (jp (za hOd) hq),zb hst.1,zb hst.2⟩
      case measure=>simp[intOf]
     |true=>
      have hcO:=hO2.cellAt i (by omega);rw[zz _ _ (by simp;omega),uR]at hcO;have hfO2:=hO2.frozenAt i;have hmore:=YD (za hw2) (zbG (za hso2).2.1 i (m+1+1) (by have:=(za hso2).1;omega));have hq0':0<q:=wQ (uD _) hmore;obtain⟨q',rfl⟩:∃q',q=q'+1:=⟨q-1,by omega⟩
      have HV3:Hid (yH L i (m+1+1)/Y<=q'):=Nat.le_of_lt_succ hmore;clear hmore;have hO3:=(hO2.stored i (.int .u64 (q':Int))).1;rw[jU _ _ q' _ rfl,List.set_set]at hO3;have hbW:=hb2.setCell (p:=⟨bo,i,none⟩) hob (.int .u64 (q':Int));have hL3:=wJ hL2 (a:=⟨bo,i,none⟩) (by simp[Value.ownBlock];omega) (.int .u64 (q':Int));have hB3:=wJ hB2 (a:=⟨bo,i,none⟩) (by simp[Value.ownBlock];omega) (.int .u64 (q':Int));have hcq:Je wr bo i=q'+1:=xT hcO;have Hcq:=zb hcq;have hL2l:=(za hso2).1.trans hLl;have HO3:=zb hO3;clear hL2 hO2 hB2 hb2 hcq hO3;go_wp2_with fail;have h:=YI L2 ys gl gb i (m+1) (n+1) (n+1-i) cb w.heap.size _ (za Hl5) hL2l (by omega) (by omega) (by omega) hL3 hB3 (by omega) (za hso2).2.1 (za Hys9);refine h.mono ?_;clear h;rintro e w8⟨up,L3,rfl,hL8,hg8,hso8,hw8⟩;have hO8:=(za HO3).kept hg8 (.inr (by simp[Value.ownBlock];omega));have hB8:=hB3.kept hg8 (.inr (by simp[Value.ownBlock];omega));have hb8:=hbW.grown hg8 hbW.size (fun k hk=>by cases hk;omega);have hc8:=hO8.cellAt i (by omega);rw[zz _ _ (by simp;omega),uR]at hc8;have Hc8:=zb (xT hc8);have Hso8:Hid (jc L L3 i (m+1+1)):=ZT (za hso2) hso8;have Hw8:Hid (yH L3 i (m+1+1)+q'*Y=yH L i (m+1+1)+if(!up)then 1000000000^(m+1+1)else 0):=by
       rw[za Hyso]at hw8;exact ZR (za hw2) hw8
      clear hc8 hL3 hB3 hbW hg8 hso8 hw8 hso2 hw2;have hnot:∀(x:Bool)(w:World),(Op.unary .not (.bool x)).run Tryz.prog w=.ok (.bool (!x)) w:=fun _ _=>rfl
      go_wp2_with fail;go_roundw
      case rel=>exact⟨q', !up,L3,rfl,by omega,hL8,hO8,hB8,hb8,Hso8,Hw8,HV3⟩
      case measure=>rw[za Hc8,za Hcq];omega
end Go.Proofs.YtpbnmhnbkfnaeaaGreatDoor
