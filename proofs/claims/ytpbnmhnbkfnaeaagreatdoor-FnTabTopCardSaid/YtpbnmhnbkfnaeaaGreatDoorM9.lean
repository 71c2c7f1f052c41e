/- A part of the proof, put together out of smaller texts. -/
import Derived.Test.YtpbnmhnbkfnaeaaGreatDoorM0
import Derived.Test.YtpbnmhnbkfnaeaaGreatDoorM1
import Derived.Test.YtpbnmhnbkfnaeaaGreatDoorM3
import Derived.Test.YtpbnmhnbkfnaeaaGreatDoorM6
import Derived.Test.YtpbnmhnbkfnaeaaGreatDoorM7
import Derived.Test.YtpbnmhnbkfnaeaaGreatDoorM8
import Derived.Deep.RegionHeldLaw
import Derived.RegionIn
import Derived.Deep.RegionWith
import Derived.Stop.RegionWithIn
import Derived.Sort.OwnSortedInts
import Derived.Shelf.Small.Utf8
import Derived.Shelf.Small.Strs
import Derived.Shelf.Utf8.RuneCount
import Derived.Shelf.Strings.Runes
import Derived.Test.YtpbnmhnbkfnaeaaGreatDoorProg
import Derived.BigQuiet
import Derived.Deep.QuietTactic
import Derived.Lib.OthersKept
import Derived.Laws.IdiomStrings
import Derived.Laws.Runes
import Derived.WalkMore
import Derived.Lib.Strings
import Derived.Shelf.Unicode.ValidAny
import Derived.Laws.StructEq
set_option linter.all false
set_option maxRecDepth 100000
set_option maxHeartbeats 32000000
namespace Go.Proofs.YtpbnmhnbkfnaeaaGreatDoor
open Go.RowKit Go.Shelf Nt
theorem KU(q j:Nat):(⟨q,0,none⟩:Addr).add j=⟨q,j,none⟩:=by
 by_cases h:j=0
 . subst h;simp[Addr.add]
 . simp[Addr.add,h]
theorem xH(of0 p of sz gone:List Int)(ps:List (List Int)):zI of0 (p::ps) of sz gone=if((qE of0 (p::ps) (zD of (p.headD 0)):Nat):Int)=zD sz (zD of (p.headD 0))then zI of0 ps of sz gone
  else zI of0 ps (jF of p sz.length) (sz.set (zD of (p.headD 0)).toNat (zD sz (zD of (p.headD 0))-p.length)++[(p.length:Int)]) (gone++p):=rfl
theorem zch(N B g pg cap n:Nat)(nv ov sv:Value)(of sz:List Int)(ps:List (List Int))(vs:List Value)(w:World)(hG:AtC3 w g nv ov sv 96)
  (hof:w.ownsRow N 3 1 ov of.length (iv of))(hsz:w.ownsRow N 3 1 sv sz.length (iv sz))(has:ApartV ov sv)(hob:∀b,ov.ownBlock=some b->b<B)(hsb:∀b,sv.ownBlock=some b->b<B)(hBw:B<=w.heap.size)(hNB:N<=B)
  (hP:RoR w B (.slice (some ⟨pg,0,none⟩) ps.length cap) ps vs)(hgo:ps≠[]->GrpOk n of sz)(hpp:∀ps':List (List Int),ps'.Perm ps->Parts n of ps')(hn:n<=1048576)(hpl:ps.length<=1048576):
  Calls Tryz.prog 74 #[.pointer (some ⟨g,0,none⟩),.slice (some ⟨pg,0,none⟩) ps.length cap] w fun e w'=>∃(ps':List (List Int))(vs':List Value)(sv' gv:Value),ps'.Perm ps/\e=.returned gv/\
   SpS w w' N B g nv ov sv sv' gv (.slice (some ⟨pg,0,none⟩) ps.length cap) (zI of ps' of sz []).1 (zI of ps' of sz []).2.1 (zI of ps' of sz []).2.2 ps' vs':=by
 obtain⟨i0,hi,hz0,hz1,hz2⟩:=Ue Tryz.infoInt;have hlp:∀p∈ps,p.length<=1048576:=fun p hp=>uC (VA (hpp ps (List.Perm.refl _)) hp) hn
 have hSR:=hP.toSR hlp;have hcapR:=hSR.cap;have HSR:=zb hSR;have HP:=zb hP;have HG:=zb hG;have HOF:=zb hof;have HSZ:=zb hsz;have HAS:=zb has;have HOB:=zb hob;have HSB:=zb hsb;have HGO:=zb hgo;have HPP:=zb hpp;clear hSR hP hG hof hsz has hob hsb hgo hpp hlp;have hmm:∀W,Sem.run Tryz.prog (Instr.makeMap 145 none) W=.ok (.map (some W.heap.size)) (W.alloc (.map #[] 0)):=fun W=>by kernel_rfl
 go_enter Tryz.func74,Tryz.ntmps74;go_wp2_with fail;have h:=KE pg cap ps.length vs vs w w (za HSR) (by omega);refine h.mono ?_;clear h;rintro e w1⟨⟨u,rfl⟩,vs',hs1⟩;obtain⟨ps',hpm,hR1⟩:=(za HP).sorted hs1;have hpl':ps'.length=ps.length:=hpm.length_eq;have hpgB:B<=pg:=(zX (za HP).row rfl).1;have hplt:=(zX (za HP).row (b:=pg) rfl).2;have HPT:=zb ((za HPP) ps' hpm);have HK1:=zb hs1.kept;have HR1:=zb hR1;have HVP:=zb hs1.perm;have hvs:∀x∈vs',∀b,x.ownBlock=some b->B<=b/\b<w.heap.size:=fun x hx b hb=>by
  have hx2:=hs1.perm.mem_iff.1 hx;obtain⟨j,hj⟩:=uT hx2;have hjl:=(ui.1 hj).1;exact zX ((za HP).each j x _ hj (uf (by rw[<-(za HP).len];exact hjl))) hb
 have HS1:Hid (SpS w w1 N B g nv ov sv sv (.slice none 0 0) (.slice (some ⟨pg,0,none⟩) ps.length cap) of sz [] ps' vs'):=zb
  {box:=(za HG).kept' hs1.kept (fun e=>vv (za HG) (za HP).row (by decide) (by rw[e];rfl))
   ofr:=zS (za HOF) hs1.kept (fun b hb e=>by have:=(za HOB) b hb;omega)
   szr:=zS (za HSZ) hs1.kept (fun b hb e=>by have:=(za HSB) b hb;omega)
   gor:=Wd _ _ _ _
   par:=hR1
   os:=za HAS
   olt:=za HOB
   plt:=hvs
   sok:=fun b hb=>.inl ((za HSB) b hb)
   s0:=.inl rfl
   sg:=fun b _ hb=>by simp[Value.ownBlock]at hb
   bw:=hBw
   kept:=hs1.kept.mono (fun b e=>.inr (.inr (.inr (by rw[e];rfl))))}
 have hw1:=hs1.kept.size;have HS2:=zb ((za HS1).up (zf (ue _ _) (.map #[] 0)));have HC:=zb (Cnt.made w1);clear hs1 hR1 HPP HR1 HK1 HVP hvs HS1 HP HG HOF HSZ HSR;go_wp2_with fail
 go_loopw [20] (fun u wr=>∃(k m:Nat)(D:DataW Unit),k<=ps.length/\u=.int .i64 k/\m<=k/\Hid (Cnt wr w1.heap.size m D (fun x=>(qE of (ps'.take k) x:Nat)))/\Hid (SpS w wr N B g nv ov sv sv (.slice none 0 0) (.slice (some ⟨pg,0,none⟩) ps.length cap) of sz [] ps' vs'))
  (fun u _=>ps.length-(intOf u).toNat)
 case atStart=>exact⟨0,0,_,by omega,rfl,by omega,HC,HS2⟩
 case round=>
  clear HC HS2 hmm;obtain⟨k,m,D,hk,rfl,hm,HC,HS⟩:=hrel;by_cases hlt:k<ps.length
  . have hps:ps≠[]:=fun e=>by rw[e]at hlt;simp at hlt
    have hGO:=za HGO hps;have hln:=hGO.len;obtain⟨p,hp⟩:∃p,ps'[k]? =some p:=⟨_,uf (by omega)⟩
    have hpm':=un hp;have hpn:=VA (za HPT) hpm';have hne:=(za HPT).ne p hpm';obtain⟨xv,hxv⟩:∃xv,vs'[k]? =some xv:=⟨_,uf (by rw[(za HS).par.len];omega)⟩
    have hxr:=(za HS).par.each k xv p hxv hp;have hpos:0<p.length:=UQ.2 hne;obtain⟨q,qc,e1,hqc,_,_⟩:=zY hxr hpos;subst e1;have hpq:p.length<=n:=hpn;have hrow:wr.ownsRow B 24 1 (.slice (some ⟨pg,0,none⟩) ps.length cap) ps.length vs':=by have h:=(za HS).par.row;rwa[hpl']at h
    have c0:wr.cell? ⟨pg,k,none⟩=some (.slice (some ⟨q,0,none⟩) p.length qc):=by
     rw[hrow.cellAt k (by omega)];exact hxv
    obtain⟨hd,hhd⟩:∃hd,p[0]? =some hd:=⟨_,uf hpos⟩
    have hhead:p.headD 0=hd:=by
     cases p with
     |nil=>simp at hpos
     |cons a r=>simpa using hhd
    have hdr:=(za HPT).rng p hpm' hd (un hhd);obtain⟨hn',rfl⟩:∃hn':Nat,hd=hn':=⟨hd.toNat,by omega⟩
    have c1:wr.cell? ⟨q,0,none⟩=some (.int .i64 hn'):=by
     rw[hxr.cellAt 0 (by omega)];exact Jk hhd
    obtain⟨ob,oc,e2,_,_,_⟩:=zY (za HS).ofr (by omega);have b0:=(za HS).box.n1;rw[e2]at b0;obtain⟨G,hGe⟩:∃G,zD of hn'=G:=⟨_,rfl⟩
    have hGr:=hGO.rng hn' (by omega) (by omega);rw[hGe]at hGr;have hfew:=hGO.few;have c2:wr.cell? ⟨ob,hn',none⟩=some (.int .i64 G):=by
     have h:=(za HS).ofr;rw[e2]at h;rw[h.cellAt hn' (by omega)];have:=J5 (g:=of) (x:=(hn':Int)) (by omega);rw[UI,hGe]at this;exact Jk this
    obtain⟨c,hc⟩:∃c,qE of (ps'.take k) G=c:=⟨_,rfl⟩
    have hcn:c<=n:=by rw[<-hc];exact zhd hln (za HPT) k G
    have hCd:=(za HC).keeps (zE (ue wr.heap.size wr).drew);have hrunL:=hCd.look G (by omega) (by omega);simp only[hc]at hrunL;obtain⟨W2,D2,hrunU,hC2,hgU⟩:=hCd.store (by unfold maxLen;omega) G ((c:Int)+p.length) (by omega) (by omega) (by omega) (by omega);have HS3:=zb (((za HS).up (ue _ _).drew).map hgU hCd.isMap hw1);have HC3:Hid (Cnt W2 w1.heap.size (m+1) D2 (fun x=>(qE of (ps'.take (k+1)) x:Nat))):=zb (by
     have h:=hC2;have e:(fun z=>if z=G then(c:Int)+p.length else((qE of (ps'.take k) z:Nat):Int))=(fun x=>((qE of (ps'.take (k+1)) x:Nat):Int)):=by
      funext z
      rw[uY,hp,Option.toList_some,zbl,QA,hhead,hGe];have:qE of [] z=0:=rfl;rw[this];by_cases hz:z=G
      . subst hz;rw[uj rfl,uj rfl,hc];omega
      . rw[ul hz,ul (fun e=>hz e.symm)];simp
     rw[<-e];exact h)
    have q1:(hn':Int)<of.length:=by omega
    clear hxr hrow hp hxv hhd hhead hdr hGe hc hCd hC2 hgU HC hln hfew hpm' hne hGr hGO hps;go_wp2_with fail
    go_region
    all_goals
     go_wp2_with fail;go_roundw
     case rel=>exact⟨k+1,m+1,D2,by omega,by go_num,by omega,HC3,HS3⟩
     case measure=>simp[intOf];omega
  . obtain rfl:k=ps.length:=by omega
    have hC0:=(za HC).keeps (zE (zf (ue wr.heap.size wr) (.cells #[] 3)));rw[show ps'.take ps.length=ps'.drop 0 by rw[<-hpl'];simp]at hC0;have HC0:=zb hC0;have hS0:=(za HS).up (zf (ue wr.heap.size wr) (.cells #[] 3));have hwr:=(za HS).kept.size
    have HS0:Hid (SpS w (wr.alloc (.cells #[] 3)) N B g nv ov sv sv (.slice (some ⟨wr.heap.size,0,none⟩) 0 0) (.slice (some ⟨pg,0,none⟩) ps.length cap) of sz [] ps' vs'):=zb
     {hS0 with
      gor:=by have h:=wh (base:=w.heap.size) (e:=3) (size:=1) wr #[] 0 hwr (by unfold maxLen;omega) rfl;simpa[iv]using h
      sg:=fun b hb hb'=>by
       have h1:=(zX (za HS).szr hb).2;simp[Value.ownBlock]at hb';omega}
    have HI0:Hid (ps≠[]->kS n of (ps'.take 0) (ps'.drop 0) sz.length of sz []):=zb (fun hps=>by have hGO:=za HGO hps;simpa using X9 hGO.len (za HPT) hGO.rng hGO.cnt);have HV0:Hid (zI of (ps'.drop 0) of sz []=zI of ps' of sz []):=zb (by simp);clear hC0 hS0 HC HS hlt;go_wp2_with fail
    go_loopw [8,42] (fun gv u wk=>∃(k m:Nat)(D:DataW Unit)(of1 sz1 gone1:List Int)(sv1:Value),k<=ps.length/\u=.int .i64 k/\m<=ps.length+k/\Hid (Cnt wk w1.heap.size m D (fun x=>(qE of (ps'.drop k) x:Nat)))/\Hid (SpS w wk N B g nv ov sv sv1 gv (.slice (some ⟨pg,0,none⟩) ps.length cap) of1 sz1 gone1 ps' vs')/\Hid (ps≠[]->kS n of (ps'.take k) (ps'.drop k) sz.length of1 sz1 gone1)/\Hid (zI of (ps'.drop k) of1 sz1 gone1=zI of ps' of sz []))
     (fun _ u _=>ps.length-(intOf u).toNat)
    case atStart=>exact⟨0,_,_,of,sz,[],sv,by omega,rfl,by omega,HC0,HS0,HI0,HV0⟩
    case round=>
     clear HC0 HS0 HI0 HV0;obtain⟨k,m,D,of1,sz1,gone1,sv1,hk,rfl,hm,HC,HS,HI,HV⟩:=hrel;by_cases hlt:k<ps.length
     . have hps:ps≠[]:=fun e=>by rw[e]at hlt;simp at hlt
       have hI:=za HI hps;have hln:=hI.len;obtain⟨p,hp⟩:∃p,ps'[k]? =some p:=⟨_,uf (by omega)⟩
       have hdk:ps'.drop k=p::ps'.drop (k+1):=by
        rw[Uk (by omega)];have:=uf (l:=ps') (i:=k) (by omega);rw[hp]at this;rw[Ui this]
       have htk:ps'.take (k+1)=ps'.take k++[p]:=by rw[uY,hp];rfl
       have hsp:Parts n of (ps'.take k++p::ps'.drop (k+1)):=by rw[<-hdk,WV];exact za HPT
       rw[hdk]at hI;have hpm':=un hp;have hpn:=VA (za HPT) hpm';have hne:=(za HPT).ne p hpm';obtain⟨xv,hxv⟩:∃xv,vs'[k]? =some xv:=⟨_,uf (by rw[(za HS).par.len];omega)⟩
       have hxr:=(za HS).par.each k xv p hxv hp;have hpos:0<p.length:=UQ.2 hne;obtain⟨q,qc,e1,hqc,_,_⟩:=zY hxr hpos;subst e1;obtain⟨hd,hhd⟩:∃hd,p[0]? =some hd:=⟨_,uf hpos⟩
       have hhead:p.headD 0=hd:=by
        cases p with
        |nil=>simp at hpos
        |cons a r=>simpa using hhd
       have hdr:=(za HPT).rng p hpm' hd (un hhd);obtain⟨hn',rfl⟩:∃hn':Nat,hd=hn':=⟨hd.toNat,by omega⟩
       have hGr:=hI.rng hn' (by omega) (by omega);have hlate:=JQ hsp hI (q:=p) (by simp) (un hhd);obtain⟨G,hGe⟩:∃G:Nat,zD of1 hn'=G:=⟨(zD of1 hn').toNat,by omega⟩
       rw[hGe]at hGr hlate;have hcnt:=hI.cnt G (by omega) (by omega);have hcl:=List.count_le_length (a:=(G:Int)) (l:=of1);obtain⟨z,hz⟩:∃z:Nat,zD sz1 G=z:=⟨(zD sz1 G).toNat,by omega⟩
       rw[hz]at hcnt;have hrl:=(Ky hI.len (VL hsp hI) (G:Int)).1;obtain⟨c,hc⟩:∃c,qE of (ps'.drop k) (G:Int)=c:=⟨_,rfl⟩
       have hcz:c<=z:=by rw[<-hc,hdk,zbv hsp hI];omega
       have hzn:z<=n:=by omega
       have hgl:gone1.length<=n:=by
        have h1:=hI.gn1;have h2:=((za HPT).take k).nd;have h3:=jk h2 (m:=(List.range n).map fun(i:Nat)=>(i:Int)) (fun x hx=>by
         obtain⟨y,hy,hxy⟩:=U9.1 hx;have:=(za HPT).rng y (UV hy) x hxy;exact UB.2 ⟨x.toNat,by simp;omega,by omega⟩)
        rw[Ud,List.length_range]at h3;omega
       have hpc:p.length<=c:=by rw[<-hc,hdk,QA,hhead,<-hlate,uj rfl];omega
       have hfew:sz1.length<=n:=(⟨hI.len,hI.rng,hI.cnt⟩:GrpOk n of1 sz1).few;obtain⟨ob,oc,e2,_,_,_⟩:=zY (za HS).ofr (by omega);obtain⟨so,sc,e3,hsc,_,_⟩:=zY (za HS).szr (by omega);obtain⟨ga,gc,e4⟩:=zq (za HS).gor;subst e2 e3 e4;have cells:∀W,Below wr.heap.size wr W->(W.cell? ⟨pg,k,none⟩=some (.slice (some ⟨q,0,none⟩) p.length qc)/\W.cell? ⟨q,0,none⟩=some (.int .i64 hn'))/\(W.cell? ⟨g,1,none⟩=some (.slice (some ⟨ob,0,none⟩) of1.length oc)/\W.cell? ⟨g,2,none⟩=some (.slice (some ⟨so,0,none⟩) sz1.length sc))/\W.cell? ⟨ob,hn',none⟩=some (.int .i64 G)/\W.cell? ⟨so,G,none⟩=some (.int .i64 z):=fun W hW=>by
        have h:=(za HS).up hW;have hrow:W.ownsRow B 24 1 (.slice (some ⟨pg,0,none⟩) ps.length cap) ps.length vs':=by have h:=h.par.row;rwa[hpl']at h
        refine⟨⟨?_,?_⟩,⟨h.box.n1,h.box.n2⟩,?_,?_⟩
        . rw[hrow.cellAt k (by omega)];exact hxv
        . rw[(zu hxr hW).cellAt 0 (by omega)];exact Jk hhd
        . rw[h.ofr.cellAt hn' (by omega)]
          have:=J5 (g:=of1) (x:=(hn':Int)) (by omega);rw[UI,hGe]at this;exact Jk this
        . rw[h.szr.cellAt G (by omega)]
          have:=J5 (g:=sz1) (x:=(G:Int)) (by omega);rw[UI,hz]at this;exact Jk this
       have CE:=zb cells;obtain⟨⟨c0,c1⟩,⟨b1,b2⟩,c2,c3⟩:=cells wr (ue _ _);have HXR:=zb hxr;have HXV:=zb hxv;have HP:=zb hp;have HSPT:=zb hsp;have HIK:=zb hI;have HDK:=zb hdk;have HTK:=zb htk;have HHD:=zb hhd;have HHE:=zb hhead;have HLT:=zb hlate;have HGE:=zb hGe;have HZ:=zb hz;have HCC:=zb hc;have q1:(hn':Int)<of1.length:=by omega
       have q2:(G:Int)<sz1.length:=by omega
       have q3:(0:Int)<p.length:=by omega
       clear cells hxr hxv hp hsp hI hdk htk hhd hhead hlate hGe hz hc hne hpm' hdr hcnt hcl hrl HI;go_wp2_with fail
       go_quiet (fail)
       clear c0 c1 b1 b2 c2 c3;obtain⟨⟨c0,c1⟩,⟨b1,b2⟩,c2,c3⟩:=(za CE) _ (qq wr nq);have HS1:=zb ((za HS).up (qq wr nq));have HC1:=zb ((za HC).keeps (zE (qq wr nq)));obtain⟨W1,hW1⟩:∃W1,wr.drewN nq=W1:=⟨_,rfl⟩
       rw[hW1]at c0 c1 b1 b2 c2 c3 HS1 HC1⊢;clear hW1 CE HS HC;have hL:∀j,(Instr.lookup 145 (.map (some w1.heap.size)) (.int .i64 (G:Int)) false).run Tryz.prog (W1.drewN j)=.ok (.int .i64 (c:Int)) (W1.drewN j):=fun j=>by
        have h:=((za HC1).keeps (zE (qq W1 j))).look (G:Int) (by omega) (by omega);simp only[za HCC]at h;exact h
       go_wp2_with fail
       go_quiet (fail)
       obtain⟨st,hst⟩:∃st,((c:Int)==(z:Int))=st:=⟨_,rfl⟩
       rw[hst];have HST:=zb hst;clear c0 c1 b1 b2 c2 c3 hL hst;have HS2:=zb ((za HS1).up (qq W1 nq));have HC2:=zb ((za HC1).keeps (zE (qq W1 nq)));obtain⟨W2,hW2⟩:∃W2,W1.drewN nq=W2:=⟨_,rfl⟩
       rw[hW2]at HS2 HC2⊢;clear hW2 HS1 HC1;have hL2:=(za HC2).look (G:Int) (by omega) (by omega);simp only[za HCC]at hL2;obtain⟨W3,D3,hrunU,hC3,hgU⟩:=(za HC2).store (by unfold maxLen;omega) (G:Int) ((c:Int)-p.length) (by omega) (by omega) (by omega) (by omega);have HS3:=zb ((za HS2).map hgU (za HC2).isMap hw1);have HC3:Hid (Cnt W3 w1.heap.size (m+1) D3 (fun x=>(qE of (ps'.drop (k+1)) x:Nat))):=zb (by
        have h:=hC3;have e:(fun y=>if y=(G:Int)then(c:Int)-p.length else((qE of (ps'.drop k) y:Nat):Int))=(fun x=>((qE of (ps'.drop (k+1)) x:Nat):Int)):=by
         have hcc:=za HCC;rw[za HDK,QA,za HHE,<-za HLT,uj rfl]at hcc
         funext y
         rw[za HDK,QA,za HHE,<-za HLT];by_cases hy:y=(G:Int)
         . subst hy;rw[uj rfl];omega
         . rw[ul hy,ul (fun e=>hy e.symm)];simp
        rw[<-e];exact h)
       clear hC3 hgU HS2 HC2;cases st with
       |true=>
        have HIN:Hid (ps≠[]->kS n of (ps'.take (k+1)) (ps'.drop (k+1)) sz.length of1 sz1 gone1):=zb (fun _=>by
         rw[za HTK];exact zcg (za HSPT) (za HIK) (by
          rw[<-za HDK,za HHE,za HGE,za HCC,za HZ];have h:=za HST;simpa using h))
        have HVN:Hid (zI of (ps'.drop (k+1)) of1 sz1 gone1=zI of ps' of sz []):=zb (by
         have h:=za HV;rw[za HDK]at h;rw[xH,<-za HDK,za HHE,za HGE,za HCC,za HZ,uj (by have h:=za HST;simpa using h)]at h;exact h)
        go_wp2_with fail;go_roundw
        case rel=>exact⟨k+1,m+1,D3,of1,sz1,gone1,_,by omega,by go_num,by omega,HC3,HS3,HIN,HVN⟩
        case measure=>simp[intOf];omega
       |false=>
        have hlast:k+1<=ps.length:=hlt;go_wp2_with fail
        go_loopw [75] (fun v wq=>∃j:Nat,j<=p.length/\v=.int .i64 j/\Hid (Cnt wq w1.heap.size (m+1) D3 (fun x=>(qE of (ps'.drop (k+1)) x:Nat)))/\Hid (SpS w wq N B g nv (.slice (some ⟨ob,0,none⟩) of1.length oc) sv (.slice (some ⟨so,0,none⟩) sz1.length sc) (.slice ga gone1.length gc) (.slice (some ⟨pg,0,none⟩) ps.length cap) (jF of1 (p.take j) sz1.length) sz1 gone1 ps' vs'))
         (fun v _=>p.length-(intOf v).toNat)
        case atStart=>exact⟨0,by omega,rfl,HC3,by simpa[jF]using HS3⟩
        case round=>
         clear HC3 HS3 hrunU hL2;obtain⟨j,hj,rfl,HC,HS⟩:=hrel;obtain⟨Wq,hWq⟩:∃Wq,wr=Wq:=⟨_,rfl⟩
         rw[hWq]at HC HS⊢;clear hWq;have hxr:=(za HS).par.each k _ p (za HXV) (za HP);by_cases hjl:j<p.length
         . obtain⟨x,hx⟩:∃x,p[j]? =some x:=⟨_,uf hjl⟩
           have hxm:=un hx;have hxg:=(za HPT).rng p (un (za HP)) x hxm;obtain⟨xn,rfl⟩:∃xn:Nat,x=xn:=⟨x.toNat,by omega⟩
           have c1:Wq.cell? ⟨q,j,none⟩=some (.int .i64 xn):=by
            rw[hxr.cellAt j (by omega)];exact Jk hx
           have b1:=(za HS).box.n1;have b2:=(za HS).box.n2;have hO:=(za HS).ofr;rw[kg]at hO;have f1:=hO.frozenAt xn;obtain⟨v0,hv0⟩:=qP hO xn (by omega);have hS4:=za HS;rw[<-kg of1 (p.take j) (sz1.length:Int)]at hS4;have hS5:=hS4.setOf (i:=xn) (x:=(sz1.length:Int));have hst:(jF of1 (p.take j) (sz1.length:Int)).set xn (sz1.length:Int)=jF of1 (p.take (j+1)) (sz1.length:Int):=by
            unfold jF;rw[uY,hx,Option.toList_some,List.foldl_append];simp
           rw[hst,kg]at hS5;have HS5:=zb hS5;have HC5:=zb ((za HC).keeps (KeepsOthers.setCell Wq ⟨ob,xn,none⟩ (.int .i64 (sz1.length:Int))));have q5:(xn:Int)<of1.length:=by omega
           clear hO hS4 hS5 hst hx hxm hxg hxr;go_wp2_with fail
           go_region
           all_goals
            go_wp2_with fail;go_roundw
            case rel=>exact⟨j+1,by omega,by go_num,zb (by first|exact za HC5|exact(za HC5).keeps (zE (ue _ _).drew)),zb (by first|exact za HS5|exact(za HS5).up (ue _ _).drew)⟩
            case measure=>simp[intOf];omega
         . obtain rfl:j=p.length:=by omega
           rw[uz (ud _)]at HS;have b1:=(za HS).box.n1;have b2:=(za HS).box.n2;have hZr:=(za HS).szr;have f3:=hZr.frozenAt G;have c3:Wq.cell? ⟨so,G,none⟩=some (.int .i64 z):=by
            rw[hZr.cellAt G (by omega)];have:=J5 (g:=sz1) (x:=(G:Int)) (by omega);rw[UI,za HZ]at this;exact Jk this
           have hS4:=(za HS).setSz (i:=G) (x:=(z:Int)-p.length);obtain⟨sz2,hsz2⟩:∃sz2,sz1.set G ((z:Int)-p.length)=sz2:=⟨_,rfl⟩
           have hl2:sz2.length=sz1.length:=by rw[<-hsz2];simp
           rw[hsz2]at hS4;have HS4:=zb hS4;have HSZ2:=zb hsz2;have HL2:=zb hl2;have HZ4:Hid ((Wq.setCell ⟨so,G,none⟩ (.int .i64 ((z:Int)-p.length))).ownsRow N 3 1 (.slice (some ⟨so,0,none⟩) sz1.length sc) sz1.length (iv sz2)):=zb (by have h:=hS4.szr;rwa[hl2]at h);have b4:=hS4.box.n2;have HC4:=zb ((za HC).keeps (KeepsOthers.setCell Wq ⟨so,G,none⟩ (.int .i64 ((z:Int)-p.length))));have hNw:N<=Wq.heap.size:=by have:=(za HS).kept.size;omega
           have hww:w.heap.size<=Wq.heap.size:=(za HS).kept.size;clear hZr hS4 hsz2 hl2 HS HC
           go_wp2_with (first
            |(at_builtin;refine wpList_append_own_at _ rfl _ _ 24 rfl N 3 i0 (.int .i64 0) 1 8 uV hi hz0 hz1 hz2 rfl (by decide) _ _ _ rfl ((za HZ4).alloc _) ⟨Wq.heap.size,0,none⟩ 1 1 [.int .i64 (p.length:Int)] rfl rfl (by have h:=cell_one_new (Wq.setCell ⟨so,G,none⟩ (.int .i64 ((z:Int)-p.length))) (.int .i64 (p.length:Int)) 3;rwa[World.size_setCell]at h) (by intro u hu;simp at hu;subst hu;rfl) (by unfold maxLen;omega) (by omega) (by simp;omega) ?_;intro sv' wA hown hgrow hnil hloc;obtain⟨ta,tc,rfl⟩:=zq hown;have HSA:=zb ((za HS4).appSz (z:=(p.length:Int)) (by rw[za HL2];exact hown) hgrow (hloc.imp id (fun h=>⟨_,h,by simp⟩)));have kA:Kept (fun b=>(Value.slice (some ⟨so,0,none⟩) sz1.length sc).ownBlock=some b) (Wq.setCell ⟨so,G,none⟩ (.int .i64 ((z:Int)-p.length))) wA:=(Kept.of_below ((ue _ _).alloc (ud _) (.cells #[.int .i64 (p.length:Int)] 3))).trans (Kept.of_grown hgrow (fun _ e=>e));have bxA:=(za HS4).box.kept' kA (vv (za HS4).box (za HZ4) (by decide));have bA:=bxA.n2;have fA:=bxA.f 2;have HCA:=zb (((za HC4).keeps (z6 kA (fun b hb o ho=>jb (za HZ4) hb ho))).keeps (KeepsOthers.setCell wA ⟨g,2,none⟩ (.slice ta (sz1.length+1) tc)));have hwA:=kA.size;rw[World.size_setCell]at hwA;clear hown hgrow hnil hloc kA bxA)
            |(at_builtin;refine wpList_append_own_at _ rfl _ _ 24 rfl w.heap.size 3 i0 (.int .i64 0) 1 8 uV hi hz0 hz1 hz2 rfl (by decide) _ _ _ rfl (za HSA).gor ⟨q,0,none⟩ p.length qc (iv p) rfl (by simp[iv]) (fun j u hj=>by have hxr:=(za HSA).par.each k _ p (za HXV) (za HP);have hjl:=(ui.1 hj).1;have h:=hxr.cellAt j (by simpa[iv]using hjl);rw[hj]at h;rw[KU];exact h) (by intro u hu;simp[iv]at hu;obtain⟨_,_,rfl⟩:=hu;rfl) (by unfold maxLen;omega) (by omega) (by simp;omega) ?_;intro gv' wB hown hgrow hnil hloc;obtain⟨ra,rc,rfl⟩:=zq hown;have HSB2:=zb ((za HSA).appGone hown hgrow (hloc.imp id (fun h=>⟨_,h,by simp⟩)));have HCB:=zb ((za HCA).keeps (z6 (Kept.of_grown (S:=fun b=>(Value.slice ga gone1.length gc).ownBlock=some b) hgrow (fun _ e=>e)) (fun b hb o ho=>jb (za HSA).gor hb ho)));clear hown hgrow hnil hloc))
           go_roundw
           case rel=>
            have hne':¬((c:Int)=(z:Int)):=by have h:=za HST;simpa using h
            have hin:=zgG (za HSPT) (za HIK) (by rw[<-za HDK,za HHE,za HGE,za HCC,za HZ];exact hne');rw[<-za HTK,za HHE,za HGE,za HZ,UI,za HSZ2]at hin;have hvn:=za HV;rw[za HDK,xH,<-za HDK,za HHE,za HGE,za HCC,za HZ,ul hne',UI,za HSZ2]at hvn;exact⟨k+1,m+1,D3,_,_,_,_,by omega,by go_num,by omega,HCB,HSB2,zb (fun _=>hin),zb hvn⟩
           case measure=>simp[intOf];omega
     . obtain rfl:k=ps.length:=by omega
       obtain⟨ga,gc,e4⟩:=zq (za HS).gor;subst e4;have hV:=za HV;rw[wT (by omega)]at hV;have HV2:Hid ((of1,sz1,gone1)=zI of ps' of sz []):=zb hV;clear hV;go_wp2_with fail;go_ret;refine⟨ps',vs',sv1,_,hpm,rfl,?_⟩;rw[<-za HV2];exact za HS
theorem KW(gv pv:Value)(ps:List Int)(look:Int->Int×List UInt8)(w:World)(hp:IntsAt w pv ps)(hn:ps.length<=1048576)
  (hkey:∀x∈ps,∃l,keyOf Tryz.prog 107 (.agg #[.int .i64 (look x).1,.string (B (look x).2)])=some l)
  (hlook:∀x∈ps,∀W,Below w.heap.size w W->Calls Tryz.prog 80 #[gv,.int .i64 x] W fun e w'=>e=.returned (.agg #[.int .i64 (look x).1,.string (B (look x).2)])/\Below W.heap.size W w'):
  Calls Tryz.prog 78 #[pv,.func (.func 80) #[gv] #[]] w fun e w'=>(∃ga vc vs,e=.returned (.slice (some ⟨ga,0,none⟩) (zR look ps).length vc)/\RoR w' w.heap.size (.slice (some ⟨ga,0,none⟩) (zR look ps).length vc) (zR look ps) vs)/\Below w.heap.size w w':=by
 obtain⟨i0,hi,hz0,hz1,hz2⟩:=Ue Tryz.infoInt;obtain⟨j0,hj,hy0,hy1,hy2⟩:=Ue Tryz.infoIntS;have HP:=zb hp;obtain⟨pa,pc,rfl,hp1,hp2, -⟩:=hp;unfold maxLen at hp2;have HK:=zb hkey;have HL:=zb hlook;clear hkey hlook;have HK0:=zb ((Known.nil w 107 (fun y:Int×List UInt8=>.agg #[.int .i64 y.1,.string (B y.2)])).keeps (zE (zf (ue _ _) (.cells #[] 24))));have HB0:=zb (zf (zf (ue w.heap.size w) (.map #[] 0)) (.cells #[] 24));have HR0:Hid (RoR ((w.alloc (.map #[] 0)).alloc (.cells #[] 24)) w.heap.size (.slice (some ⟨w.heap.size+1,0,none⟩) 0 0) [] []):=zb ⟨rfl,by have h:=wh (base:=w.heap.size) (e:=24) (size:=1) (w.alloc (.map #[] 0)) #[] 0 (by simp) (by unfold maxLen;omega) rfl;simpa using h,fun i x p h=>by simp at h,fun i j x y _ h=>by simp at h⟩;have hmm:Sem.run Tryz.prog (Instr.makeMap 151 none) w=.ok (.map (some w.heap.size)) (w.alloc (.map #[] 0)):=by kernel_rfl
 go_enter Tryz.func78,Tryz.ntmps78;go_wp2_with fail
 go_loopw [6,16] (fun v u wr=>∃(k:Nat)(D:DataW Unit)(vs:List Value)(ga vc:Nat),k<=ps.length/\u=.int .i64 k/\v=.slice (some ⟨ga,0,none⟩) (zR look (ps.take k)).length vc/\Hid (Known wr 107 (fun y:Int×List UInt8=>.agg #[.int .i64 y.1,.string (B y.2)]) w.heap.size (qn look (ps.take k)) D)/\Hid (RoR wr w.heap.size (.slice (some ⟨ga,0,none⟩) (zR look (ps.take k)).length vc) (zR look (ps.take k)) vs)/\Hid (Below w.heap.size w wr))
  (fun _ u _=>ps.length-(intOf u).toNat)
 case atStart=>exact⟨0,_,_,w.heap.size+1,0,by omega,rfl,rfl,HK0,HR0,HB0⟩
 case round=>
  clear HK0 HB0 HR0 hmm;obtain⟨k,D,vs,ga,vc,hk,rfl,rfl,HKN,HR,HB⟩:=hrel;have hpl:=kI look (ps.take k);have hkl:=ZB look (ps.take k);rw[uH]at hkl;obtain⟨K0,hK0⟩:∃K0,qn look (ps.take k)=K0:=⟨_,rfl⟩
  obtain⟨P0,hP0⟩:∃P0,zR look (ps.take k)=P0:=⟨_,rfl⟩
  have HKE:=zb hK0;have HPE:=zb hP0;rw[hK0,hP0]at hpl;rw[hK0]at hkl HKN;rw[hP0]at HR⊢;have hm:P0.length<=1048576:=by omega
  have HPL:=zb hpl;clear hpl hK0 hP0 hkl;by_cases hlt:k<ps.length
  . obtain⟨x,hx⟩:∃x,ps[k]? =some x:=⟨_,uf hlt⟩
    have hxm:=un hx;obtain⟨a,cap,e1,_,_,h3⟩:=kX ((za HP).below (za HB));injection e1 with e2 e3 e4;obtain⟨fb,fo,rfl,hfb,hfx⟩:=h3 k x hx;subst e2;clear e4 h3;have htk:ps.take (k+1)=ps.take k++[x]:=by rw[uY,hx];rfl
    have HTK:=zb htk;obtain⟨l,hl⟩:=za HK x hxm;have HLX:=zb ((za HL) x hxm wr (za HB));obtain⟨y,hy⟩:∃y,look x=y:=⟨_,rfl⟩
    rw[hy]at hl HLX;have HY:=zb hy;obtain⟨y1,y2⟩:=y;simp only at hl HLX;have HLl:=zb hl;clear hy htk hx hl;go_wp2_with fail;have h:=za HLX;refine h.mono ?_;clear h HLX;rintro e w1⟨rfl,hb1⟩;have hB2:=zf hb1 (.cells #[.int .i64 y1,.string (B y2)] 107);have HK2:=zb ((za HKN).keeps (zE hB2));have HR2:=zb ((za HR).up hB2);have HB2:=zb (zi (za HB) hB2);clear HKN HR HB hb1 hB2 hfx;by_cases hin:(y1,y2)∈K0
    . obtain⟨t,ht⟩:=uT hin
      have hKK:=(za HK2).yes t _ l ht (za HLl);have htl:t<P0.length:=by rw[za HPL];exact(ui.1 ht).1
      have hold:=Jn (look:=look) (ps:=ps.take k) (x:=x) (t:=t) (by rw[za HKE,za HY];exact ht);rw[za HPE,za HKE,<-za HTK]at hold;obtain⟨p,hp⟩:∃p,(ps.take k).filter (fun y=>decide (look y=look x))=p:=⟨_,rfl⟩
      rw[hp]at hold;have hpp:P0[t]? =some p:=by
       rw[<-za HPE];unfold zR;rw[WX,za HKE,ht,Option.map_some,<-za HY,hp]
      have hpn:p.length<=1048576:=by
       rw[<-hp];have:=List.length_filter_le (fun y=>decide (look y=look x)) (ps.take k);rw[uH]at this;omega
      obtain⟨xv,hxv⟩:∃xv,vs[t]? =some xv:=⟨_,uf (by rw[(za HR2).len];exact htl)⟩
      have hxr:=(za HR2).each t xv p hxv hpp;obtain⟨ra,rc,hxs⟩:=zq hxr;subst hxs;obtain⟨g,hg⟩:∃g,g=ga:=⟨_,rfl⟩
      subst hg;have c0:(w1.alloc (.cells #[.int .i64 y1,.string (B y2)] 107)).cell? ⟨g,t,none⟩=some (.slice ra p.length rc):=by
       rw[(za HR2).row.cellAt t (by omega)];exact hxv
      have HXR:=zb hxr;have HOL:=zb hold;have HPP:=zb hpp;have HXV:=zb hxv;have HKK:=zb hKK;clear hp hpp hxv hxr hold ht hin hKK
      go_wp2_with (first
       |(at_lookup;refine wpList_lookup_own_ok_int _ rfl _ _ 151 rfl 107 3 .i64 JL Tryz.underlying151 uW (QG _) w.heap.size _ D rfl (za HK2).own _ _ rfl (za HLl) ?_;intro c hat hwc;rw[(za HKK).1];obtain rfl:c=(t:Int):=(by have h:=(za HKK).2;rw[hat]at h;injection h with h;injection h);clear hat hwc)
       |(at_builtin;refine wpList_append_own_at _ rfl _ _ 24 rfl w.heap.size 3 i0 (.int .i64 0) 1 8 uV hi hz0 hz1 hz2 rfl (by decide) _ _ _ rfl ((za HXR).alloc _) ⟨w1.heap.size+1,0,none⟩ 1 1 [.int .i64 x] rfl rfl (by have h:=cell_one_new (w1.alloc (.cells #[.int .i64 y1,.string (B y2)] 107)) (.int .i64 x) 3;rwa[uk]at h) (by intro u hu;simp at hu;subst hu;rfl) (by unfold maxLen;omega) (by omega) (by have:=(za HB2).size;simp at this⊢;omega) ?_;intro x' w3 hown hgrow hnil hloc;obtain⟨qa,qc,rfl⟩:=zq hown;have HG:=zb ((za HR2).grow (za HXV) (za HPP) hown hgrow (hloc.imp id (fun h=>⟨_,h,by simp⟩)));have r3:=zS (za HR2).row ((Kept.of_below ((ue _ _).alloc (ud _) _)).trans (Kept.of_grown hgrow (fun _ e=>e))) (fun b hb hc=>(za HR2).outer (un (za HXV)) hc hb);have f3:=r3.frozenAt t;have c3:w3.cell? ⟨g,t,none⟩=some (.slice ra p.length rc):=(by rw[r3.cellAt t (by omega)];exact za HXV);clear hown hgrow hnil hloc r3))
      go_roundw
      case rel=>
       have hG:=za HG;have hKO:=z6 hG.2 (fun b hb o ho=>by
        rcases hb with rfl|hb
        . exact jb (za HR2).row rfl ho
        . exact jb (za HXR) hb ho)
       have hBL:=hG.2.below (base:=w.heap.size) (za HB2).size (fun b hb=>by
        rcases hb with rfl|hb
        . exact(zX (za HR2).row rfl).1
        . exact(zX (za HXR) hb).1)
       refine⟨k+1,D,vs.set t (.slice qa (p.length+1) qc),g,vc,by omega,by go_num,by rw[(za HOL).1];simp,?_,?_,zb ((za HB2).trans hBL)⟩
       . exact zb (by rw[(za HOL).2];exact(za HK2).keeps hKO)
       . exact zb (by rw[(za HOL).1];have h:=hG.1;rw[show(P0.set t (p++[x])).length=P0.length by simp];exact h)
      case measure=>simp[intOf];omega
    . have hno:=(za HK2).no _ l hin (za HLl)
      have hnew:=Jm (look:=look) (ps:=ps.take k) (x:=x) (by rw[za HKE,za HY];exact hin);rw[za HPE,za HKE,<-za HTK,za HY]at hnew;have hmap:=(za HK2).isMap;have hwf:=zao (P0.length:Int) (by omega) (by omega);have hk0:K0.length<maxLen:=by rw[<-za HPL];unfold maxLen;omega
      have HNO:=zb hno;have HNW:=zb hnew;have HIN:=zb hin;have HMP:=zb hmap;have HWF:=zb hwf;have HK00:=zb hk0;clear hno hnew hin hmap hwf hk0
      go_wp2_with (first
       |(at_lookup;refine wpList_lookup_own_ok_int _ rfl _ _ 151 rfl 107 3 .i64 JL Tryz.underlying151 uW (QG _) w.heap.size _ D rfl (za HK2).own _ _ rfl (za HLl) ?_;intro c hat hwc;rw[za HNO];clear hat hwc)
       |(at_mapUpdate;refine wpList_mapUpdate_own _ rfl _ _ _ 151 rfl 107 3 JL Tryz.underlying151 _ w.heap.size _ D rfl (za HK2).own (za HK00) _ _ _ rfl rfl (za HLl) _ [] (plainElem_int uW (za HWF)) ?_;intro w3 hown3 hgrow3;rw[show(P0.length:Int)=(K0.length:Int) by rw[za HPL]]at hown3;have HK3:=zb ((za HK2).put JL Xg (za HIN) (za HLl) hown3);have HR3:=zb ((za HR2).grownC hgrow3 (fun b e=>by cases e;exact za HMP));have HB3:=zb ((za HB2).grown hgrow3 (za HB2).size (fun k hk=>by cases hk;exact ud _));clear hown3 hgrow3)
       |(at_builtin;refine wpList_append_own_at _ rfl _ _ 97 rfl w.heap.size 24 j0 (.slice none 0 0) 1 24 Tryz.underlying97 hj hy0 hy1 hy2 rfl (by decide) _ _ _ rfl ((za HR3).row.alloc _) ⟨w3.heap.size,0,none⟩ 1 1 [.slice none 0 0] rfl rfl (cell_one_new w3 (.slice none 0 0) 24) (by intro u hu;simp at hu;subst hu;rfl) (by unfold maxLen;omega) (by omega) (by have:=(za HB3).size;simp at this⊢;omega) ?_;intro v4 w4 hown4 hgrow4 hnil4 hloc4;obtain⟨g,cap',rfl,_,hgb,_⟩:=zY hown4 (by omega);have HR4:=zb ((za HR3).push hown4 hgrow4);have HKP:Hid (Kept (fun b=>(Value.slice (some ⟨ga,0,none⟩) P0.length vc).ownBlock=some b) w3 w4):=zb ((Kept.of_below ((ue w3.heap.size w3).alloc (ud _) (.cells #[.slice none 0 0] 24))).trans (Kept.of_grown hgrow4 (fun _ e=>e)));have hl4:vs.length=P0.length:=(za HR3).len;have HX4:Hid ((vs++[Value.slice none 0 0])[P0.length]? =some (.slice none 0 0)):=zb (by rw[<-hl4];simp);have c4:w4.cell? ⟨g,P0.length,none⟩=some (.slice none 0 0):=(by rw[hown4.cellAt P0.length (by omega)];exact za HX4);have HGB:=zb hgb;have HOW:=zb hown4;clear hown4 hgrow4 hnil4 hloc4 hl4 hgb)
       |(at_builtin;refine wpList_append_own_at _ rfl _ _ 24 rfl w.heap.size 3 i0 (.int .i64 0) 1 8 uV hi hz0 hz1 hz2 rfl (by decide) _ _ _ rfl (Wd _ _ _ _) ⟨w4.heap.size,0,none⟩ 1 1 [.int .i64 x] rfl rfl (cell_one_new w4 (.int .i64 x) 3) (by intro u hu;simp at hu;subst hu;rfl) (by unfold maxLen;omega) (by omega) (by have h1:=(za HB3).size;have h2:=(za HKP).size;simp;omega) ?_;intro x' w5 hown hgrow hnil hloc;obtain⟨qa,qc,rfl⟩:=zq hown;have hpl5:(P0++[([]:List Int)])[P0.length]? =some []:=(by simp);have HG:=zb ((za HR4).grow (za HX4) hpl5 hown hgrow (hloc.imp id (fun h=>⟨_,h,by simp⟩)));have k5:Kept (fun b=>(Value.slice none 0 0).ownBlock=some b) w4 w5:=(Kept.of_below ((ue w4.heap.size w4).alloc (ud _) (.cells #[.int .i64 x] 3))).trans (Kept.of_grown hgrow (fun _ e=>e));have r5:=zS (za HOW) k5 (fun b hb hc=>by simp[Value.ownBlock]at hc);have f5:=r5.frozenAt P0.length;have c5:w5.cell? ⟨g,P0.length,none⟩=some (.slice none 0 0):=(by rw[r5.cellAt P0.length (by omega)];exact za HX4);clear hown hgrow hnil hloc k5 r5 hpl5))
      go_roundw
      case rel=>
       have hG:=za HG;have hS4:∀b,(Value.slice (some ⟨ga,0,none⟩) P0.length vc).ownBlock=some b->w.heap.size<=b:=fun b hb=>(zX (za HR3).row hb).1
       have hKO:=(z6 (za HKP) (fun b hb o ho=>jb (za HR3).row hb ho)).trans (z6 hG.2 (fun b hb o ho=>by
        rcases hb with rfl|hb
        . exact jb (za HOW) rfl ho
        . simp[Value.ownBlock]at hb))
       have hBL:=((za HKP).below (base:=w.heap.size) (za HB3).size hS4).trans (hG.2.below (base:=w.heap.size) (uC (za HB3).size (za HKP).size) (fun b hb=>by
        rcases hb with rfl|hb
        . exact(zX (za HOW) rfl).1
        . simp[Value.ownBlock]at hb))
       refine⟨k+1,D.put l (I64 K0.length),(vs++[Value.slice none 0 0]).set P0.length (.slice qa 1 qc),g,cap',by omega,by go_num,by rw[(za HNW).1];simp,?_,?_,zb ((za HB3).trans hBL)⟩
       . exact zb (by rw[(za HNW).2];exact(za HK3).keeps hKO)
       . exact zb (by rw[(za HNW).1,<-X3 P0 [] [x]];have h:=hG.1;rw[show((P0++[([]:List Int)]).set P0.length [x]).length=P0.length+1 by simp];exact h)
      case measure=>simp[intOf];omega
  . obtain rfl:k=ps.length:=by omega
    have HPF:Hid (zR look ps=P0):=zb (by have h:=za HPE;rwa[uz (ud _)]at h);go_wp2_with fail;go_ret;exact⟨⟨ga,vc,vs,by rw[za HPF];rfl,by rw[za HPF];exact za HR⟩,za HB⟩
def Dep(l:Array Bool)(i:Nat):Prop:=(i=4->LL l 2/\LL l 3)/\(i=5->LL l 4)/\(i=7->LL l 6)/\(i=8->LL l 5/\LL l 7)/\(i=9->LL l 0/\LL l 1)/\(i=10->LL l 9/\LL l 8)
structure UStep(l:Array Bool)(x:Nat->Value)(w':World)(v:Nat->Value)(w0 w1 w3 w4:World):Prop where
 sz:l.size=11
 val:∀i,i<10->LL l i->x i=v i
 cl:∀i,LL l i->Dep l i
 wd:(¬LL l 7->w'=w0)/\(LL l 7->¬LL l 8->w'=w1)/\(LL l 8->¬LL l 10->w'=w3)/\(LL l 10->w'=w4)
theorem Dep.mono{l l':Array Bool}{i:Nat}(h:Dep l i)(hl:∀j,LL l j->LL l' j):Dep l' i:=
 ⟨fun e=>⟨hl _ (h.1 e).1,hl _ (h.1 e).2⟩,fun e=>hl _ (h.2.1 e),fun e=>hl _ (h.2.2.1 e),fun e=>⟨hl _ (h.2.2.2.1 e).1,hl _ (h.2.2.2.1 e).2⟩,fun e=>⟨hl _ (h.2.2.2.2.1 e).1,hl _ (h.2.2.2.2.1 e).2⟩,fun e=>⟨hl _ (h.2.2.2.2.2 e).1,hl _ (h.2.2.2.2.2 e).2⟩⟩
theorem UStep.next{l:Array Bool}{x:Nat->Value}{w' w'':World}{v:Nat->Value}{w0 w1 w3 w4:World}(h:UStep l x w' v w0 w1 w3 w4){i:Nat}(hi:i<11)(hl:¬LL l i)(hd:Dep l i)
  (h7:i=7->w''=w1)(h8:i=8->w''=w3)(h10:i=10->w''=w4)(ho:i≠7->i≠8->i≠10->w''=w'):UStep (l.setIfInBounds i true) (fun j=>if j=i then v i else x j) w'' v w0 w1 w3 w4:=by
 have hs:=j8 (l:=l) (i:=i) (by rw[h.sz];exact hi);have c8:LL l 8->LL l 7:=fun e=>((h.cl 8 e).2.2.2.1 rfl).2
 have c10:LL l 10->LL l 8:=fun e=>((h.cl 10 e).2.2.2.2.2 rfl).2
 have d8:i=8->LL l 7:=fun e=>(hd.2.2.2.1 e).2
 have d10:i=10->LL l 8:=fun e=>(hd.2.2.2.2.2 e).2
 obtain⟨a,b,c,d⟩:=h.wd;refine⟨by simp[h.sz],fun j hj hj2=>?_,fun j hj=>?_,?_,?_,?_,?_⟩
 . by_cases e:j=i
   . subst e;simp
   . simp only[ul e]
     exact h.val j hj (((hs j).1 hj2).resolve_left e)
 . have hm:∀k,LL l k->LL (l.setIfInBounds i true) k:=fun k hk=>(hs k).2 (.inr hk)
   rcases(hs j).1 hj with rfl|e
   . exact hd.mono hm
   . exact(h.cl j e).mono hm
 . intro n7
   rw[hs]at n7;have e7:i≠7:=fun e=>n7 (.inl e.symm)
   have l7:¬LL l 7:=fun e=>n7 (.inr e)
   rw[ho e7 (fun e=>l7 (d8 e)) (fun e=>l7 (c8 (d10 e)))];exact a l7
 . intro y7 n8
   rw[hs]at y7 n8;have e8:i≠8:=fun e=>n8 (.inl e.symm)
   have l8:¬LL l 8:=fun e=>n8 (.inr e)
   by_cases e7:i=7
   . exact h7 e7
   . rw[ho e7 e8 (fun e=>l8 (d10 e))]
     exact b (y7.resolve_left (fun e=>e7 e.symm)) l8
 . intro y8 n10
   rw[hs]at y8 n10;have e10:i≠10:=fun e=>n10 (.inl e.symm)
   have l10:¬LL l 10:=fun e=>n10 (.inr e)
   by_cases e8:i=8
   . exact h8 e8
   . have l8:=y8.resolve_left (fun e=>e8 e.symm)
     rw[ho (fun e=>hl (by rw[e];exact c8 l8)) e8 e10];exact c l8 l10
 . intro y10
   rw[hs]at y10;by_cases e10:i=10
   . exact h10 e10
   . have l10:=y10.resolve_left (fun e=>e10 e.symm)
     rw[ho (fun e=>hl (by rw[e];exact c8 (c10 l10))) (fun e=>hl (by rw[e];exact c10 l10)) e10];exact d l10
end Go.Proofs.YtpbnmhnbkfnaeaaGreatDoor
namespace Go.Proofs.YtpbnmhnbkfnaeaaGreatDoor
open Go.RowKit Go.Shelf Nt
attribute [local go_sem] wO
def zgM(w:World)(na:Option Addr)(nc:Nat)(ns:List Nd)(a':Act)(w':World):Prop:=∃(Ds:List Nat)(i:Nat)(us:List (List Int))(vs:List Value)(u4 u5 u6 u13 u14 u15 u16 u17 u18 u19 u20 u21 u22 u23 u24 u25 u26 u27 u28 u29 u30 u31:Value),a'=⟨#[.slice na ns.length nc,undef,.slice none 0 0,.pointer (some ⟨w.heap.size+1,0,none⟩),u4,u5,u6,.slice na ns.length nc,.int .i64 ↑ns.length,.slice (some ⟨w.heap.size,0,none⟩) ns.length ns.length,.slice na ns.length nc,.int .i64 ↑ns.length,.int .i64 ↑i,u13,u14,u15,u16,u17,u18,u19,u20,u21,u22,u23,u24,u25,u26,u27,u28,u29,u30,u31],Ds.map Vo⟩/\i<=ns.length/\Hid (Below w.heap.size w w')/\Hid (Boxed w' (w.heap.size+1) 97 (.slice (some ⟨w.heap.size,0,none⟩) ns.length ns.length))/\Hid (RoR w' w.heap.size (.slice (some ⟨w.heap.size,0,none⟩) ns.length ns.length) us vs)/\Hid (UsersOk ns i [] us)/\Hid (Marks w.heap.size w' Ds)
theorem zaV{us:List (List Int)}{k:Nat}{p:List Int}(h:us[k]? =some p):p.length<=(us.map List.length).sum:=by
 induction us generalizing k with
 |nil=>simp at h
 |cons a r ih=>
  cases k with
  |zero=>simp at h;subst h;simp
  |succ k=>rw[Us]at h;have:=ih h;simp only[UU,List.sum_cons];omega
theorem yV{l:Array Bool}(hs:l.size=11)(k:Nat)(hk:k<11)(h:¬l[k]? =some true):l[k]? =some false:=by
 have e:l[k]? =some (l[k]'(by omega)):=U7 _;cases hb:l[k]'(by omega)with
 |true=>rw[hb]at e;exact absurd e h
 |false=>rw[hb]at e;exact e
theorem zeW{β:Type}(base:Nat)(v:Value)(G:β->List (List Int)->List Value->Prop):Own (fun s W=>∃us vs,RoR W base v us vs/\G s us vs):=by
 rintro s X Y row⟨us,vs,h,hG⟩ hg hr;exact⟨us,vs,h.grownC hg hr,hG⟩
theorem XS(nv:Value)(ns:List Nd)(w:World)(h:NodesAt w nv ns)(hs:ns.length<=1048576)(hk:xj ns)(h40:∀nd∈ns,nd.2.2.length<=40):
  Calls Tryz.prog 73 #[nv] w fun e w'=>(∃uv us vs,e=.returned uv/\RoR w' w.heap.size uv us vs/\UsersOk ns ns.length [] us)/\Below w.heap.size w w':=by
 obtain⟨i0,hi,hz0,hz1,hz2⟩:=Ue Tryz.infoInt;obtain⟨j0,hj,hy0,hy1,hy2⟩:=Ue Tryz.infoIntS;have HN:=zb h;obtain⟨na,nc,rfl,hn1,hn2, -⟩:=h;have HK:=zb hk;have H40:=zb h40;clear hk h40;unfold maxLen at hn2;have hmk:=fun W=>XB (P:=Tryz.prog) Tryz.underlying97 hj hy0 hy1 hy2 rfl ns.length (by omega) (by omega) W
 refine(UH (n:=3)).1 ?_;refine callsIn_of_wp_marks Tryz.func73 rfl trivial ?_ rfl;simp only[Tryz.ntmps73,UZ,Uv,UG,Nat.reduceAdd,Nat.reduceSub,wu,wt,wV,wF,UE,UD];have HB:=zb (zf (zf (ue w.heap.size w) (.cells (madeCells #[.slice none 0 0] ns.length) 24)) (.cells #[.slice (some ⟨w.heap.size,0,none⟩) ns.length ns.length] 97));have HU:=zb ((RoR.made (w:=w) (base:=w.heap.size) (n:=ns.length) (ud _) (by unfold maxLen;omega)).up (zf (ue _ _) (.cells #[.slice (some ⟨w.heap.size,0,none⟩) ns.length ns.length] 97)));have HX:=zb (Boxed.new (w.alloc (.cells (madeCells #[.slice none 0 0] ns.length) 24)) 97 (.slice (some ⟨w.heap.size,0,none⟩) ns.length ns.length));rw[uk]at HX
 gi_wp2_with fail
 refine wpIn_loop (zgM w na nc ns) (fun a' _=>ns.length-(intOf (a'.tmps.getD 12 undef)).toNat) ?_ ?_
 . unfold zgM
   exact⟨[],0,_,_,_,_,_,_,_,_,_,_,_,_,_,_,_,_,_,_,_,_,_,_,_,_,rfl,by omega,HB,HX,HU,zb (UsersOk.start ns),zb (Marks.nil _ _)⟩
 . clear HB HX HU hmk
   rintro _ wr⟨Ds,i,us,vs,u4,u5,u6,u13,u14,u15,u16,u17,u18,u19,u20,u21,u22,u23,u24,u25,u26,u27,u28,u29,u30,u31,rfl,hi',HB,HX,HU,HO,HM⟩;by_cases hlt:i<ns.length
   . obtain⟨nd,hnd⟩:∃nd,ns[i]? =some nd:=⟨_,uf hlt⟩
     obtain⟨b,off,cap,e1,_,_,hb⟩:=(za HN).form (by omega);injection e1 with e2 e3 e4;subst e2;have hnode:=(za HN).node hnd;obtain⟨kv,c0,c1,c2,htl,hki⟩:=hnode;replace c0:=((za HB).cell (p:=⟨b,off+i*3,none⟩) hb).trans c0;replace c1:=((za HB).cell (p:=⟨b,off+i*3+1,none⟩) hb).trans c1;replace c2:=((za HB).cell (p:=⟨b,off+i*3+2,none⟩) hb).trans c2;have HKI:=zb hki;obtain⟨ka,kc,rfl,hk1,hk2,_⟩:=hki;unfold maxLen at hk2;have hk40:=(za H40) nd (un hnd);clear e4
     gi_wp2_with fail
     refine⟨trivial,(UH.2 (xS _ _ _ _)).mono ?_⟩;rintro e w1⟨rfl,rfl⟩
     gi_wp2_with fail
     obtain⟨X1,hX1⟩:∃X1,Obj.cells #[.int .i64 ↑i] 3=X1:=⟨_,rfl⟩
     obtain⟨X2,hX2⟩:∃X2,Obj.cells #[.int .i64 nd.1,.string (B nd.2.1),.slice ka nd.2.2.length kc] 56=X2:=⟨_,rfl⟩
     have hB0:=zf (zf (zf (ue wr.heap.size wr) X1) X2) X2;have hbox:(((wr.alloc X1).alloc X2).alloc X2).cell? ⟨wr.heap.size+2,2,none⟩=some (.slice ka nd.2.2.length kc):=by
      rw[<-hX2];have h:=World.cell?_alloc_new ((wr.alloc X1).alloc (.cells #[.int .i64 nd.1,.string (B nd.2.1),.slice ka nd.2.2.length kc] 56)) #[.int .i64 nd.1,.string (B nd.2.1),.slice ka nd.2.2.length kc] 56 2;simp only[uk]at h;exact h
     have hpb:Boxed (((wr.alloc X1).alloc X2).alloc X2) wr.heap.size 3 (.int .i64 ↑i):=by
      rw[<-hX1];exact zL (zL (Boxed.new wr 3 (.int .i64 ↑i)) (zf (ue _ _) X2)) (zf (ue _ _) X2)
     have hsz:(((wr.alloc X1).alloc X2).alloc X2).heap.size=wr.heap.size+3:=by simp
     have hX0:=zL (za HX) hB0;have hU0:=(za HU).up hB0;have hM0:=(za HM).below hB0;obtain⟨W0,hW0⟩:∃W0,((wr.alloc X1).alloc X2).alloc X2=W0:=⟨_,rfl⟩
     rw[hX1,hX2,hW0];rw[hW0]at hB0 hbox hpb hsz hX0 hU0 hM0;have hwr:=(za HB).size;have hxl:=(za HX).lt;clear hX1 hX2 hW0 c0 c1 c2;have HX0:=zb hX0;have HPB:=zb hpb;obtain⟨S,hSd⟩:∃S:Nat->Prop,∀b,S b↔(b=w.heap.size\/(∃x∈vs,x.ownBlock=some b)\/W0.heap.size<=b):=⟨_,fun _=>Iff.rfl⟩
     have HSD:=zb hSd;have HSB:Hid (∀b,S b->w.heap.size<=b):=zb (fun b hb=>by
      rcases(hSd b).1 hb with h|⟨x,hx,hxb⟩|h
      . omega
      . obtain⟨j,hj⟩:=uT hx
        have hjl:=(ui.1 hj).1;exact(zX ((za HU).each j x _ hj (uf (by rw[<-(za HU).len];exact hjl))) hxb).1
      . omega)
     have HSX:Hid (∀b,S b->∀t v,Boxed wr b t v->t≠3->t≠24->b<wr.heap.size->False):=zb (fun b hb t v hbx h1 h2 hlt=>by
      rcases(hSd b).1 hb with h|⟨x,hx,hxb⟩|h
      . subst h;exact Zv hbx (za HU).row h2 rfl
      . obtain⟨j,hj⟩:=uT hx
        have hjl:=(ui.1 hj).1;exact Zv hbx ((za HU).each j x _ hj (uf (by rw[<-(za HU).len];exact hjl))) h1 hxb
      . have:=hB0.size;omega)
     have HSW:Hid (∀b,S b->b<W0.heap.size->b<wr.heap.size):=zb (fun b hb hlt=>by
      rcases(hSd b).1 hb with h|⟨x,hx,hxb⟩|h
      . omega
      . obtain⟨j,hj⟩:=uT hx
        have hjl:=(ui.1 hj).1;exact(zX ((za HU).each j x _ hj (uf (by rw[<-(za HU).len];exact hjl))) hxb).2
      . omega)
     have hKI:IntsS S W0 (.slice ka nd.2.2.length kc) nd.2.2:=((za HKI).outS (fun b hb hs=>by have:=(za HSB) b hs;omega)).kept (Kept.of_below ((za HB).trans (hB0.mono hwr)))
     refine wpIn_rangeFunc_ownG rfl (by decide) (gf:=117) (lb:=#[.pointer (some ⟨wr.heap.size+2,0,none⟩)]) rfl trivial (enters_of Tryz.func117 (by kernel_rfl) rfl)
      (kt Fence.wide 2 trivial rfl (by decide) (wr.heap.size+2) S (.slice ka nd.2.2.length kc) nd.2.2 (fun z=>0<=z/\z<ns.length) (by have h:=(za HK) i hlt;rw[yy hnd]at h;exact h) (by omega) W0 (by omega) hbox hKI)
      (fun h k=>h.trans k) (fun W l o o' hl _ _ _=>Kept.put ((hSd l).2 (.inr (.inr (by omega))))) (ue _ _) (fun _=>rfl)
      (fun pre W=>(∃us' vs',RoR W w.heap.size (.slice (some ⟨w.heap.size,0,none⟩) ns.length ns.length) us' vs'/\UsersOk ns i (pre.map Subtype.val) us'/\∀x∈vs',∀b,x.ownBlock=some b->S b)/\Kept S W0 W)
      (fun _ _ _=>False)
      (OwnFrom.and (Own.from (zeW w.heap.size (.slice (some ⟨w.heap.size,0,none⟩) ns.length ns.length) (fun(pre:List {z:Int//0<=z/\z<(ns.length:Int)}) us' vs'=>UsersOk ns i (pre.map Subtype.val) us'/\∀x∈vs',∀b,x.ownBlock=some b->S b)) _) (vK (ud _)))
      (fun c=>ownFrom_pure _ _)
      ⟨⟨us,vs,hU0,za HO,fun x hx b hb=>(hSd b).2 (.inr (.inl ⟨x,hx,hb⟩))⟩,Kept.refl _ _⟩
      (fun y=>⟨#[.slice (some ⟨b,off,none⟩) ns.length nc,undef,.slice none 0 0,.pointer (some ⟨w.heap.size+1,0,none⟩),.pointer (some ⟨wr.heap.size,0,none⟩),.pointer (some ⟨wr.heap.size+1,0,none⟩),.int .i64 y.1,.slice (some ⟨b,off,none⟩) ns.length nc,.int .i64 ↑ns.length,.slice (some ⟨w.heap.size,0,none⟩) ns.length ns.length,.slice (some ⟨b,off,none⟩) ns.length nc,.int .i64 ↑ns.length,.int .i64 ↑i,.bool true,.int .i64 ↑i,.pointer (some ⟨b,off+i*3,none⟩),.agg #[.int .i64 nd.1,.string (B nd.2.1),.slice ka nd.2.2.length kc],.agg #[.int .i64 nd.1,.string (B nd.2.1),.slice ka nd.2.2.length kc],.func (.func 117) #[] #[.pointer (some ⟨wr.heap.size+2,0,none⟩)],.int .i64 y.1,u20,u21,u22,u23,u24,u25,u26,u27,u28,u29,u30,u31],[]⟩) ?assign ?body ?done ?stop
     case assign=>
      intro l y W K hK
      gi_wp2
      exact hK
     case stop=>
      rintro D c pre W _ _ h _;exact h.elim
     case body=>
      rintro l pre⟨y,y0,y1⟩ W⟨⟨us',vs',hU,hO,hV⟩,hkv⟩ hpre;obtain⟨yn,rfl⟩:∃yn:Nat,y=yn:=⟨y.toNat,by omega⟩
      have hyl:yn<ns.length:=by omega
      obtain⟨p,hp⟩:∃p,us'[yn]? =some p:=⟨_,uf (by rw[hO.len];exact hyl)⟩
      obtain⟨x,hx⟩:∃x,vs'[yn]? =some x:=⟨_,uf (by rw[hU.len,hO.len];exact hyl)⟩
      have hxr:=hU.each yn x p hx hp;obtain⟨pa,pc,rfl⟩:=zq hxr;have hpl:p.length<=1048576*40+40:=by
       have h1:=zaV hp;have h2:=hO.sum;have h3:(pre.map Subtype.val).length=pre.length:=by simp
       omega
      have hbW:=Boxed.keptS (za HX0) hkv (fun hs=>(za HSX) _ hs _ _ (za HX) (by decide) (by decide) hxl);have hpW:=Boxed.keptS (za HPB) hkv (fun hs=>by have:=(za HSW) _ hs (by omega);omega);have b0:=hbW.cell;have b1:=hpW.cell;have hne:=Zv hbW hxr (by decide);have hNW:w.heap.size<=W.heap.size:=by have:=hkv.size;omega
      have hrN:W.ownsRow w.heap.size 24 1 (.slice (some ⟨w.heap.size,0,none⟩) ns.length ns.length) ns.length vs':=by have:=hU.row;rwa[hO.len]at this
      have r0:W.cell? ⟨w.heap.size,yn,none⟩=some (.slice pa p.length pc):=by
       rw[hrN.cellAt yn (by omega)];exact hx
      have hW1:=(ue W.heap.size W).drew.alloc (ud _) (.cells #[.int .i64 ↑i] 3);obtain⟨x',w3,hrun,hown,hgrow,hnil,hloc⟩:=run_append_own_at (P:=Tryz.prog) (W.drew.alloc (.cells #[.int .i64 ↑i] 3)) w.heap.size 24 24 3 i0 (.int .i64 0) 1 8 uV hi hz0 hz1 hz2 rfl (by decide) (.slice pa p.length pc) p.length (iv p) (zu hxr hW1) ⟨W.heap.size,0,none⟩ 1 1 [.int .i64 ↑i] rfl (cell_one_new W.drew (.int .i64 ↑i) 3) (by intro u hu;simp at hu;subst hu;rfl) (by unfold maxLen;omega) (by omega) (by simp;omega);have hUd:=hU.up (ue W.heap.size W).drew;obtain⟨qa,qc,rfl⟩:=zq hown;have hgr:=hUd.grow hx hp hown hgrow (hloc.imp id (fun h=>⟨_,h,by simp⟩));have k0:Kept (fun b=>(Value.slice pa p.length pc).ownBlock=some b) W w3:=(Kept.of_below hW1).trans (Kept.of_grown hgrow (fun _ e=>e));have b3:=(Boxed.keptS hbW k0 hne).cell;have r3:=zS hrN k0 (fun b hb hc=>hU.outer (un hx) hc hb);have f3:=r3.frozenAt yn;have c3:w3.cell? ⟨w.heap.size,yn,none⟩=some (.slice pa p.length pc):=by
       rw[r3.cellAt yn (by omega)];exact hx
      have hWa:=(ue W.heap.size W).alloc (ud _) (.cells #[.int .i64 ↑i] 3);have a0:=(hWa.cell (p:=⟨w.heap.size,yn,none⟩) (uo _ _ r0)).trans r0;have a1:=(hWa.cell (p:=⟨w.heap.size+1,0,none⟩) (uo _ _ b0)).trans b0;have HGR:=zb hgr;have HHU:=zb hU;have HHO:=zb hO;have HHV:=zb hV;have HHK:=zb hkv;have HHX:=zb hx;have HHP:=zb hp;have HLC:=zb hloc;clear hgr hU hO hV hkv hx hp hUd hown hgrow hnil hloc hxr hbW hpW hW1 k0 r3 hpre hKI hbox hU0 hM0 hX0 hpb hB0 hSd hrN;have hE:Result.andThen (Sem.run Tryz.prog (Builtin.append_ #[24,24] 24 #[.slice pa p.length pc,.slice (some ⟨W.heap.size,0,none⟩) 1 1]) ((W.alloc (.cells #[.int .i64 ↑i] 3)).drew)) (fun v w'=>Result.ok (Next.value v) w')=.ok (.value (.slice qa (p.length+1) qc)) w3:=by
       rw[show(W.alloc (.cells #[.int .i64 ↑i] 3)).drew=W.drew.alloc (.cells #[.int .i64 ↑i] 3)from rfl,hrun];rfl
      simp[go_sem]at hE;have HE:=zb hE;clear hrun hE
      gi_wp2_with fail
      obtain⟨v,hv⟩:∃v:Nat->Value,v=fun j=>match j with
       |0=>.slice (some ⟨w.heap.size,0,none⟩) ns.length ns.length
       |1=>.int .i64 ↑yn
       |2=>.slice (some ⟨w.heap.size,0,none⟩) ns.length ns.length
       |3=>.int .i64 ↑yn
       |4=>.pointer (some ⟨w.heap.size,yn,none⟩)
       |5=>.slice pa p.length pc
       |6=>.int .i64 ↑i
       |7=>.slice (some ⟨W.heap.size,0,none⟩) 1 1
       |8=>.slice qa (p.length+1) qc
       |9=>.pointer (some ⟨w.heap.size,yn,none⟩)
       |_=>undef:=⟨_,rfl⟩
      have v0:v 0=.slice (some ⟨w.heap.size,0,none⟩) ns.length ns.length:=by subst hv;rfl
      have v1:v 1=.int .i64 ↑yn:=by subst hv;rfl
      have v2:v 2=.slice (some ⟨w.heap.size,0,none⟩) ns.length ns.length:=by subst hv;rfl
      have v3:v 3=.int .i64 ↑yn:=by subst hv;rfl
      have v4:v 4=.pointer (some ⟨w.heap.size,yn,none⟩):=by subst hv;rfl
      have v5:v 5=.slice pa p.length pc:=by subst hv;rfl
      have v6:v 6=.int .i64 ↑i:=by subst hv;rfl
      have v7:v 7=.slice (some ⟨W.heap.size,0,none⟩) 1 1:=by subst hv;rfl
      have v8:v 8=.slice qa (p.length+1) qc:=by subst hv;rfl
      have v9:v 9=.pointer (some ⟨w.heap.size,yn,none⟩):=by subst hv;rfl
      clear hv;refine wpIn_region_any (by kernel_rfl) ?_;change wpAnyIn _ _ _ _ _ _ _ _ _ (World.drew _);refine kN (fun l a w'=>∃x:Nat->Value,a=⟨#[.slice (some ⟨b,off,none⟩) ns.length nc,undef,.slice none 0 0,.pointer (some ⟨w.heap.size+1,0,none⟩),.pointer (some ⟨wr.heap.size,0,none⟩),.pointer (some ⟨wr.heap.size+1,0,none⟩),.int .i64 ↑yn,.slice (some ⟨b,off,none⟩) ns.length nc,.int .i64 ↑ns.length,.slice (some ⟨w.heap.size,0,none⟩) ns.length ns.length,.slice (some ⟨b,off,none⟩) ns.length nc,.int .i64 ↑ns.length,.int .i64 ↑i,.bool true,.int .i64 ↑i,.pointer (some ⟨b,off+i*3,none⟩),.agg #[.int .i64 nd.1,.string (B nd.2.1),.slice ka nd.2.2.length kc],.agg #[.int .i64 nd.1,.string (B nd.2.1),.slice ka nd.2.2.length kc],.func (.func 117) #[] #[.pointer (some ⟨wr.heap.size+2,0,none⟩)],.int .i64 ↑yn,x 0,x 1,x 2,x 3,x 4,x 5,x 6,x 7,x 8,x 9,u30,u31],[]⟩/\UStep l x w' v W.drew ((W.alloc (.cells #[.int .i64 ↑i] 3)).drew) w3 (w3.setCell ⟨w.heap.size,yn,none⟩ (.slice qa (p.length+1) qc))) ?hsz ?hend ?hstep ?hgo _ _ _ _ ?h0 ?hc
      case hsz=>
       rintro l a w'⟨x,_,h⟩;exact h.sz
      case h0=>
       refine⟨fun j=>[u20,u21,u22,u23,u24,u25,u26,u27,u28,u29].getD j undef,rfl,by simp,fun j _ h=>?_,fun j h=>?_,fun _=>rfl,fun h=>?_,fun h=>?_,fun h=>?_⟩
       all_goals (unfold LL at h;simp[we]at h)
      case hc=>exact UA rfl
      case hgo=>
       rintro l a w'⟨x,rfl,h⟩ hr j hj;clear HE;have k0:l[0]? =some true:=by
        apply uM;intro hne;have hf:=yV h.sz 0 (by omega) hne;apply uP (a:=0);rw[<-hr];unfold Region.ready;rw[uK];simp[Region.binds,ua,hf]
       have k1:l[1]? =some true:=by
        apply uM;intro hne;have hf:=yV h.sz 1 (by omega) hne;apply uP (a:=1);rw[<-hr];unfold Region.ready;rw[uK];simp[Region.binds,ua,hf]
       have k2:l[2]? =some true:=by
        apply uM;intro hne;have hf:=yV h.sz 2 (by omega) hne;apply uP (a:=2);rw[<-hr];unfold Region.ready;rw[uK];simp[Region.binds,ua,hf]
       have k3:l[3]? =some true:=by
        apply uM;intro hne;have hf:=yV h.sz 3 (by omega) hne;apply uP (a:=3);rw[<-hr];unfold Region.ready;rw[uK];simp[Region.binds,ua,hf]
       have k6:l[6]? =some true:=by
        apply uM;intro hne;have hf:=yV h.sz 6 (by omega) hne;apply uP (a:=6);rw[<-hr];unfold Region.ready;rw[uK];simp[Region.binds,ua,hf]
       have k4:l[4]? =some true:=by
        apply uM;intro hne;have hf:=yV h.sz 4 (by omega) hne;apply uP (a:=4);rw[<-hr];unfold Region.ready;rw[uK];simp[Region.binds,ua,hf,k2,k3]
       have k5:l[5]? =some true:=by
        apply uM;intro hne;have hf:=yV h.sz 5 (by omega) hne;apply uP (a:=5);rw[<-hr];unfold Region.ready;rw[uK];simp[Region.binds,ua,hf,k4]
       have k7:l[7]? =some true:=by
        apply uM;intro hne;have hf:=yV h.sz 7 (by omega) hne;apply uP (a:=7);rw[<-hr];unfold Region.ready;rw[uK];simp[Region.binds,ua,hf,k6]
       have k8:l[8]? =some true:=by
        apply uM;intro hne;have hf:=yV h.sz 8 (by omega) hne;apply uP (a:=8);rw[<-hr];unfold Region.ready;rw[uK];simp[Region.binds,ua,hf,k5,k7]
       have k9:l[9]? =some true:=by
        apply uM;intro hne;have hf:=yV h.sz 9 (by omega) hne;apply uP (a:=9);rw[<-hr];unfold Region.ready;rw[uK];simp[Region.binds,ua,hf,k0,k1,k2,k3,k6,k4,k5,k7,k8]
       have k10:l[10]? =some true:=by
        apply uM;intro hne;have hf:=yV h.sz 10 (by omega) hne;apply uP (a:=10);rw[<-hr];unfold Region.ready;rw[uK];simp[Region.binds,ua,hf,k0,k1,k2,k3,k6,k4,k5,k7,k8,k9]
       have hj:j<11:=by simpa using hj
       rcases(by omega:j=0\/j=1\/j=2\/j=3\/j=4\/j=5\/j=6\/j=7\/j=8\/j=9\/j=10)with rfl|rfl|rfl|rfl|rfl|rfl|rfl|rfl|rfl|rfl|rfl
       all_goals assumption
      case hend=>
       rintro l a w'⟨x,rfl,h⟩ hall;rw[h.wd.2.2.2 (hall 10 (by simp))];clear h hall HE
       gi_wp2_with fail
       have hG:=(za HGR).2;have hKW:Kept (fun c=>c=w.heap.size\/(Value.slice pa p.length pc).ownBlock=some c) W (w3.setCell ⟨w.heap.size,yn,none⟩ (.slice qa (p.length+1) qc)):=(Kept.of_below (ue _ _).drew).trans hG;have hKS:Kept S W (w3.setCell ⟨w.heap.size,yn,none⟩ (.slice qa (p.length+1) qc)):=hKW.mono (fun c hc=>by
        rcases hc with hc|hc
        . exact(za HSD c).2 (.inl hc)
        . exact(za HHV) _ (un (za HHX)) c hc)
       have hKO:=z6 hKW (fun c hc o ho=>by
        rcases hc with rfl|hc
        . exact jb (za HHU).row rfl ho
        . exact jb ((za HHU).each yn _ p (za HHX) (za HHP)) hc ho)
       refine⟨hKO.from _,hKS,⟨us'.set yn (p++[(i:Int)]),vs'.set yn (.slice qa (p.length+1) qc),(za HGR).1,?_,fun y hy c hc=>?_⟩,(za HHK).trans hKS⟩
       . have h:=(za HHO).one (za HHP)
         rw[UF];exact h
       . rcases List.mem_or_eq_of_mem_set hy with hy|rfl
         . exact(za HHV) y hy c hc
         . rcases za HLC with e|e
           . exact(za HHV) _ (un (za HHX)) c (by rw[<-e];exact hc)
           . rw[e]at hc
             cases hc;refine(za HSD _).2 (.inr (.inr ?_));have:=(za HHK).size;simp;omega
      case hstep=>
       rintro l a w' j⟨x,rfl,h⟩ hi;have hi2:=hi;unfold Region.ready at hi2;rw[uK]at hi2;obtain⟨hj,hi3⟩:=hi2;have hj:j<11:=by simpa using hj
       have hjl:¬LL l j:=fun e=>by
        unfold LL at e;simp[ua,e]at hi3
       have hdep:Dep l j:=by
        refine⟨?_,?_,?_,?_,?_,?_⟩
        all_goals
         intro e;subst e;simp[Region.binds,ua]at hi3
        . exact⟨zA hi3.2.1,zA hi3.2.2⟩
        . exact zA hi3.2
        . exact zA hi3.2
        . exact⟨zA hi3.2.1,zA hi3.2.2⟩
        . exact⟨zA hi3.2.1,zA hi3.2.2.1⟩
        . exact⟨zA hi3.2.1,zA hi3.2.2.1⟩
       have c8:LL l 8->LL l 5/\LL l 7:=fun e=>(h.cl 8 e).2.2.2.1 rfl
       have c5:LL l 5->LL l 4:=fun e=>(h.cl 5 e).2.1 rfl
       have c4:LL l 4->LL l 2/\LL l 3:=fun e=>(h.cl 4 e).1 rfl
       have c7:LL l 7->LL l 6:=fun e=>(h.cl 7 e).2.2.1 rfl
       have c10:LL l 10->LL l 9/\LL l 8:=fun e=>(h.cl 10 e).2.2.2.2.2 rfl
       have c9:LL l 9->LL l 0/\LL l 1:=fun e=>(h.cl 9 e).2.2.2.2.1 rfl
       obtain⟨g1,g2,g3,g4⟩:=h.wd;clear hi hi3;rcases(by omega:j=0\/j=1\/j=2\/j=3\/j=4\/j=5\/j=6\/j=7\/j=8\/j=9\/j=10)with rfl|rfl|rfl|rfl|rfl|rfl|rfl|rfl|rfl|rfl|rfl
       . by_cases n7:LL l 7
         . by_cases n8:LL l 8
           . obtain rfl:=g3 n8 (fun e=>hjl (c9 (c10 e).1).1)
             clear g1 g2 g3 g4;refine wpOpIn_step rfl (fun K hK=>?_);go_simp;exact hK _ _ ⟨_,by simp[v0],h.next (i:=0) (by omega) hjl hdep (fun e=>by omega) (fun e=>by omega) (fun e=>by omega) (fun _ _ _=>rfl)⟩
           . obtain rfl:=g2 n7 n8
             clear g1 g2 g3 g4;refine wpOpIn_step rfl (fun K hK=>?_);go_simp;exact hK _ _ ⟨_,by simp[v0],h.next (i:=0) (by omega) hjl hdep (fun e=>by omega) (fun e=>by omega) (fun e=>by omega) (fun _ _ _=>rfl)⟩
         . obtain rfl:=g1 n7
           clear g1 g2 g3 g4;refine wpOpIn_step rfl (fun K hK=>?_);go_simp;exact hK _ _ ⟨_,by simp[v0],h.next (i:=0) (by omega) hjl hdep (fun e=>by omega) (fun e=>by omega) (fun e=>by omega) (fun _ _ _=>rfl)⟩
       . clear g1 g2 g3 g4
         refine wpOpIn_step rfl (fun K hK=>?_);go_simp;exact hK _ _ ⟨_,by simp[v1],h.next (i:=1) (by omega) hjl hdep (fun e=>by omega) (fun e=>by omega) (fun e=>by omega) (fun _ _ _=>rfl)⟩
       . have n8:¬LL l 8:=fun e=>hjl (c4 (c5 (c8 e).1)).1
         by_cases n7:LL l 7
         . obtain rfl:=g2 n7 n8
           clear g1 g2 g3 g4;refine wpOpIn_step rfl (fun K hK=>?_);go_simp;exact hK _ _ ⟨_,by simp[v2],h.next (i:=2) (by omega) hjl hdep (fun e=>by omega) (fun e=>by omega) (fun e=>by omega) (fun _ _ _=>rfl)⟩
         . obtain rfl:=g1 n7
           clear g1 g2 g3 g4;refine wpOpIn_step rfl (fun K hK=>?_);go_simp;exact hK _ _ ⟨_,by simp[v2],h.next (i:=2) (by omega) hjl hdep (fun e=>by omega) (fun e=>by omega) (fun e=>by omega) (fun _ _ _=>rfl)⟩
       . clear g1 g2 g3 g4
         refine wpOpIn_step rfl (fun K hK=>?_);go_simp;exact hK _ _ ⟨_,by simp[v3],h.next (i:=3) (by omega) hjl hdep (fun e=>by omega) (fun e=>by omega) (fun e=>by omega) (fun _ _ _=>rfl)⟩
       . clear g1 g2 g3 g4
         have x2:=(h.val 2 (by omega) (hdep.1 rfl).1).trans v2;have x3:=(h.val 3 (by omega) (hdep.1 rfl).2).trans v3;refine wpOpIn_step rfl (fun K hK=>?_);go_simp;exact hK _ _ ⟨_,by simp[x2,x3,v4],h.next (i:=4) (by omega) hjl hdep (fun e=>by omega) (fun e=>by omega) (fun e=>by omega) (fun _ _ _=>rfl)⟩
       . have n8:¬LL l 8:=fun e=>hjl (c8 e).1
         by_cases n7:LL l 7
         . obtain rfl:=g2 n7 n8
           clear g1 g2 g3 g4;have x4:=(h.val 4 (by omega) (hdep.2.1 rfl)).trans v4;refine wpOpIn_step rfl (fun K hK=>?_);go_simp;exact hK _ _ ⟨_,by simp[x4,v5],h.next (i:=5) (by omega) hjl hdep (fun e=>by omega) (fun e=>by omega) (fun e=>by omega) (fun _ _ _=>rfl)⟩
         . obtain rfl:=g1 n7
           clear g1 g2 g3 g4;have x4:=(h.val 4 (by omega) (hdep.2.1 rfl)).trans v4;refine wpOpIn_step rfl (fun K hK=>?_);go_simp;exact hK _ _ ⟨_,by simp[x4,v5],h.next (i:=5) (by omega) hjl hdep (fun e=>by omega) (fun e=>by omega) (fun e=>by omega) (fun _ _ _=>rfl)⟩
       . obtain rfl:=g1 (fun e=>hjl (c7 e))
         clear g1 g2 g3 g4;refine wpOpIn_step rfl (fun K hK=>?_);go_simp;exact hK _ _ ⟨_,by simp[v6],h.next (i:=6) (by omega) hjl hdep (fun e=>by omega) (fun e=>by omega) (fun e=>by omega) (fun _ _ _=>rfl)⟩
       . obtain rfl:=g1 hjl
         clear g1 g2 g3 g4;have x6:=(h.val 6 (by omega) (hdep.2.2.1 rfl)).trans v6;refine wpOpIn_step rfl (fun K hK=>?_);go_simp;exact hK _ _ ⟨_,by simp[x6,v7],h.next (i:=7) (by omega) hjl hdep (fun _=>rfl) (fun e=>by omega) (fun e=>by omega) (fun e=>absurd rfl e)⟩
       . obtain rfl:=g2 (hdep.2.2.2.1 rfl).2 hjl
         clear g1 g2 g3 g4;have x5:=(h.val 5 (by omega) (hdep.2.2.2.1 rfl).1).trans v5;have x7:=(h.val 7 (by omega) (hdep.2.2.2.1 rfl).2).trans v7;refine wpOpIn_step rfl (fun K hK=>?_);go_simp;rw[za HE,Oper.uponIn_value];exact hK _ _ ⟨_,by simp[Act.put,x5,x7,v8],h.next (i:=8) (by omega) hjl hdep (fun e=>by omega) (fun _=>rfl) (fun e=>by omega) (fun _ e=>absurd rfl e)⟩
       . clear g1 g2 g3 g4
         have x0:=(h.val 0 (by omega) (hdep.2.2.2.2.1 rfl).1).trans v0;have x1:=(h.val 1 (by omega) (hdep.2.2.2.2.1 rfl).2).trans v1;refine wpOpIn_step rfl (fun K hK=>?_);go_simp;exact hK _ _ ⟨_,by simp[x0,x1,v9],h.next (i:=9) (by omega) hjl hdep (fun e=>by omega) (fun e=>by omega) (fun e=>by omega) (fun _ _ _=>rfl)⟩
       . obtain rfl:=g3 (hdep.2.2.2.2.2 rfl).2 hjl
         clear g1 g2 g3 g4;have x9:=(h.val 9 (by omega) (hdep.2.2.2.2.2 rfl).1).trans v9;have x8:=(h.val 8 (by omega) (hdep.2.2.2.2.2 rfl).2).trans v8;refine wpOpIn_step rfl (fun K hK=>?_);go_simp;exact hK _ _ ⟨_,by simp[x9,x8],h.next (i:=10) (by omega) hjl hdep (fun e=>by omega) (fun e=>by omega) (fun _=>rfl) (fun _ _ e=>absurd rfl e)⟩
     case done=>
      rintro D ys W hD hys⟨⟨us',vs',hU,hO,hV⟩,hkv⟩ hKd;rw[hys]at hO;have HO2:=zb (hO.next hnd hk40);have HU2:=zb hU;have HX2:=zb (Boxed.keptS (za HX0) hkv (fun hs=>(za HSX) _ hs _ _ (za HX) (by decide) (by decide) hxl));have HB2:=zb (((za HB).trans (hB0.mono hwr)).trans (hkv.below (base:=w.heap.size) (by omega) (fun c hc=>(za HSB) c hc)));have HM2:Hid (Marks w.heap.size W (D::Ds)):=zb ((hM0.kept hkv (fun D' hD' hs=>by
       rcases(za HSD D').1 hs with h|⟨x,hx,hxb⟩|h
       . exact(za HM).not_row (za HU).row hD' (by rw[h];rfl)
       . obtain⟨j,hj⟩:=uT hx
         have hjl:=(ui.1 hj).1;exact(za HM).not_row ((za HU).each j x _ hj (uf (by rw[<-(za HU).len];exact hjl))) hD' hxb
       . have:=hM0.lt hD';omega)).cons (by omega) hKd (hM0.fresh hD))
      clear hU hO hV hkv hKd hys hKI hbox hU0 hM0 hX0 hpb hB0 hSd
      gi_wp2_with fail
      refine⟨by unfold zgM;exact⟨D::Ds,i+1,us',vs',_,_,_,_,_,_,_,_,_,_,_,_,_,_,_,_,_,_,_,_,_,_,rfl,by omega,HB2,HX2,HU2,HO2,HM2⟩,by simp[intOf];omega⟩
   . obtain rfl:i=ns.length:=by omega
     have b0:=(za HX).cell
     gi_wp2_with fail
     refine qL w.heap.size Ds _ (za HM) (fun w' hst=>?_);refine⟨.slice (some ⟨w.heap.size,0,none⟩) ns.length ns.length,by simp[results,Tryz.f73,go_sem],⟨_,us,vs,rfl,(za HU).still hst,za HO⟩,(za HB).trans hst.below⟩
end Go.Proofs.YtpbnmhnbkfnaeaaGreatDoor
namespace Go.Proofs.YtpbnmhnbkfnaeaaGreatDoor
open Go.RowKit Go.Shelf Nt
theorem zax(zs:List Int)(hs:zs.Pairwise (· <= ·)):∀m,m<=zs.length->(Lib.compactUpTo zs.toArray m).Pairwise (· < ·)/\(∀x,x∈Lib.compactUpTo zs.toArray m↔x∈zs.take m):=by
 intro m
 induction m with
 |zero=>intro _;simp[Lib.compactUpTo]
 |succ m ih=>
  intro hm;obtain⟨a,b⟩:=ih (by omega);have hg:zs.toArray[m]! =zs[m]'(by omega):=by rw[getElem!_pos _ m (by simp;omega)];simp
  have htk:zs.take (m+1)=zs.take m++[zs[m]'(by omega)]:=by rw[uY,uf (by omega)];rfl
  rw[Lib.compactUpTo_succ,htk,hg];have hle:∀x∈zs.take m,x<=zs[m]'(by omega):=by
   intro x hx;obtain⟨j,hj⟩:=uT hx;obtain⟨hjl,rfl⟩:=ui.1 hj;rw[List.getElem_take];rw[uH]at hjl;exact Wx.1 hs j m (by omega) (by omega) (by omega)
  by_cases hk:Lib.keeps zs.toArray m=true
  . rw[uj hk]
    refine⟨?_,fun x=>by rw[uA,uA,b]⟩;rw[List.pairwise_append];refine⟨a,by simp,fun x hx y hy=>?_⟩;have hy:y=zs[m]'(by omega):=by simpa using hy
    subst hy;have h1:=hle x ((b x).1 hx);refine Int.lt_iff_le_and_ne.2 ⟨h1,fun e=>?_⟩;have hm0:m≠0:=fun e0=>by subst e0;simp at b;exact b x hx
    have hk2:zs.toArray[m]! ≠zs.toArray[m-1]! :=by
     unfold Lib.keeps at hk;simp at hk;rcases hk with h|h
     . exact absurd h hm0
     . simpa using h
    rw[hg,getElem!_pos _ (m-1) (by simp;omega)]at hk2;simp at hk2;have h2:zs[m-1]'(by omega)<=zs[m]'(by omega):=Wx.1 hs (m-1) m (by omega) (by omega) (by omega);have h3:x<=zs[m-1]'(by omega):=by
     have hx2:=(b x).1 hx;obtain⟨j,hj⟩:=uT hx2;obtain⟨hjl,hje⟩:=ui.1 hj;rw[List.getElem_take]at hje;rw[uH]at hjl;by_cases hjm:j=m-1
     . subst hjm;rw[<-hje];exact Int.le_refl _
     . rw[<-hje]
       exact Wx.1 hs j (m-1) (by omega) (by omega) (by omega)
    omega
  . rw[ul hk,du]
    refine⟨a,fun x=>?_⟩;rw[b,uA];constructor
    . exact .inl
    . rintro(h|h)
      . exact h
      . have hx:x=zs[m]'(by omega):=by simpa using h
        have hm0:m≠0:=fun e0=>hk (by subst e0;simp[Lib.keeps])
        have hk2:zs.toArray[m]! =zs.toArray[m-1]! :=by
         unfold Lib.keeps at hk;simp at hk;simpa using hk.2
        rw[hg,getElem!_pos _ (m-1) (by simp;omega)]at hk2;simp at hk2;rw[hx,hk2];refine un (i:=m-1) ?_;rw[dl (by omega),uf (by omega)]
def Vu(zs:List Int):List Int:=Lib.compact (zs.mergeSort fun x y=>decide (x<=y))
theorem zdr(zs:List Int):(zs.mergeSort fun x y=>decide (x<=y)).Pairwise (· <= ·):=by
 have h:=List.pairwise_mergeSort (le:=fun x y:Int=>decide (x<=y)) (fun a b c h1 h2=>by simp at h1 h2⊢;omega) (fun a b=>by simp;omega) zs;exact h.imp (fun h=>by simpa using h)
theorem Vv(zs:List Int):(Vu zs).Nodup/\∀x,x∈Vu zs↔x∈zs:=by
 obtain⟨a,b⟩:=zax _ (zdr zs) _ (ud _);refine⟨?_,fun x=>?_⟩
 . rw[Wm]
   exact a.imp (fun h=>by omega)
 . unfold Vu Lib.compact
   rw[b,Uh,List.mem_mergeSort]
theorem zhg(base b cap:Nat)(zs:List Int)(w:World)(ho:w.ownsRow base 3 1 (.slice (some ⟨b,0,none⟩) zs.length cap) zs.length (iv zs))(hn:zs.length<4611686018427387904):
  Calls Tryz.prog 77 #[.slice (some ⟨b,0,none⟩) zs.length cap] w fun e w'=>e=.returned (.tuple #[])/\w'.ownsRow base 3 1 (.slice (some ⟨b,0,none⟩) zs.length cap) zs.length (iv (zs.mergeSort fun x y=>decide (x<=y)))/\Kept (· =b) w w':=by
 rcases ho.2 with⟨e,_⟩|⟨g,cp,cur,e,hb,hg,h1,h2,h3,h4⟩
 . cases e
 cases e;refine(Tryz.slices_Sort_int b 0 cap zs w (holds_of_blockI hg (by simpa[iv]using h4)) (uu.1 hg).1 hn).mono ?_;rintro e w'⟨rfl,n,os,rfl⟩;refine⟨rfl,?_,Kept.of_grown (grownBy_sortedI _) (fun i e=>by cases e;rfl)⟩;exact ownsRow_sortedI (by simp) hb hg h1 h2 h3
theorem zcG(base b cap:Nat)(zs:List Int)(w:World)(ho:w.ownsRow base 3 1 (.slice (some ⟨b,0,none⟩) zs.length cap) zs.length (iv zs))(hn:zs.length<=9223372036854775807):
  Calls Tryz.prog 79 #[.slice (some ⟨b,0,none⟩) zs.length cap] w fun e w'=>e=.returned (.slice (some ⟨b,0,none⟩) (Lib.compact zs).length cap)/\w'.ownsRow base 3 1 (.slice (some ⟨b,0,none⟩) (Lib.compact zs).length cap) (Lib.compact zs).length (iv (Lib.compact zs))/\Kept (· =b) w w':=by
 rcases ho.2 with⟨e,_⟩|⟨g,cp,cur,e,hb,hg,h1,h2,h3,h4⟩
 . cases e
 cases e;refine(Tryz.slices_Compact_int b 0 cap zs w (holds_of_blockI hg (by simpa[iv]using h4)) hn h1).mono ?_;rintro e w'⟨rfl,q,rfl⟩;have hcl:(Lib.compact zs).length<=zs.length:=by
  unfold Lib.compact Lib.compactUpTo;rw[Ud];exact uC (List.length_filter_le _ _) (by simp)
 have e1:∀d:Array Int,Go.Sort.putRow (Value.int .i64) (Sort.ahead w q) b 0 d=Go.Sort.grow (Go.Sort.putRow (Value.int .i64) (Sort.ahead w q) b 0 d) #[]:=fun d=>by simp
 refine⟨rfl,?_,?_⟩
 . rw[e1]
   have h:=ownsRow_sortedI (w:=w) (n:=q) (os:=#[]) (ts:=Lib.compact zs++List.replicate (zs.length-(Lib.compact zs).length) 0) (ss:=zs) (by simp;omega) hb hg h1 h2 h3;have h5:=Vy h (Lib.compact zs).length hcl;simpa[iv]using h5
 . rw[e1]
   exact Kept.of_grown (grownBy_sortedI _) (fun i e=>by cases e;rfl)
end Go.Proofs.YtpbnmhnbkfnaeaaGreatDoor
namespace Go.Proofs.YtpbnmhnbkfnaeaaGreatDoor
open Go.RowKit Go.Shelf Nt
theorem Qc(of0:List Int):∀(ps:List (List Int))(of sz gone:List Int),∃t:List Int,t.Sublist ps.flatten/\(zI of0 ps of sz gone).2.2=gone++t
 | [],of,sz,gone=>⟨[],by simp,by simp[zI]⟩
 |p::ps,of,sz,gone=>by
  rw[xH]
  split
  . obtain⟨t,a,b⟩:=Qc of0 ps of sz gone
    exact⟨t,by rw[U3];exact a.trans (List.sublist_append_right _ _),b⟩
  . obtain⟨t,a,b⟩:=Qc of0 ps (jF of p sz.length) (sz.set (zD of (p.headD 0)).toNat (zD sz (zD of (p.headD 0))-p.length)++[(p.length:Int)]) (gone++p)
    exact⟨p++t,by rw[U3];exact List.Sublist.append (List.Sublist.refl _) a,by rw[b,U4]⟩
theorem ZK(of0:List Int):∀(ps:List (List Int))(of sz gone:List Int),(zI of0 ps of sz gone).1.length=of.length
 | [],of,sz,gone=>rfl
 |p::ps,of,sz,gone=>by
  rw[xH]
  split
  . exact ZK of0 ps of sz gone
  . rw[ZK of0 ps,kg]
theorem Ys{n:Nat}(h:0<n):GrpOk n (List.replicate n 0) [(n:Int)] where
 len:=by simp
 rng:=fun x _ _=>by rw[yD];simp
 cnt:=fun g h0 h1=>by
  have:g=0:=by simp at h1;omega
  subst this;have e:zD [(n:Int)] 0=n:=rfl;rw[e];simp;omega
theorem zhu(n:Nat):((List.range n).map (fun(i:Nat)=>(i:Int))).Nodup/\∀x:Int,x∈(List.range n).map (fun(i:Nat)=>(i:Int))↔0<=x/\x<n:=by
 refine⟨?_,fun x=>?_⟩
 . rw[Wm,List.pairwise_map]
   exact List.Pairwise.imp (fun h e=>h (by omega)) (Wm.1 List.nodup_range)
 . simp only[UB,List.mem_range]
   constructor
   . rintro⟨i,hi,rfl⟩;omega
   . rintro⟨h0,h1⟩;exact⟨x.toNat,by omega,by omega⟩
theorem ZU{n:Nat}{of sz:List Int}{ps:List (List Int)}(h:Parts n of ps):(zI of ps of sz []).2.2.Nodup:=by
 obtain⟨t,a,b⟩:=Qc of ps of sz [];rw[b,UE];exact dA a h.nd
theorem SplitTo.conv{K L:Type}{n:Nat}{of0 sz0 A of sz gone:List Int}{look:Int->K}{look':Int->L}(h:SplitTo n of0 sz0 A look of sz gone)(hc:∀x∈A,∀y∈A,look x=look y↔look' x=look' y):SplitTo n of0 sz0 A look' of sz gone:=
 {h with
  tog:=fun x hx y hy e=>h.tog x hx y hy ((hc x hx y hy).2 e)
  apart:=fun x y x0 x1 y0 y1 e=>by
   obtain⟨a,b⟩:=h.apart x y x0 x1 y0 y1 e;refine⟨a,?_⟩;rcases b with⟨b1,b2,b3⟩|b
   . exact .inl ⟨b1,b2,(hc x b1 y b2).1 b3⟩
   . exact .inr b}
def xm(us:List (List Int))(gone:List Int):List Int:=gone.flatMap (rAt us)
theorem zci(f:Int->Nat):∀(l m:List Int),l.Nodup->(∀x∈l,x∈m)->(l.map f).sum<=(m.map f).sum
 | [],_,_,_=>uD _
 |x::l,m,hn,hs=>by
  rw[WT]at hn;have hx:=hs x (by simp);have hp:=List.perm_cons_erase hx;have h1:=zci f l (m.erase x) hn.2 (fun y hy=>by
   have h2:=hs y (by simp[hy]);have hne:y≠x:=fun e=>hn.1 (by rw[<-e];exact hy)
   exact(List.mem_erase_of_ne hne).2 h2)
  have h3:=(hp.map f).sum_nat;simp only[UU,List.sum_cons]at h3⊢;omega
theorem zdl(us:List (List Int)):((List.range us.length).map fun(i:Nat)=>(rAt us i).length).sum=(us.map List.length).sum:=by
 congr 1
 apply wD (by simp);intro i h1 h2;simp only[WI,List.getElem_range];have hi:i<us.length:=by simpa using h1
 rw[JP (uf hi)]
theorem zbL{ns:List Nd}{us:List (List Int)}{gone:List Int}(h:UsersOk ns ns.length [] us)(hg:∀x∈gone,0<=x/\x<ns.length)(hn:gone.Nodup):(xm us gone).length<=40*ns.length:=by
 unfold xm;rw[List.length_flatMap];have h1:=zci (fun x=>(rAt us x).length) gone ((List.range us.length).map fun(i:Nat)=>(i:Int)) hn (fun x hx=>by
  have:=hg x hx;exact UB.2 ⟨x.toNat,by rw[List.mem_range,h.len];omega,by omega⟩)
 rw[List.map_map]at h1;have h2:=zdl us;have h3:=h.sum;simp only[UG,wC]at h3;have h4:(List.map ((fun x:Int=>(rAt us x).length) ∘ fun(i:Nat)=>(i:Int)) (List.range us.length)).sum=(us.map List.length).sum:=h2;have h5:(List.map (fun a:Int=>(rAt us a).length) gone).sum=(gone.map fun x=>(rAt us x).length).sum:=rfl;omega
theorem zfY{ns:List Nd}{us:List (List Int)}{gone:List Int}(h:UsersOk ns ns.length [] us)(hg:∀x∈gone,0<=x/\x<ns.length)(x:Int):x∈xm us gone↔(0<=x/\x<ns.length)/\∃k∈(je ns x.toNat).2.2,k∈gone:=by
 unfold xm;rw[List.mem_flatMap];constructor
 . rintro⟨k,hk,hx⟩
   have:=hg k hk;rcases(h.mem k this.1 this.2 x).1 hx with⟨a,b⟩|⟨_,b⟩
   . exact⟨a,k,b,hk⟩
   . simp at b
 . rintro⟨a,k,b,hk⟩
   have:=hg k hk;exact⟨k,hk,(h.mem k this.1 this.2 x).2 (.inl ⟨a,b⟩)⟩
theorem zeM{ns:List Nd}{us:List (List Int)}{gone:List Int}(h:UsersOk ns ns.length [] us)(hg:∀x∈gone,0<=x/\x<ns.length):(∀x,x∈Vu (xm us gone)↔(0<=x/\x<ns.length)/\∃k∈(je ns x.toNat).2.2,k∈gone)/\(Vu (xm us gone)).length<=ns.length:=by
 have h1:∀x,x∈Vu (xm us gone)↔(0<=x/\x<ns.length)/\∃k∈(je ns x.toNat).2.2,k∈gone:=fun x=>by rw[(Vv _).2,zfY h hg]
 refine⟨h1,?_⟩;have:=jk (Vv (xm us gone)).1 (m:=(List.range ns.length).map fun(i:Nat)=>(i:Int)) (fun x hx=>by
  have:=((h1 x).1 hx).1;exact UB.2 ⟨x.toNat,by simp;omega,by omega⟩)
 simpa using this
def xN(ns:List Nd)(of:List Int)(x:Int):Int×List UInt8:=(zD of x,QH ((je ns x.toNat).2.2.map (zD of)))
theorem zfc{ns:List Nd}{of sz:List Int}(hk:xj ns)(hg:GrpOk ns.length of sz){x y:Int}(hx:0<=x/\x<ns.length)(hy:0<=y/\y<ns.length):xN ns of x=xN ns of y↔VR ns of x=VR ns of y:=by
 unfold xN VR;simp only[wS];refine and_congr_right (fun _=>⟨fun e=>?_,fun e=>by rw[e]⟩);have hp:∀z:Int,0<=z/\z<ns.length->∀g∈(je ns z.toNat).2.2.map (zD of),0<=g:=fun z hz g hgm=>by
  obtain⟨k,hkm,rfl⟩:=UB.1 hgm;have:=hk z.toNat (by omega) k hkm;exact(hg.rng k this.1 this.2).1
 exact zcq (hp x hx) (hp y hy) e
structure GrI(w W:World)(g U0 U1:Nat)(nv ov uv sv gv:Value)(ns:List Nd)(us:List (List Int))(uvs:List Value)(of sz gone:List Int):Prop where
 below:Below w.heap.size w W
 box:AtC3 W g nv ov sv 96
 ofr:W.ownsRow w.heap.size 3 1 ov of.length (iv of)
 szr:W.ownsRow w.heap.size 3 1 sv sz.length (iv sz)
 gor:W.ownsRow w.heap.size 3 1 gv gone.length (iv gone)
 os:ApartV ov sv
 glt:w.heap.size<=g/\g<U0
 olt:∀b,ov.ownBlock=some b->b<U0
 sok:∀b,sv.ownBlock=some b->b<U0\/U1<=b
 usr:RoR W U0 uv us uvs
 ult:(∀b,uv.ownBlock=some b->U0<=b/\b<U1)/\∀x∈uvs,∀b,x.ownBlock=some b->U0<=b/\b<U1
 u01:U0<=U1/\U1<=W.heap.size
 uok:UsersOk ns ns.length [] us
section
variable {w W W':World} {g U0 U1:Nat} {nv ov uv sv gv:Value} {ns:List Nd} {us:List (List Int)} {uvs:List Value} {of sz gone:List Int}
theorem GrI.up(h:GrI w W g U0 U1 nv ov uv sv gv ns us uvs of sz gone)(k:Below W.heap.size W W'):GrI w W' g U0 U1 nv ov uv sv gv ns us uvs of sz gone:=
 {h with below:=zi h.below k,box:=h.box.below k,ofr:=zu h.ofr k,szr:=zu h.szr k,gor:=zu h.gor k,usr:=h.usr.up k,u01:=⟨h.u01.1,uC h.u01.2 k.size⟩}
theorem GrI.split{B pg cap m:Nat}{sv' gv':Value}{of' sz' gone':List Int}{ps':List (List Int)}{vs':List Value}(h:GrI w W g U0 U1 nv ov uv sv gv ns us uvs of sz gone)
  (hS:SpS W W' w.heap.size B g nv ov sv sv' gv' (.slice (some ⟨pg,0,none⟩) m cap) of' sz' gone' ps' vs')(hB:U1<=B):GrI w W' g U0 U1 nv ov uv sv' gv' ns us uvs of' sz' gone' where
 below:=by
  have hpg:B<=pg:=(zX hS.par.row rfl).1;have h1:=h.u01;have h2:=h.glt;exact h.below.trans (hS.kept.below h.below.size (fun b hb=>by
   rcases hb with rfl|hb|hb|hb
   . exact h2.1
   . exact(zX h.ofr hb).1
   . exact(zX h.szr hb).1
   . simp[Value.ownBlock]at hb;omega))
 box:=hS.box
 ofr:=hS.ofr
 szr:=hS.szr
 gor:=zV hS.gor h.below.size
 os:=hS.os
 glt:=h.glt
 olt:=h.olt
 sok:=fun b hb=>by
  rcases hS.s0 with e|e
  . exact h.sok b (by rw[<-e];exact hb)
  . have:=e b hb;have:=h.u01;omega
 usr:=by
  have hpg:B<=pg:=(zX hS.par.row rfl).1;have h2:=h.glt;have hno:∀b,U0<=b/\b<U1->¬(b=g\/ov.ownBlock=some b\/sv.ownBlock=some b\/(Value.slice (some ⟨pg,0,none⟩) m cap).ownBlock=some b):=fun b hb hc=>by
   rcases hc with rfl|hc|hc|hc
   . omega
   . have:=h.olt b hc;omega
   . have:=h.sok b hc;omega
   . simp[Value.ownBlock]at hc;omega
  exact h.usr.keptAll hS.kept (fun b hb=>hno b (h.ult.1 b hb)) (fun x hx b hb=>hno b (h.ult.2 x hx b hb))
 ult:=h.ult
 u01:=⟨h.u01.1,uC h.u01.2 hS.kept.size⟩
 uok:=h.uok
def Z9(n g:Nat)(v:Value)(W:World):Nat:=2*(n+1-zey ((W.cell? ⟨g,2,none⟩).getD undef))+min 1 (zey v)
theorem ZS{n:Nat}(h:GrI w W g U0 U1 nv ov uv sv gv ns us uvs of sz gone):Z9 n g gv W=2*(n+1-sz.length)+min 1 gone.length:=by
 unfold Z9;rw[h.box.n2];show 2*(n+1-zey sv)+min 1 (zey gv)=_;rw[Xz h.szr,Xz h.gor]
end
end Go.Proofs.YtpbnmhnbkfnaeaaGreatDoor
namespace Go.Proofs.YtpbnmhnbkfnaeaaGreatDoor
open Go.RowKit Go.Shelf Nt
theorem zaI(nv:Value)(ns:List Nd)(w:World)(h:NodesAt w nv ns)(hs:ns.length<=1048576)(hk:xj ns)(h40:∀nd∈ns,nd.2.2.length<=40)(hwf:∀nd∈ns,(Lit.int .i64 nd.1).wf=true)
  (htab:Lib.TabBelow Tryz.prog w.heap.size w "internal/strconv.uint64pow10" .u64 Lib.pow10Tab):
  Calls Tryz.prog 38 #[nv] w fun e w'=>(∃v of,e=.returned v/\w'.ownsRow w.heap.size 3 1 v of.length (iv of)/\of.length=ns.length/\(∀x:Int,0<=x->x<ns.length->0<=zD of x/\zD of x<ns.length)/\∀i j:Nat,i<ns.length->j<ns.length->(zD of i=zD of j↔zD (V4 ns) i=zD (V4 ns) j))/\Below w.heap.size w w':=by
 obtain⟨i0,hi,hz0,hz1,hz2⟩:=Ue Tryz.infoInt;have HN:=zb h;obtain⟨na,nc,rfl,hn1,hn2, -⟩:=h;unfold maxLen at hn2;have HK:=zb hk;have H40:=zb h40;have HWF:=zb hwf;have HT:=zb htab;clear hk h40 hwf htab;have hmk:=fun W=>XB (P:=Tryz.prog) uV hi hz0 hz1 hz2 rfl ns.length (by omega) (by omega) W
 obtain⟨X0,hX0⟩:∃X0,Obj.cells (madeCells #[.int .i64 0] ns.length) 3=X0:=⟨_,rfl⟩
 obtain⟨X1,hX1⟩:∃X1,Obj.cells #[.int .i64 ↑ns.length] 3=X1:=⟨_,rfl⟩
 obtain⟨X2,hX2⟩:∃X2,Obj.cells #[.slice na ns.length nc,.slice (some ⟨w.heap.size,0,none⟩) ns.length ns.length,.slice (some ⟨w.heap.size+1,0,none⟩) 1 1] 96=X2:=⟨_,rfl⟩
 have HOF:Hid (((((w.alloc X0).alloc X1).alloc X2).alloc X0).ownsRow w.heap.size 3 1 (.slice (some ⟨w.heap.size,0,none⟩) ns.length ns.length) ns.length (iv (List.replicate ns.length 0))):=zb (by
  have h:=(Vm (base:=w.heap.size) (e:=3) (z:=.int .i64 0) (n:=ns.length) (w:=w) (ud _) (by unfold maxLen;omega))
  rw[hX0]at h;simpa[iv]using((h.alloc X1).alloc X2).alloc X0)
 have HSZ:Hid (((((w.alloc X0).alloc X1).alloc X2).alloc X0).ownsRow w.heap.size 3 1 (.slice (some ⟨w.heap.size+1,0,none⟩) 1 1) 1 (iv [(ns.length:Int)])):=zb (by
  have h:=wh (base:=w.heap.size) (e:=3) (size:=1) (w.alloc X0) #[.int .i64 ↑ns.length] 1 (by simp) (by unfold maxLen;omega) rfl;rw[hX1,uk]at h;simpa[iv]using(h.alloc X2).alloc X0)
 have HBX:Hid (AtC3 ((((w.alloc X0).alloc X1).alloc X2).alloc X0) (w.heap.size+2) (.slice na ns.length nc) (.slice (some ⟨w.heap.size,0,none⟩) ns.length ns.length) (.slice (some ⟨w.heap.size+1,0,none⟩) 1 1) 96):=zb (by
  have h:=AtC3.new ((w.alloc X0).alloc X1) (.slice na ns.length nc) (.slice (some ⟨w.heap.size,0,none⟩) ns.length ns.length) (.slice (some ⟨w.heap.size+1,0,none⟩) 1 1) 96;rw[hX2,uk,uk]at h;exact h.below (zf (ue _ _) X0))
 have HAL:Hid (((((w.alloc X0).alloc X1).alloc X2).alloc X0).ownsRow w.heap.size 3 1 (.slice (some ⟨w.heap.size+3,0,none⟩) ns.length ns.length) ns.length (iv (List.replicate ns.length 0))):=zb (by
  have h:=(Vm (base:=w.heap.size) (e:=3) (z:=.int .i64 0) (n:=ns.length) (w:=((w.alloc X0).alloc X1).alloc X2) (by simp;omega) (by unfold maxLen;omega))
  rw[hX0]at h;simp only[uk]at h;simpa[iv]using h)
 have HB0:=zb (zf (zf (zf (zf (ue w.heap.size w) X0) X1) X2) X0);have hsz0:((((w.alloc X0).alloc X1).alloc X2).alloc X0).heap.size=w.heap.size+4:=by simp
 have HX0:=zb hX0;have HX1:=zb hX1;have HX2:=zb hX2;clear hX0 hX1 hX2;go_enter Tryz.func38,Tryz.ntmps38;go_wp2_with fail;rw[za HX0,za HX1,za HX2];obtain⟨W0,hW0⟩:∃W0,(((w.alloc X0).alloc X1).alloc X2).alloc X0=W0:=⟨_,rfl⟩
 rw[hW0]at HOF HSZ HBX HAL HB0 hsz0⊢;clear HX0 HX1 HX2 hW0 hmk;obtain⟨al,hal⟩:∃al:List Int,(List.range ns.length).map (fun(i:Nat)=>(i:Int))=al:=⟨_,rfl⟩
 have hall:al.length=ns.length:=by rw[<-hal];simp
 have HALL:=zb hal;have HAL2:=zb hall;clear hal hall
 go_loopw [24] (fun u wr=>∃k:Nat,k<=ns.length/\u=.int .i64 k/\Hid (wr.ownsRow w.heap.size 3 1 (.slice (some ⟨w.heap.size+3,0,none⟩) ns.length ns.length) ns.length (iv (zaj al k)))/\Hid (Kept (· =w.heap.size+3) W0 wr))
  (fun u _=>ns.length-(intOf u).toNat)
 case atStart=>exact⟨0,by omega,rfl,zb (by rw[zdH,za HAL2];exact za HAL),zb (Kept.refl _ _)⟩
 case round=>
  clear HAL;obtain⟨k,hk,rfl,HA,HKP⟩:=hrel;by_cases hlt:k<ns.length
  . have fz:=(za HA).frozenAt k
    obtain⟨v0,hv0⟩:=qP (za HA) k (by omega);have hst:=(za HA).stored k (.int .i64 (k:Int));rw[zaN,zfe (x:=(k:Int)) (by rw[<-za HALL];simp[hlt])]at hst;have HST:=zb hst.1;have HK2:=zb ((za HKP).trans (Kept.set (S:=(· =w.heap.size+3)) (a:=⟨w.heap.size+3,k,none⟩) rfl (.int .i64 (k:Int))));clear hst;go_wp2_with fail;go_roundw
    case rel=>exact⟨k+1,by omega,by go_num,HST,HK2⟩
    case measure=>simp[intOf];omega
  . obtain rfl:k=ns.length:=by omega
    have HA2:Hid (wr.ownsRow w.heap.size 3 1 (.slice (some ⟨w.heap.size+3,0,none⟩) ns.length ns.length) al.length (iv al)):=zb (by
     have h:=za HA;have h2:=zfd al;rw[za HAL2]at h2⊢;rwa[h2]at h)
    have HOF1:=zb (zS (za HOF) (za HKP) (fun b hb e=>by simp[Value.ownBlock]at hb;omega));have HSZ1:=zb (zS (za HSZ) (za HKP) (fun b hb e=>by simp[Value.ownBlock]at hb;omega));have HBX1:=zb ((za HBX).kept' (za HKP) (by omega));have HB1:=zb ((za HB0).trans ((za HKP).below (base:=w.heap.size) (by omega) (fun b hb=>by omega)));have hs1:=(za HKP).size;clear HA HKP HOF HSZ HBX HB0;go_wp2_with fail;have h:=XS (.slice na ns.length nc) ns wr ((za HN).below (za HB1)) hs (za HK) (za H40);refine h.mono ?_;clear h;rintro e w2⟨⟨uv,us,uvs,rfl,hU,hO⟩,hb2⟩;have hO4:=(za HALL) ▸ zhu ns.length;obtain⟨hnd,hmem⟩:=hO4
    have hgI:GrI w w2 (w.heap.size+2) wr.heap.size w2.heap.size (.slice na ns.length nc) (.slice (some ⟨w.heap.size,0,none⟩) ns.length ns.length) uv (.slice (some ⟨w.heap.size+1,0,none⟩) 1 1) (.slice none 0 0) ns us uvs (List.replicate ns.length 0) [(ns.length:Int)] []:=
     {below:=zi (za HB1) hb2
      box:=(za HBX1).below hb2
      ofr:=by have h:=zu (za HOF1) hb2;simpa using h
      szr:=zu (za HSZ1) hb2
      gor:=Wd _ _ _ _
      os:=fun b hb hb'=>by simp[Value.ownBlock]at hb hb';omega
      glt:=⟨by omega,by omega⟩
      olt:=fun b hb=>by simp[Value.ownBlock]at hb;omega
      sok:=fun b hb=>by simp[Value.ownBlock]at hb;omega
      usr:=hU
      ult:=⟨fun b hb=>zX hU.row hb,fun x hx b hb=>by
       obtain⟨j,hj⟩:=uT hx;have hjl:=(ui.1 hj).1;exact zX (hU.each j x _ hj (uf (by rw[<-hU.len];exact hjl))) hb⟩
      u01:=⟨hb2.size,ud _⟩
      uok:=hO}
    have HGI:=zb hgI;have HNX:Hid (∀i:Nat,i<ns.length->∃nd,ns[i]? =some nd/\je ns i=nd/\nd.2.1.length<=maxLen):=zb (fun i hi=>by
     obtain⟨a,cap,e,h1,h2,h3⟩:=za HN;obtain⟨b,off,rfl,hb,hc⟩:=h3 (by omega);exact⟨_,uf hi,yy (uf hi),(hc i _ (uf hi)).2.2.1⟩)
    have hface:=KV (.pointer (some ⟨w.heap.size+2,0,none⟩)) (.slice (some ⟨w.heap.size+3,0,none⟩) ns.length ns.length) al (xV ns) w2 (ZH (zu (za HA2) hb2)) (by rw[za HAL2];exact hs)
     (fun x hx=>by
      have hx2:=(hmem x).1 hx;obtain⟨nd,hnd,hna,htl⟩:=za HNX x.toNat (by omega);unfold xV;rw[hna];refine zfN _ _ _ (za HWF nd (un hnd)) (zao ((nd.2.2.length:Nat):Int) (by omega) (by have:=za H40 nd (un hnd);omega)) ?_;simpa[B,ByteArray.size]using htl)
     (fun x hx W hW=>by
      have hx2:=(hmem x).1 hx;obtain⟨nd,hnd,hna,_⟩:=za HNX x.toNat (by omega);have h:=zgV (w.heap.size+2) x.toNat _ _ _ ns nd W ((za HGI).box.below hW) ((za HN).below (zi (za HGI).below hW)) hnd;rw[show((x.toNat:Nat):Int)=x by omega]at h;unfold xV;rw[hna];exact h)
    have HFACE:=zb hface;have HMEM:=zb hmem;have HND:=zb hnd;clear hface hmem hnd hU hO hgI HA2 HOF1 HSZ1 HBX1;go_wp2_with fail;have h:=za HFACE;refine h.mono ?_;clear h HFACE;rintro e w3⟨⟨pb,pc,pvs,rfl,hP⟩,hb3⟩;have hPl:(zR (xV ns) al).length<=1048576:=by
     rw[kI];have:=ZB (xV ns) al;rw[za HAL2]at this;omega
    have hpos:zR (xV ns) al≠[]->0<ns.length:=fun hne=>by
     apply Nat.pos_of_ne_zero;intro e;apply hne;have:al=[]:=ur (by rw[za HAL2,e]);rw[this];rfl
    have hprt:∀ps':List (List Int),ps'.Perm (zR (xV ns) al)->Parts ns.length (List.replicate ns.length 0) ps':=fun ps' hp=>
     (Z6 (za HND) (fun x hx=>(za HMEM x).1 hx) (fun x _ y _ _=>by rw[yD,yD]) hp).1
    have HG3:=zb ((za HGI).up hb3)
    have h:=zch w.heap.size w2.heap.size (w.heap.size+2) pb pc ns.length (.slice na ns.length nc) (.slice (some ⟨w.heap.size,0,none⟩) ns.length ns.length) (.slice (some ⟨w.heap.size+1,0,none⟩) 1 1) (List.replicate ns.length 0) [(ns.length:Int)] (zR (xV ns) al) pvs w3
     (za HG3).box (za HG3).ofr (za HG3).szr (za HG3).os (fun b hb=>(zX (za HGI).ofr hb).2) (fun b hb=>(zX (za HGI).szr hb).2) hb3.size (za HGI).below.size hP (fun hne=>Ys (hpos hne)) hprt hs hPl
    have HSP:=zb h;have HPRT:=zb hprt;clear h hprt hPl hpos hP;go_wp2_with fail;have h:=za HSP;refine h.mono ?_;clear h HSP;rintro e w4⟨ps',vs',sv1,gv1,hpm,rfl,hS⟩;have HG4:=zb ((za HG3).split hS (ud _))
    have hR0:0<ns.length->Zu ns (List.replicate ns.length 0) (zI (List.replicate ns.length 0) ps' (List.replicate ns.length 0) [(ns.length:Int)] []).1 (zI (List.replicate ns.length 0) ps' (List.replicate ns.length 0) [(ns.length:Int)] []).2.1 (zI (List.replicate ns.length 0) ps' (List.replicate ns.length 0) [(ns.length:Int)] []).2.2:=fun h0=>
     XV (za HMEM) (by rw[za HAL2];exact ud _) (zaa (Ys h0) (za HND) (fun x hx=>(za HMEM x).1 hx) (fun x _ y _ _=>by rw[yD,yD]) hpm)
    have hZ0:ns.length=0->(zI (List.replicate ns.length 0) ps' (List.replicate ns.length 0) [(ns.length:Int)] []).2.2=[]:=fun e=>by
     have h1:al=[]:=ur (by rw[za HAL2,e]);rw[h1]at hpm;have h2:ps'=[]:=List.Perm.eq_nil hpm;rw[h2];rfl
    have hN0:=ZU (sz:=[(ns.length:Int)]) (za HPRT ps' hpm);have hL0:=ZK (List.replicate ns.length 0) ps' (List.replicate ns.length 0) [(ns.length:Int)] [];rw[Wv]at hL0;obtain⟨T3,hT3⟩:∃T3,zI (List.replicate ns.length 0) ps' (List.replicate ns.length 0) [(ns.length:Int)] []=T3:=⟨_,rfl⟩
    rw[hT3]at HG4 hR0 hZ0 hN0 hL0;obtain⟨of1,sz1,gone1⟩:=T3;simp only at HG4 hR0 hZ0 hN0 hL0;obtain⟨old0,hold⟩:∃old0,List.replicate ns.length (0:Int)=old0:=⟨_,rfl⟩
    rw[hold]at hR0;have HR0:=zb hR0;have HZ0:=zb hZ0;have HN0:=zb hN0;clear hT3 hold hR0 hZ0 hN0 hS hpm HG3 HGI HPRT hb3;obtain⟨U0,hU0⟩:∃U0,wr.heap.size=U0:=⟨_,rfl⟩
    obtain⟨U1,hU1⟩:∃U1,w2.heap.size=U1:=⟨_,rfl⟩
    rw[hU0,hU1]at HG4;clear hU0 hU1;go_wp2_with fail
    go_loopw [7] (fun gv wl=>∃(of sz gone old:List Int)(sv:Value),of.length=ns.length/\Hid (GrI w wl (w.heap.size+2) U0 U1 (.slice na ns.length nc) (.slice (some ⟨w.heap.size,0,none⟩) ns.length ns.length) uv sv gv ns us uvs of sz gone)/\Hid (0<ns.length->Zu ns old of sz gone)/\Hid (ns.length=0->gone=[])/\Hid gone.Nodup)
     (fun gv wl=>Z9 ns.length (w.heap.size+2) gv wl)
    case atStart=>exact⟨of1,sz1,gone1,old0,sv1,hL0,HG4,HR0,HZ0,HN0⟩
    case round=>
     clear HG4 HR0 HZ0 HN0 hL0;obtain⟨of,sz,gone,old,sv,hol,HG,HR,HZ,HND2⟩:=hrel;obtain⟨ga,gc,e4⟩:=zq (za HG).gor;subst e4;have b1:=(za HG).box.n1;by_cases hgn:gone.length=0
     . have hg0:gone=[]:=ur hgn
       have hnot:¬((0:Int)<(gone.length:Int)):=by omega
       go_wp2_with fail;go_ret;refine⟨⟨_,rfl,of,by rw[hol];have h:=(za HG).ofr;rwa[hol]at h,hol,?_,?_⟩,(za HG).below⟩
       . intro x h0 h1
         have hr:=za HR (by omega);have h2:=hr.ok.rng x h0 h1;have h3:=hr.ok.few;omega
       . intro i j hi hj
         have hr:=za HR (by omega);rw[hg0]at hr;exact zbo (za HK) hr i j hi hj
     . have hyes:(0:Int)<(gone.length:Int):=by omega
       have hn0:0<ns.length:=by
        apply Nat.pos_of_ne_zero;intro e;exact hgn (by rw[za HZ e];rfl)
       have hr:=za HR hn0;have hgr:=hr.gr;have hus:=(za HG).uok;have hgl:=hr.gn1;obtain⟨ub,uc,e5,_,_,_⟩:=zY (za HG).usr.row (by rw[hus.len];exact hn0);obtain⟨gb,gc',e6,_,_,_⟩:=zY (za HG).gor (by omega);injection e6 with e7 e8 e9;subst e7 e9 e5;have HGR:=zb hgr;have HRR:=zb hr;have HUS:=zb hus;clear hgr hr hus;obtain⟨Wl,hWl⟩:∃Wl,wr=Wl:=⟨_,rfl⟩
       rw[hWl]at HG b1⊢;clear hWl;have HA0:=zb (wh (base:=Wl.heap.size) (e:=3) (size:=1) Wl #[] 0 (ud _) (by unfold maxLen;omega) rfl);have HBa:=zb (zf (ue Wl.heap.size Wl) (.cells #[] 3));go_wp2_with fail
       go_loopw [8,44] (fun av u wi=>∃(j A0 ac:Nat),j<=gone.length/\u=.int .i64 j/\av=.slice (some ⟨A0,0,none⟩) (xm us (gone.take j)).length ac/\Hid (wi.ownsRow Wl.heap.size 3 1 (.slice (some ⟨A0,0,none⟩) (xm us (gone.take j)).length ac) (xm us (gone.take j)).length (iv (xm us (gone.take j))))/\Hid (Below Wl.heap.size Wl wi))
        (fun _ u _=>gone.length-(intOf u).toNat)
       case atStart=>exact⟨0,Wl.heap.size,0,by omega,rfl,rfl,by simpa[xm,iv]using HA0,HBa⟩
       case round=>
        clear HA0 HBa;obtain⟨j,A0,ac,hj,rfl,rfl,HA,HB⟩:=hrel;obtain⟨Wi,hWi⟩:∃Wi,wr=Wi:=⟨_,rfl⟩
        rw[hWi]at HA HB⊢;clear hWi;have HG2:=zb ((za HG).up (za HB));by_cases hlt:j<gone.length
        . obtain⟨x,hx⟩:∃x,gone[j]? =some x:=⟨_,uf hlt⟩
          have hxr:=(za HGR) x (un hx);obtain⟨xn,rfl⟩:∃xn:Nat,x=xn:=⟨x.toNat,by omega⟩
          have hul:=(za HUS).len;obtain⟨p,hp⟩:∃p,us[xn]? =some p:=⟨_,uf (by omega)⟩
          obtain⟨xv,hxv⟩:∃xv,uvs[xn]? =some xv:=⟨_,uf (by rw[(za HG).usr.len];omega)⟩
          have hpr:=(za HG2).usr.each xn xv p hxv hp;have hask:xm us (gone.take (j+1))=xm us (gone.take j)++p:=by
           unfold xm;rw[uY,hx,Option.toList_some,List.flatMap_append];simp[JP hp]
          have hlen:=zbL (za HUS) (gone:=gone.take (j+1)) (fun y hy=>(za HGR) y (UV hy)) (dA (List.take_sublist _ _) (za HND2));rw[hask,uG]at hlen;have c1:Wi.cell? ⟨gb,j,none⟩=some (.int .i64 xn):=by
           rw[(za HG2).gor.cellAt j (by omega)];exact Jk hx
          have c2:Wi.cell? ⟨ub,xn,none⟩=some xv:=by
           rw[(za HG2).usr.row.cellAt xn (by omega)];exact hxv
          have q1:(xn:Int)<us.length:=by omega
          obtain⟨AK,hAK⟩:∃AK,xm us (gone.take j)=AK:=⟨_,rfl⟩
          rw[hAK]at hask hlen HA⊢;have HAS:=zb hask;have HPR:=zb hpr;have hWl:=(za HB).size;clear hask hAK hx hxr hul hp hxv;rcases vY hpr with⟨rfl,_,hp0⟩|⟨qb,qc,rfl,_,_,_⟩
          . have hcapA:AK.length<=ac:=by
             rcases(za HA).2 with⟨e,_⟩|⟨g',c',cur,e,_,_,h1,_⟩
             . cases e
             . cases e;exact h1
            have hp00:p=[]:=by simpa[iv]using hp0
            clear hp0 hpr;go_wp2_with fail;go_roundw
            case rel=>
             have e:xm us (gone.take (j+1))=AK:=by rw[za HAS,hp00,du]
             refine⟨j+1,A0,ac,by omega,by go_num,by rw[e],by rw[e];exact HA,HB⟩
            case measure=>simp[intOf];omega
          . clear hpr
            go_wp2_with (at_builtin;refine wpList_append_own_at _ rfl _ _ 24 rfl Wl.heap.size 3 i0 (.int .i64 0) 1 8 uV hi hz0 hz1 hz2 rfl (by decide) _ _ _ rfl (za HA) ⟨qb,0,none⟩ p.length qc (iv p) rfl (by simp[iv]) (fun t u ht=>by have htl:=(ui.1 ht).1;have h:=(za HPR).cellAt t (by simpa[iv]using htl);rw[ht]at h;rw[KU];exact h) (by intro u hu;simp[iv]at hu;obtain⟨_,_,rfl⟩:=hu;rfl) (by unfold maxLen;omega) (by omega) hWl ?_;intro av' wB hown hgrow hnil hloc;obtain⟨qa,qd,rfl⟩:=zq hown;have HOW:=zb hown;have HBB:=zb ((za HB).grown hgrow hWl (fun k hk=>(zX (za HA) hk).1));have HNI:=zb hnil;clear hown hgrow hnil hloc);go_roundw
            case rel=>
             rcases vY (za HOW)with⟨e,_,_⟩|⟨g',c',e,_⟩
             . exact absurd ((za HNI).1 e).1 (fun h=>by cases h)
             . refine⟨j+1,g',c',by omega,by go_num,?_,?_,HBB⟩
               . rw[za HAS,uG,e]
               . rw[za HAS,uG,<-e]
                 exact zb (by have h:=za HOW;rw[show iv (AK++p)=iv AK++iv p by simp[iv]];exact h)
            case measure=>simp[intOf];omega
        . obtain rfl:j=gone.length:=by omega
          have htk:gone.take gone.length=gone:=uz (ud _);obtain⟨AK,hAK⟩:∃AK,xm us gone=AK:=⟨_,rfl⟩
          rw[htk,hAK]at HA⊢;have hAl:=zbL (za HUS) (za HGR) (za HND2);obtain⟨hA1,hA2⟩:=zeM (za HUS) (za HGR);have hA3:=(Vv AK).1;rw[hAK]at hAl hA1 hA2;have HA1:=zb hA1;have HA3:=zb hA3;have hWl:=(za HB).size;have hA0:Wl.heap.size<=A0:=(zX (za HA) rfl).1;clear hA1 hA3 hAK htk HG2;go_wp2_with fail;have h:=zhg Wl.heap.size A0 ac AK Wi (za HA) (by omega);refine h.mono ?_;clear h;rintro e w5⟨rfl,hr5,hk5⟩;have HB5:=zb ((za HB).trans (hk5.below (base:=Wl.heap.size) hWl (fun b hb=>by omega)));have HR5:Hid (w5.ownsRow Wl.heap.size 3 1 (.slice (some ⟨A0,0,none⟩) (AK.mergeSort fun x y=>decide (x<=y)).length ac) (AK.mergeSort fun x y=>decide (x<=y)).length (iv (AK.mergeSort fun x y=>decide (x<=y)))):=zb (by rw[List.length_mergeSort];exact hr5);clear hr5 hk5 HA HB;have h:=zcG Wl.heap.size A0 ac (AK.mergeSort fun x y=>decide (x<=y)) w5 (za HR5) (by rw[List.length_mergeSort];omega);rw[List.length_mergeSort]at h;have HCO:=zb h;clear h;go_wp2_with fail;have h:=za HCO;refine h.mono ?_;clear h HCO;rintro e w6⟨rfl,hr6,hk6⟩;have HB6:=zb ((za HB5).trans (hk6.below (base:=Wl.heap.size) (za HB5).size (fun b hb=>by omega)));obtain⟨A,hA⟩:∃A,Vu AK=A:=⟨_,rfl⟩
          rw[show Lib.compact (AK.mergeSort fun x y=>decide (x<=y))=A from hA]at hr6⊢;rw[hA]at HA1 HA3 hA2;have HR6:=zb hr6;have HG6:=zb ((za HG).up (za HB6));have hU6:U1<=w6.heap.size:=(za HG6).u01.2;clear hr6 hk6 HR5 HB5 hA;have hrr:=za HRR;have hof2:=(za HG6).ofr
          have hturn:=KW (.pointer (some ⟨w.heap.size+2,0,none⟩)) (.slice (some ⟨A0,0,none⟩) A.length ac) A (xN ns of) w6 (ZH (za HR6)) (by omega)
           (fun x hx=>by
            have hx2:=((za HA1 x).1 hx).1;obtain⟨nd,hnd,hna,_⟩:=za HNX x.toNat (by omega);have hk40:=za H40 nd (un hnd);have hgx:=hrr.ok.rng x hx2.1 hx2.2;have hfw:=hrr.ok.few;unfold xN;rw[hna];refine zfO _ _ (zao _ (by omega) (by omega)) ?_;have hl:=KR (nd.2.2.map (zD of)) (fun g hg=>by
             obtain⟨k,hkm,rfl⟩:=UB.1 hg;have h1:=za HK x.toNat (by omega);rw[hna]at h1;have h2:=h1 k hkm;have h3:=hrr.ok.rng k h2.1 h2.2;omega)
            rw[Ud]at hl;have:(B (QH (nd.2.2.map (zD of)))).size=(QH (nd.2.2.map (zD of))).length:=by simp[B,ByteArray.size]
            rw[this];unfold maxLen;omega)
           (fun x hx W hW=>by
            have hx2:=((za HA1 x).1 hx).1;obtain⟨nd,hnd,hna,_⟩:=za HNX x.toNat (by omega);have hbw:=zi (za HG6).below hW;have hki:=za HK x.toNat (by omega);rw[hna]at hki
            have h:=zhj (w.heap.size+2) x.toNat _ _ _ ns of nd W ((za HG6).box.below hW) ((za HN).below hbw) (by have h:=ZH (zu hof2 hW);exact h) hnd hol hki (za H40 nd (un hnd))
             (fun k k0 k1=>by have h3:=hrr.ok.rng k k0 k1;have h4:=hrr.ok.few;omega) (fun w' hb=>((za HT).on hbw) w' (hb.mono hbw.size))
            rw[show((x.toNat:Nat):Int)=x by omega]at h;unfold xN;rw[hna];exact h)
          have HTURN:=zb hturn;clear hturn hof2 hrr;go_wp2_with fail;have h:=za HTURN;refine h.mono ?_;clear h HTURN;rintro e w7⟨⟨pb2,pc2,pvs2,rfl,hP⟩,hb7⟩;have hPl:(zR (xN ns of) A).length<=1048576:=by
           rw[kI];have:=ZB (xN ns of) A;omega
          have hAr:∀x∈A,0<=x/\x<ns.length:=fun x hx=>((za HA1 x).1 hx).1
          have hll:∀x∈A,∀y∈A,xN ns of x=xN ns of y->zD of x=zD of y:=fun x _ y _ e=>uB Prod.fst e
          have hprt:∀ps':List (List Int),ps'.Perm (zR (xN ns of) A)->Parts ns.length of ps':=fun ps' hp=>(Z6 (za HA3) hAr hll hp).1
          have HG7:=zb ((za HG6).up hb7)
          have h:=zch w.heap.size w6.heap.size (w.heap.size+2) pb2 pc2 ns.length (.slice na ns.length nc) (.slice (some ⟨w.heap.size,0,none⟩) ns.length ns.length) sv of sz (zR (xN ns of) A) pvs2 w7
           (za HG7).box (za HG7).ofr (za HG7).szr (za HG7).os (fun b hb=>(zX (za HG6).ofr hb).2) (fun b hb=>(zX (za HG6).szr hb).2) hb7.size (za HG6).below.size hP (fun _=>(za HRR).ok) hprt hs hPl
          have HSP:=zb h;have HPRT:=zb hprt;have HAR:=zb hAr;have HLL:=zb hll;clear h hprt hPl hP hAr hll;go_wp2_with fail;have h:=za HSP;refine h.mono ?_;clear h HSP;rintro e w8⟨ps',vs',sv',gv',hpm,rfl,hS⟩;have HG8:=zb ((za HG7).split hS hU6);have hto:=zaa (za HRR).ok (za HA3) (za HAR) (za HLL) hpm;have hto2:=hto.conv (look':=VR ns of) (fun x hx y hy=>zfc (za HK) (za HRR).ok (za HAR x hx) (za HAR y hy));have hrn:=zbp (za HK) (za HRR) (za HA1) hA2 hto2;have hgl2:=hto.gl;have hfw2:=hrn.ok.few;have hL2:=ZK of ps' of sz [];have hN2:=ZU (sz:=sz) (za HPRT ps' hpm);obtain⟨T3,hT3⟩:∃T3,zI of ps' of sz []=T3:=⟨_,rfl⟩
          rw[hT3]at HG8 hrn hgl2 hfw2 hL2 hN2;obtain⟨of2,sz2,gone2⟩:=T3;simp only at HG8 hrn hgl2 hfw2 hL2 hN2;have HRN:=zb hrn;have HN2:=zb hN2;have HGL2:=zb hgl2;have hM1:=ZS (n:=ns.length) (za HG);have hM2:=ZS (n:=ns.length) (za HG8);have HM1:=zb hM1;have HM2:=zb hM2;clear hto hto2 hrn hgl2 hN2 hM1 hM2 hT3 hS hpm HG7 HPRT;go_wp2_with fail;go_roundw
          case rel=>exact⟨of2,sz2,gone2,of,sv',by omega,HG8,zb (fun _=>za HRN),zb (fun e=>by omega),HN2⟩
          case measure=>
           rw[za HM1,za HM2];have hg:=za HGL2;by_cases h0:gone2=[]
           . rw[h0];simp;omega
           . have:=hg.2 h0
             have:0<gone2.length:=UQ.2 h0;omega
end Go.Proofs.YtpbnmhnbkfnaeaaGreatDoor
namespace Go.Proofs.YtpbnmhnbkfnaeaaGreatDoor
open Go.Shelf
def Tryz.lays119_ren:Go.Shelf.Ren:=⟨fun|119=>229|n=>n,fun|21=>21|4=>4|n=>n,fun|n=>n⟩
theorem Tryz.lays119:Go.Proofs.Lays.n119 Tryz.prog Tryz.lays119_ren:={
 mixed:=by kernel_rfl
 f119:=Tryz.func229.trans (uB some (by kernel_rfl))
 t4:=Wp
 a4:=Tryz.isAgg4
 z4:=Tryz.sizeOf4
 v4:=WQ
 t21:=Tryz.underlying21
 a21:=Tryz.isAgg21
 z21:=Tryz.sizeOf21
 v21:=Tryz.zeroValue21}
theorem Tryz.utf8_ValidRune(r:Int)(w:World):
  Calls Tryz.prog 229 #[.int .i32 r] w fun e w'=>e=.returned (.bool (Lib.validRune r))/\w'=w:=Any.utf8_ValidRune Tryz.lays119 r w
def Tryz.lays213_ren:Go.Shelf.Ren:=⟨fun|213=>154|265=>177|n=>n,fun|9=>9|3=>3|n=>n,fun|n=>n⟩
def Tryz.lays106_ren:Go.Shelf.Ren:=⟨fun|106=>127|213=>154|265=>177|n=>n,fun|9=>9|3=>3|n=>n,fun|n=>n⟩
theorem Tryz.lays106:Go.Proofs.Lays.n106 Tryz.prog Tryz.lays106_ren:={
 mixed:=by kernel_rfl
 f106:=Tryz.func127.trans (uB some (by kernel_rfl))
 f213:=Tryz.func154.trans (uB some (by kernel_rfl))
 f265:=Tryz.func177.trans (uB some (by kernel_rfl))
 t3:=uW
 a3:=dC
 z3:=dc
 v3:=Wz
 t9:=Uf
 a9:=Tryz.isAgg9
 z9:=Tryz.sizeOf9
 v9:=WP}
open Go.RowKit in
theorem Tryz.strings_Compare(a b:ByteArray)(w:World):
  Calls Tryz.prog 127 #[.string a,.string b] w fun e w'=>e=.returned (.int .i64 (Lib.compareBytes a.data.toList b.data.toList))/\w'=w:=Any.strings_Compare Tryz.lays106 a b w
def Tryz.lays137_ren:Go.Shelf.Ren:=⟨fun|137=>228|217=>221|266=>226|n=>n,fun|9=>9|5=>5|3=>3|n=>n,fun|n=>n⟩
theorem Tryz.lays137:Go.Proofs.Lays.n137 Tryz.prog Tryz.lays137_ren:={
 mixed:=by kernel_rfl
 f137:=Tryz.func228.trans (uB some (by kernel_rfl))
 f217:=Tryz.func221.trans (uB some (by kernel_rfl))
 f266:=Tryz.func226.trans (uB some (by kernel_rfl))
 t3:=uW
 a3:=dC
 z3:=dc
 v3:=Wz
 t5:=Ux
 a5:=Tryz.isAgg5
 z5:=Tryz.sizeOf5
 v5:=Tryz.zeroValue5
 t9:=Uf
 a9:=Tryz.isAgg9
 z9:=Tryz.sizeOf9
 v9:=WP}
open Go.RowKit in
theorem Tryz.strings_IndexByte(s:ByteArray)(c:Int)(w:World):
  Calls Tryz.prog 228 #[.string s,.int .u8 c] w fun e w'=>e=.returned (.int .i64 (Lib.indexByte s.data.toList c.toNat.toUInt8))/\w'=w:=Any.strings_IndexByte Tryz.lays137 s c w
def Tryz.lays195_ren:Go.Shelf.Ren:=⟨fun|195=>168|n=>n,fun|9=>9|3=>3|0=>0|4=>4|n=>n,fun|n=>n⟩
theorem Tryz.lays195:Go.Proofs.Lays.n195 Tryz.prog Tryz.lays195_ren:={
 mixed:=by kernel_rfl
 f195:=Tryz.func168.trans (uB some (by kernel_rfl))
 t0:=dj
 a0:=Tryz.isAgg0
 z0:=Tryz.sizeOf0
 v0:=dt
 t3:=uW
 a3:=dC
 z3:=dc
 v3:=Wz
 t4:=Wp
 a4:=Tryz.isAgg4
 z4:=Tryz.sizeOf4
 v4:=WQ
 t9:=Uf
 a9:=Tryz.isAgg9
 z9:=Tryz.sizeOf9
 v9:=WP}
open Go.RowKit in
theorem Tryz.utf8_RuneCountInString(s:ByteArray)(w:World)(hs:s.size<9223372036854775807):
  Calls Tryz.prog 168 #[.string s] w fun e w'=>e=.returned (.int .i64 (Lib.runeCount s))/\∃pos,w'=w.iter s pos:=Any.utf8_RuneCountInString Tryz.lays195 s w hs
def Tryz.lays151_ren:Go.Shelf.Ren:=⟨fun|151=>218|152=>225|137=>228|119=>229|224=>223|225=>222|217=>221|266=>226|n=>n,fun|9=>9|21=>21|4=>4|3=>3|5=>5|0=>0|46=>150|n=>n,fun|n=>n⟩
theorem Tryz.lays151:Go.Proofs.Lays.n151 Tryz.prog Tryz.lays151_ren:={
 mixed:=by kernel_rfl
 f119:=Tryz.func229.trans (uB some (by kernel_rfl))
 f137:=Tryz.func228.trans (uB some (by kernel_rfl))
 f151:=Tryz.func218.trans (uB some (by kernel_rfl))
 f152:=Tryz.func225.trans (uB some (by kernel_rfl))
 f217:=Tryz.func221.trans (uB some (by kernel_rfl))
 f224:=Tryz.func223.trans (uB some (by kernel_rfl))
 f225:=Tryz.func222.trans (uB some (by kernel_rfl))
 f266:=Tryz.func226.trans (uB some (by kernel_rfl))
 t0:=dj
 a0:=Tryz.isAgg0
 z0:=Tryz.sizeOf0
 v0:=dt
 t3:=uW
 a3:=dC
 z3:=dc
 v3:=Wz
 t4:=Wp
 a4:=Tryz.isAgg4
 z4:=Tryz.sizeOf4
 v4:=WQ
 t5:=Ux
 a5:=Tryz.isAgg5
 z5:=Tryz.sizeOf5
 v5:=Tryz.zeroValue5
 t9:=Uf
 a9:=Tryz.isAgg9
 z9:=Tryz.sizeOf9
 v9:=WP
 t21:=Tryz.underlying21
 a21:=Tryz.isAgg21
 z21:=Tryz.sizeOf21
 v21:=Tryz.zeroValue21
 t46:=Tryz.underlying150
 a46:=Tryz.isAgg150
 z46:=Tryz.sizeOf150
 v46:=Tryz.zeroValue150}
open Go.RowKit Go.Lib in
theorem Tryz.strings_ContainsRune_ascii(s:ByteArray)(r:Int)(w:World)(h0:0<=r)(h1:r<128):
  Calls Tryz.prog 218 #[.string s,.int .i32 r] w fun e w'=>e=.returned (.bool (decide (0<=Lib.indexByte s.data.toList r.toNat.toUInt8)))/\w'=w:=Any.strings_ContainsRune_ascii Tryz.lays151 s r w h0 h1
end Go.Proofs.YtpbnmhnbkfnaeaaGreatDoor
namespace Go.Proofs.YtpbnmhnbkfnaeaaGreatDoor
open Go.RowKit Nt
def yW(c:Nat):Prop:=c<55296\/(57344<=c/\c<=1114111)
theorem Xe(s:ByteArray)(k:Nat):yW (Utf8.decode s k).1:=by
 rw[Lib.decode_at];have l0:=(s.get! k).toNat_lt;have key:∀(n b0 b1 b2 b3:Nat),b0<256->yW (Lib.decodeN n b0 b1 b2 b3).1:=by
  intro n b0 b1 b2 b3 h0;unfold Lib.decodeN yW
  repeat' split
  all_goals (dsimp only at *;omega)
 exact key _ _ _ _ _ l0
theorem zbq(c:Nat)(hv:yW c):Utf8.valid (c:Int)=true:=by
  unfold Utf8.valid;rcases hv with hv|⟨hv,hv2⟩
  . rw[uy (show(0:Int)<=(c:Int) by omega),uy (show(c:Int)<55296 by omega)]
    rfl
  . rw[uy (show(57344:Int)<=(c:Int) by omega),uy (show(c:Int)<=1114111 by omega)]
    simp
theorem zfD(c:Nat)(h:128<=c)(h1:c<2048)(hv:Utf8.valid (c:Int)=true):(Utf8.encode (c:Int))=⟨#[UInt8.ofNat (192+c/64),UInt8.ofNat (128+c%64)]⟩:=by
 unfold Utf8.encode;simp only[hv,if_true,UI];rw[ul (by omega),uj h1]
theorem zcI(c:Nat)(h:2048<=c)(h1:c<65536)(hv:Utf8.valid (c:Int)=true):(Utf8.encode (c:Int))=⟨#[UInt8.ofNat (224+c/4096),UInt8.ofNat (128+c/64%64),UInt8.ofNat (128+c%64)]⟩:=by
 unfold Utf8.encode;simp only[hv,if_true,UI];rw[ul (by omega),ul (by omega),uj h1]
theorem zeg(c:Nat)(h:65536<=c)(hv:Utf8.valid (c:Int)=true):(Utf8.encode (c:Int))=⟨#[UInt8.ofNat (240+c/262144),UInt8.ofNat (128+c/4096%64),UInt8.ofNat (128+c/64%64),UInt8.ofNat (128+c%64)]⟩:=by
 unfold Utf8.encode;simp only[hv,if_true,UI];rw[ul (by omega),ul (by omega),ul (by omega)]
theorem zfG(x y:UInt8)(h:1<(⟨#[x,y]⟩:ByteArray).size):(⟨#[x,y]⟩:ByteArray)[1]'h=y:=by rw[Wj];rfl
theorem zcN(x y z:UInt8)(h:2<(⟨#[x,y,z]⟩:ByteArray).size):(⟨#[x,y,z]⟩:ByteArray)[2]'h=z:=by rw[Wj];rfl
theorem zeo(x y z u:UInt8)(h:3<(⟨#[x,y,z,u]⟩:ByteArray).size):(⟨#[x,y,z,u]⟩:ByteArray)[3]'h=u:=by rw[Wj];rfl
theorem zeh(c:Nat)(h:128<=c)(hv:yW c)(E:ByteArray)(hE:Utf8.encode (c:Int)=E):∃z:Nat,E.size=z+1/\1<=z/\z<=3/\∃b:UInt8,128<=b.toNat/\∀hz:z<E.size,E[z]'hz=b:=by
 have hval:=zbq c hv;have hb:128<=(UInt8.ofNat (128+c%64)).toNat:=by rw[dw];omega
 by_cases h1:c<2048
 . rw[zfD c h h1 hval]at hE
   subst hE;exact⟨1,rfl,by omega,by omega,_,hb,fun hz=>zfG _ _ hz⟩
 . by_cases h2:c<65536
   . rw[zcI c (by omega) h2 hval]at hE
     subst hE;exact⟨2,rfl,by omega,by omega,_,hb,fun hz=>zcN _ _ _ hz⟩
   . rw[zeg c (by omega) hval]at hE
     subst hE;exact⟨3,rfl,by omega,by omega,_,hb,fun hz=>zeo _ _ _ _ hz⟩
theorem Xo:∀ {l:List UInt8}{b:UInt8},(∀c∈l,c≠b)->Lib.indexByte l b= -1
 | [],_,_=>rfl
 |c::l,b,h=>by
  unfold Lib.indexByte;rw[Xo (fun d hd=>h d (Uw _ hd))];have:(c==b)=false:=ug.2 (h c UK);rw[this];rfl
theorem Yu:∀ {l:List UInt8}{b:UInt8},0<=Lib.indexByte l b↔b∈l
 | [],_=>by simp[Lib.indexByte]
 |c::l,b=>by
  have ih:=Yu (l:=l) (b:=b);have hg:=Lib.indexByte_ge l b;unfold Lib.indexByte;by_cases e:c=b
  . subst e;simp
  . rw[ul (by simpa using e),uX]
    by_cases e2:Lib.indexByte l b= -1
    . rw[e2]at ih
      have:¬b∈l:=fun h=>by have:=ih.2 h;omega
      simp[e2,this];exact fun h=>e h.symm
    . rw[ul (by simpa using e2)]
      constructor
      . intro _;exact .inr (ih.1 (by omega))
      . rintro(h|h)
        . exact absurd h.symm e
        . have:=ih.2 h;omega
theorem zhl{c:Nat}(h:yW c):Lib.validRune (c:Int)=true:=by
 unfold Lib.validRune yW at *;rw[ut];omega
theorem Vc(l:List UInt8)(c:Nat)(w:World)(hl:∀d∈l,d.toNat<128)(h128:128<=c)(hv:yW c)(_hlen:l.length<=1000):
  Calls Tryz.prog 225 #[.string (B l),.int .i32 c] w fun e w'=>e=.returned (.int .i64 (-1))/\Below w.heap.size w w':=by
 have c0:(0:Int)<=(c:Int):=by omega
 have c1:¬(c:Int)<128:=by omega
 have HL:=zb hl;by_cases he:c=65533
 . subst he
   go_enter Tryz.func225,Tryz.ntmps225;go_wp2_with fail
   go_loopw [4] (fun _ wr=>∃pos:Nat,pos<=l.length/\wr.heap[w.heap.size]? =some (.stringIter (B l) pos)/\Below w.heap.size w wr)
    (fun _ wr=>l.length-wr.iterPos w.heap.size)
   case atStart=>exact⟨0,uD _,WN _ _ _,(ue _ _).alloc (ud _) _⟩
   case round=>
    obtain⟨pos,hpl,hit,hb⟩:=hrel;have hpos0:=iterPos_of hit;by_cases hlt:pos<l.length
    . have hlt2:pos<(B l).size:=by rw[zj];exact hlt
      have hd:=(za HL) (l[pos]'hlt) (uF hlt)
      have hnx:=fun ty=>Lib.run_next_ascii_at (P:=Tryz.prog) wr w.heap.size (B l) pos ty hit hlt2 (by rw[j4];exact hd)
      have hit2:=Lib.iterAt_heap wr w.heap.size (B l) pos (pos+1) hit;have hb2:=Lib.below_iterAt hb (k:=w.heap.size) (ud _) (B l) (pos+1);have hpos2:=iterPos_of hit2;have hne:((((B l)[pos]'hlt2).toNat:Int)==65533)=false:=by rw[ug,j4];omega
      have Hit2:=zb hit2;have Hp0:=zb hpos0;have Hp2:=zb hpos2;clear hit hit2 hpos0 hpos2 hd;go_wp2_with fail;go_roundw
      case rel=>exact⟨pos+1,by omega,za Hit2,hb2⟩
      case measure=>rw[za Hp0,za Hp2];omega
    . have hlt2:¬pos<(B l).size:=by rw[zj];exact hlt
      have hnx:=fun ty=>Lib.run_next_end_at (P:=Tryz.prog) wr w.heap.size (B l) pos ty hit hlt2
      clear hit hpos0;go_wp2_with fail;go_ret;exact⟨rfl,hb⟩
 . have hee:((c:Int)==65533)=false:=by rw[ug];omega
   have HV:=zb (fun W=>(by have:=Tryz.utf8_ValidRune (c:Int) W;rw[zhl hv]at this;exact this:Calls Tryz.prog 229 #[.int .i32 c] W fun e w'=>e=.returned (.bool true)/\w'=W));obtain⟨E,hE⟩:∃E,Utf8.encode (c:Int)=E:=⟨_,rfl⟩
   obtain⟨z,hz,hz1,hz3,b,hb128,hzb⟩:=zeh c h128 hv E hE;have hzl:z<E.size:=by omega
   have hzc:E[z]'hzl=b:=hzb hzl;clear hzb;have HBB:=zb hb128;have hnb:∀d∈l,d≠b:=fun d hd e=>by have:=hl d hd;rw[e]at this;omega
   have HNB:=zb hnb;have hsz:=zj l;clear he hl hv h128 hb128 hnb;go_enter Tryz.func225,Tryz.ntmps225;go_wp2_with fail;refine(za HV w).mono ?_;rintro e w1⟨rfl,rfl⟩;go_wp2_with fail
   go_step3
   go_wp2_with fail;refine wp_loop_rounds 1 ?_;rw[W9];by_cases hzl2:z<l.length
   . have i0:(z:Int)<((B l).size:Int):=by omega
     have i1:z<(B l).size:=by omega
     obtain⟨d,hd⟩:∃d,(B l)[z]'i1=d:=⟨_,rfl⟩
     have hdm:d∈l:=by rw[<-hd,j4];exact uF _
     obtain⟨m,hm⟩:∃m,d.toNat=m:=⟨_,rfl⟩
     obtain⟨n,hn⟩:∃n,b.toNat=n:=⟨_,rfl⟩
     have hdb:((m:Int)==(n:Int))=false:=by
      rw[ug];have:=za HNB d hdm;intro e;exact this (wM.1 (by omega))
     have hdn:((m:Int) != (n:Int))=true:=by rw[bne,hdb];rfl
     have hx:(B l).extract (z+1) l.length=B (l.drop (z+1)):=by rw[qp,Uh]
     have HI:Hid (∀W,Calls Tryz.prog 228 #[.string ((B l).extract (z+1) l.length),.int .u8 (n:Int)] W fun e w'=>e=.returned (.int .i64 (-1))/\w'=W):=zb (fun W=>by
      rw[<-hn];have h:=Tryz.strings_IndexByte (B (l.drop (z+1))) (b.toNat:Int) W;rw[JS,UI,show b.toNat.toUInt8=b from by simp,Xo (fun c hc=>za HNB c (WY hc))]at h;rw[hx];exact h)
     have q0:(0:Int)<=(z:Int):=by omega
     have q1:((z:Int)).toNat=z:=by omega
     have q2:(z:Int)<(E.size:Int):=by omega
     have q3:((z:Int)+1).toNat=z+1:=by omega
     have q4:IntKind.i64.wrap ((z:Int)+1)=(z:Int)+1:=by rw[qX]<;>omega
     have q5:(0:Int)<=(z:Int)+1:=by omega
     have q6:(z:Int)+1<=((B l).size:Int):=by omega
     have q7:¬((B l).size:Int)<(z:Int)+1:=by omega
     clear hx;go_wp2_with fail
     go_step3
     go_wp2_with fail
     go_big_quiet (fail)
     have HBW:=zb (qq w1 nq);obtain⟨W2,hW2⟩:∃W2,w1.drewN nq=W2:=⟨_,rfl⟩
     rw[hW2]at HBW⊢;clear hW2;go_wp2_with fail
     go_quiet ((go_at_call 228;exact Calls.quiet_of_same (za HI _)))
     go_wp2_with fail;simp only[Exit.noGoto_ret,Exit.inBlock,Exit.then];go_ret;exact⟨rfl,zi (za HBW) (qq _ _)⟩
   . have i0:¬(z:Int)<((B l).size:Int):=by omega
     go_wp2_with fail;go_ret;exact⟨rfl,ue _ _⟩
def J7(l:List UInt8)(c:Nat):Bool:=l.any fun d=>d.toNat==c
theorem yY(l:List UInt8)(c:Nat)(w:World)(hl:∀d∈l,d.toNat<128)(hv:yW c)(hlen:l.length<=1000):
  Calls Tryz.prog 218 #[.string (B l),.int .i32 c] w fun e w'=>e=.returned (.bool (J7 l c))/\Below w.heap.size w w':=by
 by_cases h:c<128
 . have h1:=Tryz.strings_ContainsRune_ascii (B l) (c:Int) w (by omega) (by omega)
   rw[JS,UI]at h1;have e:decide (0<=Lib.indexByte l c.toUInt8)=J7 l c:=by
    rw[UW,ut,Yu];unfold J7;rw[List.any_eq_true];have hc:c.toUInt8.toNat=c:=by rw[Nat.toUInt8,dw];omega
    constructor
    . intro hm;exact⟨_,hm,by rw[hc];simp⟩
    . rintro⟨d,hd,he⟩
      have:d.toNat=c:=by simpa using he
      rw[<-wM.1 (show d.toNat=c.toUInt8.toNat by rw[hc];exact this)];exact hd
   rw[e]at h1;refine h1.mono ?_;rintro e w'⟨rfl,rfl⟩;exact⟨rfl,ue _ _⟩
 . have e:J7 l c=false:=by
    unfold J7;rw[List.any_eq_false];intro d hd;have:=hl d hd;simp;omega
   rw[e];have HI:=zb (Vc l c w hl (by omega) hv hlen);go_enter Tryz.func218,Tryz.ntmps218;go_wp2_with fail;refine(za HI).mono ?_;rintro e w1⟨rfl,hb⟩;have HB:=zb hb;clear hb;go_wp2_with fail;go_ret;exact⟨rfl,za HB⟩
def Y5:List UInt8:=[32,9,10,13,40,41,34,59,39]
theorem zaC(c:Nat):J7 Y5 c=js c:=by
 unfold J7 Y5 js;simp only[List.any_cons,List.any_nil,Bool.or_false];rw[UW];simp only[Ur,Um,We];omega
theorem VE(c:Nat)(w:World)(hv:yW c):
  Calls Tryz.prog 211 #[.int .i32 c] w fun e w'=>e=.returned (.bool (js c))/\Below w.heap.size w w':=by
 have HI:Hid (Calls Tryz.prog 218 #[.string ⟨#[32,9,10,13,40,41,34,59,39]⟩,.int .i32 c] w fun e w'=>e=.returned (.bool (js c))/\Below w.heap.size w w'):=zb (by
  have h:=yY Y5 c w (by decide) hv (by decide);rw[zaC]at h;exact h)
 go_enter Tryz.func211,Tryz.ntmps211;go_wp2_with fail;refine(za HI).mono ?_;rintro e w1⟨rfl,hb⟩;have HB:=zb hb;clear hb;go_wp2_with fail;go_ret;exact⟨rfl,za HB⟩
theorem zcJ{c:Nat}(h:js c=true):c<128:=by
 unfold js at h;simp only[Ur,Um]at h;omega
theorem VI{p:Nat->Bool}(hp:∀c,p c=true->c<128)(t:List UInt8)(k:Nat)(h:k<t.length):
  1<=(Utf8.decode (B t) k).2/\k+(Utf8.decode (B t) k).2<=t.length/\(p (Utf8.decode (B t) k).1=true->p (t[k]'h).toNat=true)/\
  (p (Utf8.decode (B t) k).1=false->∀i(hi:i<t.length),k<=i->i<k+(Utf8.decode (B t) k).2->p (t[i]'hi).toNat=false):=by
 obtain⟨a1,a2,a3,a4⟩:=Y1 (B t) k (by rw[zj];exact h);rw[zj]at a2;have hg:∀i(hi:i<t.length),(B t).get! i=t[i]'hi:=fun i hi=>by
  rw[zbR _ _ (by rw[zj];exact hi),j4]
 refine⟨a1,a2,fun hq=>?_,fun hq i hi h1 h2=>?_⟩
 . obtain⟨_,e⟩:=a3 (hp _ hq)
   rw[hg k h]at e;rw[e];exact hq
 . by_cases hc:(Utf8.decode (B t) k).1<128
   . obtain⟨e1,e⟩:=a3 hc
     obtain rfl:i=k:=by omega
     rw[hg i hi]at e;rw[e];exact hq
   . have:=a4 (by omega) i h1 h2
     rw[hg i hi]at this;cases e:p (t[i]'hi).toNat with
     |false=>rfl
     |true=>have:=hp _ e;omega
theorem XR(t:List UInt8)(w:World)(_hs:t.length<=1048576):
  Calls Tryz.prog 210 #[.string (B t),.func (.func 211) #[] #[]] w fun e w'=>e=.returned (.int .i64 (yG js t:Nat))/\Below w.heap.size w w':=by
 go_enter Tryz.func210,Tryz.ntmps210;go_wp2_with fail
 go_loopw [5] (fun _ wr=>∃pos:Nat,pos<=t.length/\Hid (wr.heap[w.heap.size]? =some (.stringIter (B t) pos))/\Hid (Below w.heap.size w wr)/\Hid (∀j(hj:j<t.length),j<pos->js (t[j]'hj).toNat=false))
  (fun _ wr=>t.length-wr.iterPos w.heap.size)
 case atStart=>exact⟨0,uD _,zb (WN _ _ _),zb ((ue _ _).alloc (ud _) _),zb (fun j _ h=>by omega)⟩
 case round=>
  obtain⟨pos,hpl,HIT,HB,HV⟩:=hrel;have hpos0:=iterPos_of (za HIT);by_cases hlt:pos<t.length
  . have hlt2:pos<(B t).size:=by rw[zj];exact hlt
    have hnx:=fun ty=>Lib.run_next_any_at (P:=Tryz.prog) wr w.heap.size (B t) pos ty (za HIT) hlt2
    have hb2:=Lib.below_iterAt (za HB) (k:=w.heap.size) (ud _) (B t) (pos+(Utf8.decode (B t) pos).2);have hit2:=Lib.iterAt_heap wr w.heap.size (B t) pos (pos+(Utf8.decode (B t) pos).2) (za HIT);have HRB:=zb (VI (p:=js) (fun c h=>zcJ h) t pos hlt);have HE:=zb (fun W=>VE (Utf8.decode (B t) pos).1 W (Xe (B t) pos));obtain⟨c,wd,hcw⟩:∃c wd,Utf8.decode (B t) pos=(c,wd):=⟨_,_,rfl⟩
    rw[hcw]at hnx hb2 hit2 HRB HE;simp only at hnx hb2 hit2 HRB HE;have HB2:=zb hb2;have HIT2:=zb hit2;have HP0:=zb hpos0;clear hcw hb2 hit2 hpos0 HB HIT;go_wp2_with fail;refine(za HE _).mono ?_;rintro e w2⟨rfl,hb3⟩;have HB3:=zb (zi (za HB2) hb3);have HIT3:Hid (w2.heap[w.heap.size]? =some (.stringIter (B t) (pos+wd))):=zb ((hb3.block w.heap.size (uu.1 (za HIT2)).1).trans (za HIT2));have HP3:=zb (iterPos_of (za HIT3));clear hb3;obtain⟨r1,r2,r3,r4⟩:=za HRB;rcases uN (js c)with he|he
    . have HU:Hid (yG js t=pos):=zb (VV (fun i h hi=>za HV i h hi) (fun _=>r3 he) hpl)
      rw[he];clear he r3 r4;go_wp2_with fail;go_ret;exact⟨by rw[za HU];rfl,za HB3⟩
    . have HV2:Hid (∀j(hj:j<t.length),j<pos+wd->js (t[j]'hj).toNat=false):=zb (fun j hj h=>by
       by_cases h2:j<pos
       . exact za HV j hj h2
       . exact r4 he j hj (by omega) h)
      rw[he];clear he r3 r4;go_wp2_with fail;go_roundw
      case rel=>exact⟨pos+wd,r2,HIT3,HB3,HV2⟩
      case measure=>rw[za HP0,za HP3];omega
  . have hlt2:¬pos<(B t).size:=by rw[zj];exact hlt
    have hnx:=fun ty=>Lib.run_next_end_at (P:=Tryz.prog) wr w.heap.size (B t) pos ty (za HIT) hlt2
    obtain rfl:pos=t.length:=by omega
    have HU:Hid (((B t).size:Int)=(yG js t:Nat)):=zb (by rw[VV (fun i h hi=>za HV i h hi) (fun h=>by omega) (ud _),zj]);clear hpos0;go_wp2_with fail;go_ret;exact⟨zK (za HU),za HB⟩
theorem VH(t:List UInt8)(w:World)(hs:t.length<=1048576):
  Calls Tryz.prog 191 #[.string (B t)] w fun e w'=>e=.returned (.string (B (jo t)))/\Below w.heap.size w w':=by
 have hle:yG js t<=t.length:=by unfold yG;exact(List.takeWhile_prefix _).length_le
 have HX:Hid ((B t).extract 0 (yG js t)=B (jo t)):=zb (by rw[qp,zeq];simp);have hsz:=zj t;have HU:=zb (XR t w hs);obtain⟨k,hk⟩:∃k,yG js t=k:=⟨_,rfl⟩
 rw[hk]at hle HX HU;clear hk;go_enter Tryz.func191,Tryz.ntmps191;go_wp2_with fail;refine(za HU).mono ?_;rintro e w1⟨rfl,hb⟩;have HB:=zb hb;clear hb;go_wp2_with fail;go_ret;exact⟨by rw[<-za HX];rfl,za HB⟩
theorem Kw(t:List UInt8)(w:World)(hs:t.length<=1048576):
  Calls Tryz.prog 165 #[.string (B t)] w fun e w'=>e=.returned (.iface 222 (.agg #[.string (B (jo t))]))/\Below w.heap.size w w':=by
 have HU:=zb (VH t w hs);go_enter Tryz.func165,Tryz.ntmps165;go_wp2_with fail;refine(za HU).mono ?_;rintro e w1⟨rfl,hb⟩;have HB:=zb hb;clear hb;go_wp2_with fail;go_ret;exact⟨rfl,za HB⟩
end Go.Proofs.YtpbnmhnbkfnaeaaGreatDoor
namespace Go.Proofs.YtpbnmhnbkfnaeaaGreatDoor
open Go.Shelf
def Tryz.lays196_ren:Go.Shelf.Ren:=⟨fun|196=>167|259=>192|n=>n,fun|9=>9|4=>4|3=>3|5=>5|12=>12|119=>224|0=>0|46=>150|139=>227|138=>226|53=>173|n=>n,fun|3=>1|4=>2|n=>n⟩
theorem Tryz.lays196:Go.Proofs.Lays.n196 Tryz.prog Tryz.lays196_ren:={
 mixed:=by kernel_rfl
 f196:=Tryz.func167.trans (uB some (by kernel_rfl))
 f259:=Tryz.func192.trans (uB some (by kernel_rfl))
 t0:=dj
 a0:=Tryz.isAgg0
 z0:=Tryz.sizeOf0
 v0:=dt
 t3:=uW
 a3:=dC
 z3:=dc
 v3:=Wz
 t4:=Wp
 a4:=Tryz.isAgg4
 z4:=Tryz.sizeOf4
 v4:=WQ
 t5:=Ux
 a5:=Tryz.isAgg5
 z5:=Tryz.sizeOf5
 v5:=Tryz.zeroValue5
 t9:=Uf
 a9:=Tryz.isAgg9
 z9:=Tryz.sizeOf9
 v9:=WP
 t12:=Tryz.underlying12
 a12:=Tryz.isAgg12
 z12:=Tryz.sizeOf12
 v12:=Tryz.zeroValue12
 t46:=Tryz.underlying150
 a46:=Tryz.isAgg150
 z46:=Tryz.sizeOf150
 v46:=Tryz.zeroValue150
 t53:=dx
 a53:=Tryz.isAgg173
 z53:=Tryz.sizeOf173
 v53:=Tryz.zeroValue173
 t119:=Tryz.underlying224
 a119:=Tryz.isAgg224
 z119:=Tryz.sizeOf224
 t138:=Tryz.underlying226
 a138:=Tryz.isAgg226
 z138:=Tryz.sizeOf226
 v138:=Tryz.zeroValue226
 t139:=Tryz.underlying227
 a139:=Tryz.isAgg227
 z139:=Tryz.sizeOf227
 v139:=Tryz.zeroValue227
 g3:=by kernel_rfl
 g4:=by kernel_rfl}
open Go.RowKit in
theorem Tryz.utf8_ValidString(s:ByteArray)(w:World)(hs:s.size<=9223372036854775807)(hT:Lib.Utf8Tabs 1 2 w):
  Calls Tryz.prog 167 #[.string s] w fun e w'=>e=.returned (.bool (Lib.validD s.data.toList))/\Below w.heap.size w w':=Any.utf8_ValidString Tryz.lays196 s w hs hT
end Go.Proofs.YtpbnmhnbkfnaeaaGreatDoor
namespace Go.Proofs.YtpbnmhnbkfnaeaaGreatDoor
open Go.RowKit Nt
theorem Tryz.infoPair:(Tryz.prog.info? 87).map (fun i=>(i.zero,i.size,i.bytes))=some (some (.agg #[.int .i64 0,.int .i64 0]),2,16):=by kernel_rfl
def pv(l:List (Int×Int)):List Value:=l.flatMap fun p=>[.int .i64 p.1,.int .i64 p.2]
theorem zca(l:List (Int×Int))(x:Int×Int):pv (l++[x])=pv l++[.int .i64 x.1,.int .i64 x.2]:=by unfold pv;rw[List.flatMap_append];rfl
theorem zeS:∀ {l:List (Int×Int)}{j:Nat}{x:Int×Int},l[j]? =some x->(pv l)[j*2]? =some (.int .i64 x.1)/\(pv l)[j*2+1]? =some (.int .i64 x.2)
 | [],j,x,h=>by simp at h
 |y::r,0,x,h=>by
  simp at h;subst h;exact⟨rfl,rfl⟩
 |y::r,j+1,x,h=>by
  simp only[Us]at h;obtain⟨a,b⟩:=zeS h;have e:∀i,(pv (y::r))[(j+1)*2+i]? =(pv r)[j*2+i]? :=fun i=>by
   show([Value.int .i64 y.1,.int .i64 y.2]++pv r)[(j+1)*2+i]? =_;rw[uO (by simp;omega)]
   congr 1
   simp;omega
  exact⟨by have:=e 0;simp only[wC]at this;rw[this];exact a,by rw[e];exact b⟩
abbrev RowP(w:World)(base:Nat)(T:TypeId)(v:Value)(l:List (Int×Int)):Prop:=w.ownsRow base T 2 v l.length (pv l)
theorem RowP.form{w:World}{base:Nat}{T:TypeId}{v:Value}{l:List (Int×Int)}(h:RowP w base T v l)(h0:0<l.length):∃g cap,v=.slice (some ⟨g,0,none⟩) l.length cap/\l.length<=cap/\cap<=maxLen/\base<=g/\
  ∀j x,l[j]? =some x->w.cell? ⟨g,j*2,none⟩=some (.int .i64 x.1)/\w.cell? ⟨g,j*2+1,none⟩=some (.int .i64 x.2):=by
 have hr:=h;rcases h.2 with⟨rfl,h1⟩|⟨g,cap,cur,rfl,hb,hg,h1,h2,h3,h4⟩
 . omega
 . refine⟨g,cap,rfl,h1,h2,hb,fun j x hx=>?_⟩
   obtain⟨a,b⟩:=zeS hx;have hj:=(ui.1 hx).1;exact⟨by rw[hr.cellAt (j*2) (by omega)];exact a,by rw[hr.cellAt (j*2+1) (by omega)];exact b⟩
theorem XJ{l ks:List (Int×Int)}{k:Nat}{x:Int×Int}(h:ks[k]? =some x):qG l (ks.take (k+1))=if x∈qG l (ks.take k)then qG l (ks.take k)else qG l (ks.take k)++[x]:=by
 rw[uY,h,jP];rfl
theorem zeB{l:List (Int×Int)}{j:Nat}{y x:Int×Int}(h:l[j]? =some y):decide (x∈l.take (j+1))=(decide (x∈l.take j)||decide (y=x)):=by
 rw[uY,h,UW];simp only[Option.toList_some,uA,dz,Ur,ut];constructor
 . rintro(h|h)
   . exact .inl h
   . exact .inr h.symm
 . rintro(h|h)
   . exact .inl h
   . exact .inr h.symm
def From(ns ms:List Nd)(R:Int)(i:Nat)(l:List (Int×Int)):Prop:=∀f,ns.length*ms.length<f+i->qA (kZ ns ms) (vh ns ms) f i l=R
theorem From.start{ns ms:List Nd}(hn:ns.all (zT ns.length)=true)(hm:ms.all (zT ms.length)=true){a b:Int}(hab:vT ns.length ms.length (a,b)):From ns ms (jf ns ms a b) 0 [(a,b)]:=fun f hf=>
 VX (jO hn hm) (by simp) (fun x hx=>by
  have:x=(a,b):=by simpa using hx
  rw[this];exact hab) (by omega) (by omega)
theorem From.done{ns ms:List Nd}{R:Int}{l:List (Int×Int)}(h:From ns ms R l.length l):R=0:=by
 rw[<-h (ns.length*ms.length+1) (by omega)];unfold qA;rw[UM (ud _)]
theorem From.stop{ns ms:List Nd}{R:Int}{i:Nat}{l:List (Int×Int)}(h:From ns ms R i l){a b:Int}(hx:l[i]? =some (a,b))(hne:kZ ns ms a b≠0):R=kZ ns ms a b:=by
 rw[<-h (ns.length*ms.length+1) (by omega)];unfold qA;rw[hx];simp only;rw[ul hne]
theorem From.next{ns ms:List Nd}{R:Int}{i:Nat}{l:List (Int×Int)}(h:From ns ms R i l){a b:Int}(hx:l[i]? =some (a,b))(h0:kZ ns ms a b=0):From ns ms R (i+1) (qG l (vh ns ms a b)):=fun f hf=>by
 rw[<-h (f+1) (by omega)]
 conv=>rhs;unfold qA
 rw[hx];simp only;rw[uj h0]
theorem zbS{n m:Nat}{a b:Int}:vT n m (a,b)↔(0<=a/\a<n)/\0<=b/\b<m:=Iff.rfl
theorem zbc(W:World)(x y:Operand)(xs ys:Array Value):(eqGuard .eql 87 x y (.agg xs) (.agg ys)).run Tryz.prog W=.ok () W:=run_eqGuard_agg W .eql 87 x y xs ys (by kernel_rfl)
theorem zgc(W:World)(p q x y:Int):(binOp .eql 87 (.agg #[.int .i64 p,.int .i64 q]) (.agg #[.int .i64 x,.int .i64 y])).run Tryz.prog W=.ok (.bool (decide ((p,q)=(x,y)))) W:=by
 have hp:Tryz.prog.stoodInHeld 87=false:=by kernel_rfl
 rw[run_eql_struct];rw[show(10000:Nat)=9999+1 from rfl,run_equalIn_agg W 9999 87 _ _ (by kernel_rfl) hp];simp[go_sem,Op.eqFields,Program.fieldsOf,Tryz.underlying87,part,uW];by_cases h1:p=x<;>by_cases h2:q=y<;>simp[h1,h2]
end Go.Proofs.YtpbnmhnbkfnaeaaGreatDoor
