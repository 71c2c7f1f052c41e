/- A part of the proof, put together out of smaller texts. -/
import Derived.Test.YtpbnmhnbkfnaeaaGreatDoorM0
import Derived.Test.YtpbnmhnbkfnaeaaGreatDoorM3
import Derived.Test.YtpbnmhnbkfnaeaaGreatDoorM4
import Derived.Test.YtpbnmhnbkfnaeaaGreatDoorM6
import Derived.Test.YtpbnmhnbkfnaeaaGreatDoorM7
import Derived.Test.YtpbnmhnbkfnaeaaGreatDoorM9
import Derived.Test.YtpbnmhnbkfnaeaaGreatDoorM10
import Derived.Test.YtpbnmhnbkfnaeaaGreatDoorM11
import Derived.Lib.ConvBytes
import Derived.RegionIn
import Derived.Deep.RegionLaw
import Derived.Deep.Cut
import Derived.Deep.CutRange
import Derived.Deep.RegionHeld3
set_option linter.all false
set_option maxRecDepth 100000
set_option maxHeartbeats 32000000
namespace Go.Proofs.YtpbnmhnbkfnaeaaGreatDoor
open Go.RowKit Nt
theorem Qg(a:Option Addr)(n cap:Nat)(w:World)(h:Bytes0 w a n)(hcap:n<=cap)(hmax:cap<=maxLen):
  Calls Tryz.prog 7 #[.slice a n cap] w fun e w'=>(∃u v,e=.returned (.tuple #[u,v])/\DtOut w.heap.size (.returned u) w'/\DtOut w.heap.size (.returned v) w')/\Below w.heap.size w w':=by
 have hb00:=zf (zf (ue w.heap.size w) (.cells #[.slice none 0 0,.slice none 0 0] 26)) (.cells #[.slice none 0 0,.slice none 0 0] 26);have H:=zb (h.below hb00);have H0:=zb h;have HA0:=zb ((AtC2.new w (.slice none 0 0) (.slice none 0 0) 26).alloc (.cells #[.slice none 0 0,.slice none 0 0] 26));have HE0:=zb (AtC2.new (w.alloc (.cells #[.slice none 0 0,.slice none 0 0] 26)) (.slice none 0 0) (.slice none 0 0) 26);rw[uk]at HE0;have HB0:=zb hb00;clear h hb00;go_enter Tryz.func7,Tryz.ntmps7;go_wp2_with fail;refine(Xw a n cap _ (za H) hcap hmax).mono ?_;rintro e W1⟨rfl,⟨m,hm,hr1⟩,hb1⟩;rw[uk,uk]at hr1 hb1⊢;have HR1:=zb hr1;have hgl0:w.heap.size+1+1<W1.heap.size:=hr1.lt;have HA:=zb ((za HA0).below (by rw[uk,uk];exact hb1));have HE:=zb ((za HE0).below (by rw[uk,uk];exact hb1));have HB1:=zb ((za HB0).trans (hb1.mono (by omega)));obtain⟨g,hg⟩:∃g,w.heap.size+1+1=g:=⟨_,rfl⟩
 rw[hg]at HR1 hgl0⊢;obtain⟨B,hB⟩:∃B,W1.heap.size=B:=⟨_,rfl⟩
 rw[hB]at hgl0;have hgl:=hgl0;have HBB:=zb hB;have hgw:w.heap.size<g:=by omega
 have hgw1:w.heap.size+1<g:=by omega
 clear hr1 hb1 hg HA0 HE0 HB0 H hB hgl0;go_wp2_with fail;refine(qk g 0 m cap a 6 _ (za HR1) (by omega) (by omega)).mono ?_;rintro e W2⟨⟨z2,rfl,_⟩,⟨p2,hp2,hr2⟩,hk2⟩;have HR2:=zb hr2;have HK2:=zb hk2;have hB2:B<=W2.heap.size:=by rw[<-za HBB];exact hk2.size
 clear hr2 hk2;by_cases hz2:(z2:Int)=0
 . have hz2':((z2:Int)==0)=true:=by rw[Um];exact hz2
   go_wp2_with fail;have h:=Vj g p2 m cap a W2 (za HR2) (by omega);refine h.mono ?_;clear h;rintro e w3⟨⟨nz,rz,ka,ma,rfl,hk91,hk92,hm9,hsn,hsi⟩,⟨p3,hp3,hr3⟩,hk3⟩;obtain⟨na,nc,rfl,_,_⟩:=hsn.form;obtain⟨ra,rc,rfl,_,_⟩:=hsi.form;have HR3:=zb hr3;have HK3:=zb ((za HK2).trans hk3);have hB3:B<=w3.heap.size:=uC hB2 hk3.size;have HD3:Hid (Dy B (.slice na ka nc) (.slice ra ma rc) ka ma w3):=zb (Dy.base ⟨hsn,hsi,hk91,hk92,hm9⟩ hB2);clear hsn hsi hr3 hk3;go_wp2_with fail;have h:=Vj g p3 m cap a w3 (za HR3) (by omega);refine h.mono ?_;clear h;rintro e w4⟨⟨nz,rz,kb,mb,rfl,hk91,hk92,hm9,hsn,hsi⟩,⟨p4,hp4,hr4⟩,hk4⟩;obtain⟨nb,nbc,rfl,_,_⟩:=hsn.form;obtain⟨rb,rbc,rfl,_,_⟩:=hsi.form;have HK4:=zb ((za HK3).trans hk4);have hA:=(za HA).keeps (za HK4) (by omega);have hE:=(za HE).keeps (za HK4) (by omega);have a0:=hA.n0;have a1:=hA.n1;have af:=hA.f;have e0:=hE.n0;have e1:=hE.n1;have ef:=hE.f;have HO:=zb (JR hA hE (by omega) ((za HD3).keeps hk4 hgl) (Dy.base ⟨hsn,hsi,hk91,hk92,hm9⟩ hB3) (by omega:w.heap.size<=B) ((za HB1).trans ((za HK4).below (by omega) (by rw[za HBB];omega))) (ud _) (Uc _) _ rfl);clear hA hE hsn hsi hr4 hk4;have HZ:=zb (za HO).1;have HP:=zb (za HO).2;clear HO;go_wp2_with fail;obtain⟨z0,z1,z2,z3⟩:=za HZ;refine um (v:=.tuple #[.agg #[.slice na ka nc,.slice ra ma rc],.agg #[.slice nb kb nbc,.slice rb mb rbc]]) (by simp[results,Tryz.results7,go_sem,z0,z1,z2,z3]) rfl ⟨⟨_,_,rfl,(za HP).1⟩,(za HP).2⟩
 . have hz2':((z2:Int)==0)=false:=by rw[ug];exact hz2
   go_wp2_with fail;have h:=JT a n cap W2 ((za H0).below ((za HB1).trans ((za HK2).below (by omega) (by rw[za HBB];omega)))) hcap hmax;refine h.mono ?_;clear h;rintro e w3⟨⟨u,v,rfl,hu,hv⟩,hb3⟩;obtain⟨na,nc,ra,rc,ka,ma,e,hdu⟩:=hu.dy;subst e;obtain⟨nb,nbc,rb,rbc,kb,mb,e,hdv⟩:=hv.dy;subst e;have HD3:Hid (Dy B (.slice na ka nc) (.slice ra ma rc) ka ma w3):=zb (hdu.base hB2);have HE3:Hid (Dy B (.slice nb kb nbc) (.slice rb mb rbc) kb mb w3):=zb (hdv.base hB2);have hnu:=hdu.num;have hnv:=hdv.num;have hst:=zf (zf (ue w3.heap.size w3) (.cells #[.slice na ka nc,.slice ra ma rc] 26)) (.cells #[.slice nb kb nbc,.slice rb mb rbc] 26);obtain⟨b5,hb5⟩:∃b,w3.heap.size=b:=⟨_,rfl⟩
   have hB5:B<=b5:=by rw[<-hb5];exact uC hB2 hb3.size
   have HX4:=zb ((AtC2.new w3 (.slice na ka nc) (.slice ra ma rc) 26).alloc (.cells #[.slice nb kb nbc,.slice rb mb rbc] 26));have HY4:=zb (AtC2.new (w3.alloc (.cells #[.slice na ka nc,.slice ra ma rc] 26)) (.slice nb kb nbc) (.slice rb mb rbc) 26);rw[uk]at HY4;rw[hb5]at HX4 HY4;have HD4:=zb ((za HD3).ty (Ty.below hst));have HE4:=zb ((za HE3).ty (Ty.below hst));have HK4:=zb (((za HK2).trans (Keeps.of_below hb3)).trans (Keeps.of_below hst));have HR4:=zb ((((za HR2).keep hb3).alloc (.cells #[.slice na ka nc,.slice ra ma rc] 26)).alloc (.cells #[.slice nb kb nbc,.slice rb mb rbc] 26));obtain⟨W4,hW4⟩:∃W,(w3.alloc (.cells #[.slice na ka nc,.slice ra ma rc] 26)).alloc (.cells #[.slice nb kb nbc,.slice rb mb rbc] 26)=W:=⟨_,rfl⟩
   rw[hW4]at HX4 HY4 HD4 HE4 HK4 HR4;have HW4:=zb (And.intro hW4 hb5);clear hdu hdv hst hb3 hW4 hb5 HD3 HE3 hu hv;go_wp2_with fail;obtain⟨hW4,hb5⟩:=za HW4;rw[hW4,hb5];clear hW4 hb5 HW4;refine(qk g p2 m cap a 4 _ (za HR4) (by omega) (by omega)).mono ?_;rintro e W5⟨⟨z5,rfl,_⟩,⟨p5,hp5,hr5⟩,hk5⟩;have HR5:=zb hr5;have HK5:=zb ((za HK4).trans hk5);have HD5:=zb ((za HD4).keeps hk5 hgl);have HE5:=zb ((za HE4).keeps hk5 hgl);have HX5:=zb ((za HX4).keeps hk5 (by omega));have HY5:=zb ((za HY4).keeps hk5 (by omega));clear hr5 hk5 HD4 HE4 HX4 HY4 HK4 HR4;by_cases hz5:(z5:Int)=0
   . have hz5':((z5:Int)==0)=true:=by rw[Um];exact hz5
     have hka:(0:Int)<(ka:Int):=by omega
     have x0:=(za HX5).n0;have x1:=(za HX5).n1;obtain⟨d,hd,hd1,hd2,hds⟩:=(za HD5).data;obtain⟨d',hd',_⟩:=Qj (za HD5).nodes (za HD5).roots (by decide);go_wp2_with fail;clear hd';obtain⟨dn,hdn,hdn1,hdn2,hdn3⟩:=Qj (za HD5).nodes (za HD5).roots (by decide);refine(Yy dn _ W5 hdn ⟨by omega,by omega,fun nd hnd=>by have:=hdn3 nd hnd;omega⟩).mono ?_;rintro e w6⟨⟨nn,nnc,rn,rnc,kvs,rfl,hr6,hi6⟩,hb6⟩;have hsn:=SN.of_row (K:=1001) hr6 (fun nd hnd=>hdn3 nd hnd);have hsi:=SI.of_row hi6;rw[hdn1,hdn2];rw[hdn1]at hsn;rw[hdn2]at hsi;have hB5':B<=W5.heap.size:=by rw[<-za HBB];exact(za HK5).size
     have hd6:Dy B (.slice nn ka nnc) (.slice rn ma rnc) ka ma w6:=Dy.base ⟨hsn,hsi,hnu⟩ hB5';have hy6:=(za HY5).below hb6;have y0:=hy6.n0;have y1:=hy6.n1;have yf:=hy6.f;have HE6:Hid (Dy B (.slice nn ka nnc) (.slice rn ma rnc) ka ma ((w6.setCell ⟨b5+1,0,none⟩ (.slice nn ka nnc)).setCell ⟨b5+1,1,none⟩ (.slice rn ma rnc))):=zb (hd6.two hy6);have HD6:=zb (((za HD5).ty (Ty.below hb6)).two (u:=.slice nn ka nnc) (v:=.slice rn ma rnc) hy6);have HY6:=zb ((hy6.st0 (.slice nn ka nnc)).st1 (.slice rn ma rnc));have HX6:=zb ((((za HX5).below hb6).far (a:=⟨b5+1,0,none⟩) (show b5+1≠b5 by omega) (.slice nn ka nnc)).far (a:=⟨b5+1,1,none⟩) (show b5+1≠b5 by omega) (.slice rn ma rnc));have HR6:=zb (((za HR5).keep hb6).from hgl (((ue B w6).setCell (p:=⟨b5+1,0,none⟩) (by show B<=b5+1;omega) (.slice nn ka nnc)).setCell (p:=⟨b5+1,1,none⟩) (by show B<=b5+1;omega) (.slice rn ma rnc)));have HK6:=zb (((za HK5).trans (Keeps.of_below hb6)).more (((ue W1.heap.size w6).setCell (p:=⟨b5+1,0,none⟩) (by rw[za HBB];show B<=b5+1;omega) (.slice nn ka nnc)).setCell (p:=⟨b5+1,1,none⟩) (by rw[za HBB];show B<=b5+1;omega) (.slice rn ma rnc)));clear x0 x1 hd hsn hsi hr6 hi6 hd6 hy6 hb6 hdn;obtain⟨W6,hW6⟩:∃W,(w6.setCell ⟨b5+1,0,none⟩ (.slice nn ka nnc)).setCell ⟨b5+1,1,none⟩ (.slice rn ma rnc)=W:=⟨_,rfl⟩
     rw[hW6]at HE6 HD6 HY6 HX6 HR6 HK6;have HW6:=zb hW6;clear hW6
     go_upto_region 7 with fail
     rw[za HW6];clear HW6 y0 y1 yf;have y0:=(za HY6).n0;have y1:=(za HY6).n1;by_cases hma:0<ma
     . have hma':(0:Int)<(ma:Int):=by omega
       go_wp2_with fail;obtain⟨kb6,rfl,hkb,hbi,hkc⟩:∃kb6,rn=some ⟨kb6,0,none⟩/\B<=kb6/\BI W6 kb6 rnc ma/\ma<=rnc:=by
        rcases(za HE6).roots with⟨e,e0⟩|⟨kb6,c',e,e1,e2,_,e4⟩
        . omega
        . cases e;exact⟨kb6,rfl,e1,e4,e2⟩
       have HBI:=zb hbi;have hb6g:b5+1≠g:=by omega
       clear hbi;refine wH (by kernel_rfl) ?_;change wpAny _ _ _ _ _ _ _ (World.drew _);obtain⟨PD,hPD⟩:∃PD:Nat->(Nat->Value)->World->Prop,PD=PiP W6 g 6 ⟨kb6,0,none⟩:=⟨_,rfl⟩
       have hst:∀k x x' w,(∀c∈([6,8]:List Nat),x' c=x c)->PD k x w->PD k x' w:=by subst hPD;exact(fun _ _ _ _=>PiP.ext)
       refine qS (fun l' a' w'=>∃x:Nat->Value,a'=⟨#[.slice a n cap,undef,.pointer (some ⟨w.heap.size,0,none⟩),.pointer (some ⟨w.heap.size+1,0,none⟩),.pointer (some ⟨g,0,none⟩),.pointer (some ⟨b5,0,none⟩),.pointer (some ⟨b5+1,0,none⟩),.slice a n cap,.pointer (some ⟨g,0,none⟩),.pointer (some ⟨g,0,none⟩),.int .i64 (z2:Int),.bool false,undef,undef,undef,undef,.tuple #[.agg #[.slice na ka nc,.slice ra ma rc],.agg #[.slice nb kb nbc,.slice rb mb rbc]],.slice a n cap,.tuple #[.agg #[.slice na ka nc,.slice ra ma rc],.agg #[.slice nb kb nbc,.slice rb mb rbc]],.agg #[.slice na ka nc,.slice ra ma rc],.agg #[.slice nb kb nbc,.slice rb mb rbc],.pointer (some ⟨g,0,none⟩),.int .i64 0,.bool true,.bool true,.pointer (some ⟨b5,0,none⟩),.slice na ka nc,.int .i64 (ka:Int),.bool true,.bool true,.agg #[.slice na ka nc,.slice ra ma rc],.agg #[.slice nn ka nnc,.slice (some ⟨kb6,0,none⟩) ma rnc],.pointer (some ⟨b5+1,1,none⟩),.slice (some ⟨kb6,0,none⟩) ma rnc,.int .i64 (ma:Int),.bool true,x 0,x 1,x 2,x 3,x 4,x 5,x 6,x 7,undef,undef],[]⟩/\Phs 8 [6,8] (vL [.pointer (some ⟨b5+1,1,none⟩),.slice (some ⟨kb6,0,none⟩) ma rnc,.pointer (some ⟨g,0,none⟩),.pointer (some ⟨b5+1,0,none⟩),.slice nn ka nnc,.int .i64 (ka:Int),undef,.pointer (some ⟨kb6,0,none⟩),undef]) PD l' x w') (fun _ _ _⟨_,_,h⟩=>by exact h.sz) ?hend ?hstep (fun _ _ _⟨_,_,h⟩=>vE (by kernel_rfl) (by exact h.sz)) _ _ _ _ ?h0 (UA rfl)
       case h0=>exact⟨fun j=>[undef,undef,undef,undef,undef,undef,undef,undef,undef].getD j undef,rfl,Phs.start rfl (by subst hPD;exact rfl)⟩
       case hstep=>
        rintro l' a' w' j⟨x,rfl,h⟩ hi;have hjj:j<9:=jR hi;have hjl:=ye hi;rcases(by omega:j=0\/j=1\/j=2\/j=3\/j=4\/j=5\/j=6\/j=7\/j=8)with rfl|rfl|rfl|rfl|rfl|rfl|rfl|rfl|rfl
        . refine uh rfl (fun K hK=>?_)
          go_simp;exact hK _ _ ⟨_,by simp[],h.nx hst 0 rfl rfl rfl⟩
        . have w0:=h.dv hi 0 rfl rfl rfl rfl
          obtain⟨k',hk',hp⟩:=h.before rfl (by omega) hjl;rw[hPD]at hp;have y9:=(hp.keeps hk').cell_of y1 hb6g;simp only[w0];refine uh rfl (fun K hK=>?_);go_simp;exact hK _ _ ⟨_,by simp[w0],h.nx hst 1 rfl rfl rfl⟩
        . refine uh rfl (fun K hK=>?_)
          go_simp;exact hK _ _ ⟨_,by simp[],h.nx hst 2 rfl rfl rfl⟩
        . refine uh rfl (fun K hK=>?_)
          go_simp;exact hK _ _ ⟨_,by simp[],h.nx hst 3 rfl rfl rfl⟩
        . have w3:=h.dv hi 3 rfl rfl rfl rfl
          obtain⟨k',hk',hp⟩:=h.before rfl (by omega) hjl;rw[hPD]at hp;have y9:=(hp.keeps hk').cell_of y0 hb6g;simp only[w3];refine uh rfl (fun K hK=>?_);go_simp;exact hK _ _ ⟨_,by simp[w3],h.nx hst 4 rfl rfl rfl⟩
        . have w4:=h.dv hi 4 rfl rfl rfl rfl
          simp only[w4];refine uh rfl (fun K hK=>?_);go_simp;exact hK _ _ ⟨_,by simp[w4],h.nx hst 5 rfl rfl rfl⟩
        . have w2:=h.dv hi 2 rfl rfl rfl rfl
          have w5:=h.dv hi 5 rfl rfl rfl rfl;have hpv:0=0\/∃d,([6,8]:List Nat)[0-1]? =some d/\LL l' d:=.inl rfl;have hp:=h.at 0 rfl hpv hjl;rw[hPD]at hp;have hp:w'=W6.drew:=hp;subst hp;simp only[w2,w5];refine uh rfl (fun K hK=>?_);go_simp
          go_at_call 27
          refine(qk g p5 m cap a (ka:Int) _ (by exact(za HR6).drew) (by omega) (by omega)).mono ?_;rintro e wy⟨⟨y,rfl,_⟩,_,hk5⟩;have hk5:=(Keeps.refl g W6).drew.trans hk5
          (try dsimp only)
          exact hK _ _ ⟨_,by simp[w2,w5],h.step (by decide) 0 rfl (by omega) hpv hjl (fun e=>absurd e (by omega)) (.int .i64 (y:Int)) (by rw[hPD];exact⟨⟨_,rfl⟩,hk5⟩)⟩
        . have w1:=h.dv hi 1 rfl rfl rfl rfl
          simp only[w1];refine uh rfl (fun K hK=>?_);go_simp;exact hK _ _ ⟨_,by simp[w1],h.nx hst 7 rfl rfl rfl⟩
        . have w7:=h.dv hi 7 rfl rfl rfl rfl
          have hpv:1=0\/∃d,([6,8]:List Nat)[1-1]? =some d/\LL l' d:=.inr ⟨6,rfl,qB hi _ rfl⟩;have hall:∀i,i<8->LL l' i:=fun i h7=>by
           rcases(by omega:i=0\/i=1\/i=2\/i=3\/i=4\/i=5\/i=6\/i=7)with rfl|rfl|rfl|rfl|rfl|rfl|rfl|rfl
           all_goals exact qB hi _ rfl
          have hp:=h.at 1 rfl hpv hjl;rw[hPD]at hp;obtain⟨⟨y,e1⟩,hk5⟩:=hp;have hbi:=(Ty.keeps (K:=1001) hk5 hgl).bi _ _ _ hkb (za HBI);obtain⟨u5,y2,_⟩:=hbi.cell hkc (j:=0) (by omega);have yf:=hbi.frozen 0;simp only[e1];simp only[w7];refine uh rfl (fun K hK=>?_);go_simp;exact hK _ _ ⟨_,by simp[w7,e1],h.step (by decide) 1 rfl (by omega) hpv hjl (fun _=>hall) undef (by rw[hPD];exact⟨y,w',rfl,hk5⟩)⟩
       case hend=>
        rintro l' a' w9⟨xc,rfl,h⟩ hall;have HP:=zb (h.done rfl hall);rw[hPD]at HP;clear h hall hst;obtain⟨y,W5',hw,hk5⟩:=za HP;subst hw;have hbi:=(Ty.keeps (K:=1001) hk5 hgl).bi _ _ _ hkb (za HBI);have HT:Hid (Ty 1001 B W5' (W5'.setCell ⟨kb6,0,none⟩ (.int .i64 y))):=zb (Ty.setI hbi);have HDZ:=zb (((za HD6).keeps hk5 hgl).ty (za HT));have HEZ:=zb (((za HE6).keeps hk5 hgl).ty (za HT));have HXZ:=zb (((za HX6).keeps hk5 (by omega)).farI hbi (j:=0) (u:=.int .i64 y));have HYZ:=zb (((za HY6).keeps hk5 hb6g).farI hbi (j:=0) (u:=.int .i64 y));have HKZ:=zb (((za HK6).trans hk5).more ((ue W1.heap.size W5').setCell (p:=⟨kb6,0,none⟩) (by rw[za HBB];exact hkb) (.int .i64 y)));clear y0 y1 hk5 hbi;go_wp2_with fail;have x0:=(za HXZ).n0;have x1:=(za HXZ).n1;have y0:=(za HYZ).n0;have y1:=(za HYZ).n1;have hA:=(za HA).keeps (za HKZ) (by omega);have hE:=(za HE).keeps (za HKZ) (by omega);have a0:=hA.n0;have a1:=hA.n1;have af:=hA.f;have e0:=hE.n0;have e1:=hE.n1;have ef:=hE.f;have HO:=zb (yS hA hE (by omega) (za HDZ) (za HEZ) (by omega:w.heap.size<=B) ((za HB1).trans ((za HKZ).below (by omega) (by rw[za HBB];omega))) (ud _) (Uc _) _ rfl);clear hA hE
        go_region
        all_goals
         have HZ:=zb (za HO).1;have HP:=zb (za HO).2;clear HO;go_wp2_with fail;obtain⟨z0,z1,z2,z3⟩:=za HZ;refine um (v:=.tuple #[.agg #[.slice na ka nc,.slice ra ma rc],.agg #[.slice nn ka nnc,.slice (some ⟨kb6,0,none⟩) ma rnc]]) (by simp[results,Tryz.results7,go_sem,z0,z1,z2,z3]) rfl ⟨⟨_,_,rfl,(za HP).1⟩,(za HP).2⟩
     . obtain rfl:ma=0:=by omega
       have HDZ:=HD6;have HEZ:=HE6;have HXZ:=HX6;have HYZ:=HY6;have HKZ:=HK6;go_wp2_with fail;clear y0 y1;have x0:=(za HXZ).n0;have x1:=(za HXZ).n1;have y0:=(za HYZ).n0;have y1:=(za HYZ).n1;have hA:=(za HA).keeps (za HKZ) (by omega);have hE:=(za HE).keeps (za HKZ) (by omega);have a0:=hA.n0;have a1:=hA.n1;have af:=hA.f;have e0:=hE.n0;have e1:=hE.n1;have ef:=hE.f;have HO:=zb (yS hA hE (by omega) (za HDZ) (za HEZ) (by omega:w.heap.size<=B) ((za HB1).trans ((za HKZ).below (by omega) (by rw[za HBB];omega))) (ud _) (Uc _) _ rfl);clear hA hE
       go_region
       all_goals
        have HZ:=zb (za HO).1;have HP:=zb (za HO).2;clear HO;go_wp2_with fail;obtain⟨z0,z1,z2,z3⟩:=za HZ;refine um (v:=.tuple #[.agg #[.slice na ka nc,.slice ra 0 rc],.agg #[.slice nn ka nnc,.slice rn 0 rnc]]) (by simp[results,Tryz.results7,go_sem,z0,z1,z2,z3]) rfl ⟨⟨_,_,rfl,(za HP).1⟩,(za HP).2⟩
   . have hz5':((z5:Int)==0)=false:=by rw[ug];exact hz5
     have HDZ:=HD5;have HEZ:=HE5;have HXZ:=HX5;have HYZ:=HY5;have HKZ:=HK5;go_wp2_with fail;have x0:=(za HXZ).n0;have x1:=(za HXZ).n1;have y0:=(za HYZ).n0;have y1:=(za HYZ).n1;have hA:=(za HA).keeps (za HKZ) (by omega);have hE:=(za HE).keeps (za HKZ) (by omega);have a0:=hA.n0;have a1:=hA.n1;have af:=hA.f;have e0:=hE.n0;have e1:=hE.n1;have ef:=hE.f;have HO:=zb (yS hA hE (by omega) (za HDZ) (za HEZ) (by omega:w.heap.size<=B) ((za HB1).trans ((za HKZ).below (by omega) (by rw[za HBB];omega))) (ud _) (Uc _) _ rfl);clear hA hE
     go_region
     all_goals
      have HZ:=zb (za HO).1;have HP:=zb (za HO).2;clear HO;go_wp2_with fail;obtain⟨z0,z1,z2,z3⟩:=za HZ;refine um (v:=.tuple #[.agg #[.slice na ka nc,.slice ra ma rc],.agg #[.slice nb kb nbc,.slice rb mb rbc]]) (by simp[results,Tryz.results7,go_sem,z0,z1,z2,z3]) rfl ⟨⟨_,_,rfl,(za HP).1⟩,(za HP).2⟩
theorem zgX(H:Nat)(b:UInt8)(n:Nat)(hn:b.toNat=n):(31*(H:Int)+(n:Int)).tmod 65521=((hB H b:Nat):Int):=by
 unfold hB;rw[hn,Uo (by omega)];omega
theorem zgY(H k:Nat):(257*(H:Int)+(k:Int)).tmod 65521=((hK H k:Nat):Int):=by
 unfold hK;rw[Uo (by omega)];omega
theorem w64{x:Int}(h0: -9000000000000000000<=x)(h1:x<=9000000000000000000):wrap64 x=x:=by unfold wrap64;omega
theorem zfJ{h H j n:Nat}{t:List UInt8}{c:UInt8}(hc:t[j]? =some c)(hH:ZO h (t.take j)=H)(hn:c.toNat=n)(hn9:n<256)(hH9:H<=1048639):
  ∃H2 S:Nat,Hid (ZO h (t.take (j+1))=H2)/\wrap64 (31*(H:Int)+(n:Int))=(S:Int)/\(S:Int).tmod 65521=(H2:Int)/\wrap64 (n:Int)=(n:Int):=by
 have e3:=zgX H c n hn;refine⟨_,31*H+n,zb ((zaL (h:=h) hc).trans (by rw[hH])),?_,?_,w64 (by omega) (by omega)⟩
 . rw[w64 (by omega) (by omega)];rfl
 . exact e3
theorem QL(w:World)(e:TypeId)(s:ByteArray):Below w.heap.size w (Lib.bytesWorld w e s):=by
 refine⟨?_,?_,?_,by rw[Lib.bytesWorld_size];omega,fun k hk=>Lib.bytesWorld_at_old w e s k hk⟩
 . simp[Lib.bytesWorld,World.freeze,World.alloc,World.drew, -World.alloc_eq, -World.drew_eq]
 . simp[Lib.bytesWorld,World.freeze,World.alloc,World.drew, -World.alloc_eq, -World.drew_eq]
 . simp[Lib.bytesWorld,World.freeze,World.alloc,World.drew, -World.alloc_eq, -World.drew_eq]
theorem zeJ(n0:Nat)(nd:Nd)(ka:Option Addr)(kc:Nat)(w:World)(hok:zT n0 nd=true)(hs:nd.2.1.length<=1048576/\nd.2.2.length<=1048576):
  Calls Tryz.prog 83 #[.agg #[.int .i64 nd.1,.string (B nd.2.1),.slice ka nd.2.2.length kc]] w fun e w'=>e=.returned (.int .i64 (yJ nd:Nat))/\Below w.heap.size w w':=by
 have hfst:=XK hok hs.2;obtain⟨s,t,ks⟩:=nd;simp only at hfst hs⊢;have HA:=zb (AtC3.new w (.int .i64 s) (.string (B t)) (.slice ka ks.length kc) 56);have HB:=zb (zf (ue w.heap.size w) (.cells #[.int .i64 s,.string (B t),.slice ka ks.length kc] 56));obtain⟨h0,hh0⟩:∃h:Nat,7*s.toNat+ks.length=h:=⟨_,rfl⟩
 have e1:wrap64 (7*s)=7*s:=by unfold wrap64;omega
 have e2:wrap64 (7*s+(ks.length:Int))=(h0:Int):=by unfold wrap64;omega
 have HH0:Hid (h0<=1048639):=zb (by omega);have HBARE:Hid (yJ (s,t,ks)=ZO h0 t):=zb (by unfold yJ;rw[<-hh0]);have hcv:=Lib.run_convert_string_bytes (P:=Tryz.prog) (w.alloc (.cells #[.int .i64 s,.string (B t),.slice ka ks.length kc] 56)) 9 22 5 (B t) Uf Ug Ux;have hbw:=QL (w.alloc (.cells #[.int .i64 s,.string (B t),.slice ka ks.length kc] 56)) 5 (B t);have HCL:Hid (∀(j:Nat)(c:UInt8),t[j]? =some c->(Lib.bytesWorld (w.alloc (.cells #[.int .i64 s,.string (B t),.slice ka ks.length kc] 56)) 5 (B t)).cell? ⟨w.heap.size+1,j,none⟩=some (.int .u8 (c.toNat:Int))):=zb (fun j c hc=>by
  have hj:j<t.length:=(ui.1 hc).1;have h:=Lib.bytesWorld_cell (w.alloc (.cells #[.int .i64 s,.string (B t),.slice ka ks.length kc] 56)) 5 (B t) j (by rw[zj];exact hj);rw[uk]at h;rw[h];have e:(B t).data.toList.getD j 0=c:=by
   rw[uq];show(t.toArray.toList[j]?).getD 0=c;rw[List.toList_toArray,hc];rfl
  rw[e])
 have HBW:=zb (zi (za HB) hbw);rw[uk]at hcv;obtain⟨W2,hW2⟩:∃W2,Lib.bytesWorld (w.alloc (.cells #[.int .i64 s,.string (B t),.slice ka ks.length kc] 56)) 5 (B t)=W2:=⟨_,rfl⟩
 rw[hW2]at hcv HCL HBW;obtain⟨cp,hcp⟩:∃cp,grownCap (w.alloc (.cells #[.int .i64 s,.string (B t),.slice ka ks.length kc] 56)) (B t).size 0 5=cp:=⟨_,rfl⟩
 rw[hcp,zj]at hcv;have a0:=(za HA).n0;have a1:=(za HA).n1;have a2:=(za HA).n2;clear hfst hh0 hbw hW2 hcp;go_enter Tryz.func83,Tryz.ntmps83;go_wp2_with (simp only[hcv]);have HE2:=zb e2;clear e1 e2 a0 a1 a2 hcv
 go_loopw [3,17] (fun hv iv wr=>∃(j H:Nat),j<=t.length/\iv=.int .i64 j/\hv=.int .i64 (H:Nat)/\Hid (ZO h0 (t.take j)=H)/\wr=W2) (fun _ iv _=>t.length-(intOf iv).toNat)
 case atStart=>exact⟨0,h0,by omega,rfl,by rw[za HE2],zb rfl,rfl⟩
 case round=>
  obtain⟨j,H,hj,rfl,rfl,hH,rfl⟩:=hrel;have hH9:H<=1048639:=by rw[<-za hH];exact Xl _ (za HH0) (by decide)
  by_cases hjl:j<t.length
  . obtain⟨c,hc⟩:∃c,t[j]? =some c:=⟨_,uf hjl⟩
    obtain⟨n,hcn⟩:∃n,c.toNat=n:=⟨_,rfl⟩
    have hn256:n<256:=by rw[<-hcn];exact c.toNat_lt
    have x0:=za HCL j c hc;rw[hcn]at x0;obtain⟨H2,S9,HST,e2,e3,e4⟩:=zfJ (h:=h0) (t:=t) hc (za hH) hcn hn256 hH9;clear hc hn256 hcn;go_wp2_with fail;clear e2 e3 e4 x0;go_roundw
    case rel=>exact⟨j+1,H2,by omega,by go_num,rfl,HST,trivial⟩
    case measure=>simp[intOf];omega
  . obtain rfl:j=t.length:=by omega
    have HTX:Hid (yJ (s,t,ks)=H):=zb (by rw[za HBARE,<-za hH,uz (ud _)]);clear hjl;go_wp2_with fail;go_ret;exact⟨zK (by rw[za HTX]),za HBW⟩
end Go.Proofs.YtpbnmhnbkfnaeaaGreatDoor
namespace Go.Proofs.YtpbnmhnbkfnaeaaGreatDoor
open Go.RowKit Nt
structure OneS(N:Nat)(W Z:World)(D:Nat->List Nat)(v:Nat->Value)(l:Array Bool)(x:Nat->Value)(w:World):Prop where
 sz:l.size=N+1
 val:∀i,i<N->LL l i->x i=v i
 dep:∀i,i<N->LL l i->∀j∈D i,LL l j
 ord:LL l N->∀i,i<N->LL l i
 at':¬LL l N->w=W
 end':LL l N->w=Z
section
variable {N:Nat} {W Z w:World} {D:Nat->List Nat} {v x:Nat->Value} {l:Array Bool}
theorem OneS.start(n:l=Array.replicate (N+1) false):OneS N W Z D v l x W:=by
 subst n;have hn:∀j,¬LL (Array.replicate (N+1) false) j:=fun j h=>by
  unfold LL at h;rw[we]at h
  split at h<;>simp at h
 exact⟨by simp,fun i _ h=>absurd h (hn _),fun i _ h=>absurd h (hn _),fun h=>absurd h (hn _),fun _=>rfl,fun h=>absurd h (hn _)⟩
theorem OneS.now(h:OneS N W Z D v l x w){i:Nat}(hi:i<N)(hl:¬LL l i):w=W:=h.at' fun e=>hl (h.ord e i hi)
theorem OneS.next(h:OneS N W Z D v l x w)(i:Nat)(hi:i<N)(u:Value)(hv:u=v i)(hD:∀j∈D i,LL l j):OneS N W Z D v (l.setIfInBounds i true) (fun j=>if j=i then u else x j) w:=by
 have hs:=fun j=>j8 (l:=l) (i:=i) (by rw[h.sz];omega) j
 have hN:LL (l.setIfInBounds i true) N↔LL l N:=by
  rw[hs];constructor
  . intro e;rcases e with e|e
    . omega
    . exact e
  . exact .inr
 refine⟨by simp[h.sz],fun j hj e=>?_,fun j hj e d hd=>(hs d).2 (.inr ?_),fun e j hj=>(hs j).2 (.inr (h.ord (hN.1 e) j hj)),fun e=>h.at' fun e'=>e (hN.2 e'),fun e=>h.end' (hN.1 e)⟩
 . by_cases q:j=i
   . subst q
     show(if j=j then u else x j)=v j;rw[uj rfl];exact hv
   . show(if j=i then u else x j)=v j
     rw[ul q];rcases(hs j).1 e with e|e
     . exact absurd e q
     . exact h.val j hj e
 . rcases(hs j).1 e with e|e
   . subst e;exact hD d hd
   . exact h.dep j hj e d hd
theorem OneS.put(h:OneS N W Z D v l x w)(hall:∀i,i<N->LL l i):OneS N W Z D v (l.setIfInBounds N true) x Z:=by
 have hs:=fun j=>j8 (l:=l) (i:=N) (by rw[h.sz];omega) j
 have hN:LL (l.setIfInBounds N true) N:=(hs N).2 (.inl rfl);exact⟨by simp[h.sz],fun j hj e=>h.val j hj (hall j hj),fun j hj _ d hd=>(hs d).2 (.inr (h.dep j hj (hall j hj) d hd)),fun _ j hj=>(hs j).2 (.inr (hall j hj)),fun e=>absurd hN e,fun _=>rfl⟩
end
def kU:Nat->List Nat
 |4=>[2,3]
 |5=>[4]
 |6=>[0,1]
 |_=>[]
def jj:Nat->List Nat
 |4=>[2,3]
 |5=>[4]
 |6=>[5]
 |9=>[7,8]
 |10=>[9]
 |11=>[6,10]
 |12=>[11]
 |13=>[0,1]
 |_=>[]
end Go.Proofs.YtpbnmhnbkfnaeaaGreatDoor
namespace Go.Proofs.YtpbnmhnbkfnaeaaGreatDoor
open Go.RowKit Nt
attribute [local go_sem] wO
def AtR(w:World)(g n:Nat)(f:Nat->Int):Prop:=∃cs:Array Value,w.heap[g]? =some (.cells cs 3 (0,0))/\cs.size=n/\∀j,j<n->cs[j]? =some (.int .i64 (f j))
theorem AtR.lt{w:World}{g n:Nat}{f:Nat->Int}(h:AtR w g n f):g<w.heap.size:=by obtain⟨cs,h,_⟩:=h;exact(uu.1 h).1
theorem AtR.cell{w:World}{g n:Nat}{f:Nat->Int}(h:AtR w g n f){j:Nat}(hj:j<n):w.cell? ⟨g,j,none⟩=some (.int .i64 (f j)):=by
 obtain⟨cs,h1,h2,h3⟩:=h;simp only[World.cell?,h1];exact h3 j hj
theorem AtR.frozen{w:World}{g n:Nat}{f:Nat->Int}(h:AtR w g n f)(j:Nat):w.frozen? ⟨g,j,none⟩=false:=by
 obtain⟨cs,h1,h2,h3⟩:=h;simp[World.frozen?,h1]
theorem AtR.below{w w':World}{g n:Nat}{f:Nat->Int}(h:AtR w g n f)(k:Below w.heap.size w w'):AtR w' g n f:=by
 have hl:=h.lt;obtain⟨cs,h1,h2⟩:=h;exact⟨cs,(k.block g hl).trans h1,h2⟩
theorem AtR.kept{S:Nat->Prop}{w w':World}{g n:Nat}{f:Nat->Int}(h:AtR w g n f)(k:Kept S w w')(hS:¬S g):AtR w' g n f:=by
 have hl:=h.lt;obtain⟨cs,h1,h2⟩:=h;exact⟨cs,(k.block g hl hS).trans h1,h2⟩
theorem AtR.set{w:World}{g n k:Nat}{f:Nat->Int}{x:Int}(h:AtR w g n f):AtR (w.setCell ⟨g,k,none⟩ (.int .i64 x)) g n (fun j=>if j=k then x else f j):=by
 obtain⟨cs,h1,h2,h3⟩:=h;refine⟨cs.setIfInBounds k (.int .i64 x),?_,by simpa using h2,fun j hj=>?_⟩
 . show(w.heap.modify g _)[g]? =_
   rw[UN,uj rfl,h1];rfl
 . rw[wL]
   by_cases e:k=j
   . subst e;rw[uj rfl,uj (by omega)];simp
   . rw[ul e];simp only[ul (U8 e)];exact h3 j hj
theorem AtR.ext{w:World}{g n:Nat}{f f':Nat->Int}(h:AtR w g n f)(hf:∀j,j<n->f j=f' j):AtR w g n f':=by
 obtain⟨cs,h1,h2,h3⟩:=h;exact⟨cs,h1,h2,fun j hj=>by rw[<-hf j hj];exact h3 j hj⟩
theorem AtR.made(w:World)(n:Nat):AtR (w.alloc (.cells (madeCells #[.int .i64 0] n) 3)) w.heap.size n (fun _=>0):=by
 refine⟨_,Un w _,by rw[size_madeCells],fun j hj=>?_⟩;rw[<-wK,Ul,Wc,uj hj]
theorem AtR.far{w:World}{g n g' i:Nat}{f:Nat->Int}{u:Value}(h:AtR w g n f)(hne:g≠g'):AtR (w.setCell ⟨g',i,none⟩ u) g n f:=
 h.kept (Kept.set (S:=fun b=>b=g') (a:=⟨g',i,none⟩) rfl u) hne
theorem AtR.still{B:Nat}{w w':World}{g n:Nat}{f:Nat->Int}(h:AtR w g n f)(k:Still B w w'):AtR w' g n f:=by
 obtain⟨cs,h1,h2⟩:=h;exact⟨cs,k.cells g _ h1 rfl,h2⟩
theorem AtR.own{β:Type}(g n:Nat)(f:β->Nat->Int):Own (fun s W=>AtR W g n (f s)):=fun s X Y row hs hg hrow=>by
 have hl:=hs.lt;obtain⟨cs,h1,h2⟩:=hs;refine⟨cs,(hg.block g hl fun e=>?_).trans h1,h2⟩;obtain⟨o,ho,hc⟩:=hrow g e.symm;rw[h1]at ho;cases ho;cases hc
theorem zfZ{P:Program}{t e:TypeId}{i:TypeInfo}{z:Value}{bytes:Nat}(ht:P.underlying t=some (.slice e))(hi:P.info? e=some i)(hz:i.zero=some z)(hs:i.size=1)(hb:i.bytes=bytes)(hc:z.cells=#[z])(n:Nat)(hn:bytes*n<=281474976710656)(hn2:n<=281474976710656)(W:World):
  (Instr.makeSlice t (.int .i64 (n:Int)) (.int .i64 (n:Int))).run P W=.ok (.slice (some ⟨W.heap.size,0,none⟩) n n) (W.alloc (.cells (madeCells #[z] n) e)):=by
 have h:=run_make (P:=P) W t e i z ht hi hz .i64 .i64 (n:Int) (n:Int) (by omega) (by omega) (by rw[hb,<-Int.natCast_mul];omega) (by omega);rw[hc,hs]at h;simpa using h
theorem KH(ns:List Nd)(na:Option Addr)(nc:Nat)(D:Nat)(w:World)(hN:NodesAt w (.slice na ns.length nc) ns)(hn:ns.all (zT ns.length)=true)(hs:qr ns)(h80:ns.length<=80)(h0:0<ns.length)(hD:D<=3):
  Calls Tryz.prog 40 #[.slice na ns.length nc,.int .i64 (D:Int)] w fun e w'=>(∃g,e=.returned (.slice (some ⟨g,0,none⟩) ns.length ns.length)/\AtR w' g ns.length (fun j=>(qM ns D (j:Int):Int)))/\Below w.heap.size w w':=by
 obtain⟨i0,hi,hz0,hz1,hz2⟩:=Ue Tryz.infoInt;have hmk:=fun W=>zfZ uV hi hz0 hz1 hz2 rfl ns.length (by omega) (by omega) W
 clear hi hz0 hz1 hz2;obtain⟨b,off,rfl,_⟩:=hN.addr h0;have hncm:nc<=maxLen:=by
  obtain⟨a',c',e,_,h2⟩:=hN.form0;injection e with _ _ e3;omega
 unfold maxLen at hncm;have HN:=zb hN;have HM:=zb hmk;clear hN;refine(UH (n:=3)).1 ?_;refine callsIn_of_wp_marks Tryz.func40 rfl trivial ?_ rfl;simp only[Tryz.ntmps40,UZ,Uv,UG,Nat.reduceAdd,Nat.reduceSub,wu,wt,wV,wF,UE,UD]
 gi_wp2_with fail
 have HR0:=zb (AtR.made w ns.length);have HB0:=zb (zf (ue w.heap.size w) (.cells (madeCells #[.int .i64 0] ns.length) 3));obtain⟨W0,hW0⟩:∃W0,w.alloc (.cells (madeCells #[.int .i64 0] ns.length) 3)=W0:=⟨_,rfl⟩
 rw[hW0]at HR0 HB0⊢;clear hW0 hmk;obtain⟨G0,hG0⟩:∃G0,w.heap.size=G0:=⟨_,rfl⟩
 rw[hG0]at HR0⊢;have HG0:=zb hG0;clear hG0
 gi_loopw [18] (fun i wr=>∃k:Nat,k<=ns.length/\i=.int .i64 k/\Below w.heap.size w wr/\Hid (AtR wr G0 ns.length (fun j=>if j<k then(qM ns 0 (j:Int):Int)else 0)))
  (fun i _=>ns.length-(intOf i).toNat)
 case atStart=>exact⟨0,by omega,rfl,za HB0,zb ((za HR0).ext fun j _=>by simp)⟩
 case round=>
  obtain⟨k,hk,rfl,hbl,HRk⟩:=hrel;by_cases hlt:k<ns.length
  . obtain⟨nd,hnd⟩:∃nd,ns[k]? =some nd:=⟨_,uf hlt⟩
    obtain⟨kv,c0,c1,c2,_,hki⟩:=((za HN).below hbl).node hnd;obtain⟨ka,kc,rfl,_,_⟩:=hki.form;have hmem:=un hnd;have HC:=zb (fun W=>zeJ ns.length nd ka kc W (uI.1 hn nd hmem) (hs nd hmem));have HE:Hid (yJ nd=qM ns 0 (k:Int)):=zb (Yt (x:=(k:Int)) hnd).symm;have HBL:=zb hbl;clear hki hmem hnd hbl
    gi_wp2_with fail
    refine⟨trivial,(UH.2 (za HC _)).mono ?_⟩;rintro e w1⟨rfl,hb1⟩;have hb1:=zi (zf (ue wr.heap.size wr) (.cells #[.int .i64 nd.1,.string (B nd.2.1),.slice ka nd.2.2.length kc] 56)) hb1;have hR1:=(za HRk).below hb1;have f0:=hR1.frozen k;have f1:=hR1.cell hlt;have HR2:=zb (hR1.set (k:=k) (x:=((yJ nd:Nat):Int)));have HB2:=zb ((zi (za HBL) hb1).setCell (p:=⟨G0,k,none⟩) (UA (za HG0)) (.int .i64 ((yJ nd:Nat):Int)));clear hb1 hR1 c0 c1 c2
    gi_wp2_with fail
    go_roundw
    case rel=>exact⟨k+1,by omega,by go_num,za HB2,zb ((za HR2).ext fun j hj=>by
     by_cases e:j=k
     . subst e;simp[za HE]
     . by_cases e2:j<k
       . simp[e,e2];omega
       . simp[e,e2];omega)⟩
    case measure=>simp[intOf];omega
  . obtain rfl:k=ns.length:=by omega
    have HBR:=zb ((za HRk).ext (f':=fun j=>(qM ns 0 (j:Int):Int)) fun j hj=>by simp[hj]);have HBL:=zb hbl;clear HRk hbl hlt HR0 HB0
    gi_wp2_with fail
    obtain⟨G8,hG8⟩:∃G8,wr.heap.size=G8:=⟨_,rfl⟩
    have hX8:Boxed (wr.alloc (.cells #[.slice (some ⟨G0,0,none⟩) ns.length ns.length] 24)) G8 24 (.slice (some ⟨G0,0,none⟩) ns.length ns.length):=by rw[<-hG8];exact Boxed.new wr _ _
    have HB2:=zb (zf (za HBL) (.cells #[.slice (some ⟨G0,0,none⟩) ns.length ns.length] 24));have HR2:=zb ((za HBR).below (zf (ue _ _) (.cells #[.slice (some ⟨G0,0,none⟩) ns.length ns.length] 24)));have HX8:=zb hX8;have hGG:G0<G8:=by have:=(za HBR).lt;omega
    rw[hG8];clear hX8 hG8 HBL HBR
    refine wpIn_loop (fun a' w'=>∃(Ds:List Nat)(d gn:Nat)(u9 u10 u11 u12 u32 u33 u34 u35 u36 u37 u38 u39 u40 u41 u42 u43 u44 u45 u46 u47 u48 u49 u50 u51 u52 u53 u54 u55 u56 u57 u58 u59 u60 u61 u62 u63 u64 u65 u66 u67 u68 u69:Value),a'=⟨#[.slice (some ⟨b,off,none⟩) ns.length nc,.int .i64 ↑D,undef,undef,.slice none 0 0,.slice (some ⟨G0,0,none⟩) ns.length ns.length,u6,u7,.pointer (some ⟨G8,0,none⟩),u9,u10,u11,u12,.slice (some ⟨b,off,none⟩) ns.length nc,.int .i64 ↑ns.length,.slice (some ⟨G0,0,none⟩) ns.length ns.length,.slice (some ⟨b,off,none⟩) ns.length nc,.int .i64 ↑ns.length,.int .i64 ↑ns.length,.bool false,u20,u21,u22,u23,u24,u25,u26,u27,u28,.slice (some ⟨G0,0,none⟩) ns.length ns.length,.int .i64 ↑D,.int .i64 ↑d,u32,u33,u34,u35,u36,u37,u38,u39,u40,u41,u42,u43,u44,u45,u46,u47,u48,u49,u50,u51,u52,u53,u54,u55,u56,u57,u58,u59,u60,u61,u62,u63,u64,u65,u66,u67,u68,u69,undef],Ds.map Vo⟩/\d<=D/\Below w.heap.size w w'/\Hid (AtR w' G0 ns.length (fun j=>(qM ns 0 (j:Int):Int)))/\Hid (Boxed w' G8 24 (.slice (some ⟨gn,0,none⟩) ns.length ns.length))/\Hid (AtR w' gn ns.length (fun j=>(qM ns d (j:Int):Int)))/\Hid (Marks G0 w' Ds))
     (fun a' _=>D-(intOf (a'.tmps.getD 31 undef)).toNat) ?_ ?_
    . exact⟨[],0,G0,_,_,_,_,_,_,_,_,_,_,_,_,_,_,_,_,_,_,_,_,_,_,_,_,_,_,_,_,_,_,_,_,_,_,_,_,_,_,_,_,_,_,rfl,by omega,za HB2,HR2,HX8,HR2,zb (Marks.nil _ _)⟩
    . clear HB2 HR2 HX8
      rintro _ wr⟨Ds,d,gn,u9,u10,u11,u12,u32,u33,u34,u35,u36,u37,u38,u39,u40,u41,u42,u43,u44,u45,u46,u47,u48,u49,u50,u51,u52,u53,u54,u55,u56,u57,u58,u59,u60,u61,u62,u63,u64,u65,u66,u67,u68,u69,rfl,hd,hbl,HR0,HX8,HRn,HMk⟩;by_cases hlt:d<D
      . have HBL:=zb hbl
        have hGw:G8<wr.heap.size:=(za HX8).lt;have hgnw:gn<wr.heap.size:=(za HRn).lt;have hmk:=za HM wr;have hr3:=AtR.made wr ns.length;have hk3:=zf (zf (ue wr.heap.size wr) (.cells (madeCells #[.int .i64 0] ns.length) 3)) (.cells #[.slice (some ⟨wr.heap.size,0,none⟩) ns.length ns.length] 24);have hx9:=Boxed.new (wr.alloc (.cells (madeCells #[.int .i64 0] ns.length) 3)) 24 (.slice (some ⟨wr.heap.size,0,none⟩) ns.length ns.length);have hr3':=hr3.below (zf (ue _ _) (.cells #[.slice (some ⟨wr.heap.size,0,none⟩) ns.length ns.length] 24));rw[uk]at hx9;obtain⟨W3,hW3⟩:∃W3,(wr.alloc (.cells (madeCells #[.int .i64 0] ns.length) 3)).alloc (.cells #[.slice (some ⟨wr.heap.size,0,none⟩) ns.length ns.length] 24)=W3:=⟨_,rfl⟩
        rw[hW3]at hx9 hr3' hk3;have HK3:=zb hk3;have HX9:=zb hx9;have HR3:=zb hr3';have HW3:=zb hW3;have hg9:W3.heap.size=wr.heap.size+2:=by rw[<-hW3];simp
        clear hbl hr3 hr3' hx9 hk3 hW3
        gi_wp2_with fail
        rw[za HW3];clear hmk HW3;obtain⟨gd,hgd⟩:∃gd,wr.heap.size=gd:=⟨_,rfl⟩
        rw[hgd]at HX9 HR3 hg9 hGw hgnw⊢
        refine wpIn_loop (fun a' w'=>∃(Ds:List Nat)(k:Nat)(u10 u11 u12 u39 u40 u41 u42 u43 u44 u45 u46 u47 u48 u49 u50 u51 u52 u53 u54 u55 u56 u57 u58 u59 u60 u61 u62 u63 u64 u65 u66 u67:Value),a'=⟨#[.slice (some ⟨b,off,none⟩) ns.length nc,.int .i64 ↑D,undef,undef,.slice none 0 0,.slice (some ⟨G0,0,none⟩) ns.length ns.length,u6,u7,.pointer (some ⟨G8,0,none⟩),.pointer (some ⟨gd+1,0,none⟩),u10,u11,u12,.slice (some ⟨b,off,none⟩) ns.length nc,.int .i64 ↑ns.length,.slice (some ⟨G0,0,none⟩) ns.length ns.length,.slice (some ⟨b,off,none⟩) ns.length nc,.int .i64 ↑ns.length,.int .i64 ↑ns.length,.bool false,u20,u21,u22,u23,u24,u25,u26,u27,u28,.slice (some ⟨G0,0,none⟩) ns.length ns.length,.int .i64 ↑D,.int .i64 ↑d,.bool true,.slice (some ⟨b,off,none⟩) ns.length nc,.int .i64 ↑ns.length,.slice (some ⟨gd,0,none⟩) ns.length ns.length,.slice (some ⟨b,off,none⟩) ns.length nc,.int .i64 ↑ns.length,.int .i64 ↑k,u39,u40,u41,u42,u43,u44,u45,u46,u47,u48,u49,u50,u51,u52,u53,u54,u55,u56,u57,u58,u59,u60,u61,u62,u63,u64,u65,u66,u67,u68,u69,undef],Ds.map Vo⟩/\k<=ns.length/\Hid (Below gd wr w')/\Hid (Boxed w' (gd+1) 24 (.slice (some ⟨gd,0,none⟩) ns.length ns.length))/\Hid (AtR w' gd ns.length (fun j=>if j<k then(qM ns (d+1) (j:Int):Int)else 0))/\Hid (Marks G0 w' Ds))
         (fun a' _=>ns.length-(intOf (a'.tmps.getD 38 undef)).toNat) ?_ ?_
        . exact⟨Ds,0,_,_,_,_,_,_,_,_,_,_,_,_,_,_,_,_,_,_,_,_,_,_,_,_,_,_,_,_,_,_,_,_,rfl,by omega,zb (by rw[<-hgd];exact za HK3),HX9,zb ((za HR3).ext fun j _=>by simp),zb ((za HMk).below (za HK3))⟩
        . clear HX9 HR3 HMk HK3
          rintro _ wk⟨Ds,k,u10,u11,u12,u39,u40,u41,u42,u43,u44,u45,u46,u47,u48,u49,u50,u51,u52,u53,u54,u55,u56,u57,u58,u59,u60,u61,u62,u63,u64,u65,u66,u67,rfl,hk,HKk,HX9,HRk,HMk⟩;by_cases hkl:k<ns.length
          . have HBk:=zb ((za HBL).trans ((za HKk).mono (by have:=(za HBL).size;omega)))
            obtain⟨nd,hnd⟩:∃nd,ns[k]? =some nd:=⟨_,uf hkl⟩
            obtain⟨kv,c0',c1',c2',_,hki⟩:=(za HN).node hnd;have c0:=jm (za HBk) c0';have c1:=jm (za HBk) c1';have c2:=jm (za HBk) c2';clear c0' c1' c2';obtain⟨ka,kc,rfl,_,_⟩:=hki.form;have HKI:=zb hki;have HND:=zb hnd;clear hki hnd;have hg10:gd+1<wk.heap.size:=(za HX9).lt;obtain⟨X,hX⟩:∃X,Obj.cells #[.int .i64 nd.1,.string (B nd.2.1),.slice ka nd.2.2.length kc] 56=X:=⟨_,rfl⟩
            have hk5:=zf (zf (ue wk.heap.size wk) (.cells #[.int .i64 ↑k] 3)) X;have hx10:=zL (Boxed.new wk 3 (.int .i64 ↑k)) (zf (ue _ _) X);have hx11:AtC3 ((wk.alloc (.cells #[.int .i64 ↑k] 3)).alloc X) (wk.heap.size+1) (.int .i64 nd.1) (.string (B nd.2.1)) (.slice ka nd.2.2.length kc) 56:=by rw[<-hX];have h:=AtC3.new (wk.alloc (.cells #[.int .i64 ↑k] 3)) (.int .i64 nd.1) (.string (B nd.2.1)) (.slice ka nd.2.2.length kc) 56;rw[uk]at h;exact h
            obtain⟨W5,hW5⟩:∃W5,(wk.alloc (.cells #[.int .i64 ↑k] 3)).alloc X=W5:=⟨_,rfl⟩
            rw[hW5]at hk5 hx10 hx11;have hs5:W5.heap.size=wk.heap.size+2:=by rw[<-hW5];simp
            have HK5:=zb hk5;have HX10:=zb hx10;have HX11:=zb hx11;have HXX:=zb (And.intro hX hW5);clear hk5 hx10 hx11 hX hW5
            gi_wp2_with fail
            obtain⟨hX,hW5⟩:=za HXX;rw[hX,hW5];clear c0 c1 c2 hX hW5 HXX;have b9:W5.drew.cell? ⟨gd+1,0,none⟩=some (.slice (some ⟨gd,0,none⟩) ns.length ns.length):=(zL (za HX9) (za HK5)).cell;have b10:W5.drew.cell? ⟨wk.heap.size,0,none⟩=some (.int .i64 ↑k):=(za HX10).cell;have hR0k:=((za HR0).below (by rw[hgd];exact za HKk)).below (za HK5);have b0:W5.drew.cell? ⟨G0,k,none⟩=some (.int .i64 ((qM ns 0 (k:Int):Nat):Int)):=hR0k.cell hkl;have hRk5:=(za HRk).below (za HK5);have bd:W5.drew.cell? ⟨gd,k,none⟩=some (.int .i64 _):=hRk5.cell hkl;have bf:W5.drew.frozen? ⟨gd,k,none⟩=false:=hRk5.frozen k;have HRK5:=zb hRk5;have HND5:=zb hR0k;obtain⟨H0,hH0⟩:∃H0,qM ns 0 (k:Int)=H0:=⟨_,rfl⟩
            rw[hH0]at b0;have HH0:=zb hH0;clear hRk5 hR0k hH0
            obtain⟨v,hv⟩:∃v:Nat->Value,v=fun j=>match j with
             |0=>.slice (some ⟨gd,0,none⟩) ns.length ns.length
             |1=>.int .i64 ↑k
             |2=>.slice (some ⟨G0,0,none⟩) ns.length ns.length
             |3=>.int .i64 ↑k
             |4=>.pointer (some ⟨G0,k,none⟩)
             |5=>.int .i64 (H0:Int)
             |6=>.pointer (some ⟨gd,k,none⟩)
             |_=>undef:=⟨_,rfl⟩
            have v0:v 0=.slice (some ⟨gd,0,none⟩) ns.length ns.length:=by subst hv;rfl
            have v1:v 1=.int .i64 ↑k:=by subst hv;rfl
            have v2:v 2=.slice (some ⟨G0,0,none⟩) ns.length ns.length:=by subst hv;rfl
            have v3:v 3=.int .i64 ↑k:=by subst hv;rfl
            have v4:v 4=.pointer (some ⟨G0,k,none⟩):=by subst hv;rfl
            have v5:v 5=.int .i64 (H0:Int):=by subst hv;rfl
            have v6:v 6=.pointer (some ⟨gd,k,none⟩):=by subst hv;rfl
            clear hv;refine wpIn_region_any (by kernel_rfl) ?_;change wpAnyIn _ _ _ _ _ _ _ _ _ (World.drew _);refine kN (fun l' a' w'=>∃x:Nat->Value,a'=⟨#[.slice (some ⟨b,off,none⟩) ns.length nc,.int .i64 ↑D,undef,undef,.slice none 0 0,.slice (some ⟨G0,0,none⟩) ns.length ns.length,u6,u7,.pointer (some ⟨G8,0,none⟩),.pointer (some ⟨gd+1,0,none⟩),.pointer (some ⟨wk.heap.size,0,none⟩),.pointer (some ⟨wk.heap.size+1,0,none⟩),u12,.slice (some ⟨b,off,none⟩) ns.length nc,.int .i64 ↑ns.length,.slice (some ⟨G0,0,none⟩) ns.length ns.length,.slice (some ⟨b,off,none⟩) ns.length nc,.int .i64 ↑ns.length,.int .i64 ↑ns.length,.bool false,u20,u21,u22,u23,u24,u25,u26,u27,u28,.slice (some ⟨G0,0,none⟩) ns.length ns.length,.int .i64 ↑D,.int .i64 ↑d,.bool true,.slice (some ⟨b,off,none⟩) ns.length nc,.int .i64 ↑ns.length,.slice (some ⟨gd,0,none⟩) ns.length ns.length,.slice (some ⟨b,off,none⟩) ns.length nc,.int .i64 ↑ns.length,.int .i64 ↑k,.bool true,.int .i64 ↑k,.pointer (some ⟨b,off+k*3,none⟩),.agg #[.int .i64 nd.1,.string (B nd.2.1),.slice ka nd.2.2.length kc],x 0,x 1,x 2,x 3,x 4,x 5,x 6,u50,u51,u52,u53,u54,u55,u56,u57,u58,u59,u60,u61,u62,u63,u64,u65,u66,u67,u68,u69,undef],Ds.map Vo⟩/\OneS 7 W5.drew (W5.drew.setCell ⟨gd,k,none⟩ (.int .i64 (H0:Int))) kU v l' x w') ?hsz ?hend ?hstep ?hgo _ _ _ _ ?h0 ?hc
            case hsz=>
             rintro l' a' w'⟨x,_,h⟩;exact h.sz
            case h0=>exact⟨fun j=>[u43,u44,u45,u46,u47,u48,u49].getD j undef,rfl,OneS.start rfl⟩
            case hc=>exact UA rfl
            case hgo=>
             rintro l' a' w'⟨x,rfl,h⟩ hr j hj;have k0:l'[0]? =some true:=zo hr 0 (by simp) (by rw[h.sz];rfl) (by simp[Region.binds,ua]);have k1:l'[1]? =some true:=zo hr 1 (by simp) (by rw[h.sz];rfl) (by simp[Region.binds,ua,k0]);have k2:l'[2]? =some true:=zo hr 2 (by simp) (by rw[h.sz];rfl) (by simp[Region.binds,ua,k0,k1]);have k3:l'[3]? =some true:=zo hr 3 (by simp) (by rw[h.sz];rfl) (by simp[Region.binds,ua,k0,k1,k2]);have k4:l'[4]? =some true:=zo hr 4 (by simp) (by rw[h.sz];rfl) (by simp[Region.binds,ua,k0,k1,k2,k3]);have k5:l'[5]? =some true:=zo hr 5 (by simp) (by rw[h.sz];rfl) (by simp[Region.binds,ua,k0,k1,k2,k3,k4]);have k6:l'[6]? =some true:=zo hr 6 (by simp) (by rw[h.sz];rfl) (by simp[Region.binds,ua,k0,k1,k2,k3,k4,k5]);have k7:l'[7]? =some true:=zo hr 7 (by simp) (by rw[h.sz];rfl) (by simp[Region.binds,ua,k0,k1,k2,k3,k4,k5,k6]);have hj:j<8:=by simpa using hj
             rcases(by omega:j=0\/j=1\/j=2\/j=3\/j=4\/j=5\/j=6\/j=7)with rfl|rfl|rfl|rfl|rfl|rfl|rfl|rfl
             all_goals assumption
            case hstep=>
             rintro l' a' w' j⟨x,rfl,h⟩ hi;have hi2:=hi;unfold Region.ready at hi2;rw[uK]at hi2;obtain⟨hjj,hi3⟩:=hi2;have hjj:j<8:=by simpa using hjj
             have hjl:¬LL l' j:=fun e=>by
              unfold LL at e;simp[ua,e]at hi3
             clear hi;rcases(by omega:j=0\/j=1\/j=2\/j=3\/j=4\/j=5\/j=6\/j=7)with rfl|rfl|rfl|rfl|rfl|rfl|rfl|rfl
             . clear hi3
               have hw:=h.now (by omega) hjl;subst hw;refine wpOpIn_step rfl (fun K hK=>?_);go_simp;exact hK _ _ ⟨_,by simp[v0],h.next 0 (by omega) (v 0) rfl (fun j hj=>by simp[kU]at hj)⟩
             . clear hi3
               have hw:=h.now (by omega) hjl;subst hw;refine wpOpIn_step rfl (fun K hK=>?_);go_simp;exact hK _ _ ⟨_,by simp[v1],h.next 1 (by omega) (v 1) rfl (fun j hj=>by simp[kU]at hj)⟩
             . clear hi3
               have hw:=h.now (by omega) hjl;subst hw;refine wpOpIn_step rfl (fun K hK=>?_);go_simp;exact hK _ _ ⟨_,by simp[v2],h.next 2 (by omega) (v 2) rfl (fun j hj=>by simp[kU]at hj)⟩
             . clear hi3
               have hw:=h.now (by omega) hjl;subst hw;refine wpOpIn_step rfl (fun K hK=>?_);go_simp;exact hK _ _ ⟨_,by simp[v3],h.next 3 (by omega) (v 3) rfl (fun j hj=>by simp[kU]at hj)⟩
             . have l2:LL l' 2:=zA (by simp[Region.binds,ua]at hi3;simp[hi3])
               have l3:LL l' 3:=zA (by simp[Region.binds,ua]at hi3;simp[hi3]);clear hi3;have hw:=h.now (by omega) hjl;subst hw;have w2:=(h.val 2 (by omega) l2).trans v2;have w3:=(h.val 3 (by omega) l3).trans v3;refine wpOpIn_step rfl (fun K hK=>?_);go_simp;exact hK _ _ ⟨_,by simp[w2,w3,v4],h.next 4 (by omega) (v 4) rfl (fun j hj=>by simp[kU]at hj;rcases hj with rfl|rfl<;>assumption)⟩
             . have l4:LL l' 4:=zA (by simp[Region.binds,ua]at hi3;simp[hi3])
               clear hi3;have hw:=h.now (by omega) hjl;subst hw;have w4:=(h.val 4 (by omega) l4).trans v4;refine wpOpIn_step rfl (fun K hK=>?_);go_simp;exact hK _ _ ⟨_,by simp[w4,v5],h.next 5 (by omega) (v 5) rfl (fun j hj=>by simp[kU]at hj;subst hj;exact l4)⟩
             . have l0:LL l' 0:=zA (by simp[Region.binds,ua]at hi3;simp[hi3])
               have l1:LL l' 1:=zA (by simp[Region.binds,ua]at hi3;simp[hi3]);clear hi3;have hw:=h.now (by omega) hjl;subst hw;have w0:=(h.val 0 (by omega) l0).trans v0;have w1:=(h.val 1 (by omega) l1).trans v1;refine wpOpIn_step rfl (fun K hK=>?_);go_simp;exact hK _ _ ⟨_,by simp[w0,w1,v6],h.next 6 (by omega) (v 6) rfl (fun j hj=>by simp[kU]at hj;rcases hj with rfl|rfl<;>assumption)⟩
             . have l5:LL l' 5:=zA (by simp[Region.binds,ua]at hi3;simp[hi3])
               have l6:LL l' 6:=zA (by simp[Region.binds,ua]at hi3;simp[hi3]);clear hi3;have hw:=h.at' hjl;subst hw;have l4:LL l' 4:=h.dep 5 (by omega) l5 4 (by simp[kU]);have l0:LL l' 0:=h.dep 6 (by omega) l6 0 (by simp[kU]);have l1:LL l' 1:=h.dep 6 (by omega) l6 1 (by simp[kU]);have l2:LL l' 2:=h.dep 4 (by omega) l4 2 (by simp[kU]);have l3:LL l' 3:=h.dep 4 (by omega) l4 3 (by simp[kU]);have w5:=(h.val 5 (by omega) l5).trans v5;have w6:=(h.val 6 (by omega) l6).trans v6;refine wpOpIn_step rfl (fun K hK=>?_);go_simp;exact hK _ _ ⟨_,by simp[w5,w6],h.put (fun i hi=>by rcases(by omega:i=0\/i=1\/i=2\/i=3\/i=4\/i=5\/i=6)with rfl|rfl|rfl|rfl|rfl|rfl|rfl<;>assumption)⟩
            case hend=>
             rintro l' a' w'⟨xo,rfl,h⟩ hall;have hw:=h.end' (hall 7 (by simp));subst hw;clear h hall b9 b10 b0 bd bf;have hkz:Below gd wr (W5.drew.setCell ⟨gd,k,none⟩ (.int .i64 (H0:Int))):=(((za HKk).trans ((za HK5).mono (by omega))).drew).setCell (p:=⟨gd,k,none⟩) (ud _) _;have HKZ:=zb hkz;have hX9z:=(zL (za HX9) (za HK5)).other (B':=gd) (by omega) (.int .i64 (H0:Int));have HX11z:Hid (AtC3 (W5.drew.setCell ⟨gd,k,none⟩ (.int .i64 (H0:Int))) (wk.heap.size+1) (.int .i64 nd.1) (.string (B nd.2.1)) (.slice ka nd.2.2.length kc) 56):=zb (by have h:=za HX11;unfold AtC3 at h⊢;rw[Uj _ _ _ _ (show wk.heap.size+1≠gd by omega)];exact h);have HX10z:Hid (Boxed (W5.drew.setCell ⟨gd,k,none⟩ (.int .i64 (H0:Int))) wk.heap.size 3 (.int .i64 ↑k)):=zb (by have h:=za HX10;unfold Boxed at h⊢;rw[Uj _ _ _ _ (show wk.heap.size≠gd by omega)];exact h);have HX9z:Hid (Boxed (W5.drew.setCell ⟨gd,k,none⟩ (.int .i64 (H0:Int))) (gd+1) 24 (.slice (some ⟨gd,0,none⟩) ns.length ns.length)):=zb (by have h:=zL (za HX9) (za HK5);unfold Boxed at h⊢;rw[Uj _ _ _ _ (show gd+1≠gd by omega)];exact h);have HRz:Hid (AtR (W5.drew.setCell ⟨gd,k,none⟩ (.int .i64 (H0:Int))) gd ns.length (fun j=>if j=k then(H0:Int)else if j<k then(qM ns (d+1) (j:Int):Int)else 0)):=zb (AtR.set (w:=W5.drew) (by have h:=za HRK5;exact h));have hMz:Marks G0 (W5.drew.setCell ⟨gd,k,none⟩ (.int .i64 (H0:Int))) Ds:=((za HMk).below (za HK5)).kept (w:=W5) ((Kept.of_below (ue _ _).drew).trans (Kept.set (S:=fun b=>b=gd) (a:=⟨gd,k,none⟩) rfl _)) (fun D' hD' e=>by have e:D'=gd:=e;subst e;have:=((za HMk).at' _ hD').2;obtain⟨cs,h1,_⟩:=za HRk;rw[h1]at this;cases this);have HMz:=zb hMz;obtain⟨Z,hZ⟩:∃Z,W5.drew.setCell ⟨gd,k,none⟩ (.int .i64 (H0:Int))=Z:=⟨_,rfl⟩
             have hzs:Z.heap.size=wk.heap.size+2:=by rw[<-hZ];simp[World.setCell];omega
             rw[hZ]at HKZ HX11z HX10z HX9z HRz HMz⊢;clear hkz hX9z hMz hZ HX9 HX10 HX11 HRK5 HK5 HRk HMk HND5;have c0:=(za HX11z).n0;have c1:=(za HX11z).n1;have c2:=(za HX11z).n2
             gi_wp2_with fail
             refine⟨trivial,(UH.2 (xS _ _ _ _)).mono ?_⟩;rintro e w1⟨rfl,rfl⟩;clear c0 c1 c2
             gi_wp2_with fail
             obtain⟨XX,hXX⟩:∃X,Obj.cells #[.int .i64 nd.1,.string (B nd.2.1),.slice ka nd.2.2.length kc] 56=X:=⟨_,rfl⟩
             have hbox:(Z.alloc XX).cell? ⟨wk.heap.size+2,2,none⟩=some (.slice ka nd.2.2.length kc):=by rw[<-hXX,<-hzs];exact(AtC3.new Z (.int .i64 nd.1) (.string (B nd.2.1)) (.slice ka nd.2.2.length kc) 56).n2
             have hKW:Below Z.heap.size Z (Z.alloc XX):=zf (ue _ _) XX;rw[hXX];obtain⟨W7,hW7⟩:∃W7,Z.alloc XX=W7:=⟨_,rfl⟩
             have hs7:W7.heap.size=wk.heap.size+3:=by rw[<-hW7,uk];omega
             rw[hW7]at hbox hKW⊢;clear hXX hW7;have HKW:=zb hKW;have hRz7:=(za HRz).below hKW;obtain⟨S,hSd⟩:∃S:Nat->Prop,∀b,S b↔(b=gd\/W7.heap.size<=b):=⟨_,fun _=>Iff.rfl⟩
             have hSold:∀b,b<gd->¬S b:=fun b hb hs=>by have:=(hSd b).1 hs;omega
             have hbw7:Below w.heap.size w W7:=((za HBL).trans ((za HKZ).mono (by have:=(za HBL).size;omega))).trans (hKW.mono (by have:=(za HBL).size;omega));have HIS:Hid (IntsS S W7 (.slice ka nd.2.2.length kc) nd.2.2):=zb (((za HKI).outS (fun b hb=>hSold b (by have:=za HG0;omega))).kept (Kept.of_below hbw7));have hkids:=ZF (uI.1 hn nd (un (za HND)));have hnsm:=hs nd (un (za HND))
             refine wpIn_rangeFunc_ownG rfl (by decide) (gf:=117) (lb:=#[.pointer (some ⟨wk.heap.size+2,0,none⟩)]) rfl trivial (enters_of Tryz.func117 (by kernel_rfl) rfl)
              (kt Fence.wide 2 trivial rfl (by decide) (wk.heap.size+2) S (.slice ka nd.2.2.length kc) nd.2.2 (fun z=>0<=z/\z<ns.length) hkids (by omega) W7 (by omega) hbox (za HIS))
              (fun h k=>h.trans k) (fun W l o o' hl _ _ _=>Kept.put ((hSd l).2 (.inr hl))) (ue _ _) (fun _=>rfl)
              (fun pre W=>AtR W gd ns.length (fun j=>if j=k then(((pre.map Subtype.val).foldl (fun h y=>hK h (qM ns d y)) H0:Nat):Int)else if j<k then(qM ns (d+1) (j:Int):Int)else 0)/\Kept S W7 W)
              (fun _ _ _=>False)
              (OwnFrom.and (Own.from (AtR.own gd ns.length (fun(pre:List {z:Int//0<=z/\z<ns.length})=>fun j=>if j=k then(((pre.map Subtype.val).foldl (fun h y=>hK h (qM ns d y)) H0:Nat):Int)else if j<k then(qM ns (d+1) (j:Int):Int)else 0)) _) (vK (ud _)))
              (fun c=>ownFrom_pure _ _)
              ⟨hRz7,Kept.refl _ _⟩
              (fun y=>⟨#[.slice (some ⟨b,off,none⟩) ns.length nc,.int .i64 ↑D,undef,undef,.slice none 0 0,.slice (some ⟨G0,0,none⟩) ns.length ns.length,u6,u7,.pointer (some ⟨G8,0,none⟩),.pointer (some ⟨gd+1,0,none⟩),.pointer (some ⟨wk.heap.size,0,none⟩),.pointer (some ⟨wk.heap.size+1,0,none⟩),.int .i64 y.1,.slice (some ⟨b,off,none⟩) ns.length nc,.int .i64 ↑ns.length,.slice (some ⟨G0,0,none⟩) ns.length ns.length,.slice (some ⟨b,off,none⟩) ns.length nc,.int .i64 ↑ns.length,.int .i64 ↑ns.length,.bool false,u20,u21,u22,u23,u24,u25,u26,u27,u28,.slice (some ⟨G0,0,none⟩) ns.length ns.length,.int .i64 ↑D,.int .i64 ↑d,.bool true,.slice (some ⟨b,off,none⟩) ns.length nc,.int .i64 ↑ns.length,.slice (some ⟨gd,0,none⟩) ns.length ns.length,.slice (some ⟨b,off,none⟩) ns.length nc,.int .i64 ↑ns.length,.int .i64 ↑k,.bool true,.int .i64 ↑k,.pointer (some ⟨b,off+k*3,none⟩),.agg #[.int .i64 nd.1,.string (B nd.2.1),.slice ka nd.2.2.length kc],xo 0,xo 1,xo 2,xo 3,xo 4,xo 5,xo 6,.agg #[.int .i64 nd.1,.string (B nd.2.1),.slice ka nd.2.2.length kc],.func (Fn.func (117:Nat)) #[] #[.pointer (some ⟨wk.heap.size+2,0,none⟩)],.int .i64 y.1,u53,u54,u55,u56,u57,u58,u59,u60,u61,u62,u63,u64,u65,u66,u67,u68,u69,undef],[]⟩) ?assign ?body ?done ?stop
             case assign=>
              intro l y W K hK'
              gi_wp2
              exact hK'
             case stop=>
              rintro D c pre W _ _ h _;exact h.elim
             case body=>
              rintro l pre⟨y,y0,y1⟩ W⟨hRw,hkw⟩ hpre;obtain⟨yn,rfl⟩:∃yn:Nat,y=yn:=⟨y.toNat,by omega⟩
              have hyl:yn<ns.length:=by omega
              obtain⟨H1,hH1⟩:∃H1,(pre.map Subtype.val).foldl (fun h y=>hK h (qM ns d y)) H0=H1:=⟨_,rfl⟩
              obtain⟨M,hM⟩:∃M,qM ns d (yn:Int)=M:=⟨_,rfl⟩
              have hM9:M<=1048639:=by rw[<-hM];exact Xm hn (fun nd h=>(hs nd h).2) d ⟨by omega,by omega⟩
              have hH09:H0<=1048639:=by rw[<-za HH0];exact Xm hn (fun nd h=>(hs nd h).2) 0 ⟨by omega,by omega⟩
              have hH19:H1<=1048639:=by rw[<-hH1];exact Xs _ hH09 (by decide)
              rw[hH1]at hRw;obtain⟨H2,hH2⟩:∃H2,hK H1 M=H2:=⟨_,rfl⟩
              have hstep:((pre++[(⟨(yn:Int),y0,y1⟩:{z:Int//0<=z/\z<ns.length})]).map Subtype.val).foldl (fun h y=>hK h (qM ns d y)) H0=H2:=by rw[UF,List.foldl_append,hH1];show hK H1 (qM ns d (yn:Int))=H2;rw[hM,hH2]
              have HST:=zb hstep;have hww:Below w.heap.size w W:=hbw7.trans (hkw.below hbw7.size (fun b hb=>by have:=(hSd b).1 hb;have:=hbw7.size;have:=za HG0;omega));have b9:W.drew.cell? ⟨gd+1,0,none⟩=some (.slice (some ⟨gd,0,none⟩) ns.length ns.length):=(xp (zL (za HX9z) hKW) hkw (fun e=>by have:=(hSd _).1 e;omega)).cell;have b10:W.drew.cell? ⟨wk.heap.size,0,none⟩=some (.int .i64 ↑k):=(xp (zL (za HX10z) hKW) hkw (fun e=>by have:=(hSd _).1 e;omega)).cell;have b8:W.drew.cell? ⟨G8,0,none⟩=some (.slice (some ⟨gn,0,none⟩) ns.length ns.length):=(xp (zL (za HX8) (by rw[hgd];exact(za HKZ).trans (hKW.mono (by omega)))) hkw (fun e=>by have:=(hSd _).1 e;omega)).cell;have bn:W.drew.cell? ⟨gn,yn,none⟩=some (.int .i64 (M:Int)):=by have h:=(((za HRn).below (by rw[hgd];exact(za HKZ).trans (hKW.mono (by omega)))).kept hkw (fun e=>by have:=(hSd _).1 e;omega)).cell hyl;rw[hM]at h;exact h
              have bd:W.drew.cell? ⟨gd,k,none⟩=some (.int .i64 (H1:Int)):=by have h:=hRw.cell hkl;rw[uj rfl]at h;exact h
              have bf:W.drew.frozen? ⟨gd,k,none⟩=false:=hRw.frozen k;obtain⟨A9,hA9⟩:∃A9:Nat,257*H1=A9:=⟨_,rfl⟩
              obtain⟨S9,hS9⟩:∃S9:Nat,A9+M=S9:=⟨_,rfl⟩
              have w1:IntKind.i64.wrap (257*(H1:Int))=(A9:Int):=by rw[qX _ (by omega) (by omega)];omega
              have w2:IntKind.i64.wrap ((A9:Int)+(M:Int))=(S9:Int):=by rw[qX _ (by omega) (by omega)];omega
              have w3:(S9:Int).tmod 65521=(H2:Int):=by have h:=zgY H1 M;rw[hH2]at h;rw[<-h,<-hS9,<-hA9];rfl
              have HRW:=zb hRw;have HKWW:=zb hkw;have HWW:=zb hww;clear hstep hRw hkw hww hH1 hM hM9 hH09 hH19 hH2 hA9 hS9 hpre
              gi_wp2_with fail
              obtain⟨v,hv⟩:∃v:Nat->Value,v=fun j=>match j with
               |0=>.slice (some ⟨gd,0,none⟩) ns.length ns.length
               |1=>.int .i64 ↑k
               |2=>.slice (some ⟨gd,0,none⟩) ns.length ns.length
               |3=>.int .i64 ↑k
               |4=>.pointer (some ⟨gd,k,none⟩)
               |5=>.int .i64 (H1:Int)
               |6=>.int .i64 (A9:Int)
               |7=>.slice (some ⟨gn,0,none⟩) ns.length ns.length
               |8=>.int .i64 (yn:Int)
               |9=>.pointer (some ⟨gn,yn,none⟩)
               |10=>.int .i64 (M:Int)
               |11=>.int .i64 (S9:Int)
               |12=>.int .i64 (H2:Int)
               |13=>.pointer (some ⟨gd,k,none⟩)
               |_=>undef:=⟨_,rfl⟩
              have v0:v 0=.slice (some ⟨gd,0,none⟩) ns.length ns.length:=by subst hv;rfl
              have v1:v 1=.int .i64 ↑k:=by subst hv;rfl
              have v2:v 2=.slice (some ⟨gd,0,none⟩) ns.length ns.length:=by subst hv;rfl
              have v3:v 3=.int .i64 ↑k:=by subst hv;rfl
              have v4:v 4=.pointer (some ⟨gd,k,none⟩):=by subst hv;rfl
              have v5:v 5=.int .i64 (H1:Int):=by subst hv;rfl
              have v6:v 6=.int .i64 (A9:Int):=by subst hv;rfl
              have v7:v 7=.slice (some ⟨gn,0,none⟩) ns.length ns.length:=by subst hv;rfl
              have v8:v 8=.int .i64 (yn:Int):=by subst hv;rfl
              have v9:v 9=.pointer (some ⟨gn,yn,none⟩):=by subst hv;rfl
              have v10:v 10=.int .i64 (M:Int):=by subst hv;rfl
              have v11:v 11=.int .i64 (S9:Int):=by subst hv;rfl
              have v12:v 12=.int .i64 (H2:Int):=by subst hv;rfl
              have v13:v 13=.pointer (some ⟨gd,k,none⟩):=by subst hv;rfl
              clear hv;refine wpIn_region_any (by kernel_rfl) ?_;change wpAnyIn _ _ _ _ _ _ _ _ _ (World.drew _);refine kN (fun l' a' w'=>∃x:Nat->Value,a'=⟨#[.slice (some ⟨b,off,none⟩) ns.length nc,.int .i64 ↑D,undef,undef,.slice none 0 0,.slice (some ⟨G0,0,none⟩) ns.length ns.length,u6,u7,.pointer (some ⟨G8,0,none⟩),.pointer (some ⟨gd+1,0,none⟩),.pointer (some ⟨wk.heap.size,0,none⟩),.pointer (some ⟨wk.heap.size+1,0,none⟩),.int .i64 (yn:Int),.slice (some ⟨b,off,none⟩) ns.length nc,.int .i64 ↑ns.length,.slice (some ⟨G0,0,none⟩) ns.length ns.length,.slice (some ⟨b,off,none⟩) ns.length nc,.int .i64 ↑ns.length,.int .i64 ↑ns.length,.bool false,u20,u21,u22,u23,u24,u25,u26,u27,u28,.slice (some ⟨G0,0,none⟩) ns.length ns.length,.int .i64 ↑D,.int .i64 ↑d,.bool true,.slice (some ⟨b,off,none⟩) ns.length nc,.int .i64 ↑ns.length,.slice (some ⟨gd,0,none⟩) ns.length ns.length,.slice (some ⟨b,off,none⟩) ns.length nc,.int .i64 ↑ns.length,.int .i64 ↑k,.bool true,.int .i64 ↑k,.pointer (some ⟨b,off+k*3,none⟩),.agg #[.int .i64 nd.1,.string (B nd.2.1),.slice ka nd.2.2.length kc],xo 0,xo 1,xo 2,xo 3,xo 4,xo 5,xo 6,.agg #[.int .i64 nd.1,.string (B nd.2.1),.slice ka nd.2.2.length kc],.func (Fn.func (117:Nat)) #[] #[.pointer (some ⟨wk.heap.size+2,0,none⟩)],.int .i64 (yn:Int),x 0,x 1,x 2,x 3,x 4,x 5,x 6,x 7,x 8,x 9,x 10,x 11,x 12,x 13,u67,u68,u69,undef],[]⟩/\OneS 14 W.drew (W.drew.setCell ⟨gd,k,none⟩ (.int .i64 (H2:Int))) jj v l' x w') ?hsz ?hend ?hstep ?hgo _ _ _ _ ?h0 ?hc
              case hsz=>
               rintro l' a' w'⟨x,_,h⟩;exact h.sz
              case h0=>exact⟨fun j=>[u53,u54,u55,u56,u57,u58,u59,u60,u61,u62,u63,u64,u65,u66].getD j undef,rfl,OneS.start rfl⟩
              case hc=>exact UA rfl
              case hgo=>
               rintro l' a' w'⟨x,rfl,h⟩ hr j hj;have k0:l'[0]? =some true:=zo hr 0 (by simp) (by rw[h.sz];rfl) (by simp[Region.binds,ua]);have k1:l'[1]? =some true:=zo hr 1 (by simp) (by rw[h.sz];rfl) (by simp[Region.binds,ua,k0]);have k2:l'[2]? =some true:=zo hr 2 (by simp) (by rw[h.sz];rfl) (by simp[Region.binds,ua,k0,k1]);have k3:l'[3]? =some true:=zo hr 3 (by simp) (by rw[h.sz];rfl) (by simp[Region.binds,ua,k0,k1,k2]);have k4:l'[4]? =some true:=zo hr 4 (by simp) (by rw[h.sz];rfl) (by simp[Region.binds,ua,k0,k1,k2,k3]);have k5:l'[5]? =some true:=zo hr 5 (by simp) (by rw[h.sz];rfl) (by simp[Region.binds,ua,k0,k1,k2,k3,k4]);have k6:l'[6]? =some true:=zo hr 6 (by simp) (by rw[h.sz];rfl) (by simp[Region.binds,ua,k0,k1,k2,k3,k4,k5]);have k7:l'[7]? =some true:=zo hr 7 (by simp) (by rw[h.sz];rfl) (by simp[Region.binds,ua,k0,k1,k2,k3,k4,k5,k6]);have k8:l'[8]? =some true:=zo hr 8 (by simp) (by rw[h.sz];rfl) (by simp[Region.binds,ua,k0,k1,k2,k3,k4,k5,k6,k7]);have k9:l'[9]? =some true:=zo hr 9 (by simp) (by rw[h.sz];rfl) (by simp[Region.binds,ua,k0,k1,k2,k3,k4,k5,k6,k7,k8]);have k10:l'[10]? =some true:=zo hr 10 (by simp) (by rw[h.sz];rfl) (by simp[Region.binds,ua,k0,k1,k2,k3,k4,k5,k6,k7,k8,k9]);have k11:l'[11]? =some true:=zo hr 11 (by simp) (by rw[h.sz];rfl) (by simp[Region.binds,ua,k0,k1,k2,k3,k4,k5,k6,k7,k8,k9,k10]);have k12:l'[12]? =some true:=zo hr 12 (by simp) (by rw[h.sz];rfl) (by simp[Region.binds,ua,k0,k1,k2,k3,k4,k5,k6,k7,k8,k9,k10,k11]);have k13:l'[13]? =some true:=zo hr 13 (by simp) (by rw[h.sz];rfl) (by simp[Region.binds,ua,k0,k1,k2,k3,k4,k5,k6,k7,k8,k9,k10,k11,k12]);have k14:l'[14]? =some true:=zo hr 14 (by simp) (by rw[h.sz];rfl) (by simp[Region.binds,ua,k0,k1,k2,k3,k4,k5,k6,k7,k8,k9,k10,k11,k12,k13]);have hj:j<15:=by simpa using hj
               rcases(by omega:j=0\/j=1\/j=2\/j=3\/j=4\/j=5\/j=6\/j=7\/j=8\/j=9\/j=10\/j=11\/j=12\/j=13\/j=14)with rfl|rfl|rfl|rfl|rfl|rfl|rfl|rfl|rfl|rfl|rfl|rfl|rfl|rfl|rfl
               all_goals assumption
              case hstep=>
               rintro l' a' w' j⟨x,rfl,h⟩ hi;have hi2:=hi;unfold Region.ready at hi2;rw[uK]at hi2;obtain⟨hjj,hi3⟩:=hi2;have hjj:j<15:=by simpa using hjj
               have hjl:¬LL l' j:=fun e=>by
                unfold LL at e;simp[ua,e]at hi3
               clear hi;rcases(by omega:j=0\/j=1\/j=2\/j=3\/j=4\/j=5\/j=6\/j=7\/j=8\/j=9\/j=10\/j=11\/j=12\/j=13\/j=14)with rfl|rfl|rfl|rfl|rfl|rfl|rfl|rfl|rfl|rfl|rfl|rfl|rfl|rfl|rfl
               . clear hi3
                 have hw:=h.now (by omega) hjl;subst hw;refine wpOpIn_step rfl (fun K hK=>?_);go_simp;exact hK _ _ ⟨_,by simp[v0],h.next 0 (by omega) (v 0) rfl (fun j hj=>by simp[jj]at hj)⟩
               . clear hi3
                 have hw:=h.now (by omega) hjl;subst hw;refine wpOpIn_step rfl (fun K hK=>?_);go_simp;exact hK _ _ ⟨_,by simp[v1],h.next 1 (by omega) (v 1) rfl (fun j hj=>by simp[jj]at hj)⟩
               . clear hi3
                 have hw:=h.now (by omega) hjl;subst hw;refine wpOpIn_step rfl (fun K hK=>?_);go_simp;exact hK _ _ ⟨_,by simp[v2],h.next 2 (by omega) (v 2) rfl (fun j hj=>by simp[jj]at hj)⟩
               . clear hi3
                 have hw:=h.now (by omega) hjl;subst hw;refine wpOpIn_step rfl (fun K hK=>?_);go_simp;exact hK _ _ ⟨_,by simp[v3],h.next 3 (by omega) (v 3) rfl (fun j hj=>by simp[jj]at hj)⟩
               . have l2:LL l' 2:=zA (by simp[Region.binds,ua]at hi3;simp[hi3])
                 have l3:LL l' 3:=zA (by simp[Region.binds,ua]at hi3;simp[hi3]);clear hi3;have hw:=h.now (by omega) hjl;subst hw;have w2:=(h.val 2 (by omega) l2).trans v2;have w3:=(h.val 3 (by omega) l3).trans v3;refine wpOpIn_step rfl (fun K hK=>?_);go_simp;exact hK _ _ ⟨_,by simp[w2,w3,v4],h.next 4 (by omega) (v 4) rfl (fun j hj=>by simp[jj]at hj;rcases hj with rfl|rfl<;>assumption)⟩
               . have l4:LL l' 4:=zA (by simp[Region.binds,ua]at hi3;simp[hi3])
                 clear hi3;have hw:=h.now (by omega) hjl;subst hw;have w4:=(h.val 4 (by omega) l4).trans v4;refine wpOpIn_step rfl (fun K hK=>?_);go_simp;exact hK _ _ ⟨_,by simp[w4,v5],h.next 5 (by omega) (v 5) rfl (fun j hj=>by simp[jj]at hj;subst hj;exact l4)⟩
               . have l5:LL l' 5:=zA (by simp[Region.binds,ua]at hi3;simp[hi3])
                 clear hi3;have hw:=h.now (by omega) hjl;subst hw;have w5:=(h.val 5 (by omega) l5).trans v5;refine wpOpIn_step rfl (fun K hK=>?_);go_simp;exact hK _ _ ⟨_,by simp[w5,v6],h.next 6 (by omega) (v 6) rfl (fun j hj=>by simp[jj]at hj;subst hj;exact l5)⟩
               . clear hi3
                 have hw:=h.now (by omega) hjl;subst hw;refine wpOpIn_step rfl (fun K hK=>?_);go_simp;exact hK _ _ ⟨_,by simp[v7],h.next 7 (by omega) (v 7) rfl (fun j hj=>by simp[jj]at hj)⟩
               . clear hi3
                 have hw:=h.now (by omega) hjl;subst hw;refine wpOpIn_step rfl (fun K hK=>?_);go_simp;exact hK _ _ ⟨_,by simp[v8],h.next 8 (by omega) (v 8) rfl (fun j hj=>by simp[jj]at hj)⟩
               . have l7:LL l' 7:=zA (by simp[Region.binds,ua]at hi3;simp[hi3])
                 have l8:LL l' 8:=zA (by simp[Region.binds,ua]at hi3;simp[hi3]);clear hi3;have hw:=h.now (by omega) hjl;subst hw;have w7:=(h.val 7 (by omega) l7).trans v7;have w8:=(h.val 8 (by omega) l8).trans v8;refine wpOpIn_step rfl (fun K hK=>?_);go_simp;exact hK _ _ ⟨_,by simp[w7,w8,v9],h.next 9 (by omega) (v 9) rfl (fun j hj=>by simp[jj]at hj;rcases hj with rfl|rfl<;>assumption)⟩
               . have l9:LL l' 9:=zA (by simp[Region.binds,ua]at hi3;simp[hi3])
                 clear hi3;have hw:=h.now (by omega) hjl;subst hw;have w9:=(h.val 9 (by omega) l9).trans v9;refine wpOpIn_step rfl (fun K hK=>?_);go_simp;exact hK _ _ ⟨_,by simp[w9,v10],h.next 10 (by omega) (v 10) rfl (fun j hj=>by simp[jj]at hj;subst hj;exact l9)⟩
               . have l6:LL l' 6:=zA (by simp[Region.binds,ua]at hi3;simp[hi3])
                 have l10:LL l' 10:=zA (by simp[Region.binds,ua]at hi3;simp[hi3]);clear hi3;have hw:=h.now (by omega) hjl;subst hw;have w6:=(h.val 6 (by omega) l6).trans v6;have w10:=(h.val 10 (by omega) l10).trans v10;refine wpOpIn_step rfl (fun K hK=>?_);go_simp;exact hK _ _ ⟨_,by simp[w6,w10,v11],h.next 11 (by omega) (v 11) rfl (fun j hj=>by simp[jj]at hj;rcases hj with rfl|rfl<;>assumption)⟩
               . have l11:LL l' 11:=zA (by simp[Region.binds,ua]at hi3;simp[hi3])
                 clear hi3;have hw:=h.now (by omega) hjl;subst hw;have w11:=(h.val 11 (by omega) l11).trans v11;refine wpOpIn_step rfl (fun K hK=>?_);go_simp;exact hK _ _ ⟨_,by simp[w11,v12],h.next 12 (by omega) (v 12) rfl (fun j hj=>by simp[jj]at hj;subst hj;exact l11)⟩
               . have l0:LL l' 0:=zA (by simp[Region.binds,ua]at hi3;simp[hi3])
                 have l1:LL l' 1:=zA (by simp[Region.binds,ua]at hi3;simp[hi3]);clear hi3;have hw:=h.now (by omega) hjl;subst hw;have w0:=(h.val 0 (by omega) l0).trans v0;have w1:=(h.val 1 (by omega) l1).trans v1;refine wpOpIn_step rfl (fun K hK=>?_);go_simp;exact hK _ _ ⟨_,by simp[w0,w1,v13],h.next 13 (by omega) (v 13) rfl (fun j hj=>by simp[jj]at hj;rcases hj with rfl|rfl<;>assumption)⟩
               . have l12:LL l' 12:=zA (by simp[Region.binds,ua]at hi3;simp[hi3])
                 have l13:LL l' 13:=zA (by simp[Region.binds,ua]at hi3;simp[hi3]);clear hi3;have hw:=h.at' hjl;subst hw;have l11:LL l' 11:=h.dep 12 (by omega) l12 11 (by simp[jj]);have l0:LL l' 0:=h.dep 13 (by omega) l13 0 (by simp[jj]);have l1:LL l' 1:=h.dep 13 (by omega) l13 1 (by simp[jj]);have l6:LL l' 6:=h.dep 11 (by omega) l11 6 (by simp[jj]);have l10:LL l' 10:=h.dep 11 (by omega) l11 10 (by simp[jj]);have l5:LL l' 5:=h.dep 6 (by omega) l6 5 (by simp[jj]);have l9:LL l' 9:=h.dep 10 (by omega) l10 9 (by simp[jj]);have l4:LL l' 4:=h.dep 5 (by omega) l5 4 (by simp[jj]);have l7:LL l' 7:=h.dep 9 (by omega) l9 7 (by simp[jj]);have l8:LL l' 8:=h.dep 9 (by omega) l9 8 (by simp[jj]);have l2:LL l' 2:=h.dep 4 (by omega) l4 2 (by simp[jj]);have l3:LL l' 3:=h.dep 4 (by omega) l4 3 (by simp[jj]);have w12:=(h.val 12 (by omega) l12).trans v12;have w13:=(h.val 13 (by omega) l13).trans v13;refine wpOpIn_step rfl (fun K hK=>?_);go_simp;exact hK _ _ ⟨_,by simp[w12,w13],h.put (fun i hi=>by rcases(by omega:i=0\/i=1\/i=2\/i=3\/i=4\/i=5\/i=6\/i=7\/i=8\/i=9\/i=10\/i=11\/i=12\/i=13)with rfl|rfl|rfl|rfl|rfl|rfl|rfl|rfl|rfl|rfl|rfl|rfl|rfl|rfl<;>assumption)⟩
              case hend=>
               rintro l2 a2 w2⟨x2,rfl,h⟩ hall;have hw:=h.end' (hall 14 (by simp));subst hw;clear h hall b9 b10 b8 bn bd bf w1 w2 w3;have hkz2:Kept S W (W.drew.setCell ⟨gd,k,none⟩ (.int .i64 (H2:Int))):=(Kept.of_below (ue _ _).drew).trans (Kept.set (S:=S) (a:=⟨gd,k,none⟩) ((hSd gd).2 (.inl rfl)) _);have hko:KeepsOthers W (W.drew.setCell ⟨gd,k,none⟩ (.int .i64 (H2:Int))):=(zE (ue _ _).drew).trans (KeepsOthers.setCell _ _ _);have hR2:AtR (W.drew.setCell ⟨gd,k,none⟩ (.int .i64 (H2:Int))) gd ns.length (fun j=>if j=k then(H2:Int)else if j<k then(qM ns (d+1) (j:Int):Int)else 0):=(AtR.set (w:=W.drew) (k:=k) (x:=(H2:Int)) (by have h:=za HRW;exact h)).ext fun j _=>by by_cases e:j=k<;>simp[e]
               have HFIN:=zb (And.intro hko (And.intro hkz2 hR2));clear hko hkz2 hR2
               gi_wp2_with fail
               obtain⟨hko,hkz2,hR2⟩:=za HFIN;exact⟨hko.from _,hkz2,by rw[za HST];exact hR2,(za HKWW).trans hkz2⟩
             case done=>
              rintro D' ys W hDD hys⟨hRw,hkw⟩ hKd;rw[hys]at hRw;have hkb:Below gd wr W:=((za HKZ).trans (hKW.mono (by omega))).trans (hkw.below (by omega) (fun b hb=>by have:=(hSd b).1 hb;omega));have hM7:=(za HMz).below hKW;have hM8:=hM7.kept hkw (fun D'' hD'' e=>((hSd _).1 e).elim (fun e=>by subst e;have:=(hM7.at' _ hD'').2;obtain⟨cs,h1,_⟩:=hRz7;rw[h1]at this;cases this) (fun e=>by have hl:=hM7.lt hD'';omega));have HM9:=zb (hM8.cons (D:=D') (by omega) hKd (fun hm=>by have:=hM7.lt hm;omega));have HKB:=zb hkb;have HX9w:Hid (Boxed W (gd+1) 24 (.slice (some ⟨gd,0,none⟩) ns.length ns.length)):=zb (xp (zL (za HX9z) hKW) hkw (fun e=>by have:=(hSd _).1 e;omega));have HRW:Hid (AtR W gd ns.length (fun j=>if j<k+1 then(qM ns (d+1) (j:Int):Int)else 0)):=zb (hRw.ext fun j hj=>by
               by_cases e:j=k
               . subst e;rw[uj rfl,uj (by omega),zcS (x:=(j:Int)) (za HND) d,<-za HH0,Yt (x:=(j:Int)) (za HND)]
               . rw[ul e];by_cases e2:j<k
                 . rw[uj e2,uj (by omega)]
                 . rw[ul e2,ul (by omega)])
              clear hRw hkb hM7 hM8 hkw hKd hys
              gi_wp2_with fail
              refine⟨⟨D'::Ds,k+1,_,_,_,_,_,_,_,_,_,_,_,_,_,_,_,_,_,_,_,_,_,_,_,_,_,_,_,_,_,_,_,_,rfl,by omega,HKB,HX9w,HRW,HM9⟩,by simp[intOf];omega⟩
          . obtain rfl:k=ns.length:=by omega
            have h8:=zL (za HX8) (by rw[hgd];exact za HKk);have c9:=(za HX9).cell;have c8:=h8.cell;have f8:=h8.frozen;have hd0:gd<wk.heap.size:=(za HRk).lt;have HBf:=zb (((za HBL).trans ((za HKk).mono (by have:=(za HBL).size;omega))).setCell (p:=⟨G8,0,none⟩) (by show w.heap.size<=G8;have:=za HG0;omega) (.slice (some ⟨gd,0,none⟩) ns.length ns.length));have HR0f:Hid (AtR (wk.setCell ⟨G8,0,none⟩ (.slice (some ⟨gd,0,none⟩) ns.length ns.length)) G0 ns.length (fun j=>(qM ns 0 (j:Int):Int))):=zb (((za HR0).below (by rw[hgd];exact za HKk)).far (by omega));have HX8f:=zb (h8.set (.slice (some ⟨gd,0,none⟩) ns.length ns.length));have HRf:Hid (AtR (wk.setCell ⟨G8,0,none⟩ (.slice (some ⟨gd,0,none⟩) ns.length ns.length)) gd ns.length (fun j=>(qM ns (d+1) (j:Int):Int))):=zb (((za HRk).far (by have:=hGw;omega)).ext fun j hj=>by simp[hj]);have HMf:Hid (Marks G0 (wk.setCell ⟨G8,0,none⟩ (.slice (some ⟨gd,0,none⟩) ns.length ns.length)) Ds):=zb ((za HMk).kept (Kept.set (S:=fun b=>b=G8) (a:=⟨G8,0,none⟩) rfl _) (fun D'' hD'' e=>by have e:D''=G8:=e;subst e;have:=((za HMk).at' _ hD'').2;rw[show wk.heap[D'']? =_ from h8]at this;cases this));clear h8
            gi_wp2_with fail
            refine⟨⟨Ds,d+1,gd,_,_,_,_,_,_,_,_,_,_,_,_,_,_,_,_,_,_,_,_,_,_,_,_,_,_,_,_,_,_,_,_,_,_,_,_,_,_,_,_,_,_,rfl,by omega,za HBf,HR0f,HX8f,HRf,HMf⟩,by simp[intOf];omega⟩
      . obtain rfl:d=D:=by omega
        have c8:=(za HX8).cell
        gi_wp2_with fail
        refine qL G0 Ds wr (za HMk) (fun w' hst=>?_);refine⟨.slice (some ⟨gn,0,none⟩) ns.length ns.length,by simp[results,Tryz.f40,go_sem],⟨gn,rfl,(za HRn).still hst⟩,hbl.trans (by rw[za HG0];exact hst.below)⟩
end Go.Proofs.YtpbnmhnbkfnaeaaGreatDoor
namespace Go.Proofs.YtpbnmhnbkfnaeaaGreatDoor
open Go.RowKit Nt
theorem QR(nv rv:Value)(d:Dt)(w:World)(h:DataAt w (.agg #[nv,rv]) d)(hs:d.1.length<=1048576/\d.2.length<=1048576/\qr d.1)(hT:Tabz w)(hN:Tens w)(h3:3<w.heap.size):
  Calls Tryz.prog 31 #[.agg #[nv,rv]] w fun e w'=>e=.returned (.bool (vD d&&decide (0<d.2.length)))/\Below w.heap.size w w':=by
 have HD:=zb h;have HT:=zb (And.intro hT (And.intro hN h3));have HS:=zb hs;obtain⟨nv',rv',e,hn0,hr0⟩:=h;simp only[WO,Ws,ww,and_true]at e;obtain⟨rfl,rfl⟩:=e;obtain⟨na,nc,rfl,_⟩:=hn0;obtain⟨ra,rc,rfl,_⟩:=hr0;obtain⟨ln,hln⟩:∃n,d.1.length=n:=⟨_,rfl⟩
 obtain⟨lr,hlr⟩:∃n,d.2.length=n:=⟨_,rfl⟩
 rw[hln,hlr]at HD⊢;rw[hln,hlr]at HS;have HB:=zb (zf (ue w.heap.size w) (.cells #[.slice na ln nc,.slice ra lr rc] 26));have HA:=zb (AtC2.new w (.slice na ln nc) (.slice ra lr rc) 26);have HC:Hid (∀W,Below w.heap.size w W->Calls Tryz.prog 37 #[.agg #[.slice na ln nc,.slice ra lr rc]] W fun e w'=>e=.returned (.bool (vD d))/\Below W.heap.size W w'):=zb (fun W hb=>xB _ _ d W ((za HD).below hb) (by rw[hln,hlr];exact za HS) ((za HT).1.below (by have:=(za HT).2.2;omega) hb) ((za HT).2.1.belowB hb (za HT).2.2) (uJ (za HT).2.2 hb.size));clear hs hT hN h3 hln hlr;obtain⟨ok,hok⟩:∃b,vD d=b:=⟨_,rfl⟩
 rw[hok]at HC⊢;clear hok HT HS HD;go_enter Tryz.func31,Tryz.ntmps31;go_wp2_with fail;refine(za HC _ (za HB)).mono ?_;rintro e w1⟨rfl,hb1⟩;have HB1:=zb (zi (za HB) hb1);have a1:=((za HA).below hb1).n1;clear hb1;cases ok with
 |false=>
  go_wp2_with fail;go_ret;exact⟨rfl,za HB1⟩
 |true=>
  go_wp2_with fail;go_ret;exact⟨by simp,za HB1⟩
theorem ZP(d:Dt)(u:Value)(most:Int)(w:World)(hd:DataAt w u d)(hsd:d.1.length<=1048576/\d.2.length<=1048576/\qr d.1)(hT:Tabz w)(hNt:Tens w)(h3:3<w.heap.size):
  Calls Tryz.prog 13 #[u,.int .i64 most] w fun r W'=>r=.returned (.int .i64 (ky d most))/\Below w.heap.size w W':=by
 obtain⟨ns,rs⟩:=d;have HD:=zb hd;obtain⟨nv,rv,rfl,hn,hr⟩:=hd;simp only at hn hr hsd;have HN:=zb hn;have HR:=zb hr;obtain⟨an,cn,rfl,hn1,hn2⟩:=hn.form0;obtain⟨ar,cr,rfl,hr1,hr2⟩:=hr.form;unfold maxLen at hn2 hr2;have HSD:=zb hsd;obtain⟨R,hR⟩:∃R,ky (ns,rs) most=R:=⟨_,rfl⟩
 rw[hR];have HTR:=zb hR;have HB:=zb (zf (ue w.heap.size w) (.cells #[.slice an ns.length cn,.slice ar rs.length cr] 26));have HP:=zb (AtC2.new w (.slice an ns.length cn) (.slice ar rs.length cr) 26);have HRO:Hid (∀W,Below w.heap.size w W->Calls Tryz.prog 31 #[.agg #[.slice an ns.length cn,.slice ar rs.length cr]] W fun e w'=>e=.returned (.bool (vD (ns,rs)&&decide (0<rs.length)))/\Below W.heap.size W w'):=zb (fun W hb=>QR _ _ (ns,rs) W ((za HD).below hb) (za HSD) (hT.below (by omega) hb) (hNt.belowB hb h3) (uJ h3 hb.size));clear hn hr hsd hR hT hNt h3;go_enter Tryz.func13,Tryz.ntmps13;go_wp2_with fail;obtain⟨W,hW⟩:∃W,w.alloc (.cells #[.slice an ns.length cn,.slice ar rs.length cr] 26)=W:=⟨_,rfl⟩
 rw[hW]at HB HP⊢;clear hW;refine(za HRO W (za HB)).mono ?_;rintro e' W1⟨rfl,hb1⟩;have HB1:=zb (zi (za HB) hb1);have HP1:=zb ((za HP).below hb1);clear hb1 HB HP HRO;have p0:=(za HP1).n0;have p1:=(za HP1).n1;rcases uN (vD (ns,rs))with ho|ho
 . rw[ho]
   have HO1:=zb ho;clear ho;by_cases hr0:rs=[]
   . have HZ:Hid (R=0):=zb (by rw[<-za HTR];exact zcQ hr0)
     rw[show(true&&decide (0<rs.length))=false from by rw[hr0];rfl];clear hr0;go_wp2_with fail;go_ret;exact⟨zK (za HZ).symm,za HB1⟩
   . obtain⟨a,rt,har⟩:∃a t,rs=a::t:=by cases rs with|nil=>exact absurd rfl hr0|cons a t=>exact⟨a,t,rfl⟩
     have hrl:0<rs.length:=UQ.2 hr0;rw[show(true&&decide (0<rs.length))=true from by simp[hrl]];by_cases hm:most<1
     . have HZ:Hid (R=0):=zb (by rw[<-za HTR];exact zcR hm)
       clear hr0 har hrl;go_wp2_with fail;go_ret;exact⟨zK (za HZ).symm,za HB1⟩
     . obtain⟨l1,_,k1,j1⟩:=jQ (za HO1)
       have ha:=j1 a (by rw[har];exact UK);obtain⟨an',rfl⟩:∃n:Nat,a=(n:Int):=⟨a.toNat,by omega⟩
       obtain⟨M,hM⟩:∃M,qM ns 3 (an':Int)=M:=⟨_,rfl⟩
       have HZ:Hid (((M:Nat):Int).tmod most=R):=zb (by rw[<-za HTR,<-hM];have h1:=za HO1;rw[har]at h1⊢;exact(QS h1 (by omega)).symm);obtain⟨ga,oa,rfl,_,u0⟩:=((za HR).below (za HB1)).cell (k:=0) (x:=(an':Int)) (by rw[har];rfl);rw[wC]at u0;have HC:Hid (∀X,Below W1.heap.size W1 X->Calls Tryz.prog 40 #[.slice an ns.length cn,.int .i64 3] X fun r W'=>(∃g,r=.returned (.slice (some ⟨g,0,none⟩) ns.length ns.length)/\W'.cell? ⟨g,an',none⟩=some (.int .i64 (M:Int)))/\Below X.heap.size X W'):=zb (fun X hX=>by
        refine(KH ns an cn 3 X ((za HN).below (zi (za HB1) hX)) k1 (za HSD).2.2 l1 (by omega) (ud _)).mono ?_;rintro r W'⟨⟨g,rfl,hg⟩,hb⟩;have hc:=hg.cell (j:=an') (by omega);rw[hM]at hc;exact⟨⟨g,rfl,hc⟩,hb⟩)
       have t0:(0:Int)<(rs.length:Int):=by omega
       have tn:(an':Int)<(ns.length:Int):=by omega
       have z0:=za HZ;have m0:¬most=0:=by omega
       clear k1 j1 ha hr0 har hM l1;have d0:W1.drew.cell? ⟨w.heap.size,0,none⟩=_:=p0;have d1:W1.drew.cell? ⟨w.heap.size,1,none⟩=_:=p1;have d2:W1.drew.cell? ⟨ga,oa,none⟩=_:=u0;go_wp2_with fail
       go_region_law (first|(go_simp;go_at_call 40;refine(za HC W1.drew (ue _ _).drew).mono ?_;rintro e w5⟨⟨gg,rfl,v0⟩,hb5⟩;have HB5:Hid (Below W1.heap.size W1 w5):=(ue _ _).drew.trans hb5;have c1:=zd (za HB5) p0;have c2:=zd (za HB5) p1;have c3:=zd (za HB5) u0;clear hb5;(try dsimp only)))
       all_goals
        go_wp2_with fail;go_ret;exact⟨rfl,zi (za HB1) (za HB5)⟩
 . rw[ho]
   have HZ:Hid (R=0):=zb (by rw[<-za HTR];exact zcP ho);rw[UR];clear ho;go_wp2_with fail;go_ret;exact⟨zK (za HZ).symm,za HB1⟩
theorem qg{w w':World}(k:Below w.heap.size w w'){a:Addr}{v:Value}(h:w.cell? a=some v):w'.cell? a=some v:=(k.cell (uo _ _ h)).trans h
theorem zho(n:Bool)(v:Value)(x:Nat)(w:World)(hx:zy w v x):
  Calls Tryz.prog 190 #[ql n v] w fun e w'=>(∃p c,e=.returned (.agg #[.bool (!n),.slice p (gr x).length c])/\zy w' (.slice p (gr x).length c) x)/\Below w.heap.size w w':=by
 refine(zhn n v x w hx).mono ?_;rintro e w'⟨⟨_,rfl,v1,rfl,hv⟩,hb⟩;obtain⟨p,c,rfl⟩:=zq hv;exact⟨⟨p,c,rfl,hv⟩,hb⟩
theorem zgv(n m:Bool)(v u:Value)(x y:Nat)(R:Bool×Nat)(hR:yB (n,x) (m,y)=R)(w:World)(hx:zy w v x)(hy:zy w u y)(hsx:(gr x).length<=1000000)(hsy:(gr y).length<=1000000):
  Calls Tryz.prog 189 #[ql n v,ql m u] w fun e w'=>(∃p c,e=.returned (.agg #[.bool R.1,.slice p (gr R.2).length c]))/\Below w.heap.size w w':=by
 refine(zgu n m v u x y w hx hy hsx hsy).mono ?_;rintro e w'⟨⟨_,rfl,v1,rfl,hv⟩,hb⟩;obtain⟨p,c,rfl⟩:=zq hv;rw[hR];exact⟨⟨p,c,rfl⟩,hb⟩
theorem zak(n m:Bool)(v u:Value)(x y:Nat)(w:World)(hx:zy w v x)(hy:zy w u y)(hsx:(gr x).length<=1000000)(hsy:(gr y).length<=1000000):
  Calls Tryz.prog 161 #[ql n v,ql m u] w fun e w'=>(∃p c,e=.returned (.agg #[.bool (n != m),.slice p (gr (x*y)).length c])/\zy w' (.slice p (gr (x*y)).length c) (x*y))/\Below w.heap.size w w':=by
 refine(zfh n m v u x y w hx hy hsx hsy).mono ?_;rintro e w'⟨⟨_,rfl,v1,rfl,hv⟩,hb⟩;obtain⟨p,c,rfl⟩:=zq hv;exact⟨⟨p,c,rfl,isNatB.nat hv⟩,hb⟩
def sgW(R:Bool×Nat):Int:=if R.2=0 then 0 else if R.1 then-1 else 1
theorem zgf(R:Bool×Nat):sgW R=sgI (JD R):=by
 obtain⟨n,x⟩:=R;unfold sgW sgI JD;by_cases hx:x=0
 . subst hx;cases n<;>simp
 . cases n
   . simp[hx]
     try omega
   . simp[hx]
     try omega
def zdM(W:World)(R:Bool×Nat)(s:Value)(wx:World):Prop:=
 ∃g p c,s=.pointer (some ⟨g,0,none⟩)/\AtC2 wx g (.bool R.1) (.slice p (gr R.2).length c) 183/\Below W.heap.size W wx
abbrev zf1:Obj:=.cells #[.bool false,.slice none 0 0] 183
theorem zc7{W w2:World}{R:Bool×Nat}{p:Option Addr}{c:Nat}(hK:Below W.heap.size W w2):zdM W R (.pointer (some ⟨w2.heap.size,0,none⟩)) (w2.alloc (.cells #[.bool R.1,.slice p (gr R.2).length c] 183)):=
 ⟨_,p,c,rfl,AtC2.new _ _ _ _,zf hK _⟩
theorem YA{W w2:World}{R:Bool×Nat}{b:Nat}{p:Option Addr}{c:Nat}{x y:Value}(hM:AtC2 w2 b x y 183)(hb:W.heap.size<=b)(hK:Below W.heap.size W w2):
  zdM W R (.pointer (some ⟨b,0,none⟩)) ((w2.setCell ⟨b,0,none⟩ (.bool R.1)).setCell ⟨b,1,none⟩ (.slice p (gr R.2).length c)):=
 ⟨b,p,c,rfl,(hM.st0 _).st1 _,(hK.setCell (p:=⟨b,0,none⟩) hb _).setCell (p:=⟨b,1,none⟩) hb _⟩
theorem zhm(n m:Bool)(v u:Value)(x y:Nat)(w:World)(hx:zy w v x)(hy:zy w u y)(hsx:(gr x).length<=1000000)(hsy:(gr y).length<=1000000):
  Calls Tryz.prog 162 #[ql n v,ql m u] w fun e w'=>e=.returned (.int .i64 (sgW (yB (n,x) (!m,y))))/\Below w.heap.size w w':=by
 obtain⟨p,cap,rfl⟩:=zq hx;obtain⟨q,cap2,rfl⟩:=zq hy;obtain⟨R,hR⟩:∃R,yB (n,x) (!m,y)=R:=⟨_,rfl⟩
 rw[hR];obtain⟨lx,hlx⟩:∃l,(gr x).length=l:=⟨_,rfl⟩
 obtain⟨ly,hly⟩:∃l,(gr y).length=l:=⟨_,rfl⟩
 have HNS:=zb (fun W h=>zho m (.slice q ly cap2) y W h);have HPS:=zb (fun W p1 c1 h1 h2=>zgv n (!m) (.slice p lx cap) (.slice p1 ly c1) x y R hR W h1 h2 hsx hsy);rw[hly]at HNS hy;rw[hlx]at hx;unfold ql at HNS HPS⊢;rw[hlx,hly];have HX:=zb hx;have HY:=zb hy;have HB:=zb (zf (zf (ue w.heap.size w) (.cells #[.bool n,.slice p lx cap] 183)) (.cells #[.bool m,.slice q ly cap2] 183));have HA1:=zb ((AtC2.new w (.bool n) (.slice p lx cap) 183).alloc (.cells #[.bool m,.slice q ly cap2] 183));have HA2:=zb (AtC2.new (w.alloc (.cells #[.bool n,.slice p lx cap] 183)) (.bool m) (.slice q ly cap2) 183);rw[uk]at HA2;clear hx hy hR hlx hly hsx hsy;go_enter Tryz.func162,Tryz.ntmps162;go_wp2_with fail;obtain⟨W,hW⟩:∃W,(w.alloc (.cells #[.bool n,.slice p lx cap] 183)).alloc (.cells #[.bool m,.slice q ly cap2] 183)=W:=⟨_,rfl⟩
 rw[hW]at HB HA1 HA2⊢;clear hW;have HX:=zb (zt (za HX) (za HB));have HY:=zb (zt (za HY) (za HB));have a0:=(za HA1).n0;have a1:=(za HA1).n1;have b0:=(za HA2).n0;have b1:=(za HA2).n1;have hWk:=zf (ue W.heap.size W) zf1;have a0':=qg hWk a0;have a1':=qg hWk a1;have b0':=qg hWk b0;have b1':=qg hWk b1;have HWK:=zb hWk;have HM0:=zb (AtC2.new W (.bool false) (.slice none 0 0) 183);clear hWk
 go_cut [5]from 6 to 9 (fun s wx=>zdM W R s wx)
 case first=>
  go_region_with (first
   |(go_at_call 190;refine(za HNS (W.alloc zf1).drew (zt (za HY) (za HWK).drew)).mono ?_;rintro e w1⟨⟨p1,c1,rfl,hv1⟩,hb1⟩;have HK1:Hid (Below W.heap.size W w1):=zb ((za HWK).drew.trans (hb1.mono (za HWK).size));have HM1:=zb ((za HM0).below ((ue _ _).drew.trans hb1));have HV1:=zb hv1;have k0:=qg (za HK1) a0;have k1:=qg (za HK1) a1;have k2:=qg (za HK1) b0;have k3:=qg (za HK1) b1;clear hb1 hv1)
   |(go_at_call 190;refine(za HNS W.drew (zt (za HY) (ue _ _).drew)).mono ?_;rintro e w1⟨⟨p1,c1,rfl,hv1⟩,hb1⟩;have HK1:Hid (Below W.heap.size W w1):=(ue _ _).drew.trans hb1;have HV1:=zb hv1;have k0:=qg (za HK1) a0;have k1:=qg (za HK1) a1;have k2:=qg (za HK1) b0;have k3:=qg (za HK1) b1;have hal:=zf (ue w1.heap.size w1) zf1;have k0':=qg hal k0;have k1':=qg hal k1;have k2':=qg hal k2;have k3':=qg hal k3;have HAL:=zb hal;clear hb1 hv1 hal)
   |(go_at_call 189;refine(za HPS w1 p1 c1 (zt (za HX) (za HK1)) (za HV1)).mono ?_;rintro e w2⟨⟨p2,c2,rfl⟩,hb2⟩;have HK2:=zb (zi (za HK1) hb2);have HM2:=zb ((za HM1).below hb2);have m0:=(za HM2).n0;have m1:=(za HM2).n1;have mf:=(za HM2).f;clear hb2)
   |(go_at_call 189;refine(za HPS w1 p1 c1 (zt (za HX) (za HK1)) (za HV1)).mono ?_;rintro e w2⟨⟨p2,c2,rfl⟩,hb2⟩;have HK2:=zb (zi (za HK1) hb2);clear hb2)
   |(go_at_call 189;refine(za HPS (w1.alloc zf1) p1 c1 (zt (za HX) (zi (za HK1) (za HAL))) (zt (za HV1) (za HAL))).mono ?_;rintro e w2⟨⟨p2,c2,rfl⟩,hb2⟩;have HK2:=zb (zi (zi (za HK1) (za HAL)) hb2);have HM2:=zb ((AtC2.new w1 (.bool false) (.slice none 0 0) 183).below hb2);have m0:=(za HM2).n0;have m1:=(za HM2).n1;have mf:=(za HM2).f;clear hb2))
  all_goals
   go_wp2_with fail;go_meet
   first
    |exact zc7 (za HK2)
    |exact YA (za HM2) (ud _) (za HK2)
    |exact YA (za HM2) (za HK1).size (za HK2)
 case rest=>
 obtain⟨g,p3,c3,rfl,hM,hb⟩:=hcut
 rename World=>w4
 have HB4:=zb (zi (za HB) hb);have m0:=hM.n0;have m1:=hM.n1;obtain⟨n3,x3⟩:=R;simp only at m0 m1;clear hM hb a0 a1 b0 b1 a0' a1' b0' b1';by_cases hx0:x3=0
 . have hl:(((gr x3).length:Int)==0)=true:=by rw[hx0,vr];rfl
   have HQ:Hid (sgW (n3,x3)=0):=zb (by unfold sgW;rw[uj hx0]);clear hx0;go_wp2_with fail;go_ret;exact⟨zK (za HQ).symm,za HB4⟩
 . have hl:(((gr x3).length:Int)==0)=false:=by
    rw[ug];intro e;have h1:gr x3=[]:=ur (by omega);have h2:=Zf (b:=1000000000) (by omega) x3;unfold gr at h1;rw[h1]at h2;exact hx0 h2.symm
   cases n3 with
   |true=>
    have HQ:Hid (sgW (true,x3)= -1):=zb (by unfold sgW;rw[ul hx0,uj rfl]);clear hx0;go_wp2_with fail;go_ret;exact⟨zK (za HQ).symm,za HB4⟩
   |false=>
    have HQ:Hid (sgW (false,x3)=1):=zb (by unfold sgW;rw[ul hx0,ul (by simp)]);clear hx0;go_wp2_with fail;go_ret;exact⟨zK (za HQ).symm,za HB4⟩
end Go.Proofs.YtpbnmhnbkfnaeaaGreatDoor
namespace Go.Proofs.YtpbnmhnbkfnaeaaGreatDoor
open Go.RowKit Nt
abbrev Zt:Array Value:=#[.bool false,.slice none 0 0,.bool false,.slice none 0 0]
abbrev zhC:Obj:=.cells #[.bool false,.slice none 0 0,.bool false,.slice none 0 0] 185
abbrev st4(w:World)(b:Nat)(u0 u1 u2 u3:Value):World:=(((w.setCell ⟨b,0,none⟩ u0).setCell ⟨b,1,none⟩ u1).setCell ⟨b,2,none⟩ u2).setCell ⟨b,3,none⟩ u3
theorem AtC.m0{w:World}{b:Nat}{x y z s:Value}{T:TypeId}(h:AtC w b #[x,y,z,s] T):w.cell? ⟨b,0,none⟩=some x:=h.c 0
theorem AtC.m1{w:World}{b:Nat}{x y z s:Value}{T:TypeId}(h:AtC w b #[x,y,z,s] T):w.cell? ⟨b,1,none⟩=some y:=h.c 1
theorem AtC.m2{w:World}{b:Nat}{x y z s:Value}{T:TypeId}(h:AtC w b #[x,y,z,s] T):w.cell? ⟨b,2,none⟩=some z:=h.c 2
theorem AtC.m3{w:World}{b:Nat}{x y z s:Value}{T:TypeId}(h:AtC w b #[x,y,z,s] T):w.cell? ⟨b,3,none⟩=some s:=h.c 3
theorem AtC.set4{w:World}{b:Nat}{x y z s:Value}{T:TypeId}(h:AtC w b #[x,y,z,s] T)(u v t r:Value):AtC (st4 w b u v t r) b #[u,v,t,r] T:=by
 have e:∀(w:World)(i:Nat)(cs:Array Value)(u:Value),AtC w b cs T->AtC (w.setCell ⟨b,i,none⟩ u) b (cs.setIfInBounds i u) T:=by
  intro w i cs u h;show(w.heap.modify b _)[b]? =_;rw[UN,uj rfl,show w.heap[b]? =_ from h];rfl
 exact e _ 3 _ _ (e _ 2 _ _ (e _ 1 _ _ (e _ 0 _ _ h)))
theorem AtC.far1{w:World}{b g i:Nat}{cs:Array Value}{T:TypeId}(h:AtC w g cs T)(hne:g≠b)(u:Value):AtC (w.setCell ⟨b,i,none⟩ u) g cs T:=by
 unfold AtC;rw[Uj _ _ _ _ hne];exact h
theorem AtC.far4'{w:World}{b g:Nat}{cs:Array Value}{T:TypeId}(h:AtC w g cs T)(hne:g≠b)(u v t r:Value):AtC (st4 w b u v t r) g cs T:=
 (((h.far1 hne u).far1 hne v).far1 hne t).far1 hne r
theorem QX{w:World}{b x:Nat}{v:Value}{cs:Array Value}{T:TypeId}(h:zy w v x)(hM:AtC w b cs T)(hT:T≠173):v.ownBlock≠some b:=by
 unfold AtC at hM;rcases h.2 with⟨rfl,_⟩|⟨g1,c1,k1,rfl,_,hg1,_⟩
 . intro e;simp[Value.ownBlock]at e
 . intro e
   simp[Value.ownBlock]at e;subst e;rw[hg1]at hM;simp at hM;exact hT hM.2.symm
theorem Qr{w:World}{b i x:Nat}{v:Value}(h:zy w v x)(hne:v.ownBlock≠some b)(u:Value):zy (w.setCell ⟨b,i,none⟩ u) v x:=by
 rcases h.2 with⟨rfl,h0⟩|⟨g1,c1,k1,rfl,hb,hg1,r⟩
 . exact⟨h.1,.inl ⟨rfl,h0⟩⟩
 . refine⟨h.1,.inr ⟨g1,c1,k1,rfl,hb,?_,r⟩⟩
   have:g1≠b:=fun e=>hne (by rw[e];rfl)
   rw[Uj _ _ _ _ this];exact hg1
theorem xe{w:World}{b x:Nat}{v:Value}(h:zy w v x)(hne:v.ownBlock≠some b)(u0 u1 u2 u3:Value):zy (st4 w b u0 u1 u2 u3) v x:=
 Qr (Qr (Qr (Qr h hne u0) hne u1) hne u2) hne u3
theorem Yg{B:Nat}{a w:World}(h:Below B a w){b:Nat}(hb:B<=b)(u v t r:Value):Below B a (st4 w b u v t r):=
 (((h.setCell (p:=⟨b,0,none⟩) hb u).setCell (p:=⟨b,1,none⟩) hb v).setCell (p:=⟨b,2,none⟩) hb t).setCell (p:=⟨b,3,none⟩) hb r
abbrev FT:TypeId:=185
def KS(w:World)(g:Nat)(n:Bool)(x q:Nat):Prop:=∃p c p' c',AtC w g #[.bool n,.slice p (gr x).length c,.bool false,.slice p' (gr q).length c'] FT/\zy w (.slice p (gr x).length c) x/\zy w (.slice p' (gr q).length c') q
section
variable {w:World} {n m:Bool} {x q y r:Nat} {p p' p2 p3:Option Addr} {c c' c2 c3:Nat}
theorem zbQ{b:Nat}(hM:AtC w b Zt FT)(h1:zy w (.slice p (gr x).length c) x)(h2:zy w (.slice p' (gr q).length c') q):KS (st4 w b (.bool n) (.slice p (gr x).length c) (.bool false) (.slice p' (gr q).length c')) b n x q:=
 ⟨p,c,p',c',hM.set4 _ _ _ _,xe h1 (QX h1 hM (by decide)) _ _ _ _,xe h2 (QX h2 hM (by decide)) _ _ _ _⟩
theorem zfE{g b:Nat}(h:KS w g n x q)(hM:AtC w b Zt FT)(hne:g≠b)(u0 u1 u2 u3:Value):KS (st4 w b u0 u1 u2 u3) g n x q:=by
 obtain⟨p,c,p',c',h1,h2,h3⟩:=h;exact⟨p,c,p',c',h1.far4' hne _ _ _ _,xe h2 (QX h2 hM (by decide)) _ _ _ _,xe h3 (QX h3 hM (by decide)) _ _ _ _⟩
def zgA(W:World)(n m:Bool)(x q y r:Nat)(s5 s6:Value)(wx:World):Prop:=
 ∃g h,s5=.pointer (some ⟨g,0,none⟩)/\s6=.pointer (some ⟨h,0,none⟩)/\KS wx g n x q/\KS wx h m y r/\Below W.heap.size W wx
end
end Go.Proofs.YtpbnmhnbkfnaeaaGreatDoor
namespace Go.Proofs.YtpbnmhnbkfnaeaaGreatDoor
open Go.RowKit Nt
def FrV(w:World)(n:Bool)(x q:Nat)(v:Value):Prop:=∃p c p' c',v=.agg #[.bool n,.slice p (gr x).length c,.bool false,.slice p' (gr q).length c']/\zy w (.slice p (gr x).length c) x/\zy w (.slice p' (gr q).length c') q
theorem FrV.below{w w':World}{n:Bool}{x q:Nat}{v:Value}(h:FrV w n x q v)(hb:Below w.heap.size w w'):FrV w' n x q v:=by
 obtain⟨p,c,p',c',e,h1,h2⟩:=h;exact⟨p,c,p',c',e,zt h1 hb,zt h2 hb⟩
theorem FrV.st4{w:World}{b:Nat}{n:Bool}{x q:Nat}{v:Value}(h:FrV w n x q v)(hM:AtC w b Zt FT)(u0 u1 u2 u3:Value):FrV (st4 w b u0 u1 u2 u3) n x q v:=by
 obtain⟨p,c,p',c',e,h1,h2⟩:=h;exact⟨p,c,p',c',e,xe h1 (QX h1 hM (by decide)) _ _ _ _,xe h2 (QX h2 hM (by decide)) _ _ _ _⟩
theorem zcK{w w':World}{g:Nat}{n:Bool}{x q:Nat}(h:KS w g n x q)(hb:Below w.heap.size w w'):KS w' g n x q:=by
 obtain⟨p,c,p',c',h1,h2,h3⟩:=h;exact⟨p,c,p',c',h1.below hb,zt h2 hb,zt h3 hb⟩
def Box(l:Array Bool)(k:Nat)(w:World)(g:Nat)(n:Bool)(x q:Nat):Prop:=(¬LL l k/\AtC w g Zt FT)\/(LL l k/\KS w g n x q)
theorem Box.lt{l:Array Bool}{k g:Nat}{w:World}{n:Bool}{x q:Nat}(h:Box l k w g n x q):g<w.heap.size:=by
 rcases h with⟨_,h⟩|⟨_,_,_,_,_,h,_⟩<;>exact h.lt
theorem Box.below{l:Array Bool}{k g:Nat}{w w':World}{n:Bool}{x q:Nat}(h:Box l k w g n x q)(hb:Below w.heap.size w w'):Box l k w' g n x q:=by
 rcases h with⟨e,h⟩|⟨e,h⟩
 . exact .inl ⟨e,h.below hb⟩
 . exact .inr ⟨e,zcK h hb⟩
theorem Box.far{l:Array Bool}{k g b:Nat}{w:World}{n:Bool}{x q:Nat}(h:Box l k w g n x q)(hM:AtC w b Zt FT)(hne:g≠b)(u0 u1 u2 u3:Value):Box l k (st4 w b u0 u1 u2 u3) g n x q:=by
 rcases h with⟨e,h⟩|⟨e,h⟩
 . exact .inl ⟨e,h.far4' hne _ _ _ _⟩
 . exact .inr ⟨e,zfE h hM hne _ _ _ _⟩
theorem Box.step{l l':Array Bool}{k g:Nat}{w:World}{n:Bool}{x q:Nat}(h:Box l k w g n x q)(hk:LL l' k↔LL l k):Box l' k w g n x q:=by
 unfold Box at h⊢;rw[hk];exact h
structure NStep(W:World)(n1 n2:Bool)(x1 y1 x2 y2:Nat)(t0 t2:Value)(l:Array Bool)(x:Nat->Value)(w:World):Prop where
 sz:l.size=8
 bl:Below W.heap.size W w
 v0:LL l 0->x 0=t0
 v2:LL l 2->x 2=t2
 f1:LL l 1->FrV w n1 x1 y1 (x 1)
 f3:LL l 3->FrV w n2 x2 y2 (x 3)
 c6:LL l 6->LL l 4
 c7:LL l 7->LL l 5
 b4:LL l 4->∃g,x 4=.pointer (some ⟨g,0,none⟩)/\W.heap.size<=g/\Box l 6 w g n1 x1 y1
 b5:LL l 5->∃g,x 5=.pointer (some ⟨g,0,none⟩)/\W.heap.size<=g/\Box l 7 w g n2 x2 y2
 ne:LL l 4->LL l 5->x 4≠x 5
section
variable {W w w':World} {n1 n2:Bool} {x1 y1 x2 y2:Nat} {t0 t2 u:Value} {l:Array Bool} {x:Nat->Value}
theorem NStep.start(n:l=Array.replicate 8 false)(h:Below W.heap.size W w):NStep W n1 n2 x1 y1 x2 y2 t0 t2 l x w:=by
 subst n;have hn:∀j,¬LL (Array.replicate 8 false) j:=fun j h=>by unfold LL at h;simp[we]at h
 exact⟨by simp,h,fun h=>absurd h (hn _),fun h=>absurd h (hn _),fun h=>absurd h (hn _),fun h=>absurd h (hn _),fun h=>absurd h (hn _),fun h=>absurd h (hn _),fun h=>absurd h (hn _),fun h=>absurd h (hn _),fun h=>absurd h (hn _)⟩
theorem NStep.next(h:NStep W n1 n2 x1 y1 x2 y2 t0 t2 l x w)(i:Nat)(hi:i<6)(hl:¬LL l i)(u:Value)(hb:Below w.heap.size w w')
  (h0:i=0->u=t0)(h2:i=2->u=t2)(h1:i=1->FrV w' n1 x1 y1 u)(h3:i=3->FrV w' n2 x2 y2 u)
  (h4:(i=4\/i=5)->u=.pointer (some ⟨w.heap.size,0,none⟩)/\AtC w' w.heap.size Zt FT):
  NStep W n1 n2 x1 y1 x2 y2 t0 t2 (l.setIfInBounds i true) (fun j=>if j=i then u else x j) w':=by
 have hs:=fun j=>j8 (l:=l) (i:=i) (by rw[h.sz];omega) j
 have hk:∀ {j},j≠i->(LL (l.setIfInBounds i true) j↔LL l j):=fun{j} e=>by rw[hs];simp[e]
 have hx:∀ {j},j≠i->(if j=i then u else x j)=x j:=fun{j} e=>ul e
 have hB:Below W.heap.size W w':=zi h.bl hb;refine⟨by simp[h.sz],hB,fun e=>?_,fun e=>?_,fun e=>?_,fun e=>?_,fun e=>?_,fun e=>?_,fun e=>?_,fun e=>?_,fun e e'=>?_⟩
 . by_cases c:i=0
   . subst c;exact h0 rfl
   . rw[hx (U8 c)];exact h.v0 ((hk (U8 c)).1 e)
 . by_cases c:i=2
   . subst c;exact h2 rfl
   . rw[hx (U8 c)];exact h.v2 ((hk (U8 c)).1 e)
 . by_cases c:i=1
   . subst c;exact h1 rfl
   . rw[hx (U8 c)];exact(h.f1 ((hk (U8 c)).1 e)).below hb
 . by_cases c:i=3
   . subst c;exact h3 rfl
   . rw[hx (U8 c)];exact(h.f3 ((hk (U8 c)).1 e)).below hb
 . exact(hs 4).2 (.inr (h.c6 ((hk (by omega)).1 e)))
 . exact(hs 5).2 (.inr (h.c7 ((hk (by omega)).1 e)))
 . by_cases c:i=4
   . subst c
     obtain⟨e1,e2⟩:=h4 (.inl rfl);exact⟨w.heap.size,e1,h.bl.size,.inl ⟨fun q=>hl (h.c6 ((hk (by omega)).1 q)),e2⟩⟩
   . rw[hx (U8 c)]
     obtain⟨g,e1,e2,e3⟩:=h.b4 ((hk (U8 c)).1 e);exact⟨g,e1,e2,(e3.below hb).step (hk (by omega))⟩
 . by_cases c:i=5
   . subst c
     obtain⟨e1,e2⟩:=h4 (.inr rfl);exact⟨w.heap.size,e1,h.bl.size,.inl ⟨fun q=>hl (h.c7 ((hk (by omega)).1 q)),e2⟩⟩
   . rw[hx (U8 c)]
     obtain⟨g,e1,e2,e3⟩:=h.b5 ((hk (U8 c)).1 e);exact⟨g,e1,e2,(e3.below hb).step (hk (by omega))⟩
 . by_cases c:i=4
   . subst c
     obtain⟨e1,_⟩:=h4 (.inl rfl);rw[hx (j:=5) (by omega)];obtain⟨g,q1,_,q3⟩:=h.b5 ((hk (by omega)).1 e');rw[q1,uj rfl,e1];intro q;simp at q;have:=q3.lt;omega
   . by_cases c':i=5
     . subst c'
       obtain⟨e1,_⟩:=h4 (.inr rfl);rw[hx (j:=4) (by omega)];obtain⟨g,q1,_,q3⟩:=h.b4 ((hk (by omega)).1 e);rw[q1,uj rfl,e1];intro q;simp at q;have:=q3.lt;omega
     . rw[hx (U8 c),hx (U8 c')]
       exact h.ne ((hk (U8 c)).1 e) ((hk (U8 c')).1 e')
theorem NStep.do6(h:NStep W n1 n2 x1 y1 x2 y2 t0 t2 l x w)(hl:¬LL l 6)(h1:LL l 1)(h4:LL l 4):∃g p c p' c',x 4=.pointer (some ⟨g,0,none⟩)/\AtC w g Zt FT/\x 1=.agg #[.bool n1,.slice p (gr x1).length c,.bool false,.slice p' (gr y1).length c']/\
  NStep W n1 n2 x1 y1 x2 y2 t0 t2 (l.setIfInBounds 6 true) x (st4 w g (.bool n1) (.slice p (gr x1).length c) (.bool false) (.slice p' (gr y1).length c')):=by
 obtain⟨g,e1,e2,e3⟩:=h.b4 h4;obtain⟨p,c,p',c',q1,q2,q3⟩:=h.f1 h1;rcases e3 with⟨_,e3⟩|⟨e,_⟩
 . have hs:=fun j=>j8 (l:=l) (i:=6) (by rw[h.sz];omega) j
   have hk:∀ {j},j≠6->(LL (l.setIfInBounds 6 true) j↔LL l j):=fun{j} e=>by rw[hs];simp[e]
   refine⟨g,p,c,p',c',e1,e3,q1,by simp[h.sz],Yg h.bl e2 _ _ _ _,fun e=>h.v0 ((hk (by omega)).1 e),fun e=>h.v2 ((hk (by omega)).1 e),fun e=>(h.f1 ((hk (by omega)).1 e)).st4 e3 _ _ _ _,fun e=>(h.f3 ((hk (by omega)).1 e)).st4 e3 _ _ _ _,fun _=>(hk (by omega)).2 h4,fun e=>(hk (by omega)).2 (h.c7 ((hk (by omega)).1 e)),fun _=>⟨g,e1,e2,.inr ⟨(hs 6).2 (.inl rfl),zbQ e3 q2 q3⟩⟩,fun e=>?_,fun e e'=>h.ne ((hk (by omega)).1 e) ((hk (by omega)).1 e')⟩;obtain⟨g',r1,r2,r3⟩:=h.b5 ((hk (by omega)).1 e);exact⟨g',r1,r2,(r3.far e3 (fun q=>h.ne h4 ((hk (by omega)).1 e) (by rw[e1,r1,q])) _ _ _ _).step (hk (by omega))⟩
 . exact absurd e hl
theorem NStep.do7(h:NStep W n1 n2 x1 y1 x2 y2 t0 t2 l x w)(hl:¬LL l 7)(h3:LL l 3)(h5:LL l 5):∃g p c p' c',x 5=.pointer (some ⟨g,0,none⟩)/\AtC w g Zt FT/\x 3=.agg #[.bool n2,.slice p (gr x2).length c,.bool false,.slice p' (gr y2).length c']/\
  NStep W n1 n2 x1 y1 x2 y2 t0 t2 (l.setIfInBounds 7 true) x (st4 w g (.bool n2) (.slice p (gr x2).length c) (.bool false) (.slice p' (gr y2).length c')):=by
 obtain⟨g,e1,e2,e3⟩:=h.b5 h5;obtain⟨p,c,p',c',q1,q2,q3⟩:=h.f3 h3;rcases e3 with⟨_,e3⟩|⟨e,_⟩
 . have hs:=fun j=>j8 (l:=l) (i:=7) (by rw[h.sz];omega) j
   have hk:∀ {j},j≠7->(LL (l.setIfInBounds 7 true) j↔LL l j):=fun{j} e=>by rw[hs];simp[e]
   refine⟨g,p,c,p',c',e1,e3,q1,by simp[h.sz],Yg h.bl e2 _ _ _ _,fun e=>h.v0 ((hk (by omega)).1 e),fun e=>h.v2 ((hk (by omega)).1 e),fun e=>(h.f1 ((hk (by omega)).1 e)).st4 e3 _ _ _ _,fun e=>(h.f3 ((hk (by omega)).1 e)).st4 e3 _ _ _ _,fun e=>(hk (by omega)).2 (h.c6 ((hk (by omega)).1 e)),fun _=>(hk (by omega)).2 h5,fun e=>?_,fun _=>⟨g,e1,e2,.inr ⟨(hs 7).2 (.inl rfl),zbQ e3 q2 q3⟩⟩,fun e e'=>h.ne ((hk (by omega)).1 e) ((hk (by omega)).1 e')⟩;obtain⟨g',r1,r2,r3⟩:=h.b4 ((hk (by omega)).1 e);exact⟨g',r1,r2,(r3.far e3 (fun q=>h.ne ((hk (by omega)).1 e) h5 (by rw[e1,r1,q])) _ _ _ _).step (hk (by omega))⟩
 . exact absurd e hl
theorem NStep.done(h:NStep W n1 n2 x1 y1 x2 y2 t0 t2 l x w)(h6:LL l 6)(h7:LL l 7):zgA W n1 n2 x1 y1 x2 y2 (x 4) (x 5) w:=by
 obtain⟨g,e1,_,e3⟩:=h.b4 (h.c6 h6);obtain⟨g',r1,_,r3⟩:=h.b5 (h.c7 h7);rcases e3 with⟨e,_⟩|⟨_,e3⟩
 . exact absurd h6 e
 rcases r3 with⟨e,_⟩|⟨_,r3⟩
 . exact absurd h7 e
 exact⟨g,g',e1,r1,e3,r3,h.bl⟩
end
end Go.Proofs.YtpbnmhnbkfnaeaaGreatDoor
namespace Go.Proofs.YtpbnmhnbkfnaeaaGreatDoor
open Go.RowKit Nt
theorem zej(neg:Bool)(a q:Nat)(w:World)(ha:(zr a).size<=60)(hq:(zr q).size<=60)(hT:Tens w):
  Calls Tryz.prog 160 #[.agg #[.bool neg,.string (zr a),.string (zr q)]] w fun e w'=>(∃p c p' c',e=.returned (.agg #[.bool neg,.slice p (gr a).length c,.bool false,.slice p' (gr q).length c'])/\zy w' (.slice p (gr a).length c) a/\zy w' (.slice p' (gr q).length c') q)/\Below w.heap.size w w':=by
 refine(Y7 neg a q w ha hq hT).mono ?_;rintro e w'⟨⟨v,u,rfl,hv,hu⟩,hb⟩;obtain⟨p,c,rfl⟩:=zq hv;obtain⟨p',c',rfl⟩:=zq hu;exact⟨⟨p,c,p',c',rfl,hv.nat,hu.nat⟩,hb⟩
theorem zcF(n1 n2:Bool)(x1 y1 x2 y2:Nat):sgW (yB (n1,x1*y2) (!n2,x2*y1))=vb (n1,x1,y1) (n2,x2,y2):=by
 rw[zgf,zdi,zcf,zcf,zgg,Int.neg_mul];rfl
theorem za2(n1 n2:Bool)(x1 y1 x2 y2:Nat)(w:World)(sx1:(zr x1).size<=60)(sy1:(zr y1).size<=60)(sx2:(zr x2).size<=60)(sy2:(zr y2).size<=60)(hT:Tens w)(h3:3<w.heap.size)
  (ho1:vC n1 (qj 10 x1) (qj 10 y1)=true)(ho2:vC n2 (qj 10 x2) (qj 10 y2)=true):
  Calls Tryz.prog 129 #[.agg #[.bool n1,.string (zr x1),.string (zr y1)],.agg #[.bool n2,.string (zr x2),.string (zr y2)]] w fun e w'=>e=.returned (.int .i64 (vb (n1,x1,y1) (n2,x2,y2)))/\Below w.heap.size w w':=by
 obtain⟨R,hR⟩:∃R,vb (n1,x1,y1) (n2,x2,y2)=R:=⟨_,rfl⟩
 rw[hR];have HCR:=zb hR;clear hR;have HO1:=zb (fun W h=>(by have:=vz n1 (qj 10 x1) (qj 10 y1) W (by rw[<-zJ];omega) (by rw[<-zJ];omega) h;rw[ho1]at this;exact this:Calls Tryz.prog 159 #[.agg #[.bool n1,.string (zr x1),.string (zr y1)]] W fun e w'=>e=.returned (.bool true)/\Below W.heap.size W w'));have HO2:=zb (fun W h=>(by have:=vz n2 (qj 10 x2) (qj 10 y2) W (by rw[<-zJ];omega) (by rw[<-zJ];omega) h;rw[ho2]at this;exact this:Calls Tryz.prog 159 #[.agg #[.bool n2,.string (zr x2),.string (zr y2)]] W fun e w'=>e=.returned (.bool true)/\Below W.heap.size W w'));have HF1:=zb (fun W h=>zej n1 x1 y1 W sx1 sy1 h);have HF2:=zb (fun W h=>zej n2 x2 y2 W sx2 sy2 h);have HSX:=zb (And.intro sx1 (And.intro sy1 (And.intro sx2 sy2)));have HTL:=zb h3;have hb00:=jy w (.bool n1) (.string (zr x1)) (.string (zr y1)) (.bool n2) (.string (zr x2)) (.string (zr y2)) 79;have HB0:=zb hb00;have HA10:=zb ((AtC3.new w (.bool n1) (.string (zr x1)) (.string (zr y1)) 79).below (zf (ue _ _) (.cells #[.bool n2,.string (zr x2),.string (zr y2)] 79)));have HA20:=zb (AtC3.new (w.alloc (.cells #[.bool n1,.string (zr x1),.string (zr y1)] 79)) (.bool n2) (.string (zr x2)) (.string (zr y2)) 79);rw[uk]at HA20;clear ho1 ho2 sx1 sy1 sx2 sy2 hb00;go_enter Tryz.func129,Tryz.ntmps129;go_wp2_with fail;obtain⟨W0,hW⟩:∃W,(w.alloc (.cells #[.bool n1,.string (zr x1),.string (zr y1)] 79)).alloc (.cells #[.bool n2,.string (zr x2),.string (zr y2)] 79)=W:=⟨_,rfl⟩
 rw[hW]at HB0 HA10 HA20⊢;clear hW;refine(za HO1 W0 (hT.belowB (za HB0) h3)).mono ?_;rintro e Wa⟨rfl,hba⟩;have HBa:=zb (zi (za HB0) hba);have HA1a:=zb ((za HA10).below hba);have HA2a:=zb ((za HA20).below hba);have r0:=(za HA2a).n0;have r1:=(za HA2a).n1;have r2:=(za HA2a).n2;clear hba;go_wp2_with fail;refine(za HO2 Wa (hT.belowB (za HBa) h3)).mono ?_;rintro e W⟨rfl,hbb⟩;have HB:=zb (zi (za HBa) hbb);have HA1:=zb ((za HA1a).below hbb);have HA2:=zb ((za HA2a).below hbb);have HT:=zb (hT.belowB (za HB) h3);have HTL2:Hid (3<W.heap.size):=zb (by have:=(za HB).size;omega);clear hbb r0 r1 r2 HTL hT h3 HBa HA1a HA2a HB0 HA10 HA20;have HTL:=HTL2;have a0:=(za HA1).n0;have a1:=(za HA1).n1;have a2:=(za HA1).n2;have a3:=(za HA2).n0;have a4:=(za HA2).n1;have a5:=(za HA2).n2;have HSIX:Hid (∀w',Below W.heap.size W w'->w'.cell? ⟨w.heap.size,0,none⟩=some (.bool n1)/\w'.cell? ⟨w.heap.size,1,none⟩=some (.string (zr x1))/\w'.cell? ⟨w.heap.size,2,none⟩=some (.string (zr y1))/\w'.cell? ⟨w.heap.size+1,0,none⟩=some (.bool n2)/\w'.cell? ⟨w.heap.size+1,1,none⟩=some (.string (zr x2))/\w'.cell? ⟨w.heap.size+1,2,none⟩=some (.string (zr y2))):=zb (fun w' h=>⟨((za HA1).below h).n0,((za HA1).below h).n1,((za HA1).below h).n2,((za HA2).below h).n0,((za HA2).below h).n1,((za HA2).below h).n2⟩);go_wp2_with fail
 go_cut [5,6]from 15 to 18 (fun s5 s6 wx=>zgA W n1 n2 x1 y1 x2 y2 s5 s6 wx)
 case first=>
  refine wH (by kernel_rfl) ?_;change wpAny _ _ _ _ _ _ _ (World.drew _);refine qS (fun l a w'=>∃x:Nat->Value,a=⟨#[.agg #[.bool n1,.string (zr x1),.string (zr y1)],.agg #[.bool n2,.string (zr x2),.string (zr y2)],.pointer (some ⟨w.heap.size,0,none⟩),.pointer (some ⟨w.heap.size+1,0,none⟩),.int .i64 0,x 4,x 5,.agg #[.bool n1,.string (zr x1),.string (zr y1)],.bool true,.bool false,.bool false,.agg #[.bool n2,.string (zr x2),.string (zr y2)],.bool true,.bool false,.bool false,x 0,x 1,x 2,x 3,undef,undef,undef,undef,undef,undef,undef,undef,undef,undef,undef],[]⟩/\NStep W n1 n2 x1 y1 x2 y2 (.agg #[.bool n1,.string (zr x1),.string (zr y1)]) (.agg #[.bool n2,.string (zr x2),.string (zr y2)]) l x w') ?hsz ?hend ?hstep ?hgo _ _ _ _ ?h0 ?hc
  case hsz=>
   rintro l a w'⟨x,_,h⟩;exact h.sz
  case h0=>exact⟨fun _=>undef,rfl,NStep.start rfl (ue _ _).drew⟩
  case hc=>exact UA rfl
  case hgo=>
   rintro l a w'⟨x,rfl,h⟩ hr j hj;have k0:l[0]? =some true:=zo hr 0 (by simp) (by rw[h.sz];rfl) (by simp[Region.binds,ua]);have k2:l[2]? =some true:=zo hr 2 (by simp) (by rw[h.sz];rfl) (by simp[Region.binds,ua]);have k4:l[4]? =some true:=zo hr 4 (by simp) (by rw[h.sz];rfl) (by simp[Region.binds,ua]);have k5:l[5]? =some true:=zo hr 5 (by simp) (by rw[h.sz];rfl) (by simp[Region.binds,ua]);have k1:l[1]? =some true:=zo hr 1 (by simp) (by rw[h.sz];rfl) (by simp[Region.binds,ua,k0]);have k3:l[3]? =some true:=zo hr 3 (by simp) (by rw[h.sz];rfl) (by simp[Region.binds,ua,k2,k1]);have k6:l[6]? =some true:=zo hr 6 (by simp) (by rw[h.sz];rfl) (by simp[Region.binds,ua,k0,k2,k4,k5,k1,k3]);have k7:l[7]? =some true:=zo hr 7 (by simp) (by rw[h.sz];rfl) (by simp[Region.binds,ua,k0,k2,k4,k5,k1,k3,k6]);have hj:j<8:=by simpa using hj
   rcases(by omega:j=0\/j=1\/j=2\/j=3\/j=4\/j=5\/j=6\/j=7)with rfl|rfl|rfl|rfl|rfl|rfl|rfl|rfl
   all_goals assumption
  case hstep=>
   rintro l a w' j⟨x,rfl,h⟩ hi;have hi2:=hi;unfold Region.ready at hi2;rw[uK]at hi2;obtain⟨hjj,hi3⟩:=hi2;have hjj:j<8:=by simpa using hjj
   have hjl:¬LL l j:=fun e=>by
    unfold LL at e;simp[ua,e]at hi3
   clear hi;rcases(by omega:j=0\/j=1\/j=2\/j=3\/j=4\/j=5\/j=6\/j=7)with rfl|rfl|rfl|rfl|rfl|rfl|rfl|rfl
   . clear hi3
     obtain⟨y0,y1',y2',z0,z1,z2⟩:=(za HSIX) w' h.bl;refine uh rfl (fun K hK=>?_);go_simp;exact hK _ _ ⟨_,by simp,h.next 0 (by omega) hjl (.agg #[.bool n1,.string (zr x1),.string (zr y1)]) (ue _ _) (fun _=>rfl) (fun e=>by omega) (fun e=>by omega) (fun e=>by omega) (fun e=>by omega)⟩
   . have l0:LL l 0:=zA (by simp[Region.binds,ua]at hi3;simp[hi3])
     clear hi3;have x0':=h.v0 l0;refine uh rfl (fun K hK=>?_);go_simp
     go_at_call 160
     refine(za HF1 w' ((za HT).belowB h.bl (za HTL))).mono ?_;rintro e w1⟨⟨p,c,p',c',rfl,hv,hu⟩,hb⟩
     (try dsimp only)
     exact hK _ _ ⟨_,by simp[x0'],h.next 1 (by omega) hjl _ hb (fun e=>by omega) (fun e=>by omega) (fun _=>⟨p,c,p',c',rfl,hv,hu⟩) (fun e=>by omega) (fun e=>by omega)⟩
   . clear hi3
     obtain⟨y0,y1',y2',z0,z1,z2⟩:=(za HSIX) w' h.bl;refine uh rfl (fun K hK=>?_);go_simp;exact hK _ _ ⟨_,by simp,h.next 2 (by omega) hjl (.agg #[.bool n2,.string (zr x2),.string (zr y2)]) (ue _ _) (fun e=>by omega) (fun _=>rfl) (fun e=>by omega) (fun e=>by omega) (fun e=>by omega)⟩
   . have l2:LL l 2:=zA (by simp[Region.binds,ua]at hi3;simp[hi3])
     clear hi3;have x2':=h.v2 l2;refine uh rfl (fun K hK=>?_);go_simp
     go_at_call 160
     refine(za HF2 w' ((za HT).belowB h.bl (za HTL))).mono ?_;rintro e w1⟨⟨p,c,p',c',rfl,hv,hu⟩,hb⟩
     (try dsimp only)
     exact hK _ _ ⟨_,by simp[x2'],h.next 3 (by omega) hjl _ hb (fun e=>by omega) (fun e=>by omega) (fun e=>by omega) (fun _=>⟨p,c,p',c',rfl,hv,hu⟩) (fun e=>by omega)⟩
   . clear hi3
     refine uh rfl (fun K hK=>?_);go_simp;exact hK _ _ ⟨_,by simp,h.next 4 (by omega) hjl (.pointer (some ⟨w'.heap.size,0,none⟩)) (zf (ue _ _) zhC) (fun e=>by omega) (fun e=>by omega) (fun e=>by omega) (fun e=>by omega) (fun _=>⟨rfl,AtC.new _ _ _⟩)⟩
   . clear hi3
     refine uh rfl (fun K hK=>?_);go_simp;exact hK _ _ ⟨_,by simp,h.next 5 (by omega) hjl (.pointer (some ⟨w'.heap.size,0,none⟩)) (zf (ue _ _) zhC) (fun e=>by omega) (fun e=>by omega) (fun e=>by omega) (fun e=>by omega) (fun _=>⟨rfl,AtC.new _ _ _⟩)⟩
   . have l1:LL l 1:=zA (by simp[Region.binds,ua]at hi3;simp[hi3])
     have l4:LL l 4:=zA (by simp[Region.binds,ua]at hi3;simp[hi3]);clear hi3;obtain⟨g,p,c,p',c',e5,hM,e1,hn⟩:=h.do6 hjl l1 l4;have m0:=hM.m0;have m1:=hM.m1;have m2:=hM.m2;have m3:=hM.m3;have mf:=hM.f;have HN:=zb hn;clear hM hn;refine uh rfl (fun K hK=>?_);go_simp;exact hK _ _ ⟨_,by simp[e1,e5],za HN⟩
   . have l3:LL l 3:=zA (by simp[Region.binds,ua]at hi3;simp[hi3])
     have l5:LL l 5:=zA (by simp[Region.binds,ua]at hi3;simp[hi3]);clear hi3;obtain⟨g,p,c,p',c',e5,hM,e1,hn⟩:=h.do7 hjl l3 l5;have m0:=hM.m0;have m1:=hM.m1;have m2:=hM.m2;have m3:=hM.m3;have mf:=hM.f;have HN:=zb hn;clear hM hn;refine uh rfl (fun K hK=>?_);go_simp;exact hK _ _ ⟨_,by simp[e1,e5],za HN⟩
  case hend=>
   rintro l a w'⟨x,rfl,h⟩ hall;have HD:=zb (h.done (hall 6 (by simp)) (hall 7 (by simp)));clear h hall;go_wp2_with fail;go_meet;exact za HD
 case rest=>
 obtain⟨g,h,rfl,rfl,⟨p1,c1,q1,e1,hM1,v1,u1⟩,⟨p2,c2,q2,e2,hM2,v2,u2⟩,hb⟩:=hcut
 rename World=>w3
 have HB3:=zb (zi (za HB) hb);have HG:=zb hM1;have HH:=zb hM2;have HV1:=zb v1;have HU1:=zb u1;have HV2:=zb v2;have HU2:=zb u2;have a0:=hM1.m0;have a1:=hM1.m1;have a2:=hM1.m2;have a3:=hM1.m3;have b0:=hM2.m0;have b1:=hM2.m1;have b2:=hM2.m2;have b3:=hM2.m3;have HE8:Hid (∀w',Below w3.heap.size w3 w'->w'.cell? ⟨g,0,none⟩=some (.bool n1)/\w'.cell? ⟨g,1,none⟩=some (.slice p1 (gr x1).length c1)/\w'.cell? ⟨g,2,none⟩=some (.bool false)/\w'.cell? ⟨g,3,none⟩=some (.slice q1 (gr y1).length e1)/\w'.cell? ⟨h,0,none⟩=some (.bool n2)/\w'.cell? ⟨h,1,none⟩=some (.slice p2 (gr x2).length c2)/\w'.cell? ⟨h,2,none⟩=some (.bool false)/\w'.cell? ⟨h,3,none⟩=some (.slice q2 (gr y2).length e2)):=zb (fun w' hb=>⟨(hM1.below hb).m0,(hM1.below hb).m1,(hM1.below hb).m2,(hM1.below hb).m3,(hM2.below hb).m0,(hM2.below hb).m1,(hM2.below hb).m2,(hM2.below hb).m3⟩);obtain⟨sx1,sy1,sx2,sy2⟩:=za HSX;have d1:=yE (Qk sx1 sy2);have d2:=yE (Qk sx2 sy1);have g1:=yE sx1;have g2:=yE sy1;have g3:=yE sx2;have g4:=yE sy2;have HT1:Hid (∀W,Below w3.heap.size w3 W->Calls Tryz.prog 161 #[ql n1 (.slice p1 (gr x1).length c1),ql false (.slice q2 (gr y2).length e2)] W fun e w'=>(∃p c,e=.returned (.agg #[.bool n1,.slice p (gr (x1*y2)).length c])/\zy w' (.slice p (gr (x1*y2)).length c) (x1*y2))/\Below W.heap.size W w'):=zb (fun W hb=>by have:=zak n1 false _ _ x1 y2 W (zt v1 hb) (zt u2 hb) (by omega) (by omega);simpa only[Bool.bne_false]using this);have HT2:Hid (∀W,Below w3.heap.size w3 W->Calls Tryz.prog 161 #[ql n2 (.slice p2 (gr x2).length c2),ql false (.slice q1 (gr y1).length e1)] W fun e w'=>(∃p c,e=.returned (.agg #[.bool n2,.slice p (gr (x2*y1)).length c])/\zy w' (.slice p (gr (x2*y1)).length c) (x2*y1))/\Below W.heap.size W w'):=zb (fun W hb=>by have:=zak n2 false _ _ x2 y1 W (zt v2 hb) (zt u1 hb) (by omega) (by omega);simpa only[Bool.bne_false]using this);have HWC:Hid (∀W v u,zy W v (x1*y2)->zy W u (x2*y1)->Calls Tryz.prog 162 #[ql n1 v,ql n2 u] W fun e w'=>e=.returned (.int .i64 R)/\Below W.heap.size W w'):=zb (fun W v u hv hu=>by rw[<-za HCR,<-zcF];exact zhm n1 n2 v u (x1*y2) (x2*y1) W hv hu (by omega) (by omega));clear hb hM1 hM2 v1 u1 v2 u2 sx1 sy1 sx2 sy2 d1 d2 g1 g2 g3 g4 HSX HSIX HCR;obtain⟨lx1,hl1⟩:∃l,(gr x1).length=l:=⟨_,rfl⟩
 obtain⟨ly1,hl2⟩:∃l,(gr y1).length=l:=⟨_,rfl⟩
 obtain⟨lx2,hl3⟩:∃l,(gr x2).length=l:=⟨_,rfl⟩
 obtain⟨ly2,hl4⟩:∃l,(gr y2).length=l:=⟨_,rfl⟩
 obtain⟨lm1,hl5⟩:∃l,(gr (x1*y2)).length=l:=⟨_,rfl⟩
 obtain⟨lm2,hl6⟩:∃l,(gr (x2*y1)).length=l:=⟨_,rfl⟩
 rw[hl1]at HE8 HT1 a1;rw[hl2]at HE8 HT2 a3;rw[hl3]at HE8 HT2 b1;rw[hl4]at HE8 HT1 b3;rw[hl5]at HT1;rw[hl6]at HT2;clear hl1 hl2 hl3 hl4 hl5 hl6 HG HH HV1 HU1 HV2 HU2;go_wp2_with fail
 go_region_held3 (fun w'=>w'.cell? ⟨g,0,none⟩=some (.bool n1)/\w'.cell? ⟨g,1,none⟩=some (.slice p1 lx1 c1)/\w'.cell? ⟨g,2,none⟩=some (.bool false)/\w'.cell? ⟨g,3,none⟩=some (.slice q1 ly1 e1)/\w'.cell? ⟨h,0,none⟩=some (.bool n2)/\w'.cell? ⟨h,1,none⟩=some (.slice p2 lx2 c2)/\w'.cell? ⟨h,2,none⟩=some (.bool false)/\w'.cell? ⟨h,3,none⟩=some (.slice q2 ly2 e2)) ((refine za HE8 _ ?_;first|with_reducible exact za HK3|with_reducible exact za HK2|with_reducible exact za HK1|exact(ue _ _).drew|exact ue _ _)) (first
  |(go_at_call_of 161 (Value.slice p1 lx1 c1);refine(za HT1 w3.drew (ue _ _).drew).mono ?_;rintro e w4⟨⟨r1,k1,rfl,hv1⟩,hb1⟩;have HK1:Hid (Below w3.heap.size w3 w4):=zb ((ue _ _).drew.trans hb1);have HV1:=zb hv1;clear hb1 hv1)
  |(go_at_call_of 161 (Value.slice p2 lx2 c2);refine(za HT2 w4 (za HK1)).mono ?_;rintro e w5⟨⟨r2,k2,rfl,hv2⟩,hb2⟩;have HK2:Hid (Below w3.heap.size w3 w5):=zb (zi (za HK1) hb2);have HV2:=zb hv2;have HV1':=zb (zt (za HV1) hb2);clear hb2 hv2)
  |(go_at_call 162;refine(za HWC w5 _ _ (za HV1') (za HV2)).mono ?_;rintro e w6⟨rfl,hb3⟩;have HK3:Hid (Below w3.heap.size w3 w6):=zb (zi (za HK2) hb3);clear hb3))
 all_goals
  go_wp2_with fail;go_ret;exact⟨rfl,zi (za HB3) (za HK3)⟩
theorem Kb(a b:T3)(w:World)(ha:Q8 a)(hb:Q8 b)(hT:Tens w)(h3:3<w.heap.size):
  Calls Tryz.prog 129 #[za3 a,za3 b] w fun e w'=>e=.returned (.int .i64 (Z0 a b))/\Below w.heap.size w w':=by
 obtain⟨n1,u1,d1⟩:=a;obtain⟨n2,u2,d2⟩:=b;obtain⟨ha1,ha2⟩:=ha;obtain⟨hb1,hb2⟩:=hb;simp only at ha1 ha2 hb1 hb2;by_cases hoo:vC n1 u1 d1=true/\vC n2 u2 d2=true
 . obtain⟨ho1,ho2⟩:=hoo
   obtain⟨m1,x1,y1,e1,v1,s1,s2,s3,s4⟩:=zf6 (t:=(n1,u1,d1)) ho1;obtain⟨m2,x2,y2,e2,v2,s5,s6,s7,s8⟩:=zf6 (t:=(n2,u2,d2)) ho2;rw[K8 (a:=(n1,u1,d1)) (b:=(n2,u2,d2)) ho1 ho2,v1,v2];unfold Q7 at e1 e2;simp only[wS]at e1 e2;obtain⟨rfl,rfl,rfl⟩:=e1;obtain⟨rfl,rfl,rfl⟩:=e2;exact za2 n1 n2 x1 y1 x2 y2 w s1 s2 s5 s6 hT h3 ho1 ho2
 have HQ:=zb (zbM (a:=(n1,u1,d1)) (b:=(n2,u2,d2)) (by
  show(vC n1 u1 d1&&vC n2 u2 d2)=false;cases h1:vC n1 u1 d1
  . rfl
  . cases h2:vC n2 u2 d2
    . rfl
    . exact absurd ⟨h1,h2⟩ hoo))
 have HN:=zb (fun(h:vC n1 u1 d1=true)=>Bool.eq_false_iff.2 (fun h'=>hoo ⟨h,h'⟩));have HB:=zb (jy w (.bool n1) (.string (B u1)) (.string (B d1)) (.bool n2) (.string (B u2)) (.string (B d2)) 79);have HA1:=zb ((AtC3.new w (.bool n1) (.string (B u1)) (.string (B d1)) 79).below (zf (ue _ _) (.cells #[.bool n2,.string (B u2),.string (B d2)] 79)));have HA2:=zb (AtC3.new (w.alloc (.cells #[.bool n1,.string (B u1),.string (B d1)] 79)) (.bool n2) (.string (B u2)) (.string (B d2)) 79);rw[uk]at HA2;have HT:=zb (fun W h=>hT.belowB (w':=W) h h3);have H1:=zb (fun W h=>vz n1 u1 d1 W (by omega) (by omega) h);have H2:=zb (fun W h=>vz n2 u2 d2 W (by omega) (by omega) h);unfold xD at H1 H2;show Calls Tryz.prog 129 #[.agg #[.bool n1,.string (B u1),.string (B d1)],.agg #[.bool n2,.string (B u2),.string (B d2)]] w _;clear ha1 ha2 hb1 hb2 hoo hT h3;go_enter Tryz.func129,Tryz.ntmps129;go_wp2_with fail;obtain⟨W,hW⟩:∃W,(w.alloc (.cells #[.bool n1,.string (B u1),.string (B d1)] 79)).alloc (.cells #[.bool n2,.string (B u2),.string (B d2)] 79)=W:=⟨_,rfl⟩
 rw[hW]at HB HA1 HA2⊢;clear hW;refine(za H1 W (za HT W (za HB))).mono ?_;rintro e w1⟨rfl,hb1⟩;have HB1:=zb (zi (za HB) hb1);have HC2:=zb ((za HA2).below hb1);clear hb1 HB HA1 HA2;cases ho1:vC n1 u1 d1 with
 |false=>
  clear ho1;go_wp2_with fail;go_ret;exact⟨zK (za HQ).symm,za HB1⟩
 |true=>
  have HNO:=zb (za HN ho1);have q0:=(za HC2).n0;have q1:=(za HC2).n1;have q2:=(za HC2).n2;clear ho1;go_wp2_with fail;refine(za H2 w1 (za HT w1 (za HB1))).mono ?_;rintro e w2⟨rfl,hb2⟩;have HB2:=zb (zi (za HB1) hb2);rw[za HNO];clear hb2 HB1 HC2 q0 q1 q2;go_wp2_with fail;go_ret;exact⟨zK (za HQ).symm,za HB2⟩
theorem zbT(a:Int)(w:World):Calls Tryz.prog 126 #[.int .i64 a] w fun e w'=>e=.returned (.bool false)/\w'=w:=by
 go_enter Tryz.func126,Tryz.ntmps126;go_wp2_with fail;go_ret;exact⟨rfl,rfl⟩
theorem K7(a b:Int)(w:World):Calls Tryz.prog 99 #[.int .i64 a,.int .i64 b] w fun e w'=>e=.returned (.int .i64 (j9 a b))/\w'=w:=by
 obtain⟨c,hc⟩:∃c,j9 a b=c:=⟨_,rfl⟩
 rw[hc];unfold j9 at hc;have HC:=zb hc;clear hc;go_enter Tryz.func99,Tryz.ntmps99;go_wp2_with fail;refine(zbT a w).mono ?_;rintro e w'⟨rfl,rfl⟩;go_wp2_with fail;refine(zbT b _).mono ?_;rintro e w'⟨rfl,rfl⟩;by_cases h1:a<b
 . have k1:decide (a<b)=true:=uy h1
   obtain rfl:c= -1:=by have:=za HC;rw[uj h1]at this;exact this.symm
   clear HC;go_wp2_with fail;go_ret;exact⟨rfl,rfl⟩
 . have k1:decide (a<b)=false:=uw h1
   by_cases h2:b<a
   . have k2:decide (b<a)=true:=uy h2
     obtain rfl:c=1:=by have:=za HC;rw[ul h1,uj h2]at this;exact this.symm
     clear HC;go_wp2_with fail;go_ret;exact⟨rfl,rfl⟩
   . have k2:decide (b<a)=false:=uw h2
     obtain rfl:c=0:=by have:=za HC;rw[ul h1,ul h2]at this;exact this.symm
     clear HC;go_wp2_with fail;go_ret;exact⟨rfl,rfl⟩
def ZN(k:Int)(t s:List UInt8):Int:=if k≠1\/t=s then Lib.compareBytes t s else Z0 (j5 t) (j5 s)
theorem zdz(k m:Int)(t s:List UInt8)(p q:Option Addr)(l r c d:Nat)(w:World)(hsT:t.length<=1000)(hsS:s.length<=1000)(hT:Tens w)(h3:3<w.heap.size):
  Calls Tryz.prog 100 #[.agg #[.int .i64 k,.string (B t),.slice p l c],.agg #[.int .i64 m,.string (B s),.slice q r d]] w fun e w'=>e=.returned (.int .i64 (ZN k t s))/\Below w.heap.size w w':=by
 have HB:=zb (jy w (.int .i64 k) (.string (B t)) (.slice p l c) (.int .i64 m) (.string (B s)) (.slice q r d) 56);have HA1:=zb ((AtC3.new w (.int .i64 k) (.string (B t)) (.slice p l c) 56).below (zf (ue _ _) (.cells #[.int .i64 m,.string (B s),.slice q r d] 56)));have HA2:=zb (AtC3.new (w.alloc (.cells #[.int .i64 k,.string (B t),.slice p l c] 56)) (.int .i64 m) (.string (B s)) (.slice q r d) 56);rw[uk]at HA2;have HT:=zb (fun W h=>hT.belowB (w':=W) h h3);have HP1:=zb (fun W h=>y4 t 10 W (by omega) h);have HP2:=zb (fun W h=>y4 s 10 W (by omega) h);by_cases hk:k=1
 . subst hk
   by_cases hts:t=s
   . obtain rfl:=hts
     have HR:=zb (show ZN 1 t t=_ from uj (Or.inr rfl));obtain⟨R,hR⟩:∃R,ZN 1 t t=R:=⟨_,rfl⟩
     rw[hR]at HR⊢;clear hR hsT hsS hT h3;go_enter Tryz.func100,Tryz.ntmps100;go_wp2_with fail;obtain⟨W,hW⟩:∃W,(w.alloc (.cells #[.int .i64 1,.string (B t),.slice p l c] 56)).alloc (.cells #[.int .i64 m,.string (B t),.slice q r d] 56)=W:=⟨_,rfl⟩
     rw[hW]at HB HA1 HA2⊢;clear hW;have a0:=(za HA1).n0;have a1:=(za HA1).n1;have a2:=(za HA1).n2;have b0:=(za HA2).n0;have b1:=(za HA2).n1;have b2:=(za HA2).n2;refine(Tryz.strings_Compare (B t) (B t) W).mono ?_;rintro e w'⟨rfl,rfl⟩;obtain rfl:=za HR;go_wp2_with fail;go_ret;exact⟨by simp[B],za HB⟩
   . have HR:=zb (show ZN 1 t s=_ from ul (by rintro(h|h);exact h rfl;exact hts h))
     obtain⟨R,hR⟩:∃R,ZN 1 t s=R:=⟨_,rfl⟩
     rw[hR]at HR⊢;obtain⟨n1,u1,d1,z1⟩:∃n u d,j5 t=(n,u,d):=⟨_,_,_,rfl⟩
     obtain⟨n2,u2,d2,z2⟩:∃n u d,j5 s=(n,u,d):=⟨_,_,_,rfl⟩
     obtain⟨v1,hv1⟩:∃v,(zw t 10).isSome=v:=⟨_,rfl⟩
     obtain⟨v2,hv2⟩:∃v,(zw s 10).isSome=v:=⟨_,rfl⟩
     have HQ1:Hid (∀W,Tens W->Calls Tryz.prog 128 #[.string (B t),.int .i64 10] W fun e w'=>e=.returned (.tuple #[.agg #[.bool n1,.string (B u1),.string (B d1)],.bool v1])/\Below W.heap.size W w'):=zb (fun W h=>by
      have:=za HP1 W h;unfold zg at this;rw[Km,z1,hv1]at this;exact this)
     have HQ2:Hid (∀W,Tens W->Calls Tryz.prog 128 #[.string (B s),.int .i64 10] W fun e w'=>e=.returned (.tuple #[.agg #[.bool n2,.string (B u2),.string (B d2)],.bool v2])/\Below W.heap.size W w'):=zb (fun W h=>by
      have:=za HP2 W h;unfold zg at this;rw[Km,z2,hv2]at this;exact this)
     have HC:Hid (∀W,Below w.heap.size w W->Calls Tryz.prog 129 #[.agg #[.bool n1,.string (B u1),.string (B d1)],.agg #[.bool n2,.string (B u2),.string (B d2)]] W fun e w'=>e=.returned (.int .i64 R)/\Below W.heap.size W w'):=zb (fun W h=>by
      have:=Kb (j5 t) (j5 s) W (kH t) (kH s) (za HT W h) (uJ h3 h.size);rw[<-za HR,z1,z2]at this;exact this)
     have e1:((B t).toList==(B s).toList)=false:=by rw[jg s];exact zfp _ _ hts
     clear hsT hsS hT h3 hts z1 z2 hv1 hv2 HP1 HP2 HR;go_enter Tryz.func100,Tryz.ntmps100;go_wp2_with fail;obtain⟨W,hW⟩:∃W,(w.alloc (.cells #[.int .i64 1,.string (B t),.slice p l c] 56)).alloc (.cells #[.int .i64 m,.string (B s),.slice q r d] 56)=W:=⟨_,rfl⟩
     rw[hW]at HB HA1 HA2⊢;clear hW;have a0:=(za HA1).n0;have a1:=(za HA1).n1;have a2:=(za HA1).n2;have b0:=(za HA2).n0;have b1:=(za HA2).n1;have b2:=(za HA2).n2;refine(za HQ1 W (za HT W (za HB))).mono ?_;rintro e w1⟨rfl,hb1⟩;have HB1:=zb (zi (za HB) hb1);have HD2:=zb ((za HA2).below hb1);have q1:=fun o=>((za HD2).below (zf (ue _ _) o)).n1
     have HN1:=zb (AtC3.new w1 (.bool n1) (.string (B u1)) (.string (B d1)) 79);have HB1':=zb (zf (za HB1) (.cells #[.bool n1,.string (B u1),.string (B d1)] 79));clear hb1;go_wp2_with fail;refine(za HQ2 _ (za HT _ (za HB1'))).mono ?_;rintro e w2⟨rfl,hb2⟩;have HB2:=zb (zi (za HB1') hb2);have HN2:=zb ((za HN1).below hb2);have HB3:=zb (zf (za HB2) (.cells #[.bool n2,.string (B u2),.string (B d2)] 79));have HN3:=zb ((za HN2).below (zf (ue _ _) (.cells #[.bool n2,.string (B u2),.string (B d2)] 79)));have x0:=(za HN3).n0;have x1:=(za HN3).n1;have x2:=(za HN3).n2;clear hb2 q1;go_wp2_with fail;refine(za HC _ (za HB3)).mono ?_;rintro e w3⟨rfl,hb3⟩;have HB4:=zb (zi (za HB3) hb3);clear hb3;go_wp2_with fail;go_ret;exact⟨rfl,za HB4⟩
 . have HR:=zb (show ZN k t s=_ from uj (Or.inl hk))
   obtain⟨R,hR⟩:∃R,ZN k t s=R:=⟨_,rfl⟩
   rw[hR]at HR⊢;have hk1:(k==1)=false:=by simp[hk]
   have hk2:(k != 1)=true:=by simp[hk]
   clear hR hsT hsS hT h3;go_enter Tryz.func100,Tryz.ntmps100;go_wp2_with fail;obtain⟨W,hW⟩:∃W,(w.alloc (.cells #[.int .i64 k,.string (B t),.slice p l c] 56)).alloc (.cells #[.int .i64 m,.string (B s),.slice q r d] 56)=W:=⟨_,rfl⟩
   rw[hW]at HB HA1 HA2⊢;clear hW;have a0:=(za HA1).n0;have a1:=(za HA1).n1;have a2:=(za HA1).n2;have b0:=(za HA2).n0;have b1:=(za HA2).n1;have b2:=(za HA2).n2;refine(Tryz.strings_Compare (B t) (B s) W).mono ?_;rintro e w'⟨rfl,rfl⟩;obtain rfl:=za HR;go_wp2_with fail;go_ret;exact⟨by simp[B],za HB⟩
end Go.Proofs.YtpbnmhnbkfnaeaaGreatDoor
