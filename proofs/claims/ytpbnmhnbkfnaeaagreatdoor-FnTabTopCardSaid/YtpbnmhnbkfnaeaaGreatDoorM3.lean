/- A part of the proof, put together out of smaller texts. -/
import Derived.Test.YtpbnmhnbkfnaeaaGreatDoorM0
import Derived.Test.YtpbnmhnbkfnaeaaGreatDoorM1
import Derived.Test.YtpbnmhnbkfnaeaaGreatDoorM2
import Derived.Deep.RegionHeld3
import Derived.RegionIn
import Derived.Maps.AppendAt
import Derived.Deep.AppendLies
set_option linter.all false
set_option maxRecDepth 100000
set_option maxHeartbeats 32000000
namespace Go.Proofs.YtpbnmhnbkfnaeaaGreatDoor
open Go.RowKit Nt
theorem AtC3.new'(w:World)(b:Nat)(x y z:Value)(T:TypeId)(hb:w.heap.size=b):AtC3 (w.alloc (.cells #[x,y,z] T)) b x y z T:=by subst hb;exact AtC3.new ..
theorem zcY(g p n cap:Nat)(a:Option Addr)(w:World)(h:Rd w g p a n cap)(hp:p<=600000000):
  Calls Tryz.prog 84 #[.pointer (some ⟨g,0,none⟩)] w fun e w'=>(∃nv rv k m,e=.returned (.agg #[nv,rv])/\1<=k/\k<=9/\m<=4/\SN 1000 w' w.heap.size nv k/\SI w' w.heap.size rv m)/\Drawn w g p n cap a 10000 w':=by
 have hlt:=h.lt;have Hlt:=zb hlt;have HR:=zb (h.alloc (.cells #[.slice none 0 0,.slice none 0 0] 26));have HA:=zb (AtC2.new w (.slice none 0 0) (.slice none 0 0) 26);clear h;go_enter Tryz.func84,Tryz.ntmps84;go_wp2_with fail;refine(qk g p n cap a 9 _ (za HR) (by omega) (by omega)).mono ?_;rintro e w1⟨⟨n0,rfl,hn0⟩,⟨p1,hp1,hr1⟩,hk1⟩;have hn9:n0<9:=by rcases hn0 with h|h<;>omega
 have e1:wrap64 (1+(n0:Int))=((n0+1:Nat):Int):=by unfold wrap64;omega
 have hs1:w.heap.size+1<=w1.heap.size:=by have:=hk1.size;simpa using this
 obtain⟨W0,hW0⟩:∃W0,w.alloc (.cells #[.slice none 0 0,.slice none 0 0] 26)=W0:=⟨_,rfl⟩
 have hz0:W0.heap.size=w.heap.size+1:=by rw[<-hW0];simp
 rw[hW0]at hk1 HA;obtain⟨B,hB⟩:∃B,w1.heap.size=B:=⟨_,rfl⟩
 have HD1:Hid (DSt 1000 g B B W0 (.slice none 0 0) (.slice none 0 0) 0 0 (w1.alloc (.cells #[.slice none 0 0,.slice none 0 0] 26))):=zb (by
  subst hB;exact⟨AtC2.new w1 _ _ _,ze5 _ _ _,jq _ _,hk1.alloc _,by omega,by omega,by omega,by omega,by simp⟩)
 have HR1:=zb (hr1.alloc (.cells #[.slice none 0 0,.slice none 0 0] 26));clear hr1 hk1 hn0;go_wp2_with fail;clear hs1 hB;have e1:wrap64 (1+(n0:Int))=1+(n0:Int):=by unfold wrap64;omega
 go_loopw [5] (fun vi wr=>∃(i p':Nat)(nv:Value),vi=.int .i64 i/\i<=n0+1/\p'<=p1+600*i/\DSt 1000 g B B W0 nv (.slice none 0 0) i 0 wr/\Rd wr g p' a n cap) (fun vi _=>(n0+1)-(intOf vi).toNat)
 case atStart=>exact⟨0,p1,_,rfl,by omega,by omega,za HD1,za HR1⟩
 case round=>
  obtain⟨i,p',nv,rfl,hi,hp',hD,hR⟩:=hrel;have HD:=zb hD;have HRr:=zb hR;obtain⟨na,nc,rfl,_,_⟩:=hD.nodes.form;clear hD hR;by_cases hlt':(i:Int)<1+(n0:Int)
  . go_wp2_with fail
    have h:=zcZ g p' n cap a (1+(n0:Int)) wr (za HRr) (by omega) (by omega);refine h.mono ?_;clear h;rintro e w2⟨⟨xs,s,kv,kl,rfl,hs,hkl,hkv⟩,⟨p2,hp2,hr2⟩,hk2⟩;obtain⟨ka,kc,rfl,hkc,hkm⟩:=hkv.form;unfold maxLen at hkm;have HR2:=zb (hr2.alloc (.cells #[.int .i64 xs,.string s,.slice ka kl kc] 56));have HD2:=zb (((za HD).keeps hk2).alloc (.cells #[.int .i64 xs,.string s,.slice ka kl kc] 56));have hB2:B<=w2.heap.size:=uC (za HD).low.2.2.2.2 hk2.size;have HN2:Hid (NSt 1000 B w2.heap.size xs s (.slice ka kl kc) kl (w2.alloc (.cells #[.int .i64 xs,.string s,.slice ka kl kc] 56))):=zb ⟨AtC3.new w2 _ _ _ _,(hkv.base (by have:=(za HD).low.2.2.2.2;omega)).ty (Ty.below (K:=1000) (zf (ue _ _) _)),⟨hs,by omega⟩,hB2⟩;clear hr2 hk2 hkv;go_wp2_with fail;obtain⟨q,hq⟩:∃q,w2.heap.size=q:=⟨_,rfl⟩
    rw[hq]at HN2⊢;clear hq hB2;have hkl9:kl<=1000:=by omega
    go_loopw [7] (fun vk wk=>∃(k p'':Nat),vk=.int .i64 k/\k<=kl/\p''<=p2+2*k/\DSt 1000 g B B W0 (.slice na i nc) (.slice none 0 0) i 0 wk/\NSt 1000 B q xs s (.slice ka kl kc) kl wk/\Rd wk g p'' a n cap) (fun vk _=>kl-(intOf vk).toNat)
    case atStart=>exact⟨0,p2,rfl,by omega,by omega,za HD2,za HN2,za HR2⟩
    case round=>
     obtain⟨k,p3,rfl,hk,hp3,hD,hN,hR⟩:=hrel;obtain⟨wk,hwk⟩:∃wk,wk=wr:=⟨_,rfl⟩
     subst hwk;have HDk:=zb hD;have HNk:=zb hN;have HRk:=zb hR;have a2:=hN.box.n2;clear hD hN hR;by_cases hkk:k<kl
     . go_wp2_with fail
       refine(qk g p3 n cap a 3 _ (za HRk) (by omega) (by omega)).mono ?_;rintro e w3⟨⟨z,rfl,_⟩,⟨p4,hp4,hr4⟩,hk4⟩;have HR3:=zb hr4;have HD3:=zb ((za HDk).keeps hk4);have HN3:=zb ((za HNk).keeps hk4 (za HDk).low.2.2.1);clear hr4 hk4 a2;have a2:=(za HN3).box.n2;by_cases hz:0<(z:Int)
       . by_cases hin:(i:Int)+1<1+(n0:Int)
         . obtain⟨kb,rfl,hkb,hbi⟩:∃kb,ka=some ⟨kb,0,none⟩/\B<=kb/\BI w3 kb kc kl:=by
            rcases(za HN3).kids with⟨e,e0⟩|⟨kb,c',e,h1,_,_,h4⟩
            . omega
            . cases e;exact⟨kb,rfl,h1,h4⟩
           have HBI:=zb hbi;have HKB:=zb hkb;obtain⟨N,hN⟩:∃N:Int,1+(n0:Int)-(i:Int)-1=N:=⟨_,rfl⟩
           have w2':IntKind.i64.wrap (IntKind.i64.wrap (1+(n0:Int)-(i:Int))-1)=N:=by rw[qX (1+(n0:Int)-(i:Int)) (by omega) (by omega),qX _ (by omega) (by omega)];exact hN
           have w3':IntKind.i64.wrap ((i:Int)+1)=((i+1:Nat):Int):=by rw[qX _ (by omega) (by omega)];omega
           have HNN:=zb hN;clear hbi hkb hN;go_wp2_with fail
           go_region_law (first|(go_simp;go_at_call 27;refine(qk g p4 n cap a N w3.drew (by exact(za HR3).drew) (by omega) (by have:=za HNN;omega)).mono ?_;rintro e w5⟨⟨y,rfl,hy⟩,⟨p5,hp5,hr5⟩,hk5⟩;have hk5:=(Keeps.refl g w3).drew.trans hk5;have HR5:=zb hr5;have HD5:=zb ((za HD3).keeps hk5);have HN5:=zb ((za HN3).keeps hk5 (za HD3).low.2.2.1);have HB5:=zb ((Ty.keeps (K:=1000) hk5 (za HD3).low.2.2.1).bi _ _ _ (za HKB) (za HBI));have e2:=(za HN5).box.n2;have hy9:(y:Int)<=1000000000:=(by rcases hy with h|h<;>(have:=za HNN;omega));have w4':IntKind.i64.wrap (((i+1:Nat):Int)+(y:Int))=((i+1:Nat):Int)+(y:Int):=(by rw[qX _ (by omega) (by omega)]);obtain⟨u5,f5,u5',hu5⟩:=(za HB5).cell (by omega) (show k<kl*1 by omega);have f6:=(za HB5).frozen k;clear hr5 hk5 hy;(try dsimp only)))
           .
            have HD7:=zb ((za HD5).setI (j:=k) (x:=((i+1:Nat):Int)+(y:Int)) (za HB5) (za HKB));have HN7:=zb ((za HN5).setI (j:=k) (y:=((i+1:Nat):Int)+(y:Int)) (za HB5));have HR7:=zb ((za HR5).from (za HD5).low.2.2.1 ((ue B w5).setCell (p:=⟨kb,k,none⟩) (za HKB) (.int .i64 (((i+1:Nat):Int)+(y:Int)))));clear hu5 f6 w2' w3' w4' e2 a2;go_wp2_with fail;go_roundw
            case rel=>exact⟨k+1,p5,by go_num,by omega,by omega,za HD7,za HN7,za HR7⟩
            case measure=>simp[intOf];omega
           .
            have HD7:=zb ((za HD5).setI (j:=k) (x:=((i+1:Nat):Int)+(y:Int)) (za HB5) (za HKB));have HN7:=zb ((za HN5).setI (j:=k) (y:=((i+1:Nat):Int)+(y:Int)) (za HB5));have HR7:=zb ((za HR5).from (za HD5).low.2.2.1 ((ue B w5).setCell (p:=⟨kb,k,none⟩) (za HKB) (.int .i64 (((i+1:Nat):Int)+(y:Int)))));clear hu5 f6 w2' w3' w4' e2 a2;go_wp2_with fail;go_roundw
            case rel=>exact⟨k+1,p5,by go_num,by omega,by omega,za HD7,za HN7,za HR7⟩
            case measure=>simp[intOf];omega
         . go_wp2_with fail
           go_roundw
           case rel=>exact⟨k+1,p4,by go_num,by omega,by omega,za HD3,za HN3,za HR3⟩
           case measure=>simp[intOf];omega
       . clear a2
         by_cases hl:(i:Int)+1=1+(n0:Int)
         . have hl':((i:Int)+1==1+(n0:Int))=true:=by rw[Um];exact hl
           go_wp2_with fail;refine(qk g p4 n cap a 3 _ (za HR3) (by omega) (by omega)).mono ?_;rintro e w8⟨⟨z8,rfl,_⟩,⟨p8,hp8,hr8⟩,hk8⟩;have HR8:=zb hr8;have HD8:=zb ((za HD3).keeps hk8);have HN8:=zb ((za HN3).keeps hk8 (za HD3).low.2.2.1);clear hr8 hk8 hl';by_cases hz8:0<(z8:Int)
           . have a0:=(za HN8).box.n0
             have a1:=(za HN8).box.n1;have a2:=(za HN8).box.n2;have af:=(za HN8).box.f;have HR9:=zb ((za HR8).from (za HD8).low.2.2.1 ((((ue B w8).setCell (p:=⟨q,0,none⟩) (za HN8).low (.int .i64 6)).setCell (p:=⟨q,1,none⟩) (za HN8).low (.string ⟨#[]⟩)).setCell (p:=⟨q,2,none⟩) (za HN8).low (.slice none 0 0)));have HD9:=zb ((za HD8).put (y:=6) (t:=⟨#[]⟩) (za HN8) (by decide) (by decide) (jq w8 B));have HN9:=zb ((za HN8).put (y:=6) (t:=⟨#[]⟩) (by decide) (by decide) (jq w8 B));have b0:=(za HD9).box.n0;have c0:=(za HN9).box.n0;have c1:=(za HN9).box.n1;have c2:=(za HN9).box.n2;have HRA:=zb ((za HR9).alloc (.cells #[.int .i64 6,.string ⟨#[]⟩,(.slice none 0 0)] 56));have HDA:=zb ((za HD9).alloc (.cells #[.int .i64 6,.string ⟨#[]⟩,(.slice none 0 0)] 56));have HKA:=zb ((za HN9).kids.ty (Ty.below (K:=1000) (zf (ue (((w8.setCell ⟨q,0,none⟩ (.int .i64 6)).setCell ⟨q,1,none⟩ (.string ⟨#[]⟩)).setCell ⟨q,2,none⟩ (.slice none 0 0)).heap.size (((w8.setCell ⟨q,0,none⟩ (.int .i64 6)).setCell ⟨q,1,none⟩ (.string ⟨#[]⟩)).setCell ⟨q,2,none⟩ (.slice none 0 0))) (.cells #[.int .i64 6,.string ⟨#[]⟩,(.slice none 0 0)] 56))));have HSM:=zb (za HN9).small;have HNW:=zb (AtC3.new' (((w8.setCell ⟨q,0,none⟩ (.int .i64 6)).setCell ⟨q,1,none⟩ (.string ⟨#[]⟩)).setCell ⟨q,2,none⟩ (.slice none 0 0)) w8.heap.size (.int .i64 6) (.string ⟨#[]⟩) (.slice none 0 0) 56 (by simp[vP]));go_wp2_with (at_builtin;refine qy (by rfl) (.tmp 61) (.tmp 63) (by rfl) 1000 B (.slice na i nc) i w8.heap.size 6 ⟨#[]⟩ (.slice none 0 0) 0 (by rfl) (by rfl) (za HDA).nodes (za HNW).n0 (za HNW).n1 (za HNW).n2 (za HSM).1 (za HSM).2 (za HKA) (by omega) (za HDA).low.2.2.2.2 ?_;intro g6 c6 w6 hs6 hg6;have HS6:=zb hs6;have HG6:=zb hg6;have f0:=((za HDA).box.gr hg6 (by decide)).n0;have f1:=((za HDA).box.gr hg6 (by decide)).f;clear hs6 hg6 b0 c0 c1 c2);have HD7:=zb ((za HDA).appN (za HG6) (za HS6));have HR7:=zb ((za HRA).from (za HDA).low.2.2.1 ((za HG6).low.setCell (p:=⟨B,0,none⟩) (ud _) (.slice (some ⟨g6,0,none⟩) (i+1) c6)));clear f0 f1;go_wp2_with fail;go_roundw
             case rel=>exact⟨i+1,p8,_,by go_num,by omega,by omega,za HD7,za HR7⟩
             case measure=>simp[intOf];omega
           .
            have b0:=(za HD8).box.n0;have c0:=(za HN8).box.n0;have c1:=(za HN8).box.n1;have c2:=(za HN8).box.n2;have HRA:=zb ((za HR8).alloc (.cells #[.int .i64 xs,.string s,(.slice ka kl kc)] 56));have HDA:=zb ((za HD8).alloc (.cells #[.int .i64 xs,.string s,(.slice ka kl kc)] 56));have HKA:=zb ((za HN8).kids.ty (Ty.below (K:=1000) (zf (ue w8.heap.size w8) (.cells #[.int .i64 xs,.string s,(.slice ka kl kc)] 56))));have HSM:=zb (za HN8).small;have HNW:=zb (AtC3.new' w8 w8.heap.size (.int .i64 xs) (.string s) (.slice ka kl kc) 56 (by simp[vP]));go_wp2_with (at_builtin;refine qy (by rfl) (.tmp 61) (.tmp 63) (by rfl) 1000 B (.slice na i nc) i w8.heap.size xs s (.slice ka kl kc) kl (by rfl) (by rfl) (za HDA).nodes (za HNW).n0 (za HNW).n1 (za HNW).n2 (za HSM).1 (za HSM).2 (za HKA) (by omega) (za HDA).low.2.2.2.2 ?_;intro g6 c6 w6 hs6 hg6;have HS6:=zb hs6;have HG6:=zb hg6;have f0:=((za HDA).box.gr hg6 (by decide)).n0;have f1:=((za HDA).box.gr hg6 (by decide)).f;clear hs6 hg6 b0 c0 c1 c2);have HD7:=zb ((za HDA).appN (za HG6) (za HS6));have HR7:=zb ((za HRA).from (za HDA).low.2.2.1 ((za HG6).low.setCell (p:=⟨B,0,none⟩) (ud _) (.slice (some ⟨g6,0,none⟩) (i+1) c6)));clear f0 f1;go_wp2_with fail;go_roundw
            case rel=>exact⟨i+1,p8,_,by go_num,by omega,by omega,za HD7,za HR7⟩
            case measure=>simp[intOf];omega
         . have hl':((i:Int)+1==1+(n0:Int))=false:=by rw[ug];exact hl
           have b0:=(za HD3).box.n0;have c0:=(za HN3).box.n0;have c1:=(za HN3).box.n1;have c2:=(za HN3).box.n2;have HRA:=zb ((za HR3).alloc (.cells #[.int .i64 xs,.string s,(.slice ka kl kc)] 56));have HDA:=zb ((za HD3).alloc (.cells #[.int .i64 xs,.string s,(.slice ka kl kc)] 56));have HKA:=zb ((za HN3).kids.ty (Ty.below (K:=1000) (zf (ue w3.heap.size w3) (.cells #[.int .i64 xs,.string s,(.slice ka kl kc)] 56))));have HSM:=zb (za HN3).small;have HNW:=zb (AtC3.new' w3 w3.heap.size (.int .i64 xs) (.string s) (.slice ka kl kc) 56 (by simp[vP]));go_wp2_with (at_builtin;refine qy (by rfl) (.tmp 61) (.tmp 63) (by rfl) 1000 B (.slice na i nc) i w3.heap.size xs s (.slice ka kl kc) kl (by rfl) (by rfl) (za HDA).nodes (za HNW).n0 (za HNW).n1 (za HNW).n2 (za HSM).1 (za HSM).2 (za HKA) (by omega) (za HDA).low.2.2.2.2 ?_;intro g6 c6 w6 hs6 hg6;have HS6:=zb hs6;have HG6:=zb hg6;have f0:=((za HDA).box.gr hg6 (by decide)).n0;have f1:=((za HDA).box.gr hg6 (by decide)).f;clear hs6 hg6 b0 c0 c1 c2);have HD7:=zb ((za HDA).appN (za HG6) (za HS6));have HR7:=zb ((za HRA).from (za HDA).low.2.2.1 ((za HG6).low.setCell (p:=⟨B,0,none⟩) (ud _) (.slice (some ⟨g6,0,none⟩) (i+1) c6)));clear f0 f1;go_wp2_with fail;go_roundw
           case rel=>exact⟨i+1,p4,_,by go_num,by omega,by omega,za HD7,za HR7⟩
           case measure=>simp[intOf];omega
     . obtain rfl:kl=k:=by omega
       clear a2;have a2:=(za HNk).box.n2;by_cases hl:(i:Int)+1=1+(n0:Int)
       . have hl':((i:Int)+1==1+(n0:Int))=true:=by rw[Um];exact hl
         go_wp2_with fail;refine(qk g p3 n cap a 3 _ (za HRk) (by omega) (by omega)).mono ?_;rintro e w8⟨⟨z8,rfl,_⟩,⟨p8,hp8,hr8⟩,hk8⟩;have HR8:=zb hr8;have HD8:=zb ((za HDk).keeps hk8);have HN8:=zb ((za HNk).keeps hk8 (za HDk).low.2.2.1);clear hr8 hk8 hl';by_cases hz8:0<(z8:Int)
         . have a0:=(za HN8).box.n0
           have a1:=(za HN8).box.n1;have a2:=(za HN8).box.n2;have af:=(za HN8).box.f;have HR9:=zb ((za HR8).from (za HD8).low.2.2.1 ((((ue B w8).setCell (p:=⟨q,0,none⟩) (za HN8).low (.int .i64 6)).setCell (p:=⟨q,1,none⟩) (za HN8).low (.string ⟨#[]⟩)).setCell (p:=⟨q,2,none⟩) (za HN8).low (.slice none 0 0)));have HD9:=zb ((za HD8).put (y:=6) (t:=⟨#[]⟩) (za HN8) (by decide) (by decide) (jq w8 B));have HN9:=zb ((za HN8).put (y:=6) (t:=⟨#[]⟩) (by decide) (by decide) (jq w8 B));have b0:=(za HD9).box.n0;have c0:=(za HN9).box.n0;have c1:=(za HN9).box.n1;have c2:=(za HN9).box.n2;have HRA:=zb ((za HR9).alloc (.cells #[.int .i64 6,.string ⟨#[]⟩,(.slice none 0 0)] 56));have HDA:=zb ((za HD9).alloc (.cells #[.int .i64 6,.string ⟨#[]⟩,(.slice none 0 0)] 56));have HKA:=zb ((za HN9).kids.ty (Ty.below (K:=1000) (zf (ue (((w8.setCell ⟨q,0,none⟩ (.int .i64 6)).setCell ⟨q,1,none⟩ (.string ⟨#[]⟩)).setCell ⟨q,2,none⟩ (.slice none 0 0)).heap.size (((w8.setCell ⟨q,0,none⟩ (.int .i64 6)).setCell ⟨q,1,none⟩ (.string ⟨#[]⟩)).setCell ⟨q,2,none⟩ (.slice none 0 0))) (.cells #[.int .i64 6,.string ⟨#[]⟩,(.slice none 0 0)] 56))));have HSM:=zb (za HN9).small;have HNW:=zb (AtC3.new' (((w8.setCell ⟨q,0,none⟩ (.int .i64 6)).setCell ⟨q,1,none⟩ (.string ⟨#[]⟩)).setCell ⟨q,2,none⟩ (.slice none 0 0)) w8.heap.size (.int .i64 6) (.string ⟨#[]⟩) (.slice none 0 0) 56 (by simp[vP]));go_wp2_with (at_builtin;refine qy (by rfl) (.tmp 61) (.tmp 63) (by rfl) 1000 B (.slice na i nc) i w8.heap.size 6 ⟨#[]⟩ (.slice none 0 0) 0 (by rfl) (by rfl) (za HDA).nodes (za HNW).n0 (za HNW).n1 (za HNW).n2 (za HSM).1 (za HSM).2 (za HKA) (by omega) (za HDA).low.2.2.2.2 ?_;intro g6 c6 w6 hs6 hg6;have HS6:=zb hs6;have HG6:=zb hg6;have f0:=((za HDA).box.gr hg6 (by decide)).n0;have f1:=((za HDA).box.gr hg6 (by decide)).f;clear hs6 hg6 b0 c0 c1 c2);have HD7:=zb ((za HDA).appN (za HG6) (za HS6));have HR7:=zb ((za HRA).from (za HDA).low.2.2.1 ((za HG6).low.setCell (p:=⟨B,0,none⟩) (ud _) (.slice (some ⟨g6,0,none⟩) (i+1) c6)));clear f0 f1;go_wp2_with fail;go_roundw
           case rel=>exact⟨i+1,p8,_,by go_num,by omega,by omega,za HD7,za HR7⟩
           case measure=>simp[intOf];omega
         .
          have b0:=(za HD8).box.n0;have c0:=(za HN8).box.n0;have c1:=(za HN8).box.n1;have c2:=(za HN8).box.n2;have HRA:=zb ((za HR8).alloc (.cells #[.int .i64 xs,.string s,(.slice ka kl kc)] 56));have HDA:=zb ((za HD8).alloc (.cells #[.int .i64 xs,.string s,(.slice ka kl kc)] 56));have HKA:=zb ((za HN8).kids.ty (Ty.below (K:=1000) (zf (ue w8.heap.size w8) (.cells #[.int .i64 xs,.string s,(.slice ka kl kc)] 56))));have HSM:=zb (za HN8).small;have HNW:=zb (AtC3.new' w8 w8.heap.size (.int .i64 xs) (.string s) (.slice ka kl kc) 56 (by simp[vP]));go_wp2_with (at_builtin;refine qy (by rfl) (.tmp 61) (.tmp 63) (by rfl) 1000 B (.slice na i nc) i w8.heap.size xs s (.slice ka kl kc) kl (by rfl) (by rfl) (za HDA).nodes (za HNW).n0 (za HNW).n1 (za HNW).n2 (za HSM).1 (za HSM).2 (za HKA) (by omega) (za HDA).low.2.2.2.2 ?_;intro g6 c6 w6 hs6 hg6;have HS6:=zb hs6;have HG6:=zb hg6;have f0:=((za HDA).box.gr hg6 (by decide)).n0;have f1:=((za HDA).box.gr hg6 (by decide)).f;clear hs6 hg6 b0 c0 c1 c2);have HD7:=zb ((za HDA).appN (za HG6) (za HS6));have HR7:=zb ((za HRA).from (za HDA).low.2.2.1 ((za HG6).low.setCell (p:=⟨B,0,none⟩) (ud _) (.slice (some ⟨g6,0,none⟩) (i+1) c6)));clear f0 f1;go_wp2_with fail;go_roundw
          case rel=>exact⟨i+1,p8,_,by go_num,by omega,by omega,za HD7,za HR7⟩
          case measure=>simp[intOf];omega
       . have hl':((i:Int)+1==1+(n0:Int))=false:=by rw[ug];exact hl
         have b0:=(za HDk).box.n0;have c0:=(za HNk).box.n0;have c1:=(za HNk).box.n1;have c2:=(za HNk).box.n2;have HRA:=zb ((za HRk).alloc (.cells #[.int .i64 xs,.string s,(.slice ka kl kc)] 56));have HDA:=zb ((za HDk).alloc (.cells #[.int .i64 xs,.string s,(.slice ka kl kc)] 56));have HKA:=zb ((za HNk).kids.ty (Ty.below (K:=1000) (zf (ue wk.heap.size wk) (.cells #[.int .i64 xs,.string s,(.slice ka kl kc)] 56))));have HSM:=zb (za HNk).small;have HNW:=zb (AtC3.new' wk wk.heap.size (.int .i64 xs) (.string s) (.slice ka kl kc) 56 (by simp[vP]));go_wp2_with (at_builtin;refine qy (by rfl) (.tmp 61) (.tmp 63) (by rfl) 1000 B (.slice na i nc) i wk.heap.size xs s (.slice ka kl kc) kl (by rfl) (by rfl) (za HDA).nodes (za HNW).n0 (za HNW).n1 (za HNW).n2 (za HSM).1 (za HSM).2 (za HKA) (by omega) (za HDA).low.2.2.2.2 ?_;intro g6 c6 w6 hs6 hg6;have HS6:=zb hs6;have HG6:=zb hg6;have f0:=((za HDA).box.gr hg6 (by decide)).n0;have f1:=((za HDA).box.gr hg6 (by decide)).f;clear hs6 hg6 b0 c0 c1 c2);have HD7:=zb ((za HDA).appN (za HG6) (za HS6));have HR7:=zb ((za HRA).from (za HDA).low.2.2.1 ((za HG6).low.setCell (p:=⟨B,0,none⟩) (ud _) (.slice (some ⟨g6,0,none⟩) (i+1) c6)));clear f0 f1;go_wp2_with fail;go_roundw
         case rel=>exact⟨i+1,p3,_,by go_num,by omega,by omega,za HD7,za HR7⟩
         case measure=>simp[intOf];omega
  . obtain rfl:i=n0+1:=by omega
    go_wp2_with fail;refine(qk g p' n cap a 4 _ (za HRr) (by omega) (by omega)).mono ?_;rintro e w2⟨⟨k0,rfl,hk0⟩,⟨p2,hp2,hr2⟩,hk2⟩;have hk4:k0<4:=by rcases hk0 with h|h<;>omega
    have HD2:=zb ((za HD).keeps hk2);have HR2:=zb hr2;clear hr2 hk2 hk0;go_wp2_with fail
    go_loopw [8] (fun v wk=>∃(k j p3:Nat)(rv:Value),v=.int .i64 k/\j+k<=4/\p3<=p2+j/\DSt 1000 g B B W0 (.slice na (n0+1) nc) rv (n0+1) j wk/\Rd wk g p3 a n cap) (fun v _=>(intOf v).toNat)
    case atStart=>exact⟨k0,0,p2,_,rfl,by omega,by omega,za HD2,za HR2⟩
    case round=>
     obtain⟨k,j,p3,rv,rfl,hjk,hp3,hD3,hR3⟩:=hrel;obtain⟨wk,hwk⟩:∃wk,wk=wr:=⟨_,rfl⟩
     subst hwk;obtain⟨ra,rc,rfl,_,_⟩:=hD3.roots.form;have HD3:=zb hD3;have HR3:=zb hR3;have HLOW:=zb hD3.low;clear hD3 hR3;by_cases hk:0<k
     . have a1:=(za HD3).box.n1
       go_wp2_with fail
       go_region_law (first|((refine jr (by rfl) _ _ (by rfl) 1000 B (.slice ra j rc) j w5.heap.size (x:Int) (by rfl) (by rfl) (za HD5).roots (by with_reducible exact q5) (by omega) (za HD5).low.2.2.2.2 (some 78) (by rfl) ?_;intro g6 c6 w6 hs6 hg6;have HS6:=zb hs6;have HG6:=zb hg6;have f2:=((za HD5).box.gr hg6 (by decide)).n1;have f3:=((za HD5).box.gr hg6 (by decide)).f;clear hs6 hg6))|(go_simp;go_at_call 27;refine(qk g p3 n cap a (1+(n0:Int)) wk.drew (by exact(za HR3).drew) (by omega) (by omega)).mono ?_;rintro e w5⟨⟨x,rfl,_⟩,⟨p5,hp5,hr5⟩,hk5⟩;have hk5:=(Keeps.refl g wk).drew.trans hk5;have HR5:=zb (hr5.alloc (.cells #[.int .i64 (x:Int)] 3));have HD5:=zb (((za HD3).keeps hk5).alloc (.cells #[.int .i64 (x:Int)] 3));have e2:=((za HD3).keeps hk5).box.n1;have e3:=(za HD5).box.n1;have q5:(w5.alloc (.cells #[.int .i64 (x:Int)] 3)).cell? ⟨w5.heap.size,0,none⟩=some (.int .i64 (x:Int)):=World.news_of_block (Un w5 (.cells #[.int .i64 (x:Int)] 3)) 0 _ rfl;clear hr5 hk5;(try dsimp only)))
       .
        have HD7:=zb ((za HD5).appI (za HG6) (za HS6));have HR7:=zb ((za HR5).from (za HLOW).2.2.1 ((za HG6).low.setCell (p:=⟨B,1,none⟩) (ud _) (.slice (some ⟨g6,0,none⟩) (j+1) c6)));clear f2 f3 e2 e3 a1;go_wp2_with fail;go_roundw
        case rel=>exact⟨k-1,j+1,p5,_,by go_num,by omega,by omega,za HD7,za HR7⟩
        case measure=>simp[intOf];omega
       .
        have HD7:=zb ((za HD5).appI (za HG6) (za HS6));have HR7:=zb ((za HR5).from (za HLOW).2.2.1 ((za HG6).low.setCell (p:=⟨B,1,none⟩) (ud _) (.slice (some ⟨g6,0,none⟩) (j+1) c6)));clear f2 f3 e2 e3 a1;go_wp2_with fail;go_roundw
        case rel=>exact⟨k-1,j+1,p5,_,by go_num,by omega,by omega,za HD7,za HR7⟩
        case measure=>simp[intOf];omega
       .
        have HD7:=zb ((za HD5).appI (za HG6) (za HS6));have HR7:=zb ((za HR5).from (za HLOW).2.2.1 ((za HG6).low.setCell (p:=⟨B,1,none⟩) (ud _) (.slice (some ⟨g6,0,none⟩) (j+1) c6)));clear f2 f3 e2 e3 a1;go_wp2_with fail;go_roundw
        case rel=>exact⟨k-1,j+1,p5,_,by go_num,by omega,by omega,za HD7,za HR7⟩
        case measure=>simp[intOf];omega
     . obtain rfl:k=0:=by omega
       have a0:=(za HD3).box.n0;have a1:=(za HD3).box.n1;have hA:=(za HA).keeps (za HD3).keep (by have:=(za HLOW).1;omega);have b0:=hA.n0;have b1:=hA.n1;have bf:=hA.f;have hZ:=(hA.st0 (.slice na (n0+1) nc)).st1 (.slice ra j rc);have z0:=hZ.n0;have z1:=hZ.n1;have HZ:=zb (And.intro z0 z1);have hty:Ty 1000 B wk ((wk.setCell ⟨w.heap.size,0,none⟩ (.slice na (n0+1) nc)).setCell ⟨w.heap.size,1,none⟩ (.slice ra j rc)):=(Ty.box hA (by decide) (by decide) _).trans (Ty.box (hA.st0 _) (by decide) (by decide) _);have HSN:=zb ((za HD3).nodes.ty hty);have HSI:=zb ((za HD3).roots.ty hty);have hKW:Keeps g w W0:=by rw[<-hW0];exact(Keeps.refl g w).alloc _
       have hD:Drawn w g p n cap a 10000 wk:=⟨⟨p3,by omega,za HR3⟩,hKW.trans (za HD3).keep⟩
       have HDR:=zb (hD.more (za Hlt) (((ue w.heap.size wk).setCell (p:=⟨w.heap.size,0,none⟩) (ud _) (.slice na (n0+1) nc)).setCell (p:=⟨w.heap.size,1,none⟩) (ud _) (.slice ra j rc)));have HBB:Hid (w.heap.size<=B):=zb (by have:=(za HLOW).1;omega);clear hD hKW hty z0 z1 hZ hA;go_wp2_with fail;have hz:=za HZ;refine um (v:=.agg #[.slice na (n0+1) nc,.slice ra j rc]) (by simp[results,Tryz.results84,go_sem,hz]) rfl ⟨⟨_,_,n0+1,j,rfl,by omega,by omega,by omega,(za HSN).base (za HBB),(za HSI).base (za HBB)⟩,za HDR⟩
def nd3(nd:Nd)(kv:Value):List Value:=[.int .i64 nd.1,.string (B nd.2.1),kv]
def q8:List Nd->List Value->List Value
 |nd::ns,kv::kvs=>nd3 nd kv++q8 ns kvs
 |_,_=>[]
theorem J3{ns:List Nd}{kvs:List Value}{nd:Nd}{kv:Value}(h:ns.length=kvs.length):q8 (ns++[nd]) (kvs++[kv])=q8 ns kvs++nd3 nd kv:=by
 induction ns generalizing kvs with
 |nil=>
  cases kvs with
  |nil=>simp[q8]
  |cons a b=>simp at h
 |cons x r ih=>
  cases kvs with
  |nil=>simp at h
  |cons a b=>
   simp only[UD,q8];rw[ih (by simpa using h),U4]
theorem QO{ns:List Nd}{kvs:List Value}{j:Nat}{nd:Nd}{kv:Value}(h1:ns[j]? =some nd)(h2:kvs[j]? =some kv):
  (q8 ns kvs)[j*3]? =some (.int .i64 nd.1)/\(q8 ns kvs)[j*3+1]? =some (.string (B nd.2.1))/\(q8 ns kvs)[j*3+2]? =some kv:=by
 induction ns generalizing kvs j with
 |nil=>simp at h1
 |cons x r ih=>
  cases kvs with
  |nil=>simp at h2
  |cons a b=>
   cases j with
   |zero=>
    simp at h1 h2;subst h1 h2;simp[q8,nd3]
   |succ j=>
    simp only[Us]at h1 h2;obtain⟨c0,c1,c2⟩:=ih h1 h2;have key:∀i,(q8 (x::r) (a::b))[(j+1)*3+i]? =(q8 r b)[j*3+i]? :=by
     intro i;show(nd3 x a++q8 r b)[(j+1)*3+i]? =_;rw[uO (by simp[nd3];omega)]
     congr 1
     simp[nd3];omega
    exact⟨by have:=key 0;simp only[wC]at this;rw[this];exact c0,by rw[key];exact c1,by rw[key];exact c2⟩
def RowN(w:World)(base:Nat)(v:Value)(ns:List Nd)(kvs:List Value):Prop:=
 kvs.length=ns.length/\w.ownsRow base 56 3 v ns.length (q8 ns kvs)/\∀(j:Nat)(nd:Nd)(kv:Value),ns[j]? =some nd->kvs[j]? =some kv->nd.2.1.length<=maxLen/\w.ownsRow base 3 1 kv nd.2.2.length (iv nd.2.2)
theorem RowN.below{w w':World}{base:Nat}{v:Value}{ns:List Nd}{kvs:List Value}(h:RowN w base v ns kvs)(k:Below w.heap.size w w'):RowN w' base v ns kvs:=
 ⟨h.1,zu h.2.1 k,fun j nd kv e1 e2=>⟨(h.2.2 j nd kv e1 e2).1,zu (h.2.2 j nd kv e1 e2).2 k⟩⟩
theorem Z5{w:World}{b1 b2 s1 s2 n1 n2:Nat}{e1 e2:TypeId}{v1 v2:Value}{x1 x2:List Value}(h1:w.ownsRow b1 e1 s1 v1 n1 x1)(h2:w.ownsRow b2 e2 s2 v2 n2 x2)(hne:e1≠e2):v1.ownBlock=none\/v1.ownBlock≠v2.ownBlock:=by
 rcases h1.2 with⟨rfl,_⟩|⟨g1,c1,k1,rfl,_,hg1,_⟩
 . exact .inl rfl
 . right
   rcases h2.2 with⟨rfl,_⟩|⟨g2,c2,k2,rfl,_,hg2,_⟩
   . intro e;simp[Value.ownBlock]at e
   . intro e
     simp[Value.ownBlock]at e;subst e;rw[hg1]at hg2;simp at hg2;exact hne hg2.2
theorem RowN.push{w w':World}{base:Nat}{v v':Value}{ns:List Nd}{kvs:List Value}{nd:Nd}{kv:Value}(h:RowN w base v ns kvs)(ht:nd.2.1.length<=maxLen)(ho:w.ownsRow base 3 1 kv nd.2.2.length (iv nd.2.2))
  (hr:w'.ownsRow base 56 3 v' (ns.length+1) (q8 ns kvs++nd3 nd kv))(hg:w.grownBy w' v.ownBlock):RowN w' base v' (ns++[nd]) (kvs++[kv]):=by
 obtain⟨hl,hrow,hk⟩:=h;have hne:3≠56:=by decide
 refine⟨by simp[hl],?_,fun j nd' kv' e1 e2=>?_⟩
 . rw[J3 hl.symm];simpa using hr
 . by_cases hj:j<ns.length
   . rw[uL hj]at e1
     rw[uL (by omega)]at e2;obtain⟨a1,a2⟩:=hk j nd' kv' e1 e2;exact⟨a1,a2.kept hg (Z5 a2 hrow hne)⟩
   . have hj2:j=ns.length:=by
      have:=(ui.1 e1).1;simp at this;omega
     subst hj2;rw[uO (ud _)]at e1;rw[uO (by omega),hl]at e2;simp at e1 e2;subst e1 e2;exact⟨ht,ho.kept hg (Z5 ho hrow hne)⟩
theorem Jf{l:List Bool}{i:Nat}(h:l[i]? =some false):(l.set i true).count false+1=l.count false:=by
 induction l generalizing i with
 |nil=>simp at h
 |cons a r ih=>
  cases i with
  |zero=>simp at h;subst h;simp
  |succ i=>rw[Us]at h;have:=ih h;simp only[List.set_cons_succ,List.count_cons];omega
def LL(l:Array Bool)(i:Nat):Prop:=l[i]? =some true
theorem j8{l:Array Bool}{i:Nat}(h:i<l.size)(j:Nat):LL (l.setIfInBounds i true) j↔j=i\/LL l j:=by
 unfold LL;rw[wL];by_cases e:i=j
 . subst e;rw[uj rfl,uj h];simp
 . rw[ul e];constructor
   . exact .inr
   . rintro(h|h)
     . exact absurd h.symm e
     . exact h
theorem zA{l:Array Bool}{k:Nat}(h:l[k]?.getD false=true):LL l k:=by
 unfold LL;cases e:l[k]? with
 |none=>rw[e]at h;simp at h
 |some b=>rw[e]at h;simp at h;rw[h]
theorem qS{P:Program}{ops:Array Oper}{Q:Exit->Act->World->Prop}{md:Region.Mode}(Inv:Array Bool->Act->World->Prop)
  (hsz:∀l a w,Inv l a w->l.size=ops.size)(hend:∀l a w,Inv l a w->(∀i,i<ops.size->l[i]? =some true)->Q .normal a w)
  (hstep:∀l a w i,Inv l a w->i∈Region.ready md ops l->wpOp P ops Q i (fun a' w'=>Inv (l.setIfInBounds i true) a' w') a w)
  (hgo:∀l a w,Inv l a w->Region.ready md ops l=[]->∀i,i<ops.size->l[i]? =some true):
  ∀fuel l a w,Inv l a w->l.toList.count false<=fuel->wpAny P md ops Q fuel l a w:=by
 intro fuel
 induction fuel with
 |zero=>
  intro l a w hI hc;have hall:∀i,i<ops.size->l[i]? =some true:=fun i hi=>by
   have h1:l[i]? =some (l[i]'(by rw[hsz l a w hI];exact hi)):=U7 _;cases hv:l[i]'(by rw[hsz l a w hI];exact hi)with
   |true=>rw[h1,hv]
   |false=>
    have:false∈l.toList:=by rw[<-hv];simp
    have:=List.count_pos_iff.2 this;omega
  refine⟨?_,hend l a w hI hall⟩;unfold Region.ready;rw[List.filter_eq_nil_iff];intro i hi;have:=hall i (by simpa using hi);simp[ua,this]
 |succ fuel ih=>
  intro l a w hI hc;refine⟨fun hr=>hend l a w hI (hgo l a w hI hr),fun i hi=>?_⟩;have hi2:=hi;unfold Region.ready at hi2;rw[uK]at hi2;have hlt:i<ops.size:=by simpa using hi2.1
  have hlf:l[i]? =some false:=by
   have h1:l[i]? =some (l[i]'(by rw[hsz l a w hI];exact hlt)):=U7 _;have h2:=hi2.2;simp[ua,h1]at h2;rw[h1,h2.1]
  refine wpOp_mono (fun a' w' h=>ih _ a' w' h ?_) (hstep l a w i hI hi);have h3:=Jf (l:=l.toList) (i:=i) (by simpa using hlf);simp only[Array.toList_setIfInBounds];omega
theorem kN{F:Fence}{n:Nat}{P:Program}{ops:Array Oper}{Q:Exit->Act->World->Prop}{md:Region.Mode}(Inv:Array Bool->Act->World->Prop)
  (hsz:∀l a w,Inv l a w->l.size=ops.size)(hend:∀l a w,Inv l a w->(∀i,i<ops.size->l[i]? =some true)->Q .normal a w)
  (hstep:∀l a w i,Inv l a w->i∈Region.ready md ops l->wpOpIn F n P ops Q i (fun a' w'=>Inv (l.setIfInBounds i true) a' w') a w)
  (hgo:∀l a w,Inv l a w->Region.ready md ops l=[]->∀i,i<ops.size->l[i]? =some true):
  ∀fuel l a w,Inv l a w->l.toList.count false<=fuel->wpAnyIn F n P md ops Q fuel l a w:=by
 intro fuel
 induction fuel with
 |zero=>
  intro l a w hI hc;have hall:∀i,i<ops.size->l[i]? =some true:=fun i hi=>by
   have h1:l[i]? =some (l[i]'(by rw[hsz l a w hI];exact hi)):=U7 _;cases hv:l[i]'(by rw[hsz l a w hI];exact hi)with
   |true=>rw[h1,hv]
   |false=>
    have:false∈l.toList:=by rw[<-hv];simp
    have:=List.count_pos_iff.2 this;omega
  refine⟨?_,hend l a w hI hall⟩;unfold Region.ready;rw[List.filter_eq_nil_iff];intro i hi;have:=hall i (by simpa using hi);simp[ua,this]
 |succ fuel ih=>
  intro l a w hI hc;refine⟨fun hr=>hend l a w hI (hgo l a w hI hr),fun i hi=>?_⟩;have hi2:=hi;unfold Region.ready at hi2;rw[uK]at hi2;have hlt:i<ops.size:=by simpa using hi2.1
  have hlf:l[i]? =some false:=by
   have h1:l[i]? =some (l[i]'(by rw[hsz l a w hI];exact hlt)):=U7 _;have h2:=hi2.2;simp[ua,h1]at h2;rw[h1,h2.1]
  refine wpOpIn_mono (fun a' w' h=>ih _ a' w' h ?_) (hstep l a w i hI hi);have h3:=Jf (l:=l.toList) (i:=i) (by simpa using hlf);simp only[Array.toList_setIfInBounds];omega
theorem zo{md:Region.Mode}{ops:Array Oper}{l:Array Bool}(hr:Region.ready md ops l=[])(i:Nat)(hi:i<ops.size)(hs:l.size=ops.size)(h:((ops[i]?).map (·.after.all fun e=> !Region.binds md e||l.getD e.on false)).getD false=true):l[i]? =some true:=by
 apply uM;intro hne;have hf:l[i]? =some false:=by
  have e:l[i]? =some (l[i]'(by omega)):=U7 _;cases hb:l[i]'(by omega)with
  |true=>rw[hb]at e;exact absurd e hne
  |false=>rw[hb]at e;exact e
 apply uP (a:=i);rw[<-hr];unfold Region.ready;rw[uK];refine⟨by simpa using hi,?_⟩;rw[h];simp[ua,hf]
abbrev Qh(w:World)(base:Nat)(v:Value)(xs:List Int):Prop:=w.ownsRow base 3 1 v xs.length (iv xs)
theorem zg0(xs ys:List Int):iv (xs++ys)=iv xs++iv ys:=by simp[iv]
theorem YK(w:World):Qh (w.alloc (.cells #[] 3)) w.heap.size (.slice (some ⟨w.heap.size,0,none⟩) 0 0) []:=
 ⟨rfl,.inr ⟨w.heap.size,0,#[],rfl,ud _,Un w _,ud _,by unfold maxLen;omega,rfl,rfl⟩⟩
theorem JC{P:Program}(w:World)(base:Nat)(t ty e:TypeId)(i:TypeInfo)(size:Nat)(ht:P.underlying t=some (.slice e))(hi:P.info? e=some i)
  (v:Value)(n c:Nat)(xs:List Value)(hown:w.ownsRow base e size v n xs):(Builtin.append_ #[t,t] ty #[v,.slice none 0 c]).run P w=.ok v w:=by
 rcases hown.2 with⟨rfl,rfl⟩|⟨g,cap,cur,rfl,_,hg,hnc,_⟩
 . simp[Builtin.append_,run_underlying ht,sizeOf,typeInfo,hi,Builtin.lenOf,Builtin.firstCells]
 . simp[Builtin.append_,run_underlying ht,sizeOf,typeInfo,hi,Builtin.lenOf,Builtin.firstCells,storeCells,hnc]
theorem zdX{w:World}{b off j:Nat}{v:Value}(h:w.cell? ⟨b,off+j,none⟩=some v):w.cell? ((⟨b,off,none⟩:Addr).add j)=some v:=by
 have e:(⟨b,off,none⟩:Addr).add j=⟨b,off+j,none⟩:=by unfold Addr.add;split<;>simp_all
 rw[e];exact h
theorem xL(w:World)(base:Nat)(ty:TypeId)(v x:Value)(l xs:List Int)(hown:Qh w base v l)(hx:IntsAt w x xs)(hn:l.length+xs.length<=10000000)(hbase:base<=w.heap.size):
  ∃v' w',(Builtin.append_ #[24,24] ty #[v,x]).run Tryz.prog w=.ok v' w'/\Qh w' base v' (l++xs)/\w.grownBy w' v.ownBlock/\(v'.ownBlock=v.ownBlock\/v'.ownBlock=some w.heap.size):=by
 obtain⟨i0,hi,hz0,hz1,hz2⟩:=Ue Tryz.infoInt;obtain⟨a,c,rfl,h1,h2,h3⟩:=hx;by_cases h0:xs.length=0
 . have hxs:xs=[]:=UO.1 h0
   subst hxs;cases a with
   |none=>
    refine⟨v,w,JC w base _ _ _ i0 1 uV hi v l.length c _ hown,by simpa using hown,⟨rfl,rfl,rfl,ud _,fun _ _ _=>rfl⟩,.inl rfl⟩
   |some ad=>
    obtain⟨v',w',hr,k1,k2,_,k3⟩:=run_append_own_at (P:=Tryz.prog) w base 24 ty 3 i0 (.int .i64 0) 1 8 uV hi hz0 hz1 hz2 rfl (by decide) v l.length _ hown ad 0 c [] rfl (fun j u h=>by simp at h) (fun u h=>by simp at h) (by unfold maxLen;simp at hn;omega) (by simp at hn;omega) hbase;exact⟨v',w',hr,by simpa using k1,k2,k3⟩
 . obtain⟨b,off,rfl,hb,hc⟩:=h3 (by omega)
   obtain⟨v',w',hr,k1,k2,_,k3⟩:=run_append_own_at (P:=Tryz.prog) w base 24 ty 3 i0 (.int .i64 0) 1 8 uV hi hz0 hz1 hz2 rfl (by decide) v l.length _ hown ⟨b,off,none⟩ xs.length c (iv xs) (by simp[iv])
    (fun j u h=>by
     rw[Ve]at h;cases e:xs[j]? with
     |none=>rw[e]at h;simp at h
     |some y=>
      rw[e]at h;simp at h;subst h;exact zdX (hc j y e))
    (fun u h=>by
     unfold iv at h;obtain⟨y,_,rfl⟩:=UB.1 h;rfl) (by unfold maxLen;omega) (by omega) hbase
   exact⟨v',w',hr,by unfold Qh;rw[uG,zg0];exact k1,k2,k3⟩
theorem Qe{w:World}{ops:Array Oper}{rest:List Oper}{o:Oper}{a:Act}{Q:Exit->Act->World->Prop}(hgd:o.guard=none)(s x:Operand)
  (ho:o.op=.call {callee:=.builtin .append,args:=#[s,x],argTypes:=#[24,24]})
  (base:Nat)(v xv:Value)(l xs:List Int)(hs:a.eval s=v)(hxv:a.eval x=xv)(hown:Qh w base v l)(hx:IntsAt w xv xs)(hn:l.length+xs.length<=10000000)(hbase:base<=w.heap.size)
  (h:∀v' w',Qh w' base v' (l++xs)->w.grownBy w' v.ownBlock->(v'.ownBlock=v.ownBlock\/v'.ownBlock=some w.heap.size)->wpList Tryz.prog ops Q rest (a.put o.dst v') w'):
  wpList Tryz.prog ops Q (o::rest) a w:=by
 refine wpList_plain hgd fun K hK=>?_
 obtain⟨v',w',hr,h2,h3,h4⟩:=xL w base o.type v xv l xs hown hx hn hbase;unfold Oper.wp execOp;simp only[ho,resolve,invoke,builtin,Sem.run_bind,Sem.run_pure,Result.andThen_ok,List.map_toArray,UU,di,hs,hxv,hr];exact hK _ _ (h v' w' h2 h3 h4)
theorem Ja{w:World}{ops:Array Oper}{o:Oper}{a:Act}{K:Act->World->Prop}{Q:Exit->Act->World->Prop}{E:Prop}(hgd:o.guard=none)(s x:Operand)
  (ho:o.op=.call {callee:=.builtin .append,args:=#[s,x],argTypes:=#[24,24]})
  (base:Nat)(v xv:Value)(l xs:List Int)(hs:a.eval s=v)(hxv:a.eval x=xv)(hown:Qh w base v l)(hx:IntsAt w xv xs)(hn:l.length+xs.length<=10000000)(hbase:base<=w.heap.size)(d:Option Tmp)(hd:o.dst=d)
  (h:∀v' w',Qh w' base v' (l++xs)->w.grownBy w' v.ownBlock->(v'.ownBlock=v.ownBlock\/v'.ownBlock=some w.heap.size)->K (a.put d v') w'):
  if Region.wanted o (yielded ops a.tmps)=true then Oper.wp Tryz.prog o a w K Q else E:=by
 subst hd;have hw:Region.wanted o (yielded ops a.tmps)=true:=by simp[Region.wanted,hgd]
 rw[uj hw];obtain⟨v',w',hr,h2,h3,h4⟩:=xL w base o.type v xv l xs hown hx hn hbase;unfold Oper.wp execOp;simp only[ho,resolve,invoke,builtin,Sem.run_bind,Sem.run_pure,Result.andThen_ok,List.map_toArray,UU,di,hs,hxv,hr];exact h v' w' h2 h3 h4
end Go.Proofs.YtpbnmhnbkfnaeaaGreatDoor
namespace Go.Proofs.YtpbnmhnbkfnaeaaGreatDoor
open Go.RowKit Nt
theorem AtC2.grown'{w w':World}{b:Nat}{x y:Value}{T:TypeId}{row:Option Nat}(h:AtC2 w b x y T)(hg:w.grownBy w' row)(hne:row≠some b):AtC2 w' b x y T:=
 (hg.block b (uu.1 h).1 (U8 hne)).trans h
theorem zf9{w:World}{base:Nat}{e:TypeId}{size:Nat}{v:Value}{n:Nat}{xs:List Value}(h:w.ownsRow base e size v n xs){k:Nat}(hk:k<base):v.ownBlock≠some k:=by
 rcases h.2 with⟨rfl,_⟩|⟨g,c,k1,rfl,hb,_⟩
 . intro e;simp[Value.ownBlock]at e
 . intro e
   simp[Value.ownBlock]at e;omega
theorem XN{w:World}{b base n size:Nat}{x y kv:Value}{T e:TypeId}{xs:List Value}(h:AtC2 w b x y T)(ho:w.ownsRow base e size kv n xs)(hne:e≠T):kv.ownBlock≠some b:=by
 unfold AtC2 at h;rcases ho.2 with⟨rfl,_⟩|⟨g1,c1,k1,rfl,_,hg1,_⟩
 . intro e;simp[Value.ownBlock]at e
 . intro e
   simp[Value.ownBlock]at e;subst e;rw[hg1]at h;simp at h;exact hne h.2
theorem Q3{w:World}{base size:Nat}{T:TypeId}{v:Value}{n:Nat}{xs:List Value}(h:w.ownsRow base T size v n xs):∃p cap,v=.slice p n cap:=by
 rcases h.2 with⟨rfl,h1⟩|⟨g,cap,cur,rfl,_⟩
 . exact⟨none,0,by rw[h1]⟩
 . exact⟨_,_,rfl⟩
theorem RowN.far'{w:World}{base:Nat}{v:Value}{ns:List Nd}{kvs:List Value}(h:RowN w base v ns kvs){a:Addr}(ha:a.block<base)(u:Value):RowN (w.setCell a u) base v ns kvs:=
 ⟨h.1,WU h.2.1 ha u,fun j nd kv e1 e2=>⟨(h.2.2 j nd kv e1 e2).1,WU (h.2.2 j nd kv e1 e2).2 ha u⟩⟩
theorem zM{l:Array Bool}{i j:Nat}(hj:j≠i):LL (l.setIfInBounds i true) j=LL l j:=by
 unfold LL;rw[wL,ul (U8 hj)]
theorem zbI{l:Array Bool}{i:Nat}(h:i<l.size):LL (l.setIfInBounds i true) i:=by
 unfold LL;rw[wL,uj rfl,uj h]
def rdC(i:Nat):Bool:=decide (i<14)||(decide (14<i)&&decide (i<21))||decide (i=25)
def ve:Nat->List Nat
 |1=>[0]
 |3=>[2]
 |5=>[3,4]
 |6=>[5]
 |7=>[6]
 |9=>[8]
 |11=>[9,10]
 |12=>[11]
 |13=>[12]
 |16=>[15]
 |18=>[16,17]
 |19=>[18]
 |20=>[19]
 |21=>[14,20]
 |22=>[7,13,21]
 |23=>[22]
 |24=>[1,23]
 |_=>[]
theorem xt{l:Array Bool}{i:Nat}(h:∀i d,d∈ve i->LL l i->LL l d)(hi:i<l.size)(hd:∀d∈ve i,LL l d):∀j d,d∈ve j->LL (l.setIfInBounds i true) j->LL (l.setIfInBounds i true) d:=by
 have mono:∀d,LL l d->LL (l.setIfInBounds i true) d:=fun d e=>by
  by_cases q:d=i
  . subst q;exact zbI hi
  . rw[zM q];exact e
 intro j d hjd e;by_cases q:j=i
 . subst q;exact mono d (hd d hjd)
 . rw[zM q]at e;exact mono d (h j d hjd e)
structure CpS(V W:World)(v:Nat->Value)(nd:Nd)(mv rv:Value)(nk:List Nd)(kvs:List Value)(l:Array Bool)(x:Nat->Value)(w':World):Prop where
 sz:l.size=27
 val:∀i,rdC i=true->LL l i->x i=v i
 bw:¬LL l 24->Below W.heap.size W w'
 k0:LL l 14->¬LL l 21->(∃g,x 14=.slice (some ⟨g,0,none⟩) 0 0)/\Qh w' W.heap.size (x 14) []
 k1:LL l 21->∃a c,x 21=.slice a nd.2.2.length c
 r1:LL l 21->¬LL l 24->Qh w' W.heap.size (x 21) nd.2.2
 a1:LL l 22->x 22=.agg #[.int .i64 nd.1,.string (B nd.2.1),x 21]
 n1:LL l 23->¬LL l 24->∃g,x 23=.slice (some ⟨g,0,none⟩) 1 1/\w'.heap[g]? =some (.cells #[.int .i64 nd.1,.string (B nd.2.1),x 21] 56 (0,0))
 c21:LL l 21->LL l 14
 c22:LL l 22->LL l 21
 c23:LL l 23->LL l 22
 c24:LL l 24->∀j,j<24->LL l j
 c26:LL l 26->LL l 24
 m1:LL l 24->∃a c,x 24=.slice a (nk.length+1) c
 m2:LL l 24->Below V.heap.size V w'/\RowN w' (V.heap.size+1) (x 24) (nk++[nd]) (kvs++[x 21])
 b1:LL l 24->¬LL l 26->AtC2 w' V.heap.size mv rv 26
 b2:LL l 26->AtC2 w' V.heap.size (x 24) rv 26
 cl:∀i d,d∈ve i->LL l i->LL l d
section
variable {V W w' w2:World} {v x:Nat->Value} {nd:Nd} {mv rv:Value} {nk:List Nd} {kvs:List Value} {l:Array Bool}
theorem CpS.start(hl:l=Array.replicate 27 false)(h:Below W.heap.size W w'):CpS V W v nd mv rv nk kvs l x w':=by
 subst hl;have hn:∀j,¬LL (Array.replicate 27 false) j:=fun j h=>by
  unfold LL at h;rw[we]at h
  split at h<;>simp at h
 exact⟨by simp,fun i _ h=>absurd h (hn _),fun _=>h,fun h=>absurd h (hn _),fun h=>absurd h (hn _),fun h=>absurd h (hn _),fun h=>absurd h (hn _),fun h=>absurd h (hn _),fun h=>absurd h (hn _),fun h=>absurd h (hn _),fun h=>absurd h (hn _),fun h=>absurd h (hn _),fun h=>absurd h (hn _),fun h=>absurd h (hn _),fun h=>absurd h (hn _),fun h=>absurd h (hn _),fun h=>absurd h (hn _),fun _ _ _ e=>absurd e (hn _)⟩
theorem CpS.read(h:CpS V W v nd mv rv nk kvs l x w')(i:Nat)(hi:rdC i=true)(hi27:i<27)(hn:¬LL l i)(hd:∀d∈ve i,LL l d)(u:Value)(hu:u=v i):CpS V W v nd mv rv nk kvs (l.setIfInBounds i true) (fun j=>if j=i then u else x j) w':=by
 have n14:14≠i:=by rintro rfl;revert hi;decide
 have n21:21≠i:=by rintro rfl;revert hi;decide
 have n22:22≠i:=by rintro rfl;revert hi;decide
 have n23:23≠i:=by rintro rfl;revert hi;decide
 have n24:24≠i:=by rintro rfl;revert hi;decide
 have n26:26≠i:=by rintro rfl;revert hi;decide
 refine⟨by simp[h.sz],fun j hj e=>?_,?_,?_,?_,?_,?_,?_,?_,?_,?_,?_,?_,?_,?_,?_,?_,xt h.cl (by rw[h.sz];exact hi27) hd⟩
 . show(if j=i then u else x j)=v j
   by_cases q:j=i
   . subst q;rw[uj rfl];exact hu
   . rw[ul q];exact h.val j hj (by rwa[zM q]at e)
 . rw[zM n24];exact h.bw
 . rw[zM n14,zM n21];simp only[ul n14];exact h.k0
 . rw[zM n21];simp only[ul n21];exact h.k1
 . rw[zM n21,zM n24];simp only[ul n21];exact h.r1
 . rw[zM n22];simp only[ul n22,ul n21];exact h.a1
 . rw[zM n23,zM n24];simp only[ul n23,ul n21];exact h.n1
 . rw[zM n21,zM n14];exact h.c21
 . rw[zM n22,zM n21];exact h.c22
 . rw[zM n23,zM n22];exact h.c23
 . rw[zM n24]
   intro e j hj;by_cases q:j=i
   . subst q;exact absurd (h.c24 e j hj) hn
   . rw[zM q];exact h.c24 e j hj
 . rw[zM n26,zM n24];exact h.c26
 . rw[zM n24];simp only[ul n24];exact h.m1
 . rw[zM n24];simp only[ul n24,ul n21];exact h.m2
 . rw[zM n24,zM n26];exact h.b1
 . rw[zM n26];simp only[ul n24];exact h.b2
theorem CpS.all(h:CpS V W v nd mv rv nk kvs l x w')(h1:LL l 1)(h23:LL l 23):∀j,j<24->LL l j:=by
 have g:=fun i d=>h.cl i d
 have h0:=g 1 0 (by decide) h1;have h22:=g 23 22 (by decide) h23;have h7:=g 22 7 (by decide) h22;have h13:=g 22 13 (by decide) h22;have h21:=g 22 21 (by decide) h22;have h6:=g 7 6 (by decide) h7;have h5:=g 6 5 (by decide) h6;have h3:=g 5 3 (by decide) h5;have h4:=g 5 4 (by decide) h5;have h2:=g 3 2 (by decide) h3;have h12:=g 13 12 (by decide) h13;have h11:=g 12 11 (by decide) h12;have h9:=g 11 9 (by decide) h11;have h10:=g 11 10 (by decide) h11;have h8:=g 9 8 (by decide) h9;have h14:=g 21 14 (by decide) h21;have h20:=g 21 20 (by decide) h21;have h19:=g 20 19 (by decide) h20;have h18:=g 19 18 (by decide) h19;have h16:=g 18 16 (by decide) h18;have h17:=g 18 17 (by decide) h18;have h15:=g 16 15 (by decide) h16;intro j hj;rcases(by omega:j=0\/j=1\/j=2\/j=3\/j=4\/j=5\/j=6\/j=7\/j=8\/j=9\/j=10\/j=11\/j=12\/j=13\/j=14\/j=15\/j=16\/j=17\/j=18\/j=19\/j=20\/j=21\/j=22\/j=23)with rfl|rfl|rfl|rfl|rfl|rfl|rfl|rfl|rfl|rfl|rfl|rfl|rfl|rfl|rfl|rfl|rfl|rfl|rfl|rfl|rfl|rfl|rfl|rfl
 all_goals assumption
theorem CpS.s14(h:CpS V W v nd mv rv nk kvs l x w')(hn:¬LL l 14)(hd:∀d∈ve 14,LL l d):CpS V W v nd mv rv nk kvs (l.setIfInBounds 14 true) (fun j=>if j=14 then .slice (some ⟨w'.heap.size,0,none⟩) 0 0 else x j) (w'.alloc (.cells #[] 3)):=by
 have n24:¬LL l 24:=fun e=>hn (h.c24 e 14 (by omega))
 have n21:¬LL l 21:=fun e=>hn (h.c21 e)
 have n22:¬LL l 22:=fun e=>n21 (h.c22 e)
 have n23:¬LL l 23:=fun e=>n22 (h.c23 e)
 have n26:¬LL l 26:=fun e=>n24 (h.c26 e)
 have e21:LL (l.setIfInBounds 14 true) 21=LL l 21:=zM (by decide);have e22:LL (l.setIfInBounds 14 true) 22=LL l 22:=zM (by decide);have e23:LL (l.setIfInBounds 14 true) 23=LL l 23:=zM (by decide);have e24:LL (l.setIfInBounds 14 true) 24=LL l 24:=zM (by decide);have e26:LL (l.setIfInBounds 14 true) 26=LL l 26:=zM (by decide);have hb:=h.bw n24;refine⟨by simp[h.sz],fun j hj e=>?_,fun _=>zf hb _,fun _ _=>⟨⟨_,rfl⟩,zV (YK w') hb.size⟩,fun e=>absurd (e21 ▸ e) n21,fun e=>absurd (e21 ▸ e) n21,fun e=>absurd (e22 ▸ e) n22,fun e=>absurd (e23 ▸ e) n23,fun e=>absurd (e21 ▸ e) n21,fun e=>absurd (e22 ▸ e) n22,fun e=>absurd (e23 ▸ e) n23,fun e=>absurd (e24 ▸ e) n24,fun e=>absurd (e26 ▸ e) n26,fun e=>absurd (e24 ▸ e) n24,fun e=>absurd (e24 ▸ e) n24,fun e=>absurd (e24 ▸ e) n24,fun e=>absurd (e26 ▸ e) n26,xt h.cl (by rw[h.sz];omega) hd⟩;have q:j≠14:=by rintro rfl;revert hj;decide
 show(if j=14 then _ else x j)=v j;rw[ul q];exact h.val j hj (by rwa[zM q]at e)
theorem CpS.s21(h:CpS V W v nd mv rv nk kvs l x w')(hn:¬LL l 21)(hd:∀d∈ve 21,LL l d)(h14:LL l 14){a:Option Addr}{c:Nat}(hr:Qh w2 W.heap.size (.slice a nd.2.2.length c) nd.2.2)(hg:w'.grownBy w2 (x 14).ownBlock):
  CpS V W v nd mv rv nk kvs (l.setIfInBounds 21 true) (fun j=>if j=21 then .slice a nd.2.2.length c else x j) w2:=by
 have n24:¬LL l 24:=fun e=>hn (h.c24 e 21 (by omega))
 have n22:¬LL l 22:=fun e=>hn (h.c22 e)
 have n23:¬LL l 23:=fun e=>n22 (h.c23 e)
 have n26:¬LL l 26:=fun e=>n24 (h.c26 e)
 have e14:LL (l.setIfInBounds 21 true) 14=LL l 14:=zM (by decide);have e22:LL (l.setIfInBounds 21 true) 22=LL l 22:=zM (by decide);have e23:LL (l.setIfInBounds 21 true) 23=LL l 23:=zM (by decide);have e24:LL (l.setIfInBounds 21 true) 24=LL l 24:=zM (by decide);have e26:LL (l.setIfInBounds 21 true) 26=LL l 26:=zM (by decide);have e21:LL (l.setIfInBounds 21 true) 21:=zbI (by rw[h.sz];omega);have hb:=h.bw n24;have hk:=(h.k0 h14 hn).2;refine⟨by simp[h.sz],fun j hj e=>?_,fun _=>qh hb hk hg hb.size,fun _ e=>absurd e21 e,fun _=>⟨a,c,rfl⟩,fun _ _=>hr,fun e=>absurd (e22 ▸ e) n22,fun e=>absurd (e23 ▸ e) n23,fun _=>by rw[e14];exact h14,fun e=>absurd (e22 ▸ e) n22,fun e=>absurd (e23 ▸ e) n23,fun e=>absurd (e24 ▸ e) n24,fun e=>absurd (e26 ▸ e) n26,fun e=>absurd (e24 ▸ e) n24,fun e=>absurd (e24 ▸ e) n24,fun e=>absurd (e24 ▸ e) n24,fun e=>absurd (e26 ▸ e) n26,xt h.cl (by rw[h.sz];omega) hd⟩;have q:j≠21:=by rintro rfl;revert hj;decide
 show(if j=21 then _ else x j)=v j;rw[ul q];exact h.val j hj (by rwa[zM q]at e)
theorem CpS.s22(h:CpS V W v nd mv rv nk kvs l x w')(hn:¬LL l 22)(hd:∀d∈ve 22,LL l d)(h21:LL l 21)(u:Value)(hu:u=.agg #[.int .i64 nd.1,.string (B nd.2.1),x 21]):
  CpS V W v nd mv rv nk kvs (l.setIfInBounds 22 true) (fun j=>if j=22 then u else x j) w':=by
 have n24:¬LL l 24:=fun e=>hn (h.c24 e 22 (by omega))
 have n23:¬LL l 23:=fun e=>hn (h.c23 e)
 have n26:¬LL l 26:=fun e=>n24 (h.c26 e)
 have e14:LL (l.setIfInBounds 22 true) 14=LL l 14:=zM (by decide);have e21:LL (l.setIfInBounds 22 true) 21=LL l 21:=zM (by decide);have e23:LL (l.setIfInBounds 22 true) 23=LL l 23:=zM (by decide);have e24:LL (l.setIfInBounds 22 true) 24=LL l 24:=zM (by decide);have e26:LL (l.setIfInBounds 22 true) 26=LL l 26:=zM (by decide);refine⟨by simp[h.sz],fun j hj e=>?_,fun _=>h.bw n24,fun _ e=>absurd (by rw[e21];exact h21) e,fun _=>h.k1 h21,fun _ _=>h.r1 h21 n24,fun _=>hu,fun e=>absurd (e23 ▸ e) n23,fun _=>by rw[e14];exact h.c21 h21,fun _=>by rw[e21];exact h21,fun e=>absurd (e23 ▸ e) n23,fun e=>absurd (e24 ▸ e) n24,fun e=>absurd (e26 ▸ e) n26,fun e=>absurd (e24 ▸ e) n24,fun e=>absurd (e24 ▸ e) n24,fun e=>absurd (e24 ▸ e) n24,fun e=>absurd (e26 ▸ e) n26,xt h.cl (by rw[h.sz];omega) hd⟩;have q:j≠22:=by rintro rfl;revert hj;decide
 show(if j=22 then _ else x j)=v j;rw[ul q];exact h.val j hj (by rwa[zM q]at e)
theorem CpS.s23(h:CpS V W v nd mv rv nk kvs l x w')(hn:¬LL l 23)(hd:∀d∈ve 23,LL l d)(h22:LL l 22):
  CpS V W v nd mv rv nk kvs (l.setIfInBounds 23 true) (fun j=>if j=23 then .slice (some ⟨w'.heap.size,0,none⟩) 1 1 else x j) (w'.alloc (.cells #[.int .i64 nd.1,.string (B nd.2.1),x 21] 56)):=by
 have n24:¬LL l 24:=fun e=>hn (h.c24 e 23 (by omega))
 have n26:¬LL l 26:=fun e=>n24 (h.c26 e)
 have h21:=h.c22 h22;have e14:LL (l.setIfInBounds 23 true) 14=LL l 14:=zM (by decide);have e21:LL (l.setIfInBounds 23 true) 21=LL l 21:=zM (by decide);have e22:LL (l.setIfInBounds 23 true) 22=LL l 22:=zM (by decide);have e24:LL (l.setIfInBounds 23 true) 24=LL l 24:=zM (by decide);have e26:LL (l.setIfInBounds 23 true) 26=LL l 26:=zM (by decide);have hb:=h.bw n24;refine⟨by simp[h.sz],fun j hj e=>?_,fun _=>zf hb _,fun _ e=>absurd (by rw[e21];exact h21) e,fun _=>h.k1 h21,fun _ _=>zu (h.r1 h21 n24) (zf (ue _ _) _),fun _=>h.a1 h22,fun _ _=>⟨_,rfl,Un w' _⟩,fun _=>by rw[e14];exact h.c21 h21,fun _=>by rw[e21];exact h21,fun _=>by rw[e22];exact h22,fun e=>absurd (e24 ▸ e) n24,fun e=>absurd (e26 ▸ e) n26,fun e=>absurd (e24 ▸ e) n24,fun e=>absurd (e24 ▸ e) n24,fun e=>absurd (e24 ▸ e) n24,fun e=>absurd (e26 ▸ e) n26,xt h.cl (by rw[h.sz];omega) hd⟩;have q:j≠23:=by rintro rfl;revert hj;decide
 show(if j=23 then _ else x j)=v j;rw[ul q];exact h.val j hj (by rwa[zM q]at e)
theorem CpS.s24(h:CpS V W v nd mv rv nk kvs l x w')(hn:¬LL l 24)(hd:∀d∈ve 24,LL l d)(hall:∀j,j<24->LL l j)(ht:nd.2.1.length<=maxLen)(hVW:Below V.heap.size V W)(hbx:AtC2 W V.heap.size mv rv 26)(hN:RowN W (V.heap.size+1) mv nk kvs)
  {a:Option Addr}{c:Nat}(hV:V.heap.size<W.heap.size)(hr:w2.ownsRow (V.heap.size+1) 56 3 (.slice a (nk.length+1) c) (nk.length+1) (q8 nk kvs++nd3 nd (x 21)))(hg:w'.grownBy w2 mv.ownBlock):
  CpS V W v nd mv rv nk kvs (l.setIfInBounds 24 true) (fun j=>if j=24 then .slice a (nk.length+1) c else x j) w2:=by
 have n26:¬LL l 26:=fun e=>hn (h.c26 e)
 have h21:=hall 21 (by omega);have e14:LL (l.setIfInBounds 24 true) 14=LL l 14:=zM (by decide);have e21:LL (l.setIfInBounds 24 true) 21=LL l 21:=zM (by decide);have e22:LL (l.setIfInBounds 24 true) 22=LL l 22:=zM (by decide);have e23:LL (l.setIfInBounds 24 true) 23=LL l 23:=zM (by decide);have e26:LL (l.setIfInBounds 24 true) 26=LL l 26:=zM (by decide);have e24:LL (l.setIfInBounds 24 true) 24:=zbI (by rw[h.sz];omega);have hb:=h.bw hn;have hN':=hN.below hb;have hbl:Below V.heap.size V w':=hVW.trans (hb.mono hVW.size);refine⟨by simp[h.sz],fun j hj e=>?_,fun e=>absurd e24 e,fun _ e=>absurd (by rw[e21];exact h21) e,fun _=>h.k1 h21,fun _ e=>absurd e24 e,fun _=>h.a1 (hall 22 (by omega)),fun _ e=>absurd e24 e,fun _=>by rw[e14];exact hall 14 (by omega),fun _=>by rw[e21];exact h21,fun _=>by rw[e22];exact hall 22 (by omega),fun _ j hj=>by rw[zM (by omega)];exact hall j hj,fun e=>absurd (e26 ▸ e) n26,fun _=>⟨a,c,rfl⟩,fun _=>⟨?_,?_⟩,fun _ _=>?_,fun e=>absurd (e26 ▸ e) n26,xt h.cl (by rw[h.sz];omega) hd⟩
 . have q:j≠24:=by rintro rfl;revert hj;decide
   show(if j=24 then _ else x j)=v j;rw[ul q];exact h.val j hj (by rwa[zM q]at e)
 . exact qh hbl (zV hN'.2.1 (by omega)) hg hbl.size
 . exact hN'.push ht (zV (h.r1 h21 hn) (by omega)) hr hg
 . exact(hbx.below hb).grown' hg (zf9 hN'.2.1 (by omega))
theorem CpS.s26(h:CpS V W v nd mv rv nk kvs l x w')(hn:¬LL l 26)(hd:∀d∈ve 26,LL l d)(h24:LL l 24):
  CpS V W v nd mv rv nk kvs (l.setIfInBounds 26 true) x (w'.setCell ⟨V.heap.size,0,none⟩ (x 24)):=by
 have e14:LL (l.setIfInBounds 26 true) 14=LL l 14:=zM (by decide);have e21:LL (l.setIfInBounds 26 true) 21=LL l 21:=zM (by decide);have e22:LL (l.setIfInBounds 26 true) 22=LL l 22:=zM (by decide);have e23:LL (l.setIfInBounds 26 true) 23=LL l 23:=zM (by decide);have e24:LL (l.setIfInBounds 26 true) 24=LL l 24:=zM (by decide);have e26:LL (l.setIfInBounds 26 true) 26:=zbI (by rw[h.sz];omega);have hall:=h.c24 h24;have h21:=hall 21 (by omega);have g24:LL (l.setIfInBounds 26 true) 24:=by rw[e24];exact h24
 refine⟨by simp[h.sz],fun j hj e=>?_,fun e=>absurd g24 e,fun _ e=>absurd (by rw[e21];exact h21) e,fun _=>h.k1 h21,fun _ e=>absurd g24 e,fun _=>h.a1 (hall 22 (by omega)),fun _ e=>absurd g24 e,fun _=>by rw[e14];exact hall 14 (by omega),fun _=>by rw[e21];exact h21,fun _=>by rw[e22];exact hall 22 (by omega),fun _ j hj=>by rw[zM (by omega)];exact hall j hj,fun _=>g24,fun _=>h.m1 h24,fun _=>⟨?_,?_⟩,fun _ e=>absurd e26 e,fun _=>?_,xt h.cl (by rw[h.sz];omega) hd⟩
 . have q:j≠26:=by rintro rfl;revert hj;decide
   exact h.val j hj (by rwa[zM q]at e)
 . exact(h.m2 h24).1.setCell (p:=⟨V.heap.size,0,none⟩) (ud _) _
 . exact(h.m2 h24).2.far' (a:=⟨V.heap.size,0,none⟩) (by show V.heap.size<V.heap.size+1;omega) _
 . exact(h.b1 h24 hn).st0 _
end
end Go.Proofs.YtpbnmhnbkfnaeaaGreatDoor
namespace Go.Proofs.YtpbnmhnbkfnaeaaGreatDoor
open Go.RowKit Nt
theorem zx{w w':World}(k:Below w.heap.size w w'){a:Addr}{v:Value}(h:w.cell? a=some v):w'.cell? a=some v:=(k.cell (uo _ _ h)).trans h
theorem RowN.base{w:World}{base base':Nat}{v:Value}{ns:List Nd}{kvs:List Value}(h:RowN w base v ns kvs)(hb:base'<=base):RowN w base' v ns kvs:=
 ⟨h.1,zV h.2.1 hb,fun j nd kv e1 e2=>⟨(h.2.2 j nd kv e1 e2).1,zV (h.2.2 j nd kv e1 e2).2 hb⟩⟩
theorem Yy(d:Dt)(u:Value)(w:World)(h:DataAt w u d)(hs:d.1.length<=1000/\d.2.length<=1000/\qr d.1):
  Calls Tryz.prog 30 #[u] w fun e W'=>(∃ma mc rb rc kvs,e=.returned (.agg #[.slice ma d.1.length mc,.slice rb d.2.length rc])/\RowN W' w.heap.size (.slice ma d.1.length mc) d.1 kvs/\Qh W' w.heap.size (.slice rb d.2.length rc) d.2)/\Below w.heap.size w W':=by
 obtain⟨j0,hj,hy0,hy1,hy2⟩:=Ue Tryz.infoNode;obtain⟨ns,rs⟩:=d;obtain⟨nv,rv,rfl,hn,hr⟩:=h;simp only at hn hr hs;obtain⟨an,cn,rfl,hn1,hn2⟩:=hn.form0;obtain⟨ar,cr,rfl,hr1,hr2⟩:=hr.form;unfold maxLen at hn2 hr2;have hb0:=zf (zf (zf (ue w.heap.size w) (.cells #[.slice an ns.length cn,.slice ar rs.length cr] 26)) (.cells #[.slice none 0 0,.slice none 0 0] 26)) (.cells #[] 3);have HB0:=zb hb0;have HN:=zb hn;have HR:=zb (hr.below hb0);have HS:=zb hs.2.2;have HP:=zb (((AtC2.new w (.slice an ns.length cn) (.slice ar rs.length cr) 26).alloc (.cells #[.slice none 0 0,.slice none 0 0] 26)).alloc (.cells #[] 3));have HQ:=zb ((AtC2.new (w.alloc (.cells #[.slice an ns.length cn,.slice ar rs.length cr] 26)) (.slice none 0 0) (.slice none 0 0) 26).alloc (.cells #[] 3));have HRW:=zb (YK ((w.alloc (.cells #[.slice an ns.length cn,.slice ar rs.length cr] 26)).alloc (.cells #[.slice none 0 0,.slice none 0 0] 26)));rw[uk]at HQ;rw[uk,uk]at HRW;have hl1:=hs.1;have hl2:=hs.2.1;have p0:=(za HP).n0;have p1:=(za HP).n1;clear hn hr hs hb0;go_enter Tryz.func30,Tryz.ntmps30;go_wp2_with (at_builtin;refine Qe rfl (.tmp 5) (.tmp 7) rfl (w.heap.size+1+1) (.slice (some ⟨w.heap.size+1+1,0,none⟩) 0 0) (.slice ar rs.length cr) [] rs rfl rfl (za HRW) (za HR) (by simp only[UG];omega) (by simp) ?_;intro v6 V hr6 hg6 _;obtain⟨rb,rc,rfl⟩:=Q3 hr6;have HRV:Hid (Qh V (w.heap.size+1+1) (.slice rb rs.length rc) rs):=zb hr6;have HBV:Hid (Below w.heap.size w V):=zb (qh (za HB0) (zV (za HRW) (by omega)) hg6 (za HB0).size);have HPV:=zb ((za HP).grown' hg6 (XN (za HP) (za HRW) (by decide)));have HQV:=zb ((za HQ).grown' hg6 (XN (za HQ) (za HRW) (by decide)));clear hr6 hg6);have h0:RowN (V.alloc (.cells #[.slice none 0 0,.slice rb rs.length rc] 26)) (V.heap.size+1) (.slice none 0 0) (ns.take 0) []:=⟨by simp,by simpa[q8]using Wd _ _ _ _,fun j nd kv e1 _=>by simp at e1⟩
 have HR0:=zb h0;have HA0:=zb (AtC2.new V (.slice none 0 0) (.slice rb rs.length rc) 26);have HNV:=zb ((za HN).below (za HBV));clear p0 p1 HB0 HN HR HP HQ HRW h0
 go_loopw [4] (fun i wr=>∃(k:Nat)(mv:Value)(kvs:List Value),k<=ns.length/\i=.int .i64 k/\Below V.heap.size V wr/\Hid (AtC2 wr V.heap.size mv (.slice rb rs.length rc) 26)/\Hid (RowN wr (V.heap.size+1) mv (ns.take k) kvs))
  (fun i _=>ns.length-(intOf i).toNat)
 case atStart=>exact⟨0,_,[],by omega,rfl,zf (ue _ _) _,HA0,HR0⟩
 case round=>
  clear HA0 HR0;obtain⟨k,mv,kvs,hk,rfl,hbl,HA,HRN⟩:=hrel;have HPW:=zb ((za HPV).below hbl);have p0:=(za HPW).n0;have p1:=(za HPW).n1;have hlk:(ns.take k).length=k:=by rw[uH];omega
  obtain⟨ma,mc,rfl⟩:=Q3 (za HRN).2.1;rw[hlk]at HA HRN;have q0:=(za HA).n0;have q1:=(za HA).n1;by_cases hlt:k<ns.length
  . obtain⟨nd,hnd⟩:∃nd,ns[k]? =some nd:=⟨_,uf hlt⟩
    obtain⟨b,off,rfl,hb⟩:=((za HNV).below hbl).addr (by omega);obtain⟨kv,c0,c1,c2,htl,hk1⟩:=((za HNV).below hbl).node hnd;obtain⟨ka,kc,rfl,hk2,hk3⟩:=hk1.form;unfold maxLen at hk3;have hks:=(za HS) nd (un hnd);have HK:=zb hk1;have HALL:=zb (And.intro p0 (And.intro q0 (And.intro c0 (And.intro c1 c2))));have HBL:=zb hbl;have hvl:V.heap.size<wr.heap.size:=(za HA).lt;clear hk1 p0 p1 q0 q1 c0 c1 c2 hbl;have p0:=(za HALL).1;go_wp2_with fail;clear p0
    obtain⟨v,hv⟩:∃v:Nat->Value,v=fun j=>match j with
     |0=>.pointer (some ⟨V.heap.size,0,none⟩)
     |1=>.slice ma k mc
     |2=>.pointer (some ⟨w.heap.size,0,none⟩)
     |3=>.slice (some ⟨b,off,none⟩) ns.length cn
     |4=>.int .i64 (k:Int)
     |5=>.pointer (some ⟨b,off+k*3,none⟩)
     |6=>.pointer (some ⟨b,off+k*3,none⟩)
     |7=>.int .i64 nd.1
     |8=>.pointer (some ⟨w.heap.size,0,none⟩)
     |9=>.slice (some ⟨b,off,none⟩) ns.length cn
     |10=>.int .i64 (k:Int)
     |11=>.pointer (some ⟨b,off+k*3,none⟩)
     |12=>.pointer (some ⟨b,off+k*3+1,none⟩)
     |13=>.string (B nd.2.1)
     |15=>.pointer (some ⟨w.heap.size,0,none⟩)
     |16=>.slice (some ⟨b,off,none⟩) ns.length cn
     |17=>.int .i64 (k:Int)
     |18=>.pointer (some ⟨b,off+k*3,none⟩)
     |19=>.pointer (some ⟨b,off+k*3+2,none⟩)
     |20=>.slice ka nd.2.2.length kc
     |25=>.pointer (some ⟨V.heap.size,0,none⟩)
     |_=>undef:=⟨_,rfl⟩
    have v0:v 0=.pointer (some ⟨V.heap.size,0,none⟩):=by subst hv;rfl
    have v1:v 1=.slice ma k mc:=by subst hv;rfl
    have v2:v 2=.pointer (some ⟨w.heap.size,0,none⟩):=by subst hv;rfl
    have v3:v 3=.slice (some ⟨b,off,none⟩) ns.length cn:=by subst hv;rfl
    have v4:v 4=.int .i64 (k:Int):=by subst hv;rfl
    have v5:v 5=.pointer (some ⟨b,off+k*3,none⟩):=by subst hv;rfl
    have v6:v 6=.pointer (some ⟨b,off+k*3,none⟩):=by subst hv;rfl
    have v7:v 7=.int .i64 nd.1:=by subst hv;rfl
    have v8:v 8=.pointer (some ⟨w.heap.size,0,none⟩):=by subst hv;rfl
    have v9:v 9=.slice (some ⟨b,off,none⟩) ns.length cn:=by subst hv;rfl
    have v10:v 10=.int .i64 (k:Int):=by subst hv;rfl
    have v11:v 11=.pointer (some ⟨b,off+k*3,none⟩):=by subst hv;rfl
    have v12:v 12=.pointer (some ⟨b,off+k*3+1,none⟩):=by subst hv;rfl
    have v13:v 13=.string (B nd.2.1):=by subst hv;rfl
    have v15:v 15=.pointer (some ⟨w.heap.size,0,none⟩):=by subst hv;rfl
    have v16:v 16=.slice (some ⟨b,off,none⟩) ns.length cn:=by subst hv;rfl
    have v17:v 17=.int .i64 (k:Int):=by subst hv;rfl
    have v18:v 18=.pointer (some ⟨b,off+k*3,none⟩):=by subst hv;rfl
    have v19:v 19=.pointer (some ⟨b,off+k*3+2,none⟩):=by subst hv;rfl
    have v20:v 20=.slice ka nd.2.2.length kc:=by subst hv;rfl
    have v25:v 25=.pointer (some ⟨V.heap.size,0,none⟩):=by subst hv;rfl
    clear hv;refine wH (by kernel_rfl) ?_;change wpAny _ _ _ _ _ _ _ (World.drew _);refine qS (fun l a' w'=>∃x:Nat->Value,a'=⟨#[.agg #[.slice (some ⟨b,off,none⟩) ns.length cn,.slice ar rs.length cr],.pointer (some ⟨w.heap.size,0,none⟩),.pointer (some ⟨w.heap.size+1,0,none⟩),.pointer (some ⟨V.heap.size,0,none⟩),.int .i64 ↑k,.slice (some ⟨w.heap.size+1+1,0,none⟩) 0 0,.pointer (some ⟨w.heap.size,1,none⟩),.slice ar rs.length cr,.slice rb rs.length rc,.agg #[.slice none 0 0,.slice rb rs.length rc],.int .i64 ↑k,.pointer (some ⟨w.heap.size,0,none⟩),.slice (some ⟨b,off,none⟩) ns.length cn,.int .i64 ↑ns.length,.bool true,u15,u16,x 0,x 1,x 2,x 3,x 4,x 5,x 6,x 7,x 8,x 9,x 10,x 11,x 12,x 13,x 14,x 15,x 16,x 17,x 18,x 19,x 20,x 21,x 22,x 23,x 24,x 25,undef],[]⟩/\CpS V wr v nd (.slice ma k mc) (.slice rb rs.length rc) (ns.take k) kvs l x w') ?hsz ?hend ?hstep ?hgo _ _ _ _ ?h0 ?hc
    case hsz=>
     rintro l a' w'⟨x,_,h⟩;exact h.sz
    case h0=>exact⟨fun j=>[u17,u18,u19,u20,u21,u22,u23,u24,u25,u26,u27,u28,u29,u30,u31,u32,u33,u34,u35,u36,u37,u38,u39,u40,u41,u42].getD j undef,rfl,CpS.start rfl (ue _ _).drew⟩
    case hc=>exact UA rfl
    case hgo=>
     rintro l a' w'⟨x,rfl,h⟩ hr j hj;have k0:l[0]? =some true:=zo hr 0 (by simp) (by rw[h.sz];rfl) (by simp[Region.binds,ua]);have k1:l[1]? =some true:=zo hr 1 (by simp) (by rw[h.sz];rfl) (by simp[Region.binds,ua,k0]);have k2:l[2]? =some true:=zo hr 2 (by simp) (by rw[h.sz];rfl) (by simp[Region.binds,ua]);have k3:l[3]? =some true:=zo hr 3 (by simp) (by rw[h.sz];rfl) (by simp[Region.binds,ua,k2]);have k4:l[4]? =some true:=zo hr 4 (by simp) (by rw[h.sz];rfl) (by simp[Region.binds,ua]);have k5:l[5]? =some true:=zo hr 5 (by simp) (by rw[h.sz];rfl) (by simp[Region.binds,ua,k3,k4]);have k6:l[6]? =some true:=zo hr 6 (by simp) (by rw[h.sz];rfl) (by simp[Region.binds,ua,k5]);have k7:l[7]? =some true:=zo hr 7 (by simp) (by rw[h.sz];rfl) (by simp[Region.binds,ua,k6]);have k8:l[8]? =some true:=zo hr 8 (by simp) (by rw[h.sz];rfl) (by simp[Region.binds,ua]);have k9:l[9]? =some true:=zo hr 9 (by simp) (by rw[h.sz];rfl) (by simp[Region.binds,ua,k8]);have k10:l[10]? =some true:=zo hr 10 (by simp) (by rw[h.sz];rfl) (by simp[Region.binds,ua]);have k11:l[11]? =some true:=zo hr 11 (by simp) (by rw[h.sz];rfl) (by simp[Region.binds,ua,k9,k10]);have k12:l[12]? =some true:=zo hr 12 (by simp) (by rw[h.sz];rfl) (by simp[Region.binds,ua,k11]);have k13:l[13]? =some true:=zo hr 13 (by simp) (by rw[h.sz];rfl) (by simp[Region.binds,ua,k12]);have k14:l[14]? =some true:=zo hr 14 (by simp) (by rw[h.sz];rfl) (by simp[Region.binds,ua]);have k15:l[15]? =some true:=zo hr 15 (by simp) (by rw[h.sz];rfl) (by simp[Region.binds,ua]);have k16:l[16]? =some true:=zo hr 16 (by simp) (by rw[h.sz];rfl) (by simp[Region.binds,ua,k15]);have k17:l[17]? =some true:=zo hr 17 (by simp) (by rw[h.sz];rfl) (by simp[Region.binds,ua]);have k18:l[18]? =some true:=zo hr 18 (by simp) (by rw[h.sz];rfl) (by simp[Region.binds,ua,k16,k17]);have k19:l[19]? =some true:=zo hr 19 (by simp) (by rw[h.sz];rfl) (by simp[Region.binds,ua,k18]);have k20:l[20]? =some true:=zo hr 20 (by simp) (by rw[h.sz];rfl) (by simp[Region.binds,ua,k19]);have k21:l[21]? =some true:=zo hr 21 (by simp) (by rw[h.sz];rfl) (by simp[Region.binds,ua,k14,k20]);have k22:l[22]? =some true:=zo hr 22 (by simp) (by rw[h.sz];rfl) (by simp[Region.binds,ua,k7,k13,k21]);have k23:l[23]? =some true:=zo hr 23 (by simp) (by rw[h.sz];rfl) (by simp[Region.binds,ua,k22]);have k24:l[24]? =some true:=zo hr 24 (by simp) (by rw[h.sz];rfl) (by simp[Region.binds,ua,k1,k23,k21]);have k25:l[25]? =some true:=zo hr 25 (by simp) (by rw[h.sz];rfl) (by simp[Region.binds,ua,k0,k1,k2,k3,k4,k5,k6,k7,k8,k9,k10,k11,k12,k13,k14,k15,k16,k17,k18,k19,k20,k21,k22,k23,k24]);have k26:l[26]? =some true:=zo hr 26 (by simp) (by rw[h.sz];rfl) (by simp[Region.binds,ua,k0,k1,k2,k3,k4,k5,k6,k7,k8,k9,k10,k11,k12,k13,k14,k15,k16,k17,k18,k19,k20,k21,k22,k23,k24,k25]);have hj:j<27:=by simpa using hj
     rcases(by omega:j=0\/j=1\/j=2\/j=3\/j=4\/j=5\/j=6\/j=7\/j=8\/j=9\/j=10\/j=11\/j=12\/j=13\/j=14\/j=15\/j=16\/j=17\/j=18\/j=19\/j=20\/j=21\/j=22\/j=23\/j=24\/j=25\/j=26)with rfl|rfl|rfl|rfl|rfl|rfl|rfl|rfl|rfl|rfl|rfl|rfl|rfl|rfl|rfl|rfl|rfl|rfl|rfl|rfl|rfl|rfl|rfl|rfl|rfl|rfl|rfl
     all_goals assumption
    case hstep=>
     rintro l a' w' j⟨x,rfl,h⟩ hi;have hi2:=hi;unfold Region.ready at hi2;rw[uK]at hi2;obtain⟨hjj,hi3⟩:=hi2;have hjj:j<27:=by simpa using hjj
     have hjl:¬LL l j:=fun e=>by
      unfold LL at e;simp[ua,e]at hi3
     clear hi;rcases(by omega:j=0\/j=1\/j=2\/j=3\/j=4\/j=5\/j=6\/j=7\/j=8\/j=9\/j=10\/j=11\/j=12\/j=13\/j=14\/j=15\/j=16\/j=17\/j=18\/j=19\/j=20\/j=21\/j=22\/j=23\/j=24\/j=25\/j=26)with rfl|rfl|rfl|rfl|rfl|rfl|rfl|rfl|rfl|rfl|rfl|rfl|rfl|rfl|rfl|rfl|rfl|rfl|rfl|rfl|rfl|rfl|rfl|rfl|rfl|rfl|rfl
     . clear hi3
       have hd:∀z∈ve 0,LL l z:=fun z hz=>by simp[ve]at hz
       refine uh rfl (fun K hK=>?_);go_simp;exact hK _ _ ⟨_,by simp[v0],h.read 0 rfl (by omega) hjl hd (v 0) rfl⟩
     . have l0:LL l 0:=zA (by simp[Region.binds,ua]at hi3;simp[hi3])
       clear hi3;have hd:∀z∈ve 1,LL l z:=fun z hz=>by
        simp only[ve,uX,uP,Wf]at hz;rcases hz with rfl
        all_goals assumption
       have n24:¬LL l 24:=fun e=>hjl (h.c24 e 1 (by omega))
       obtain⟨p0,q0,c0,c1,c2⟩:=za HALL;have hbw:=h.bw n24;have p0:=zx hbw p0;have q0:=zx hbw q0;have c0:=zx hbw c0;have c1:=zx hbw c1;have c2:=zx hbw c2;have w0:=(h.val 0 rfl l0).trans v0;refine uh rfl (fun K hK=>?_);go_simp;exact hK _ _ ⟨_,by simp[w0,v1],h.read 1 rfl (by omega) hjl hd (v 1) rfl⟩
     . clear hi3
       have hd:∀z∈ve 2,LL l z:=fun z hz=>by simp[ve]at hz
       refine uh rfl (fun K hK=>?_);go_simp;exact hK _ _ ⟨_,by simp[v2],h.read 2 rfl (by omega) hjl hd (v 2) rfl⟩
     . have l2:LL l 2:=zA (by simp[Region.binds,ua]at hi3;simp[hi3])
       clear hi3;have hd:∀z∈ve 3,LL l z:=fun z hz=>by
        simp only[ve,uX,uP,Wf]at hz;rcases hz with rfl
        all_goals assumption
       have n24:¬LL l 24:=fun e=>hjl (h.c24 e 3 (by omega))
       obtain⟨p0,q0,c0,c1,c2⟩:=za HALL;have hbw:=h.bw n24;have p0:=zx hbw p0;have q0:=zx hbw q0;have c0:=zx hbw c0;have c1:=zx hbw c1;have c2:=zx hbw c2;have w2:=(h.val 2 rfl l2).trans v2;refine uh rfl (fun K hK=>?_);go_simp;exact hK _ _ ⟨_,by simp[w2,v3],h.read 3 rfl (by omega) hjl hd (v 3) rfl⟩
     . clear hi3
       have hd:∀z∈ve 4,LL l z:=fun z hz=>by simp[ve]at hz
       refine uh rfl (fun K hK=>?_);go_simp;exact hK _ _ ⟨_,by simp[v4],h.read 4 rfl (by omega) hjl hd (v 4) rfl⟩
     . have l3:LL l 3:=zA (by simp[Region.binds,ua]at hi3;simp[hi3])
       have l4:LL l 4:=zA (by simp[Region.binds,ua]at hi3;simp[hi3]);clear hi3;have hd:∀z∈ve 5,LL l z:=fun z hz=>by
        simp only[ve,uX,uP,Wf]at hz;rcases hz with rfl|rfl
        all_goals assumption
       have w3:=(h.val 3 rfl l3).trans v3;have w4:=(h.val 4 rfl l4).trans v4;refine uh rfl (fun K hK=>?_);go_simp;exact hK _ _ ⟨_,by simp[w3,w4,v5],h.read 5 rfl (by omega) hjl hd (v 5) rfl⟩
     . have l5:LL l 5:=zA (by simp[Region.binds,ua]at hi3;simp[hi3])
       clear hi3;have hd:∀z∈ve 6,LL l z:=fun z hz=>by
        simp only[ve,uX,uP,Wf]at hz;rcases hz with rfl
        all_goals assumption
       have w5:=(h.val 5 rfl l5).trans v5;refine uh rfl (fun K hK=>?_);go_simp;exact hK _ _ ⟨_,by simp[w5,v6],h.read 6 rfl (by omega) hjl hd (v 6) rfl⟩
     . have l6:LL l 6:=zA (by simp[Region.binds,ua]at hi3;simp[hi3])
       clear hi3;have hd:∀z∈ve 7,LL l z:=fun z hz=>by
        simp only[ve,uX,uP,Wf]at hz;rcases hz with rfl
        all_goals assumption
       have n24:¬LL l 24:=fun e=>hjl (h.c24 e 7 (by omega))
       obtain⟨p0,q0,c0,c1,c2⟩:=za HALL;have hbw:=h.bw n24;have p0:=zx hbw p0;have q0:=zx hbw q0;have c0:=zx hbw c0;have c1:=zx hbw c1;have c2:=zx hbw c2;have w6:=(h.val 6 rfl l6).trans v6;refine uh rfl (fun K hK=>?_);go_simp;exact hK _ _ ⟨_,by simp[w6,v7],h.read 7 rfl (by omega) hjl hd (v 7) rfl⟩
     . clear hi3
       have hd:∀z∈ve 8,LL l z:=fun z hz=>by simp[ve]at hz
       refine uh rfl (fun K hK=>?_);go_simp;exact hK _ _ ⟨_,by simp[v8],h.read 8 rfl (by omega) hjl hd (v 8) rfl⟩
     . have l8:LL l 8:=zA (by simp[Region.binds,ua]at hi3;simp[hi3])
       clear hi3;have hd:∀z∈ve 9,LL l z:=fun z hz=>by
        simp only[ve,uX,uP,Wf]at hz;rcases hz with rfl
        all_goals assumption
       have n24:¬LL l 24:=fun e=>hjl (h.c24 e 9 (by omega))
       obtain⟨p0,q0,c0,c1,c2⟩:=za HALL;have hbw:=h.bw n24;have p0:=zx hbw p0;have q0:=zx hbw q0;have c0:=zx hbw c0;have c1:=zx hbw c1;have c2:=zx hbw c2;have w8:=(h.val 8 rfl l8).trans v8;refine uh rfl (fun K hK=>?_);go_simp;exact hK _ _ ⟨_,by simp[w8,v9],h.read 9 rfl (by omega) hjl hd (v 9) rfl⟩
     . clear hi3
       have hd:∀z∈ve 10,LL l z:=fun z hz=>by simp[ve]at hz
       refine uh rfl (fun K hK=>?_);go_simp;exact hK _ _ ⟨_,by simp[v10],h.read 10 rfl (by omega) hjl hd (v 10) rfl⟩
     . have l9:LL l 9:=zA (by simp[Region.binds,ua]at hi3;simp[hi3])
       have l10:LL l 10:=zA (by simp[Region.binds,ua]at hi3;simp[hi3]);clear hi3;have hd:∀z∈ve 11,LL l z:=fun z hz=>by
        simp only[ve,uX,uP,Wf]at hz;rcases hz with rfl|rfl
        all_goals assumption
       have w9:=(h.val 9 rfl l9).trans v9;have w10:=(h.val 10 rfl l10).trans v10;refine uh rfl (fun K hK=>?_);go_simp;exact hK _ _ ⟨_,by simp[w9,w10,v11],h.read 11 rfl (by omega) hjl hd (v 11) rfl⟩
     . have l11:LL l 11:=zA (by simp[Region.binds,ua]at hi3;simp[hi3])
       clear hi3;have hd:∀z∈ve 12,LL l z:=fun z hz=>by
        simp only[ve,uX,uP,Wf]at hz;rcases hz with rfl
        all_goals assumption
       have w11:=(h.val 11 rfl l11).trans v11;refine uh rfl (fun K hK=>?_);go_simp;exact hK _ _ ⟨_,by simp[w11,v12],h.read 12 rfl (by omega) hjl hd (v 12) rfl⟩
     . have l12:LL l 12:=zA (by simp[Region.binds,ua]at hi3;simp[hi3])
       clear hi3;have hd:∀z∈ve 13,LL l z:=fun z hz=>by
        simp only[ve,uX,uP,Wf]at hz;rcases hz with rfl
        all_goals assumption
       have n24:¬LL l 24:=fun e=>hjl (h.c24 e 13 (by omega))
       obtain⟨p0,q0,c0,c1,c2⟩:=za HALL;have hbw:=h.bw n24;have p0:=zx hbw p0;have q0:=zx hbw q0;have c0:=zx hbw c0;have c1:=zx hbw c1;have c2:=zx hbw c2;have w12:=(h.val 12 rfl l12).trans v12;refine uh rfl (fun K hK=>?_);go_simp;exact hK _ _ ⟨_,by simp[w12,v13],h.read 13 rfl (by omega) hjl hd (v 13) rfl⟩
     . clear hi3
       have hd:∀z∈ve 14,LL l z:=fun z hz=>by simp[ve]at hz
       refine uh rfl (fun K hK=>?_);go_simp;exact hK _ _ ⟨_,by simp,h.s14 hjl hd⟩
     . clear hi3
       have hd:∀z∈ve 15,LL l z:=fun z hz=>by simp[ve]at hz
       refine uh rfl (fun K hK=>?_);go_simp;exact hK _ _ ⟨_,by simp[v15],h.read 15 rfl (by omega) hjl hd (v 15) rfl⟩
     . have l15:LL l 15:=zA (by simp[Region.binds,ua]at hi3;simp[hi3])
       clear hi3;have hd:∀z∈ve 16,LL l z:=fun z hz=>by
        simp only[ve,uX,uP,Wf]at hz;rcases hz with rfl
        all_goals assumption
       have n24:¬LL l 24:=fun e=>hjl (h.c24 e 16 (by omega))
       obtain⟨p0,q0,c0,c1,c2⟩:=za HALL;have hbw:=h.bw n24;have p0:=zx hbw p0;have q0:=zx hbw q0;have c0:=zx hbw c0;have c1:=zx hbw c1;have c2:=zx hbw c2;have w15:=(h.val 15 rfl l15).trans v15;refine uh rfl (fun K hK=>?_);go_simp;exact hK _ _ ⟨_,by simp[w15,v16],h.read 16 rfl (by omega) hjl hd (v 16) rfl⟩
     . clear hi3
       have hd:∀z∈ve 17,LL l z:=fun z hz=>by simp[ve]at hz
       refine uh rfl (fun K hK=>?_);go_simp;exact hK _ _ ⟨_,by simp[v17],h.read 17 rfl (by omega) hjl hd (v 17) rfl⟩
     . have l16:LL l 16:=zA (by simp[Region.binds,ua]at hi3;simp[hi3])
       have l17:LL l 17:=zA (by simp[Region.binds,ua]at hi3;simp[hi3]);clear hi3;have hd:∀z∈ve 18,LL l z:=fun z hz=>by
        simp only[ve,uX,uP,Wf]at hz;rcases hz with rfl|rfl
        all_goals assumption
       have w16:=(h.val 16 rfl l16).trans v16;have w17:=(h.val 17 rfl l17).trans v17;refine uh rfl (fun K hK=>?_);go_simp;exact hK _ _ ⟨_,by simp[w16,w17,v18],h.read 18 rfl (by omega) hjl hd (v 18) rfl⟩
     . have l18:LL l 18:=zA (by simp[Region.binds,ua]at hi3;simp[hi3])
       clear hi3;have hd:∀z∈ve 19,LL l z:=fun z hz=>by
        simp only[ve,uX,uP,Wf]at hz;rcases hz with rfl
        all_goals assumption
       have w18:=(h.val 18 rfl l18).trans v18;refine uh rfl (fun K hK=>?_);go_simp;exact hK _ _ ⟨_,by simp[w18,v19],h.read 19 rfl (by omega) hjl hd (v 19) rfl⟩
     . have l19:LL l 19:=zA (by simp[Region.binds,ua]at hi3;simp[hi3])
       clear hi3;have hd:∀z∈ve 20,LL l z:=fun z hz=>by
        simp only[ve,uX,uP,Wf]at hz;rcases hz with rfl
        all_goals assumption
       have n24:¬LL l 24:=fun e=>hjl (h.c24 e 20 (by omega))
       obtain⟨p0,q0,c0,c1,c2⟩:=za HALL;have hbw:=h.bw n24;have p0:=zx hbw p0;have q0:=zx hbw q0;have c0:=zx hbw c0;have c1:=zx hbw c1;have c2:=zx hbw c2;have w19:=(h.val 19 rfl l19).trans v19;refine uh rfl (fun K hK=>?_);go_simp;exact hK _ _ ⟨_,by simp[w19,v20],h.read 20 rfl (by omega) hjl hd (v 20) rfl⟩
     . have l14:LL l 14:=zA (by simp[Region.binds,ua]at hi3;simp[hi3])
       have l20:LL l 20:=zA (by simp[Region.binds,ua]at hi3;simp[hi3]);clear hi3;have hd:∀z∈ve 21,LL l z:=fun z hz=>by
        simp only[ve,uX,uP,Wf]at hz;rcases hz with rfl|rfl
        all_goals assumption
       have n24:¬LL l 24:=fun e=>hjl (h.c24 e 21 (by omega))
       have hbw:=h.bw n24;have w20:=(h.val 20 rfl l20).trans v20;obtain⟨⟨g,e14⟩,hk0⟩:=h.k0 l14 hjl;rw[e14]at hk0;refine uh rfl (fun K hK=>?_);refine Ja rfl _ _ rfl wr.heap.size (.slice (some ⟨g,0,none⟩) 0 0) (.slice ka nd.2.2.length kc) [] nd.2.2 (by exact e14) (by exact w20) hk0 ((za HK).below hbw) (by simp only[UG];omega) hbw.size (some 38) rfl ?_;intro v6 w6 hr6 hg6 _;obtain⟨ra',rc',rfl⟩:=Q3 hr6;exact hK _ _ ⟨_,by simp[Act.put,e14,w20],h.s21 hjl hd l14 hr6 (by rw[e14];exact hg6)⟩
     . have l7:LL l 7:=zA (by simp[Region.binds,ua]at hi3;simp[hi3])
       have l13:LL l 13:=zA (by simp[Region.binds,ua]at hi3;simp[hi3]);have l21:LL l 21:=zA (by simp[Region.binds,ua]at hi3;simp[hi3]);clear hi3;have hd:∀z∈ve 22,LL l z:=fun z hz=>by
        simp only[ve,uX,uP,Wf]at hz;rcases hz with rfl|rfl|rfl
        all_goals assumption
       have w7:=(h.val 7 rfl l7).trans v7;have w13:=(h.val 13 rfl l13).trans v13;obtain⟨ga,gc,e21⟩:=h.k1 l21;refine uh rfl (fun K hK=>?_);go_simp;exact hK _ _ ⟨_,(by simp[w7,w13,e21];try exact e21.symm),h.s22 hjl hd l21 (.agg #[.int .i64 nd.1,.string (B nd.2.1),x 21]) rfl⟩
     . have l22:LL l 22:=zA (by simp[Region.binds,ua]at hi3;simp[hi3])
       clear hi3;have hd:∀z∈ve 23,LL l z:=fun z hz=>by
        simp only[ve,uX,uP,Wf]at hz;rcases hz with rfl
        all_goals assumption
       have e22:=h.a1 l22;obtain⟨ga,gc,e21⟩:=h.k1 (h.c22 l22);have hs:=h.s23 hjl hd l22;rw[e21]at hs e22;have HSS:=zb hs;clear hs;refine uh rfl (fun K hK=>?_);go_simp;exact hK _ _ ⟨_,by simp[e22,e21],za HSS⟩
     . have l1:LL l 1:=zA (by simp[Region.binds,ua]at hi3;simp[hi3])
       have l23:LL l 23:=zA (by simp[Region.binds,ua]at hi3;simp[hi3]);clear hi3;have hd:∀z∈ve 24,LL l z:=fun z hz=>by
        simp only[ve,uX,uP,Wf]at hz;rcases hz with rfl|rfl
        all_goals assumption
       have w1:=(h.val 1 rfl l1).trans v1;have hall:=h.all l1 l23;obtain⟨g,e23,hg⟩:=h.n1 l23 hjl;have hbw:=h.bw hjl;have hro:=zu (za HRN).2.1 hbw;rw[hlk]at hro;obtain⟨ga,gc,e21⟩:=h.k1 (hall 21 (by omega));refine uh rfl (fun K hK=>?_);refine step_append_lies _ rfl _ _ _ rfl (V.heap.size+1) 56 j0 (.agg #[.int .i64 0,.string ⟨#[]⟩,.slice none 0 0]) 3 48 WW hj hy0 hy1 hy2 rfl (by decide) (.slice ma k mc) k (q8 (ns.take k) kvs) (by exact w1) hro ⟨g,0,none⟩ 1 1 (nd3 nd (x 21)) (by exact e23) rfl (World.news_of_block hg) (by intro u hu;simp[nd3]at hu;rcases hu with rfl|rfl|rfl<;>simp[Value.oneCell',e21]) (by decide) (by unfold maxLen;omega) (by omega) (by have:=hbw.size;omega) w'.heap.size rfl ?_;intro gg cap w9 hown9 hgrow9 _ _;have hn:=h.s24 hjl hd hall htl (za HBL) (za HA) (za HRN) (a:=some ⟨gg,0,none⟩) (c:=cap) hvl (by rw[hlk];exact hown9) hgrow9;rw[hlk]at hn;exact hK _ _ ⟨_,by simp[Act.put,w1,e23],hn⟩
     . clear hi3
       have hd:∀z∈ve 25,LL l z:=fun z hz=>by simp[ve]at hz
       refine uh rfl (fun K hK=>?_);go_simp;exact hK _ _ ⟨_,by simp[v25],h.read 25 rfl (by omega) hjl hd (v 25) rfl⟩
     . have l24:LL l 24:=zA (by simp[Region.binds,ua]at hi3;simp[hi3])
       have l25:LL l 25:=zA (by simp[Region.binds,ua]at hi3;simp[hi3]);clear hi3;have hd:∀z∈ve 26,LL l z:=fun z hz=>by simp[ve]at hz
       have w25:=(h.val 25 rfl l25).trans v25;obtain⟨ga,gc,e24⟩:=h.m1 l24;have hA:=h.b1 l24 hjl;have a0:=hA.n0;have f0:=hA.f 0;have hs:=h.s26 hjl hd l24;rw[e24]at hs;rw[hlk]at hs e24;have HSS:=zb hs;clear hs hA;refine uh rfl (fun K hK=>?_);go_simp;exact hK _ _ ⟨x,by simp[w25,e24],za HSS⟩
    case hend=>
     rintro l a' w'⟨x,rfl,h⟩ hall;have l24:LL l 24:=hall 24 (by decide);have l26:LL l 26:=hall 26 (by decide);obtain⟨hb2,hr2⟩:=h.m2 l24;have htk:ns.take k++[nd]=ns.take (k+1):=by rw[uY,hnd];rfl
     rw[htk]at hr2;have HA2:=zb (h.b2 l26);have HR2:=zb hr2;have HB2:=zb hb2;clear hb2 hr2 htk l24 l26 h hall;go_wp2_with fail;go_roundw
     case rel=>exact⟨k+1,x 24,kvs++[x 21],by omega,by go_num,za HB2,HA2,HR2⟩
     case measure=>simp[intOf];omega
  . obtain rfl:k=ns.length:=by omega
    have hq:=(za HQV).below hbl;have hvl:V.heap.size<wr.heap.size:=(za HA).lt;have hwv:w.heap.size+1<V.heap.size:=(za HQV).lt;have hX:=(hq.st0 (.slice ma ns.length mc)).st1 (.slice rb rs.length rc);have z0:=hX.n0;have z1:=hX.n1;have hrn:=za HRN;rw[uz (ud _)]at hrn;have hN:=((hrn.far' (a:=⟨w.heap.size+1,0,none⟩) (by show w.heap.size+1<_;omega) (.slice ma ns.length mc)).far' (a:=⟨w.heap.size+1,1,none⟩) (by show w.heap.size+1<_;omega) (.slice rb rs.length rc)).base (base':=w.heap.size) (by omega);have hR:=zV (base':=w.heap.size) (WU (WU (zu (za HRV) hbl) (a:=⟨w.heap.size+1,0,none⟩) (by show w.heap.size+1<_;omega) (.slice ma ns.length mc)) (a:=⟨w.heap.size+1,1,none⟩) (by show w.heap.size+1<_;omega) (.slice rb rs.length rc)) (by omega);have HE:=zb (((zi (za HBV) hbl).setCell (p:=⟨w.heap.size+1,0,none⟩) (by show w.heap.size<=w.heap.size+1;omega) (.slice ma ns.length mc)).setCell (p:=⟨w.heap.size+1,1,none⟩) (by show w.heap.size<=w.heap.size+1;omega) (.slice rb rs.length rc));have HNN:=zb hN;have HRR:=zb hR;have e0:=hq.n0;have e1:=hq.n1;have ef:=hq.f;clear hX hrn hN hR hq hbl hwv hvl;go_wp2_with fail;refine um (v:=.agg #[.slice ma ns.length mc,.slice rb rs.length rc]) (by simp[results,Tryz.results30,go_sem,z0,z1]) rfl ⟨⟨_,_,_,_,_,rfl,za HNN,za HRR⟩,za HE⟩
theorem SI.of_row{w:World}{base:Nat}{v:Value}{xs:List Int}(h:Qh w base v xs):SI w base v xs.length:=by
 rcases h.2 with⟨rfl,h0⟩|⟨g,cap,cur,rfl,hb,hg,h1,h2,h3,h4⟩
 . exact .inl ⟨rfl,h0⟩
 . refine .inr ⟨g,cap,rfl,hb,h1,h2,cur,hg,h3,fun j u hj hu=>?_⟩
   have e:(cur.toList.take (xs.length*1))[j]? =some u:=by rw[Wu,uj hj,wK];exact hu
   rw[h4,Ve]at e;obtain⟨x,_,rfl⟩:=Option.map_eq_some_iff.1 e;exact⟨x,rfl⟩
theorem SN.of_row{K:Nat}{w:World}{base:Nat}{v:Value}{ns:List Nd}{kvs:List Value}(h:RowN w base v ns kvs)(hK:∀nd∈ns,nd.2.1.length<=K/\nd.2.2.length<=K):SN K w base v ns.length:=by
 obtain⟨hl,hr,hk⟩:=h;rcases hr.2 with⟨rfl,h0⟩|⟨g,cap,cur,rfl,hb,hg,h1,h2,h3,h4⟩
 . exact .inl ⟨rfl,h0⟩
 . refine .inr ⟨g,cap,rfl,hb,h1,h2,cur,hg,h3,fun j u hj hu=>?_⟩
   have e:(cur.toList.take (ns.length*3))[j]? =some u:=by rw[Wu,uj hj,wK];exact hu
   rw[h4]at e;have hi:j/3<ns.length:=by omega
   have e1:ns[j/3]? =some (ns[j/3]'hi):=uf _;have e2:kvs[j/3]? =some (kvs[j/3]'(by omega)):=uf _;obtain⟨f0,f1,f2⟩:=QO e1 e2;obtain⟨hl2,ho⟩:=hk _ _ _ e1 e2;have hm:=hK _ (uF hi);refine⟨fun h=>?_,fun h=>?_,fun h=>?_⟩
   . rw[show j/3*3=j by omega,e]at f0
     exact⟨_,Ui f0⟩
   . rw[show j/3*3+1=j by omega,e]at f1
     exact⟨_,Ui f1,by rw[zj];exact hm.1⟩
   . rw[show j/3*3+2=j by omega,e]at f2
     refine⟨_,hm.2,?_⟩;rw[Ui f2];exact SI.of_row ho
theorem SN.wide{K K':Nat}{w:World}{base:Nat}{v:Value}{n:Nat}(h:SN K w base v n)(hK:K<=K'):SN K' w base v n:=by
 rcases h with h|⟨g,c,rfl,h1,h2,h3,h4⟩
 . exact .inl h
 . exact .inr ⟨g,c,rfl,h1,h2,h3,h4.map fun j u q=>⟨q.1,fun e=>by obtain⟨s,hs,hl⟩:=q.2.1 e;exact⟨s,hs,by omega⟩,fun e=>by obtain⟨k,hk,hs⟩:=q.2.2 e;exact⟨k,by omega,hs⟩⟩⟩
theorem SN.node{K:Nat}{w:World}{base:Nat}{a:Option Addr}{n c:Nat}(h:SN K w base (.slice a n c) n){k:Nat}(hk:k<n):∃g,a=some ⟨g,0,none⟩/\base<=g/\BN K w base g c n/\(∀j,w.frozen? ⟨g,j,none⟩=false)/\
  ∃x s ka kc kl,w.cell? ⟨g,k*3,none⟩=some (.int .i64 x)/\w.cell? ⟨g,k*3+1,none⟩=some (.string s)/\w.cell? ⟨g,k*3+2,none⟩=some (.slice ka kl kc)/\s.size<=K/\kl<=K/\SI w base (.slice ka kl kc) kl:=by
 rcases h with⟨e,e0⟩|⟨g,c',e,h1,h2,h3,h4⟩
 . omega
 . cases e
   refine⟨g,rfl,h1,h4,h4.frozen,?_⟩;obtain⟨u0,c0,q0⟩:=h4.cell h2 (j:=k*3) (by omega);obtain⟨u1,c1,q1⟩:=h4.cell h2 (j:=k*3+1) (by omega);obtain⟨u2,c2,q2⟩:=h4.cell h2 (j:=k*3+2) (by omega);obtain⟨x,rfl⟩:=q0.1 (by omega);obtain⟨s,rfl,hs⟩:=q1.2.1 (by omega);obtain⟨m,hm,hk⟩:=q2.2.2 (by omega);obtain⟨ka,kc,rfl,_,_⟩:=hk.form;exact⟨x,s,ka,kc,m,c0,c1,c2,hs,hm,hk⟩
end Go.Proofs.YtpbnmhnbkfnaeaaGreatDoor
