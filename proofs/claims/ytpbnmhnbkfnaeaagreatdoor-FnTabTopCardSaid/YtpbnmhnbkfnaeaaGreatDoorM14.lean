/- PROVED: for every two byte slices, and whatever lies in memory besides six tables (two of math/bits, one of strconv, two of unicode/utf8, and the program's table of tens), which read as their texts lay them, laws.FnTabTop returns true and leaves both slices and the table of tens as they were. The only conditions are the row's own: the six tables; the card ties them to the program's text. -/
import Derived.Test.YtpbnmhnbkfnaeaaGreatDoorM0
import Derived.Test.YtpbnmhnbkfnaeaaGreatDoorM3
import Derived.Test.YtpbnmhnbkfnaeaaGreatDoorM7
import Derived.Test.YtpbnmhnbkfnaeaaGreatDoorM11
import Derived.Test.YtpbnmhnbkfnaeaaGreatDoorM12
import Derived.Test.YtpbnmhnbkfnaeaaGreatDoorM13
import Derived.Test.YtpbnmhnbkfnaeaaGreatDoorCards
import Derived.Test.YtpbnmhnbkfnaeaaGreatDoorTie
import Derived.Deep.CutRange
import Derived.Deep.RegionHeld3
import Derived.Deep.RegionWith
import Derived.ProofKit
import Derived.OpenShut
import Derived.ShutString
import Derived.Lib.SmallJoins
import Derived.Lib.LaidU8
import Derived.Lib.LaidU8T
import Derived.Lib.LaidTab
import Derived.PinnedBridge
import Derived.ChangeOld
import Derived.ChangeVars
import Derived.Lay
import Derived.LaidOnce
import Derived.JoinedOf
import Derived.Handy
import Derived.SevenTiedAt
set_option linter.all false
set_option maxRecDepth 100000
set_option maxHeartbeats 32000000
namespace Go.Proofs.YtpbnmhnbkfnaeaaGreatDoor
open Go.RowKit Nt
theorem Qs{B:Nat}{u:Value}{w:World}(h:DtOut B (.returned u) w):∃d:Dt,DataAt w u d/\(d.1.length<=1000/\d.2.length<=1000/\qr d.1):=by
 obtain⟨nv,rv,k,m,e,h1,h2,h3,h4,h5⟩:=h;injection e with e;subst e;obtain⟨d,hd,e1,e2,e3⟩:=Qj h4 h5 (by decide);exact⟨d,hd,by omega,by omega,fun nd hnd=>by have:=e3 nd hnd;omega⟩
theorem jh{ns:List Nd}{r:Int}{rs:List Int}(h:vD (ns,r::rs)=true):ns.all (zT ns.length)=true/\0<=r/\r<ns.length:=by
 obtain⟨_,_,h1,h2⟩:=jQ h;exact⟨h1,h2 r (by simp)⟩
theorem zb6{ns:List Nd}{r:Int}{rs:List Int}(h:vD (ns,r::rs)=true):vD (ns,[r])=true:=by
 unfold vD jG at h⊢;simp only[ux,ut,List.all_cons,List.all_nil,Uv,UG]at h⊢;exact⟨⟨⟨h.1.1.1,by omega⟩,h.1.2⟩,h.2.1,trivial⟩
theorem zgk(d e:Dt):vR e d= -vR d e:=by
 obtain⟨ns,rs⟩:=d;obtain⟨ms,ss⟩:=e;cases h1:vD (ns,rs)with
 |false=>unfold vR;simp[h1]
 |true=>
  cases h2:vD (ms,ss)with
  |false=>unfold vR;simp[h2]
  |true=>
   match rs,ss,h1,h2 with
   | [],[],h1,h2=>unfold vR;simp
   | [],b::ss,h1,h2=>unfold vR;simp
   |a::rs,[],h1,h2=>unfold vR;simp
   |a::rs,b::ss,h1,h2=>
    rw[xI h1 h2,xI h2 h1];exact zcC (jh h1).1 (jh h2).1 ⟨(jh h1).2,(jh h2).2⟩
theorem ze7{d e:Dt}(h:vD d=false\/vD e=false\/d.2.length=0\/e.2.length=0):vR d e=0:=by
 rcases h with h|h|h|h
 . exact KI h
 . exact KJ h
 . exact VN (UO.1 h)
 . exact VO (UO.1 h)
theorem zfT(a b:Nd): -1<=zU a b/\zU a b<=1:=by
 have hi:∀x y:Int, -1<=j9 x y/\j9 x y<=1:=fun x y=>by unfold j9;split<;>(try split)<;>omega
 unfold zU
 split
 . exact hi _ _
 . split
   . unfold Z0 vb sgI
     repeat' split
     all_goals omega
   . split
     . have:=(qU a.2.1 b.2.1).2.2.2;omega
     . exact hi _ _
theorem YS{c:Int->Int->Int}{k:Int->Int->List (Int×Int)}(h:∀a b, -1<=c a b/\c a b<=1):∀(f i:Nat)(l:List (Int×Int)), -1<=qA c k f i l/\qA c k f i l<=1
 |0,_,_=>by unfold qA;omega
 |f+1,i,l=>by
  unfold qA
  split
  . omega
  . split
    . exact YS h f _ _
    . exact h _ _
theorem zgl(d e:Dt): -1<=vR d e/\vR d e<=1:=by
 unfold vR
 split
 . split
   . exact YS (fun a b=>zfT _ _) _ _ _
   . omega
 . omega
theorem ze9{ns ms:List Nd}{r s:Int}(h1:vD (ns,[r])=true)(h2:vD (ms,[s])=true)(h:jf ns ms r s=0):ky (ns,[r]) 1000003=ky (ms,[s]) 1000003:=by
 rw[QS h1 (by omega),QS h2 (by omega)];obtain⟨R,hb,hr⟩:=(Yi (jh h1).1 (jh h2).1 ⟨(jh h1).2,(jh h2).2⟩).1 h;have:=zdU (jh h1).1 (jh h2).1 hb 3 hr;simp only at this;rw[this]
theorem K6(w:World){a c:Addr}(u:Value)(h:a.block≠c.block):(w.setCell a u).cell? c=w.cell? c:=by
 obtain⟨b,o,s⟩:=a;unfold World.cell?;rw[Uj _ _ _ _ (U8 h)]
theorem zaq(ns:List Nd)(na:Option Addr)(nc:Nat)(ra:Option Addr)(rl rc:Nat)(r:Int)(w:World):
  Calls Tryz.prog 11 #[.agg #[.slice na ns.length nc,.slice ra rl rc],.int .i64 r] w fun e w'=>(∃g,e=.returned (.agg #[.slice na ns.length nc,.slice (some ⟨g,0,none⟩) 1 1])/\w'.cell? ⟨g,0,none⟩=some (.int .i64 r))/\Below w.heap.size w w':=by
 go_enter Tryz.func11,Tryz.ntmps11;go_wp2_with fail;have hb:=zf (zf (zf (ue w.heap.size w) (.cells #[.slice na ns.length nc,.slice ra rl rc] 26)) (.cells #[.slice na ns.length nc,.slice (some ⟨w.heap.size+1+1,0,none⟩) 1 1] 26)) (.cells #[.int .i64 r] 3);have hA:=(AtC2.new (w.alloc (.cells #[.slice na ns.length nc,.slice ra rl rc] 26)) (.slice na ns.length nc) (.slice (some ⟨w.heap.size+1+1,0,none⟩) 1 1) 26).alloc (.cells #[.int .i64 r] 3);rw[uk]at hA;have hI:=cell_one_new ((w.alloc (.cells #[.slice na ns.length nc,.slice ra rl rc] 26)).alloc (.cells #[.slice na ns.length nc,.slice (some ⟨w.heap.size+1+1,0,none⟩) 1 1] 26)) (.int .i64 r) 3;rw[uk,uk]at hI;have z0:=hA.n0;have z1:=hA.n1;refine um (v:=.agg #[.slice na ns.length nc,.slice (some ⟨w.heap.size+1+1,0,none⟩) 1 1]) (by simp[results,Tryz.results11,go_sem,z0,z1]) rfl ⟨⟨_,rfl,hI 0 _ rfl⟩,hb⟩
theorem Kr{w:World}{g:Nat}{r:Int}(h:w.cell? ⟨g,0,none⟩=some (.int .i64 r)):IntsAt w (.slice (some ⟨g,0,none⟩) 1 1) [r]:=
 ⟨_,_,rfl,ud _,by unfold maxLen;omega,fun _=>⟨g,0,rfl,uo w _ h,fun j x hx=>by
  match j,hx with
  |0,hx=>cases hx;exact h⟩⟩
structure WtS(W:World)(vs:List Value)(na:Option Addr)(nl nc:Nat)(r:Int)(l:Array Bool)(x:Nat->Value)(w:World):Prop where
 sz:l.size=8
 len:vs.length=5
 val:∀i u,vs[i]? =some u->LL l i->x i=u
 bl:Below W.heap.size W w
 all:LL l 7->∀i,i<8->LL l i
 out:LL l 5->∃g,x 5=.agg #[.slice na nl nc,.slice (some ⟨g,0,none⟩) 1 1]/\w.cell? ⟨g,0,none⟩=some (.int .i64 r)
 box:LL l 6->¬LL l 7->∃b,W.heap.size<=b/\x 6=.pointer (some ⟨b,0,none⟩)/\AtC2 w b (.slice none 0 0) (.slice none 0 0) 26
 fin:LL l 7->∃b g,W.heap.size<=b/\x 6=.pointer (some ⟨b,0,none⟩)/\x 5=.agg #[.slice na nl nc,.slice (some ⟨g,0,none⟩) 1 1]/\AtC2 w b (.slice na nl nc) (.slice (some ⟨g,0,none⟩) 1 1) 26/\w.cell? ⟨g,0,none⟩=some (.int .i64 r)
section
variable {W w w':World} {vs:List Value} {x:Nat->Value} {na:Option Addr} {nl nc:Nat} {r:Int} {l:Array Bool}
theorem WtS.start(n:l=Array.replicate 8 false)(hl:vs.length=5)(h:Below W.heap.size W w):WtS W vs na nl nc r l x w:=by
 subst n;have hn:∀j,¬LL (Array.replicate 8 false) j:=fun j h=>by
  unfold LL at h;rw[we]at h
  split at h<;>simp at h
 exact⟨by simp,hl,fun i _ _ h=>absurd h (hn _),h,fun h=>absurd h (hn _),fun h=>absurd h (hn _),fun h=>absurd h (hn _),fun h=>absurd h (hn _)⟩
theorem zbE(h:WtS W vs na nl nc r l x w){j:Nat}{v:Value}(hj:vs[j]? =some v):j<5:=by have:=(ui.1 hj).1;have:=h.len;omega
theorem WtS.dv{md:Region.Mode}{ops:Array Oper}{j:Nat}(h:WtS W vs na nl nc r l x w)(hi:j∈Region.ready md ops l)(d:Nat){u:Value}(hv:vs[d]? =some u)(hd:((ops[j]?).map (·.after.toList.any fun e=>Region.binds md e&&e.on==d)).getD false=true):x d=u:=h.val d u hv (qB hi d hd)
theorem WtS.next(h:WtS W vs na nl nc r l x w)(hf:¬LL l 7)(i:Nat){u:Value}(hu:vs[i]? =some u):WtS W vs na nl nc r (l.setIfInBounds i true) (fun j=>if j=i then u else x j) w:=by
 have hi:i<5:=by have:=(ui.1 hu).1;have:=h.len;omega
 have hs:=fun j=>j8 (l:=l) (i:=i) (by rw[h.sz];omega) j
 have e5:(if 5=i then u else x 5)=x 5:=ul (by omega);have e6:(if 6=i then u else x 6)=x 6:=ul (by omega);refine⟨by simp[h.sz],h.len,fun j v hj e=>?_,h.bl,fun e=>absurd (((hs 7).1 e).resolve_left (by omega)) hf,fun e=>?_,fun e _=>?_,fun e=>absurd (((hs 7).1 e).resolve_left (by omega)) hf⟩
 . by_cases q:j=i
   . subst q;exact(uj rfl).trans (Ui (hu.symm.trans hj))
   . exact(ul q).trans (h.val j v hj (((hs j).1 e).resolve_left q))
 . simp only[e5];exact h.out (((hs 5).1 e).resolve_left (by omega))
 . simp only[e6];exact h.box (((hs 6).1 e).resolve_left (by omega)) hf
theorem WtS.call(h:WtS W vs na nl nc r l x w)(hf:¬LL l 7){g:Nat}(hu:w'.cell? ⟨g,0,none⟩=some (.int .i64 r))(hb:Below w.heap.size w w'):WtS W vs na nl nc r (l.setIfInBounds 5 true) (fun j=>if j=5 then .agg #[.slice na nl nc,.slice (some ⟨g,0,none⟩) 1 1]else x j) w':=by
 have hs:=fun j=>j8 (l:=l) (i:=5) (by rw[h.sz];omega) j
 refine⟨by simp[h.sz],h.len,fun j v hj e=>have hne:=zbE h hj;(ul (by omega)).trans (h.val j v hj (((hs j).1 e).resolve_left (by omega))),h.bl.trans (hb.mono h.bl.size),fun e=>absurd (((hs 7).1 e).resolve_left (by omega)) hf,fun _=>⟨g,rfl,hu⟩,fun e _=>?_,fun e=>absurd (((hs 7).1 e).resolve_left (by omega)) hf⟩;obtain⟨b,h1,h2,h3⟩:=h.box (((hs 6).1 e).resolve_left (by omega)) hf;exact⟨b,h1,h2,h3.below hb⟩
theorem WtS.make(h:WtS W vs na nl nc r l x w)(hf:¬LL l 7):WtS W vs na nl nc r (l.setIfInBounds 6 true) (fun j=>if j=6 then .pointer (some ⟨w.heap.size,0,none⟩)else x j) (w.alloc (.cells #[.slice none 0 0,.slice none 0 0] 26)):=by
 have hs:=fun j=>j8 (l:=l) (i:=6) (by rw[h.sz];omega) j
 have hb:=zf (ue w.heap.size w) (.cells #[.slice none 0 0,.slice none 0 0] 26);refine⟨by simp[h.sz],h.len,fun j v hj e=>have hne:=zbE h hj;(ul (by omega)).trans (h.val j v hj (((hs j).1 e).resolve_left (by omega))),h.bl.trans (hb.mono h.bl.size),fun e=>absurd (((hs 7).1 e).resolve_left (by omega)) hf,fun e=>?_,fun _ _=>⟨_,h.bl.size,rfl,AtC2.new _ _ _ _⟩,fun e=>absurd (((hs 7).1 e).resolve_left (by omega)) hf⟩;obtain⟨g,h1,h2⟩:=h.out (((hs 5).1 e).resolve_left (by omega));exact⟨g,h1,zd hb h2⟩
theorem WtS.put(h:WtS W vs na nl nc r l x w)(h5:LL l 5)(h6:LL l 6)(hf:¬LL l 7)(ha:∀i,i<7->LL l i){b g:Nat}(e6:x 6=.pointer (some ⟨b,0,none⟩))(e5:x 5=.agg #[.slice na nl nc,.slice (some ⟨g,0,none⟩) 1 1]):WtS W vs na nl nc r (l.setIfInBounds 7 true) x ((w.setCell ⟨b,0,none⟩ (.slice na nl nc)).setCell ⟨b,1,none⟩ (.slice (some ⟨g,0,none⟩) 1 1)):=by
 have hs:=fun j=>j8 (l:=l) (i:=7) (by rw[h.sz];omega) j
 obtain⟨g',q1,q2⟩:=h.out h5;obtain⟨b',q3,q4,q5⟩:=h.box h6 hf;rw[e5]at q1;rw[e6]at q4;injection q4 with q4;injection q4 with q4;injection q4 with q4;injection q1 with q1;simp only[Ws,ww,wm,US,Addr.mk.injEq,WJ,and_true]at q1;subst q4 q1;have hne:b≠g:=fun e=>by
  subst e;have:=q5.n0.symm.trans q2;cases this
 have hc:((w.setCell ⟨b,0,none⟩ (.slice na nl nc)).setCell ⟨b,1,none⟩ (.slice (some ⟨g,0,none⟩) 1 1)).cell? ⟨g,0,none⟩=some (.int .i64 r):=(K6 _ (a:=⟨b,1,none⟩) (c:=⟨g,0,none⟩) _ hne).trans ((K6 _ (a:=⟨b,0,none⟩) (c:=⟨g,0,none⟩) _ hne).trans q2);exact⟨by simp[h.sz],h.len,fun j v hj e=>have hne:=zbE h hj;h.val j v hj (((hs j).1 e).resolve_left (by omega)),(h.bl.setCell (p:=⟨b,0,none⟩) q3 _).setCell (p:=⟨b,1,none⟩) q3 _,fun _ i hi=>(hs i).2 (by by_cases q:i=7;exact .inl q;exact .inr (ha i (by omega))),fun _=>⟨g,e5,hc⟩,fun _ e=>absurd ((hs 7).2 (.inl rfl)) e,fun _=>⟨b,g,q3,e6,e5,(q5.st0 _).st1 _,hc⟩⟩
end
structure zhH(W:World)(b5 b7:Nat)(an ar am as_ al at_:Option Addr)(cn cr cm cs cl ct:Nat)(ns ms ls:List Nd)(rs ss ts:List Int):Prop where
 p:AtC2 W b5 (.slice an ns.length cn) (.slice ar rs.length cr) 26
 q:AtC2 W (b5+1) (.slice am ms.length cm) (.slice as_ ss.length cs) 26
 r:AtC2 W b7 (.slice al ls.length cl) (.slice at_ ts.length ct) 26
 d:DataAt W (.agg #[.slice an ns.length cn,.slice ar rs.length cr]) (ns,rs)
 e:DataAt W (.agg #[.slice am ms.length cm,.slice as_ ss.length cs]) (ms,ss)
 f:DataAt W (.agg #[.slice al ls.length cl,.slice at_ ts.length ct]) (ls,ts)
 n:NodesAt W (.slice an ns.length cn) ns
 m:NodesAt W (.slice am ms.length cm) ms
 x:IntsAt W (.slice ar rs.length cr) rs
 y:IntsAt W (.slice as_ ss.length cs) ss
theorem Vk(a0 a1:Option Addr)(len0 cap0 len1 cap1:Nat)(w:World)(hb0:Bytes0 w a0 len0)(hb1:Bytes0 w a1 len1)(hc0:len0<=cap0)(hc1:len1<=cap1)(hm0:cap0<=maxLen)(hm1:cap1<=maxLen)(hT:Tabz w)(hN:Tens w)(h3:3<w.heap.size)
  (htab:Lib.TabBelow Tryz.prog w.heap.size w "internal/strconv.uint64pow10" .u64 Lib.pow10Tab):
  Calls Tryz.prog 3 #[.slice a0 len0 cap0,.slice a1 len1 cap1] w fun r w'=>r=.returned (.bool true)/\Below w.heap.size w w':=by
 have HCON:Hid (∀W,Below w.heap.size w W->Tabz W/\Tens W/\3<W.heap.size):=zb (fun W hb=>⟨hT.below (by omega) hb,hN.belowB hb h3,uJ h3 hb.size⟩);have HTB:=zb htab;have H0:=zb hb0;have H1:=zb hb1;have HM0:=zb hm0;have HM1:=zb hm1;clear hb0 hb1 hT hN h3 htab;unfold maxLen at hm0 hm1;by_cases hg0:1048576<(len0:Int)
 . go_enter Tryz.func3,Tryz.ntmps3
   go_wp2_with fail;go_ret;exact⟨rfl,ue _ _⟩
 by_cases hg1:1048576<(len1:Int)
 . go_enter Tryz.func3,Tryz.ntmps3
   go_wp2_with fail;go_ret;exact⟨rfl,ue _ _⟩
 go_enter Tryz.func3,Tryz.ntmps3;go_wp2_with fail;have h:=Qg a0 len0 cap0 w (za H0) hc0 (za HM0);refine h.mono ?_;clear h;rintro e w1⟨⟨u,v,rfl,ho1,ho2⟩,hb1⟩;obtain⟨d1,hd1,hs1⟩:=Qs ho1;obtain⟨d2,hd2,hs2⟩:=Qs ho2;clear ho1 ho2;obtain⟨ns,rs⟩:=d1;obtain⟨ms,ss⟩:=d2;obtain⟨an,cn,ar,cr,rfl,hdn,hdr⟩:=hd1.slices';obtain⟨am,cm,as_,cs,rfl,hen,her⟩:=hd2.slices';simp only at hd1 hdn hdr hs1 hd2 hen her hs2⊢;have hst:=zf (zf (ue w1.heap.size w1) (.cells #[.slice an ns.length cn,.slice ar rs.length cr] 26)) (.cells #[.slice am ms.length cm,.slice as_ ss.length cs] 26);have hpp:=(AtC2.new w1 (.slice an ns.length cn) (.slice ar rs.length cr) 26).alloc (.cells #[.slice am ms.length cm,.slice as_ ss.length cs] 26);have hqq:=AtC2.new (w1.alloc (.cells #[.slice an ns.length cn,.slice ar rs.length cr] 26)) (.slice am ms.length cm) (.slice as_ ss.length cs) 26;rw[uk]at hqq;have HB1:=zb (zi hb1 hst);have HD1:=zb (hd1.below hst);have HE1:=zb (hd2.below hst);have HN1:=zb (hdn.below hst);have HO1:=zb (hen.below hst);have HR1:=zb (hdr.below hst);have HS1:=zb (her.below hst);have HS:Hid ((ns.length<=1048576/\rs.length<=1048576/\qr ns)/\(ms.length<=1048576/\ss.length<=1048576/\qr ms)):=zb ⟨⟨by omega,by omega,hs1.2.2⟩,by omega,by omega,hs2.2.2⟩;have hrl:=hs1.2.1;have hsl:=hs2.2.1;obtain⟨b5,hb5⟩:∃b,w1.heap.size=b:=⟨_,rfl⟩
 obtain⟨W1,hW1⟩:∃W,(w1.alloc (.cells #[.slice an ns.length cn,.slice ar rs.length cr] 26)).alloc (.cells #[.slice am ms.length cm,.slice as_ ss.length cs] 26)=W:=⟨_,rfl⟩
 rw[hb5]at hpp hqq;rw[hW1]at HB1 hpp hqq HD1 HE1 HN1 HO1 HR1 HS1;have HP1:=zb hpp;have HQ1:=zb hqq;have HX1:=zb (And.intro hW1 hb5);clear hd1 hd2 hdn hen hdr her hs1 hs2 hb1 hst hW1 hb5 hpp hqq;go_wp2_with fail;obtain⟨hW1,hb5⟩:=za HX1;rw[hW1,hb5];clear hW1 hb5 HX1;have h:=Qg a1 len1 cap1 W1 ((za H1).below (za HB1)) hc1 (za HM1);refine h.mono ?_;clear h;rintro e w2⟨⟨u,v,rfl,ho1,ho2⟩,hb2⟩;obtain⟨d1,hd1,hs1⟩:=Qs ho1;obtain⟨d2,hd2,_⟩:=Qs ho2;clear ho1 ho2;obtain⟨ls,ts⟩:=d1;obtain⟨qs,zs⟩:=d2;obtain⟨al,cl,at_,ct,rfl,hdn,hdr⟩:=hd1.slices';obtain⟨aq,cq,az,cz,rfl,_,_⟩:=hd2.slices';simp only at hd1 hdn hdr hs1⊢;have hst:=zf (zf (ue w2.heap.size w2) (.cells #[.slice al ls.length cl,.slice at_ ts.length ct] 26)) (.cells #[.slice aq qs.length cq,.slice az zs.length cz] 26);have hst2:=zi hb2 hst;have hpp:=(AtC2.new w2 (.slice al ls.length cl) (.slice at_ ts.length ct) 26).alloc (.cells #[.slice aq qs.length cq,.slice az zs.length cz] 26)
 have HF:Hid (zhH ((w2.alloc (.cells #[.slice al ls.length cl,.slice at_ ts.length ct] 26)).alloc (.cells #[.slice aq qs.length cq,.slice az zs.length cz] 26)) b5 w2.heap.size an ar am as_ al at_ cn cr cm cs cl ct ns ms ls rs ss ts):=
  zb ⟨(za HP1).below hst2,(za HQ1).below hst2,hpp,(za HD1).below hst2,(za HE1).below hst2,hd1.below hst,(za HN1).below hst2,(za HO1).below hst2,(za HR1).below hst2,(za HS1).below hst2⟩
 have HB2:=zb (zi (za HB1) hst2);have HT2:Hid (ls.length<=1048576/\ts.length<=1048576/\qr ls):=zb ⟨by omega,by omega,hs1.2.2⟩;have htl:=hs1.2.1;obtain⟨b7,hb7⟩:∃b,w2.heap.size=b:=⟨_,rfl⟩
 obtain⟨W2,hW2⟩:∃W,(w2.alloc (.cells #[.slice al ls.length cl,.slice at_ ts.length ct] 26)).alloc (.cells #[.slice aq qs.length cq,.slice az zs.length cz] 26)=W:=⟨_,rfl⟩
 have p0:=(za HF).p.n0;have p1:=(za HF).p.n1;have q0:=(za HF).q.n0;have q1:=(za HF).q.n1;rw[hW2,hb7]at HF;rw[hW2]at HB2;have HX2:=zb (And.intro hW2 hb7);clear hd1 hd2 hdn hdr hs1 hb2 hst hst2 hpp hW2 hb7 HP1 HQ1 HD1 HE1 HN1 HO1 HR1 HS1;obtain⟨T,hT⟩:∃T,vR (ns,rs) (ms,ss)=T:=⟨_,rfl⟩
 obtain⟨U,hU⟩:∃U,vR (ms,ss) (ls,ts)=U:=⟨_,rfl⟩
 obtain⟨V,hV⟩:∃V,vR (ns,rs) (ls,ts)=V:=⟨_,rfl⟩
 obtain⟨oa,hoa⟩:∃o,vD (ns,rs)=o:=⟨_,rfl⟩
 obtain⟨ob,hob⟩:∃o,vD (ms,ss)=o:=⟨_,rfl⟩
 obtain⟨oc,hoc⟩:∃o,vD (ls,ts)=o:=⟨_,rfl⟩
 have HC1:Hid (∀X,Below W2.heap.size W2 X->Calls Tryz.prog 8 #[.agg #[.slice an ns.length cn,.slice ar rs.length cr],.agg #[.slice am ms.length cm,.slice as_ ss.length cs]] X fun e W'=>e=.returned (.int .i64 T)/\Below X.heap.size X W'):=zb (fun X hX=>by
  rw[<-hT];obtain⟨c1,c2,c3⟩:=za HCON _ (zi (za HB2) hX);exact yM (ns,rs) (ms,ss) _ _ X ((za HF).d.below hX) ((za HF).e.below hX) (za HS).1 (za HS).2 c1 c2 c3)
 have HC2:Hid (∀X,Below W2.heap.size W2 X->Calls Tryz.prog 9 #[.agg #[.slice an ns.length cn,.slice ar rs.length cr],.agg #[.slice am ms.length cm,.slice as_ ss.length cs]] X fun e W'=>e=.returned (.int .i64 T)/\Below X.heap.size X W'):=zb (fun X hX=>by
  rw[<-hT];exact KG (ns,rs) (ms,ss) _ _ X ((za HF).d.below hX) ((za HF).e.below hX) (za HS).1 (za HS).2)
 have HC3:Hid (∀X,Below W2.heap.size W2 X->Calls Tryz.prog 8 #[.agg #[.slice am ms.length cm,.slice as_ ss.length cs],.agg #[.slice an ns.length cn,.slice ar rs.length cr]] X fun e W'=>e=.returned (.int .i64 (-T))/\Below X.heap.size X W'):=zb (fun X hX=>by
  rw[<-hT,<-zgk];obtain⟨c1,c2,c3⟩:=za HCON _ (zi (za HB2) hX);exact yM (ms,ss) (ns,rs) _ _ X ((za HF).e.below hX) ((za HF).d.below hX) (za HS).2 (za HS).1 c1 c2 c3)
 have HC4:Hid (∀X,Below W2.heap.size W2 X->Calls Tryz.prog 8 #[.agg #[.slice am ms.length cm,.slice as_ ss.length cs],.agg #[.slice al ls.length cl,.slice at_ ts.length ct]] X fun e W'=>e=.returned (.int .i64 U)/\Below X.heap.size X W'):=zb (fun X hX=>by
  rw[<-hU];obtain⟨c1,c2,c3⟩:=za HCON _ (zi (za HB2) hX);exact yM (ms,ss) (ls,ts) _ _ X ((za HF).e.below hX) ((za HF).f.below hX) (za HS).2 (za HT2) c1 c2 c3)
 have HC5:Hid (∀X,Below W2.heap.size W2 X->Calls Tryz.prog 8 #[.agg #[.slice an ns.length cn,.slice ar rs.length cr],.agg #[.slice al ls.length cl,.slice at_ ts.length ct]] X fun e W'=>e=.returned (.int .i64 V)/\Below X.heap.size X W'):=zb (fun X hX=>by
  rw[<-hV];obtain⟨c1,c2,c3⟩:=za HCON _ (zi (za HB2) hX);exact yM (ns,rs) (ls,ts) _ _ X ((za HF).d.below hX) ((za HF).f.below hX) (za HS).1 (za HT2) c1 c2 c3)
 have HK1:Hid (∀X,Below W2.heap.size W2 X->Calls Tryz.prog 10 #[.agg #[.slice an ns.length cn,.slice ar rs.length cr]] X fun e W'=>e=.returned (.bool oa)/\Below X.heap.size X W'):=zb (fun X hX=>by
  rw[<-hoa];exact jX (ns,rs) _ X ((za HF).d.below hX) (za HS).1)
 have HK2:Hid (∀X,Below W2.heap.size W2 X->Calls Tryz.prog 10 #[.agg #[.slice am ms.length cm,.slice as_ ss.length cs]] X fun e W'=>e=.returned (.bool ob)/\Below X.heap.size X W'):=zb (fun X hX=>by
  rw[<-hob];exact jX (ms,ss) _ X ((za HF).e.below hX) (za HS).2)
 have HK3:Hid (∀X,Below W2.heap.size W2 X->Calls Tryz.prog 10 #[.agg #[.slice al ls.length cl,.slice at_ ts.length ct]] X fun e W'=>e=.returned (.bool oc)/\Below X.heap.size X W'):=zb (fun X hX=>by
  rw[<-hoc];exact jX (ls,ts) _ X ((za HF).f.below hX) (za HT2))
 have hrng:=zgl (ns,rs) (ms,ss);rw[hT]at hrng;have HEQ:=zb (And.intro hT (And.intro hU (And.intro hV (And.intro hoa (And.intro hob hoc)))));clear hT hU hV hoa hob hoc;go_wp2_with fail;obtain⟨hW2,hb7⟩:=za HX2;rw[hW2,hb7];rw[hW2]at p0 p1 q0 q1;clear hW2 hb7 HX2;have wn1:IntKind.i64.wrap (-(-T))=T:=by rw[qX _ (by omega) (by omega)];omega
 have wn2:IntKind.i64.wrap T=T:=by rw[qX _ (by omega) (by omega)]
 refine(za HC1 W2 (ue _ _)).mono ?_;rintro e w3⟨rfl,hb3⟩;have HB3:=zb hb3;clear hb3;have z0:=zd (za HB3) p0;have z1:=zd (za HB3) p1;have z2:=zd (za HB3) q0;have z3:=zd (za HB3) q1;go_wp2_with fail;refine(za HC2 w3 (za HB3)).mono ?_;rintro e w4⟨rfl,hb4⟩;have HB4:=zb (zi (za HB3) hb4);clear hb4 z0 z1 z2 z3;have z0:=zd (za HB4) p0;have z1:=zd (za HB4) p1;have z2:=zd (za HB4) q0;have z3:=zd (za HB4) q1;go_wp2_with fail;refine(za HC3 w4 (za HB4)).mono ?_;rintro e w5⟨rfl,hb5⟩;have HB5:=zb (zi (za HB4) hb5);clear hb5 z0 z1 z2 z3;have z0:=zd (za HB5) p0;have z1:=zd (za HB5) p1;have z2:=zd (za HB5) q0;have z3:=zd (za HB5) q1;go_wp2_with fail;have HT0:Hid (oa=false\/ob=false\/rs.length=0\/ss.length=0->T=0):=zb (fun h=>by
  obtain⟨e1,_,_,e4,e5,_⟩:=za HEQ;rw[<-e1];rw[<-e4,<-e5]at h;exact ze7 h)
 cases oa with
 |false=>
  obtain rfl:=(za HT0) (.inl rfl)
  refine(za HK1 w5 (za HB5)).mono ?_;rintro e w6⟨rfl,hb6⟩;have HB6:=zb (zi (za HB5) hb6);clear hb6 z0 z1 z2 z3;have z0:=zd (za HB6) p0;have z1:=zd (za HB6) p1;have z2:=zd (za HB6) q0;have z3:=zd (za HB6) q1;go_wp2_with fail;go_ret;exact⟨rfl,zi (za HB2) (za HB6)⟩
 |true=>
 refine(za HK1 w5 (za HB5)).mono ?_;rintro e w6⟨rfl,hb6⟩;have HB6:=zb (zi (za HB5) hb6);clear hb6 z0 z1 z2 z3;have z0:=zd (za HB6) p0;have z1:=zd (za HB6) p1;have z2:=zd (za HB6) q0;have z3:=zd (za HB6) q1;go_wp2_with fail;cases ob with
 |false=>
  obtain rfl:=(za HT0) (.inr (.inl rfl))
  refine(za HK2 w6 (za HB6)).mono ?_;rintro e w7⟨rfl,hb7⟩;have HB7:=zb (zi (za HB6) hb7);clear hb7 z0 z1 z2 z3;have z0:=zd (za HB7) p0;have z1:=zd (za HB7) p1;have z2:=zd (za HB7) q0;have z3:=zd (za HB7) q1;go_wp2_with fail;go_ret;exact⟨rfl,zi (za HB2) (za HB7)⟩
 |true=>
 by_cases hr0:rs.length=0
 . obtain rfl:=(za HT0) (.inr (.inr (.inl hr0)))
   have y1:((rs.length:Int)==0)=true:=by simp[hr0]
   clear hr0;refine(za HK2 w6 (za HB6)).mono ?_;rintro e w7⟨rfl,hb7⟩;have HB7:=zb (zi (za HB6) hb7);clear hb7 z0 z1 z2 z3;have z0:=zd (za HB7) p0;have z1:=zd (za HB7) p1;have z2:=zd (za HB7) q0;have z3:=zd (za HB7) q1;go_wp2_with fail;go_ret;exact⟨rfl,zi (za HB2) (za HB7)⟩
 by_cases hs0:ss.length=0
 . obtain rfl:=(za HT0) (.inr (.inr (.inr hs0)))
   have y1:((rs.length:Int)==0)=false:=by simpa using hr0
   have y2:((ss.length:Int)==0)=true:=by simp[hs0]
   clear hs0;refine(za HK2 w6 (za HB6)).mono ?_;rintro e w7⟨rfl,hb7⟩;have HB7:=zb (zi (za HB6) hb7);clear hb7 z0 z1 z2 z3;have z0:=zd (za HB7) p0;have z1:=zd (za HB7) p1;have z2:=zd (za HB7) q0;have z3:=zd (za HB7) q1;go_wp2_with fail;go_ret;exact⟨rfl,zi (za HB2) (za HB7)⟩
 refine(za HK2 w6 (za HB6)).mono ?_;rintro e w7⟨rfl,hb7⟩;have HB7:=zb (zi (za HB6) hb7);clear hb7 z0 z1 z2 z3;have z0:=zd (za HB7) p0;have z1:=zd (za HB7) p1;have z2:=zd (za HB7) q0;have z3:=zd (za HB7) q1;clear HT0 HB3 HB4 HB5 HB6 wn1;have y1:((rs.length:Int)==0)=false:=by simpa using hr0
 have y2:((ss.length:Int)==0)=false:=by simpa using hs0
 obtain⟨r,hr⟩:∃r,rs[0]? =some r:=⟨_,uf (by omega)⟩
 obtain⟨s,hs⟩:∃s,ss[0]? =some s:=⟨_,uf (by omega)⟩
 obtain⟨rb,ro,rfl,_,xr⟩:=(za HF).x.cell hr;obtain⟨sb,so,rfl,_,xs⟩:=(za HF).y.cell hs;replace xr:=zd (za HB7) xr;replace xs:=zd (za HB7) xs;rw[wC]at xr xs;have HRS:=zb (And.intro hr hs);have hr1:0<rs.length:=by omega
 have hs1:0<ss.length:=by omega
 clear hr hs
 go_upto_region 10 with fail
 refine wH (by kernel_rfl) ?_;change wpAny _ _ _ _ _ _ _ (World.drew _);refine qS (fun l' a' w'=>∃x:Nat->Value,a'=⟨#[.slice a0 len0 cap0,.slice a1 len1 cap1,undef,undef,.bool false,.pointer (some ⟨b5,0,none⟩),.pointer (some ⟨b5+1,0,none⟩),.pointer (some ⟨b7,0,none⟩),.pointer (some ⟨b7+1,0,none⟩),.int .i64 T,x 6,undef,undef,.slice a0 len0 cap0,.int .i64 (len0:Int),.bool false,.bool false,.slice a1 len1 cap1,.int .i64 (len1:Int),.bool false,.bool false,.tuple #[.agg #[.slice an ns.length cn,.slice (some ⟨rb,ro,none⟩) rs.length cr],.agg #[.slice am ms.length cm,.slice (some ⟨sb,so,none⟩) ss.length cs]],.slice a0 len0 cap0,.tuple #[.agg #[.slice an ns.length cn,.slice (some ⟨rb,ro,none⟩) rs.length cr],.agg #[.slice am ms.length cm,.slice (some ⟨sb,so,none⟩) ss.length cs]],.agg #[.slice an ns.length cn,.slice (some ⟨rb,ro,none⟩) rs.length cr],.agg #[.slice am ms.length cm,.slice (some ⟨sb,so,none⟩) ss.length cs],.tuple #[.agg #[.slice al ls.length cl,.slice at_ ts.length ct],.agg #[.slice aq qs.length cq,.slice az zs.length cz]],.slice a1 len1 cap1,.tuple #[.agg #[.slice al ls.length cl,.slice at_ ts.length ct],.agg #[.slice aq qs.length cq,.slice az zs.length cz]],.agg #[.slice al ls.length cl,.slice at_ ts.length ct],.agg #[.slice aq qs.length cq,.slice az zs.length cz],.agg #[.slice an ns.length cn,.slice (some ⟨rb,ro,none⟩) rs.length cr],.agg #[.slice am ms.length cm,.slice (some ⟨sb,so,none⟩) ss.length cs],.int .i64 T,.int .i64 T,.agg #[.slice an ns.length cn,.slice (some ⟨rb,ro,none⟩) rs.length cr],.agg #[.slice am ms.length cm,.slice (some ⟨sb,so,none⟩) ss.length cs],.int .i64 T,.bool false,.bool false,.int .i64 T,.agg #[.slice am ms.length cm,.slice (some ⟨sb,so,none⟩) ss.length cs],.agg #[.slice an ns.length cn,.slice (some ⟨rb,ro,none⟩) rs.length cr],.int .i64 (-T),.int .i64 T,.bool false,.bool false,.agg #[.slice an ns.length cn,.slice (some ⟨rb,ro,none⟩) rs.length cr],.bool true,.bool false,.bool false,.agg #[.slice am ms.length cm,.slice (some ⟨sb,so,none⟩) ss.length cs],.bool true,.bool false,.bool false,.bool false,.pointer (some ⟨b5,1,none⟩),.slice (some ⟨rb,ro,none⟩) rs.length cr,.int .i64 (rs.length:Int),.bool false,.bool false,.bool false,.pointer (some ⟨b5+1,1,none⟩),.slice (some ⟨sb,so,none⟩) ss.length cs,.int .i64 (ss.length:Int),.bool false,.bool false,undef,undef,x 0,x 1,x 2,x 3,x 4,x 5,undef,undef,undef,undef,undef,undef,undef,undef,undef,undef,undef,undef,undef,undef,undef,undef,undef,undef,undef,undef,undef,undef,undef,undef,undef,undef,undef,undef,undef,undef,undef,undef,undef,undef,undef,undef,undef,undef,undef,undef,undef,undef,undef,undef,undef,undef,undef,undef,undef,undef,undef,undef,undef,undef,undef,undef,undef,undef,undef,undef,undef,undef,undef],[]⟩/\WtS w7 [.agg #[.slice an ns.length cn,.slice (some ⟨rb,ro,none⟩) rs.length cr],.pointer (some ⟨b5,1,none⟩),.slice (some ⟨rb,ro,none⟩) rs.length cr,.pointer (some ⟨rb,ro,none⟩),.int .i64 r] an ns.length cn r l' x w') (fun _ _ _⟨_,_,h⟩=>by exact h.sz) ?hend ?hstep (fun _ _ _⟨_,_,h⟩=>vE (by kernel_rfl) (by exact h.sz)) _ _ _ _ ⟨fun j=>[undef,undef,undef,undef,undef,undef,undef,undef].getD j undef,rfl,WtS.start rfl rfl (ue _ _).drew⟩ (UA rfl)
 case hstep=>
  rintro l' a' w' j⟨x,rfl,h⟩ hi;have hj:j<8:=jR hi;have hf:¬LL l' 7:=fun e=>ye hi (h.all e j hj)
  rcases(by omega:j=0\/j=1\/j=2\/j=3\/j=4\/j=5\/j=6\/j=7)with rfl|rfl|rfl|rfl|rfl|rfl|rfl|rfl
  . have u0:=zd h.bl z0
    have u1:=zd h.bl z1;refine uh rfl (fun K hK=>?_);go_simp;exact hK _ _ ⟨_,by simp[],h.next hf 0 rfl⟩
  . refine uh rfl (fun K hK=>?_)
    go_simp;exact hK _ _ ⟨_,by simp[],h.next hf 1 rfl⟩
  . have w1:=h.dv hi 1 rfl rfl
    have u1:=zd h.bl z1;simp only[w1];refine uh rfl (fun K hK=>?_);go_simp;exact hK _ _ ⟨_,by simp[w1],h.next hf 2 rfl⟩
  . have w2:=h.dv hi 2 rfl rfl
    simp only[w2];refine uh rfl (fun K hK=>?_);go_simp;exact hK _ _ ⟨_,by simp[w2],h.next hf 3 rfl⟩
  . have w3:=h.dv hi 3 rfl rfl
    have u1:=zd h.bl xr;simp only[w3];refine uh rfl (fun K hK=>?_);go_simp;exact hK _ _ ⟨_,by simp[w3],h.next hf 4 rfl⟩
  . have w0:=h.dv hi 0 rfl rfl
    have w4:=h.dv hi 4 rfl rfl;simp only[w0,w4];refine uh rfl (fun K hK=>?_);go_simp
    go_at_call 11
    refine(zaq ns an cn (some ⟨rb,ro,none⟩) rs.length cr r w').mono ?_;rintro e wy⟨⟨g,rfl,hu⟩,hb⟩
    (try dsimp only)
    exact hK _ _ ⟨_,by simp[w0,w4],h.call hf hu hb⟩
  . refine uh rfl (fun K hK=>?_)
    go_simp;exact hK _ _ ⟨_,by simp,h.make hf⟩
  . have h5:=qB hi 5 rfl
    have h6:=qB hi 6 rfl;have ha:∀i,i<7->LL l' i:=fun i hi7=>by
     rcases(by omega:i=0\/i=1\/i=2\/i=3\/i=4\/i=5\/i=6)with rfl|rfl|rfl|rfl|rfl|rfl|rfl<;>exact qB hi _ rfl
    obtain⟨b,_,g2,g3⟩:=h.box h6 hf;obtain⟨g,e5,_⟩:=h.out h5;have f0:=g3.f 0;have f1:=g3.f 1;have n0:=g3.n0;have n1:=g3.n1;have n2:=(g3.st0 (.slice an ns.length cn)).f 1;have n3:=(g3.st0 (.slice an ns.length cn)).n1;simp only[g2,e5];refine uh rfl (fun K hK=>?_);go_simp;exact hK _ _ ⟨_,by simp[g2,e5],h.put h5 h6 hf ha g2 e5⟩
 case hend=>
  rintro l' a' w8⟨x,rfl,h⟩ hall;have ha:∀i,i<8->l'[i]? =some true:=hall;obtain⟨b10,g10,_,e6,e5,hx,hg⟩:=h.fin (ha 7 (by omega));simp only[h.val 0 _ rfl (ha 0 (by decide)),h.val 1 _ rfl (ha 1 (by decide)),h.val 2 _ rfl (ha 2 (by decide)),h.val 3 _ rfl (ha 3 (by decide)),h.val 4 _ rfl (ha 4 (by decide)),e5,e6];have HX10:=zb hx;have HG10:=zb hg;have hbe:=h.bl;clear h hall ha hx hg e5 e6;have HB8:=zb (zi (za HB7) hbe);have z4:=zd hbe xs;clear hbe z0 z1 z2 z3 xr xs;have z2:=zd (za HB8) q0;have z3:=zd (za HB8) q1
  go_upto_region 11 with fail
  refine wH (by kernel_rfl) ?_;change wpAny _ _ _ _ _ _ _ (World.drew _);refine qS (fun l' a' w'=>∃x:Nat->Value,a'=⟨#[.slice a0 len0 cap0,.slice a1 len1 cap1,undef,undef,.bool false,.pointer (some ⟨b5,0,none⟩),.pointer (some ⟨b5+1,0,none⟩),.pointer (some ⟨b7,0,none⟩),.pointer (some ⟨b7+1,0,none⟩),.int .i64 T,.pointer (some ⟨b10,0,none⟩),x 6,undef,.slice a0 len0 cap0,.int .i64 (len0:Int),.bool false,.bool false,.slice a1 len1 cap1,.int .i64 (len1:Int),.bool false,.bool false,.tuple #[.agg #[.slice an ns.length cn,.slice (some ⟨rb,ro,none⟩) rs.length cr],.agg #[.slice am ms.length cm,.slice (some ⟨sb,so,none⟩) ss.length cs]],.slice a0 len0 cap0,.tuple #[.agg #[.slice an ns.length cn,.slice (some ⟨rb,ro,none⟩) rs.length cr],.agg #[.slice am ms.length cm,.slice (some ⟨sb,so,none⟩) ss.length cs]],.agg #[.slice an ns.length cn,.slice (some ⟨rb,ro,none⟩) rs.length cr],.agg #[.slice am ms.length cm,.slice (some ⟨sb,so,none⟩) ss.length cs],.tuple #[.agg #[.slice al ls.length cl,.slice at_ ts.length ct],.agg #[.slice aq qs.length cq,.slice az zs.length cz]],.slice a1 len1 cap1,.tuple #[.agg #[.slice al ls.length cl,.slice at_ ts.length ct],.agg #[.slice aq qs.length cq,.slice az zs.length cz]],.agg #[.slice al ls.length cl,.slice at_ ts.length ct],.agg #[.slice aq qs.length cq,.slice az zs.length cz],.agg #[.slice an ns.length cn,.slice (some ⟨rb,ro,none⟩) rs.length cr],.agg #[.slice am ms.length cm,.slice (some ⟨sb,so,none⟩) ss.length cs],.int .i64 T,.int .i64 T,.agg #[.slice an ns.length cn,.slice (some ⟨rb,ro,none⟩) rs.length cr],.agg #[.slice am ms.length cm,.slice (some ⟨sb,so,none⟩) ss.length cs],.int .i64 T,.bool false,.bool false,.int .i64 T,.agg #[.slice am ms.length cm,.slice (some ⟨sb,so,none⟩) ss.length cs],.agg #[.slice an ns.length cn,.slice (some ⟨rb,ro,none⟩) rs.length cr],.int .i64 (-T),.int .i64 T,.bool false,.bool false,.agg #[.slice an ns.length cn,.slice (some ⟨rb,ro,none⟩) rs.length cr],.bool true,.bool false,.bool false,.agg #[.slice am ms.length cm,.slice (some ⟨sb,so,none⟩) ss.length cs],.bool true,.bool false,.bool false,.bool false,.pointer (some ⟨b5,1,none⟩),.slice (some ⟨rb,ro,none⟩) rs.length cr,.int .i64 (rs.length:Int),.bool false,.bool false,.bool false,.pointer (some ⟨b5+1,1,none⟩),.slice (some ⟨sb,so,none⟩) ss.length cs,.int .i64 (ss.length:Int),.bool false,.bool false,undef,undef,.agg #[.slice an ns.length cn,.slice (some ⟨rb,ro,none⟩) rs.length cr],.pointer (some ⟨b5,1,none⟩),.slice (some ⟨rb,ro,none⟩) rs.length cr,.pointer (some ⟨rb,ro,none⟩),.int .i64 r,.agg #[.slice an ns.length cn,.slice (some ⟨g10,0,none⟩) 1 1],x 0,x 1,x 2,x 3,x 4,x 5,undef,undef,undef,undef,undef,undef,undef,undef,undef,undef,undef,undef,undef,undef,undef,undef,undef,undef,undef,undef,undef,undef,undef,undef,undef,undef,undef,undef,undef,undef,undef,undef,undef,undef,undef,undef,undef,undef,undef,undef,undef,undef,undef,undef,undef,undef,undef,undef,undef,undef,undef,undef,undef,undef,undef,undef,undef],[]⟩/\WtS w8 [.agg #[.slice am ms.length cm,.slice (some ⟨sb,so,none⟩) ss.length cs],.pointer (some ⟨(b5+1),1,none⟩),.slice (some ⟨sb,so,none⟩) ss.length cs,.pointer (some ⟨sb,so,none⟩),.int .i64 s] am ms.length cm s l' x w') (fun _ _ _⟨_,_,h⟩=>by exact h.sz) ?hend ?hstep (fun _ _ _⟨_,_,h⟩=>vE (by kernel_rfl) (by exact h.sz)) _ _ _ _ ⟨fun j=>[undef,undef,undef,undef,undef,undef,undef,undef].getD j undef,rfl,WtS.start rfl rfl (ue _ _).drew⟩ (UA rfl)
  case hstep=>
   rintro l' a' w' j⟨x,rfl,h⟩ hi;have hj:j<8:=jR hi;have hf:¬LL l' 7:=fun e=>ye hi (h.all e j hj)
   rcases(by omega:j=0\/j=1\/j=2\/j=3\/j=4\/j=5\/j=6\/j=7)with rfl|rfl|rfl|rfl|rfl|rfl|rfl|rfl
   . have u0:=zd h.bl z2
     have u1:=zd h.bl z3;refine uh rfl (fun K hK=>?_);go_simp;exact hK _ _ ⟨_,by simp[],h.next hf 0 rfl⟩
   . refine uh rfl (fun K hK=>?_)
     go_simp;exact hK _ _ ⟨_,by simp[],h.next hf 1 rfl⟩
   . have w1:=h.dv hi 1 rfl rfl
     have u1:=zd h.bl z3;simp only[w1];refine uh rfl (fun K hK=>?_);go_simp;exact hK _ _ ⟨_,by simp[w1],h.next hf 2 rfl⟩
   . have w2:=h.dv hi 2 rfl rfl
     simp only[w2];refine uh rfl (fun K hK=>?_);go_simp;exact hK _ _ ⟨_,by simp[w2],h.next hf 3 rfl⟩
   . have w3:=h.dv hi 3 rfl rfl
     have u1:=zd h.bl z4;simp only[w3];refine uh rfl (fun K hK=>?_);go_simp;exact hK _ _ ⟨_,by simp[w3],h.next hf 4 rfl⟩
   . have w0:=h.dv hi 0 rfl rfl
     have w4:=h.dv hi 4 rfl rfl;simp only[w0,w4];refine uh rfl (fun K hK=>?_);go_simp
     go_at_call 11
     refine(zaq ms am cm (some ⟨sb,so,none⟩) ss.length cs s w').mono ?_;rintro e wy⟨⟨g,rfl,hu⟩,hb⟩
     (try dsimp only)
     exact hK _ _ ⟨_,by simp[w0,w4],h.call hf hu hb⟩
   . refine uh rfl (fun K hK=>?_)
     go_simp;exact hK _ _ ⟨_,by simp,h.make hf⟩
   . have h5:=qB hi 5 rfl
     have h6:=qB hi 6 rfl;have ha:∀i,i<7->LL l' i:=fun i hi7=>by
      rcases(by omega:i=0\/i=1\/i=2\/i=3\/i=4\/i=5\/i=6)with rfl|rfl|rfl|rfl|rfl|rfl|rfl<;>exact qB hi _ rfl
     obtain⟨b,_,g2,g3⟩:=h.box h6 hf;obtain⟨g,e5,_⟩:=h.out h5;have f0:=g3.f 0;have f1:=g3.f 1;have n0:=g3.n0;have n1:=g3.n1;have n2:=(g3.st0 (.slice am ms.length cm)).f 1;have n3:=(g3.st0 (.slice am ms.length cm)).n1;simp only[g2,e5];refine uh rfl (fun K hK=>?_);go_simp;exact hK _ _ ⟨_,by simp[g2,e5],h.put h5 h6 hf ha g2 e5⟩
  case hend=>
   rintro l' a' w9⟨x,rfl,h⟩ hall;have ha:∀i,i<8->l'[i]? =some true:=hall;obtain⟨b11,g11,_,e6,e5,hx,hg⟩:=h.fin (ha 7 (by omega));simp only[h.val 0 _ rfl (ha 0 (by decide)),h.val 1 _ rfl (ha 1 (by decide)),h.val 2 _ rfl (ha 2 (by decide)),h.val 3 _ rfl (ha 3 (by decide)),h.val 4 _ rfl (ha 4 (by decide)),e5,e6];have HX11:=zb hx;have HG11:=zb hg;have hbe:=h.bl;clear h hall ha hx hg e5 e6;have HB9:=zb (zi (za HB8) hbe);have HX9:=zb ((za HX10).below hbe);have HG9:Hid (w9.cell? ⟨g10,0,none⟩=_):=zb (zd hbe (za HG10));clear hbe z2 z3 z4 HX10 HG10;have HPS:Hid (T=jf ns ms r s/\vD (ns,[r])=true/\vD (ms,[s])=true):=zb (by
    obtain⟨e1,_,_,e4,e5,_⟩:=za HEQ;obtain⟨k1,k2⟩:=za HRS;cases rs with
    |nil=>simp at k1
    |cons r' rs=>
     cases ss with
     |nil=>simp at k2
     |cons s' ss=>
      obtain rfl:r'=r:=by simpa using k1
      obtain rfl:s'=s:=by simpa using k2
      exact⟨by rw[<-e1,xI e4 e5],zb6 e4,zb6 e5⟩)
   have HSD:Hid (∀X,Below w9.heap.size w9 X->Calls Tryz.prog 12 #[.agg #[.slice an ns.length cn,.slice (some ⟨g10,0,none⟩) 1 1],.agg #[.slice am ms.length cm,.slice (some ⟨g11,0,none⟩) 1 1]] X fun e W'=>e=.returned (.bool (decide (T=0)))/\Below X.heap.size X W'):=zb (fun X hX=>by
    obtain⟨k1,k2,k3⟩:=za HPS;have hb9:=zi (za HB9) hX;have hbw:=zi (za HB2) hb9;obtain⟨c1,c2,c3⟩:=za HCON _ hbw;rw[k1];exact Va ns ms r s _ _ X ⟨_,_,rfl,(za HF).n.below hb9,(Kr (za HG9)).below hX⟩ ⟨_,_,rfl,(za HF).m.below hb9,(Kr (za HG11)).below hX⟩ k2 k3 (za HS).1.2.2 (za HS).2.2.2 c1 c2 c3 (fun w' hb=>((za HTB).on hbw) w' (hb.mono hbw.size)))
   obtain⟨R1,hR1⟩:∃R,ky (ns,[r]) 1000003=R:=⟨_,rfl⟩
   obtain⟨R2,hR2⟩:∃R,ky (ms,[s]) 1000003=R:=⟨_,rfl⟩
   have HH1:Hid (∀X,Below w9.heap.size w9 X->Calls Tryz.prog 13 #[.agg #[.slice an ns.length cn,.slice (some ⟨g10,0,none⟩) 1 1],.int .i64 1000003] X fun e W'=>e=.returned (.int .i64 R1)/\Below X.heap.size X W'):=zb (fun X hX=>by
    have hb9:=zi (za HB9) hX;obtain⟨c1,c2,c3⟩:=za HCON _ (zi (za HB2) hb9);rw[<-hR1];exact ZP (ns,[r]) _ 1000003 X ⟨_,_,rfl,(za HF).n.below hb9,(Kr (za HG9)).below hX⟩ ⟨(za HS).1.1,by simp,(za HS).1.2.2⟩ c1 c2 c3)
   have HH2:Hid (∀X,Below w9.heap.size w9 X->Calls Tryz.prog 13 #[.agg #[.slice am ms.length cm,.slice (some ⟨g11,0,none⟩) 1 1],.int .i64 1000003] X fun e W'=>e=.returned (.int .i64 R2)/\Below X.heap.size X W'):=zb (fun X hX=>by
    have hb9:=zi (za HB9) hX;obtain⟨c1,c2,c3⟩:=za HCON _ (zi (za HB2) hb9);rw[<-hR2];exact ZP (ms,[s]) _ 1000003 X ⟨_,_,rfl,(za HF).m.below hb9,(Kr (za HG11)).below hX⟩ ⟨(za HS).2.1,by simp,(za HS).2.2.2⟩ c1 c2 c3)
   have HRR:Hid (T=0->R1=R2):=zb (fun h=>by
    obtain⟨k1,k2,k3⟩:=za HPS;rw[<-hR1,<-hR2];exact ze9 k2 k3 (k1.symm.trans h))
   clear hR1 hR2
   go_upto_region 12 with fail
   go_cut [97]from 81 to 97 (fun s wx=>s=.bool false/\Below w9.heap.size w9 wx)
   case first=>
    by_cases hT0:T=0
    . subst hT0
      obtain rfl:=(za HRR) rfl;refine wH (by kernel_rfl) ?_;change wpAny _ _ _ _ _ _ _ (World.drew _);refine qS (fun l' a' w'=>∃x:Nat->Value,a'=⟨#[.slice a0 len0 cap0,.slice a1 len1 cap1,undef,undef,.bool false,.pointer (some ⟨b5,0,none⟩),.pointer (some ⟨b5+1,0,none⟩),.pointer (some ⟨b7,0,none⟩),.pointer (some ⟨b7+1,0,none⟩),.int .i64 0,.pointer (some ⟨b10,0,none⟩),.pointer (some ⟨b11,0,none⟩),undef,.slice a0 len0 cap0,.int .i64 (len0:Int),.bool false,.bool false,.slice a1 len1 cap1,.int .i64 (len1:Int),.bool false,.bool false,.tuple #[.agg #[.slice an ns.length cn,.slice (some ⟨rb,ro,none⟩) rs.length cr],.agg #[.slice am ms.length cm,.slice (some ⟨sb,so,none⟩) ss.length cs]],.slice a0 len0 cap0,.tuple #[.agg #[.slice an ns.length cn,.slice (some ⟨rb,ro,none⟩) rs.length cr],.agg #[.slice am ms.length cm,.slice (some ⟨sb,so,none⟩) ss.length cs]],.agg #[.slice an ns.length cn,.slice (some ⟨rb,ro,none⟩) rs.length cr],.agg #[.slice am ms.length cm,.slice (some ⟨sb,so,none⟩) ss.length cs],.tuple #[.agg #[.slice al ls.length cl,.slice at_ ts.length ct],.agg #[.slice aq qs.length cq,.slice az zs.length cz]],.slice a1 len1 cap1,.tuple #[.agg #[.slice al ls.length cl,.slice at_ ts.length ct],.agg #[.slice aq qs.length cq,.slice az zs.length cz]],.agg #[.slice al ls.length cl,.slice at_ ts.length ct],.agg #[.slice aq qs.length cq,.slice az zs.length cz],.agg #[.slice an ns.length cn,.slice (some ⟨rb,ro,none⟩) rs.length cr],.agg #[.slice am ms.length cm,.slice (some ⟨sb,so,none⟩) ss.length cs],.int .i64 0,.int .i64 0,.agg #[.slice an ns.length cn,.slice (some ⟨rb,ro,none⟩) rs.length cr],.agg #[.slice am ms.length cm,.slice (some ⟨sb,so,none⟩) ss.length cs],.int .i64 0,.bool false,.bool false,.int .i64 0,.agg #[.slice am ms.length cm,.slice (some ⟨sb,so,none⟩) ss.length cs],.agg #[.slice an ns.length cn,.slice (some ⟨rb,ro,none⟩) rs.length cr],.int .i64 (-0),.int .i64 0,.bool false,.bool false,.agg #[.slice an ns.length cn,.slice (some ⟨rb,ro,none⟩) rs.length cr],.bool true,.bool false,.bool false,.agg #[.slice am ms.length cm,.slice (some ⟨sb,so,none⟩) ss.length cs],.bool true,.bool false,.bool false,.bool false,.pointer (some ⟨b5,1,none⟩),.slice (some ⟨rb,ro,none⟩) rs.length cr,.int .i64 (rs.length:Int),.bool false,.bool false,.bool false,.pointer (some ⟨b5+1,1,none⟩),.slice (some ⟨sb,so,none⟩) ss.length cs,.int .i64 (ss.length:Int),.bool false,.bool false,undef,undef,.agg #[.slice an ns.length cn,.slice (some ⟨rb,ro,none⟩) rs.length cr],.pointer (some ⟨b5,1,none⟩),.slice (some ⟨rb,ro,none⟩) rs.length cr,.pointer (some ⟨rb,ro,none⟩),.int .i64 r,.agg #[.slice an ns.length cn,.slice (some ⟨g10,0,none⟩) 1 1],.agg #[.slice am ms.length cm,.slice (some ⟨sb,so,none⟩) ss.length cs],.pointer (some ⟨b5+1,1,none⟩),.slice (some ⟨sb,so,none⟩) ss.length cs,.pointer (some ⟨sb,so,none⟩),.int .i64 s,.agg #[.slice am ms.length cm,.slice (some ⟨g11,0,none⟩) 1 1],x 0,x 1,x 2,x 3,x 4,x 5,x 6,x 7,x 8,x 9,x 10,x 11,x 12,x 13,x 14,x 15,x 16,undef,undef,undef,undef,undef,undef,undef,undef,undef,undef,undef,undef,undef,undef,undef,undef,undef,undef,undef,undef,undef,undef,undef,undef,undef,undef,undef,undef,undef,undef,undef,undef,undef,undef,undef,undef,undef,undef,undef,undef],[]⟩/\RdL w9 [.int .i64 0,.bool true,.agg #[.slice an ns.length cn,.slice (some ⟨g10,0,none⟩) 1 1],.agg #[.slice am ms.length cm,.slice (some ⟨g11,0,none⟩) 1 1],.bool true,.bool false,.bool false,.int .i64 0,.bool true,.bool true,.agg #[.slice an ns.length cn,.slice (some ⟨g10,0,none⟩) 1 1],.int .i64 R1,.agg #[.slice am ms.length cm,.slice (some ⟨g11,0,none⟩) 1 1],.int .i64 R1,.bool false,.bool false,.bool false] l' x w') (fun _ _ _⟨_,_,h⟩=>h.sz) ?hend ?hstep (fun _ _ _⟨_,_,h⟩=>vE (by kernel_rfl) h.sz) _ _ _ _ ⟨fun j=>[undef,undef,undef,undef,undef,undef,undef,undef,undef,undef,undef,undef,undef,undef,undef,undef,undef].getD j undef,rfl,RdL.start rfl (ue _ _).drew⟩ (UA rfl)
      case hstep=>
       rintro l' a' w' j⟨x,rfl,h⟩ hi;have hj:j<17:=jR hi;rcases(by omega:j=0\/j=1\/j=2\/j=3\/j=4\/j=5\/j=6\/j=7\/j=8\/j=9\/j=10\/j=11\/j=12\/j=13\/j=14\/j=15\/j=16)with rfl|rfl|rfl|rfl|rfl|rfl|rfl|rfl|rfl|rfl|rfl|rfl|rfl|rfl|rfl|rfl|rfl
       . refine uh rfl (fun K hK=>?_)
         go_simp;exact hK _ _ ⟨_,by simp[],h.nx 0 rfl⟩
       . have w0:=h.dv hi 0 rfl rfl
         simp only[w0];refine uh rfl (fun K hK=>?_);go_simp;exact hK _ _ ⟨_,by simp[w0],h.nx 1 rfl⟩
       . have c0:=((za HX9).below h.bl).n0
         have c1:=((za HX9).below h.bl).n1;have c2:=((za HX11).below h.bl).n0;have c3:=((za HX11).below h.bl).n1;refine uh rfl (fun K hK=>?_);go_simp;exact hK _ _ ⟨_,by simp[],h.nx 2 rfl⟩
       . have c0:=((za HX9).below h.bl).n0
         have c1:=((za HX9).below h.bl).n1;have c2:=((za HX11).below h.bl).n0;have c3:=((za HX11).below h.bl).n1;refine uh rfl (fun K hK=>?_);go_simp;exact hK _ _ ⟨_,by simp[],h.nx 3 rfl⟩
       . have w2:=h.dv hi 2 rfl rfl
         have w3:=h.dv hi 3 rfl rfl;simp only[w2,w3];refine uh rfl (fun K hK=>?_);go_simp
         go_at_call 12
         refine(za HSD w' h.bl).mono ?_;rintro e wz⟨rfl,hb⟩
         (try dsimp only)
         exact hK _ _ ⟨_,by simp[w2,w3],h.call 4 rfl hb⟩
       . have w1:=h.dv hi 1 rfl rfl
         have w4:=h.dv hi 4 rfl rfl;simp only[w1,w4];refine uh rfl (fun K hK=>?_);go_simp;exact hK _ _ ⟨_,by simp[w1,w4],h.nx 5 rfl⟩
       . have w5:=h.dv hi 5 rfl rfl
         simp only[w5];refine uh rfl (fun K hK=>?_);go_simp;exact hK _ _ ⟨_,by simp[w5],h.nx 6 rfl⟩
       . have w6:=h.dv hi 6 rfl rfl
         simp only[w6];refine uh rfl (fun K hK=>?_);go_simp;exact hK _ _ ⟨_,by simp[w6],h.nx 7 rfl⟩
       . have w6:=h.dv hi 6 rfl rfl
         have w7:=h.dv hi 7 rfl rfl;simp only[w6,w7];refine uh rfl (fun K hK=>?_);go_simp;exact hK _ _ ⟨_,by simp[w6,w7],h.nx 8 rfl⟩
       . have w6:=h.dv hi 6 rfl rfl
         have w8:=h.dv hi 8 rfl rfl;simp only[w6,w8];refine uh rfl (fun K hK=>?_);go_simp;exact hK _ _ ⟨_,by simp[w6,w8],h.nx 9 rfl⟩
       . have w9:=h.dv hi 9 rfl rfl
         have c0:=((za HX9).below h.bl).n0;have c1:=((za HX9).below h.bl).n1;have c2:=((za HX11).below h.bl).n0;have c3:=((za HX11).below h.bl).n1;simp only[w9];refine uh rfl (fun K hK=>?_);go_simp;exact hK _ _ ⟨_,by simp[w9],h.nx 10 rfl⟩
       . have w9:=h.dv hi 9 rfl rfl
         have w10:=h.dv hi 10 rfl rfl;simp only[w9,w10];refine uh rfl (fun K hK=>?_);go_simp
         go_at_call 13
         refine(za HH1 w' h.bl).mono ?_;rintro e wz⟨rfl,hb⟩
         (try dsimp only)
         exact hK _ _ ⟨_,by simp[w9,w10],h.call 11 rfl hb⟩
       . have w9:=h.dv hi 9 rfl rfl
         have c0:=((za HX9).below h.bl).n0;have c1:=((za HX9).below h.bl).n1;have c2:=((za HX11).below h.bl).n0;have c3:=((za HX11).below h.bl).n1;simp only[w9];refine uh rfl (fun K hK=>?_);go_simp;exact hK _ _ ⟨_,by simp[w9],h.nx 12 rfl⟩
       . have w9:=h.dv hi 9 rfl rfl
         have w12:=h.dv hi 12 rfl rfl;simp only[w9,w12];refine uh rfl (fun K hK=>?_);go_simp
         go_at_call 13
         refine(za HH2 w' h.bl).mono ?_;rintro e wz⟨rfl,hb⟩
         (try dsimp only)
         exact hK _ _ ⟨_,by simp[w9,w12],h.call 13 rfl hb⟩
       . have w9:=h.dv hi 9 rfl rfl
         have w11:=h.dv hi 11 rfl rfl;have w13:=h.dv hi 13 rfl rfl;simp only[w9,w11,w13];refine uh rfl (fun K hK=>?_);go_simp;exact hK _ _ ⟨_,by simp[w9,w11,w13],h.nx 14 rfl⟩
       . have w6:=h.dv hi 6 rfl rfl
         have w9:=h.dv hi 9 rfl rfl;have w14:=h.dv hi 14 rfl rfl;simp only[w6,w9,w14];refine uh rfl (fun K hK=>?_);go_simp;exact hK _ _ ⟨_,by simp[w6,w9,w14],h.nx 15 rfl⟩
       . have w6:=h.dv hi 6 rfl rfl
         have w15:=h.dv hi 15 rfl rfl;simp only[w6,w15];refine uh rfl (fun K hK=>?_);go_simp;exact hK _ _ ⟨_,by simp[w6,w15],h.nx 16 rfl⟩
      case hend=>
       rintro l' a' w'⟨x,rfl,h⟩ ha;simp only[h.fv ha 0 rfl (by decide),h.fv ha 1 rfl (by decide),h.fv ha 2 rfl (by decide),h.fv ha 3 rfl (by decide),h.fv ha 4 rfl (by decide),h.fv ha 5 rfl (by decide),h.fv ha 6 rfl (by decide),h.fv ha 7 rfl (by decide),h.fv ha 8 rfl (by decide),h.fv ha 9 rfl (by decide),h.fv ha 10 rfl (by decide),h.fv ha 11 rfl (by decide),h.fv ha 12 rfl (by decide),h.fv ha 13 rfl (by decide),h.fv ha 14 rfl (by decide),h.fv ha 15 rfl (by decide),h.fv ha 16 rfl (by decide)];have HBE:=zb h.bl;clear h ha;go_wp2_with fail;go_meet
       case rel=>exact⟨rfl,za HBE⟩
    . have yT:(T==0)=false:=by simpa using hT0
      have hT1:decide (T=0)=false:=by simpa using hT0
      simp only[hT1]at HSD;clear hT0 hT1 HPS HRR;refine wH (by kernel_rfl) ?_;change wpAny _ _ _ _ _ _ _ (World.drew _);refine qS (fun l' a' w'=>∃x:Nat->Value,a'=⟨#[.slice a0 len0 cap0,.slice a1 len1 cap1,undef,undef,.bool false,.pointer (some ⟨b5,0,none⟩),.pointer (some ⟨b5+1,0,none⟩),.pointer (some ⟨b7,0,none⟩),.pointer (some ⟨b7+1,0,none⟩),.int .i64 T,.pointer (some ⟨b10,0,none⟩),.pointer (some ⟨b11,0,none⟩),undef,.slice a0 len0 cap0,.int .i64 (len0:Int),.bool false,.bool false,.slice a1 len1 cap1,.int .i64 (len1:Int),.bool false,.bool false,.tuple #[.agg #[.slice an ns.length cn,.slice (some ⟨rb,ro,none⟩) rs.length cr],.agg #[.slice am ms.length cm,.slice (some ⟨sb,so,none⟩) ss.length cs]],.slice a0 len0 cap0,.tuple #[.agg #[.slice an ns.length cn,.slice (some ⟨rb,ro,none⟩) rs.length cr],.agg #[.slice am ms.length cm,.slice (some ⟨sb,so,none⟩) ss.length cs]],.agg #[.slice an ns.length cn,.slice (some ⟨rb,ro,none⟩) rs.length cr],.agg #[.slice am ms.length cm,.slice (some ⟨sb,so,none⟩) ss.length cs],.tuple #[.agg #[.slice al ls.length cl,.slice at_ ts.length ct],.agg #[.slice aq qs.length cq,.slice az zs.length cz]],.slice a1 len1 cap1,.tuple #[.agg #[.slice al ls.length cl,.slice at_ ts.length ct],.agg #[.slice aq qs.length cq,.slice az zs.length cz]],.agg #[.slice al ls.length cl,.slice at_ ts.length ct],.agg #[.slice aq qs.length cq,.slice az zs.length cz],.agg #[.slice an ns.length cn,.slice (some ⟨rb,ro,none⟩) rs.length cr],.agg #[.slice am ms.length cm,.slice (some ⟨sb,so,none⟩) ss.length cs],.int .i64 T,.int .i64 T,.agg #[.slice an ns.length cn,.slice (some ⟨rb,ro,none⟩) rs.length cr],.agg #[.slice am ms.length cm,.slice (some ⟨sb,so,none⟩) ss.length cs],.int .i64 T,.bool false,.bool false,.int .i64 T,.agg #[.slice am ms.length cm,.slice (some ⟨sb,so,none⟩) ss.length cs],.agg #[.slice an ns.length cn,.slice (some ⟨rb,ro,none⟩) rs.length cr],.int .i64 (-T),.int .i64 T,.bool false,.bool false,.agg #[.slice an ns.length cn,.slice (some ⟨rb,ro,none⟩) rs.length cr],.bool true,.bool false,.bool false,.agg #[.slice am ms.length cm,.slice (some ⟨sb,so,none⟩) ss.length cs],.bool true,.bool false,.bool false,.bool false,.pointer (some ⟨b5,1,none⟩),.slice (some ⟨rb,ro,none⟩) rs.length cr,.int .i64 (rs.length:Int),.bool false,.bool false,.bool false,.pointer (some ⟨b5+1,1,none⟩),.slice (some ⟨sb,so,none⟩) ss.length cs,.int .i64 (ss.length:Int),.bool false,.bool false,undef,undef,.agg #[.slice an ns.length cn,.slice (some ⟨rb,ro,none⟩) rs.length cr],.pointer (some ⟨b5,1,none⟩),.slice (some ⟨rb,ro,none⟩) rs.length cr,.pointer (some ⟨rb,ro,none⟩),.int .i64 r,.agg #[.slice an ns.length cn,.slice (some ⟨g10,0,none⟩) 1 1],.agg #[.slice am ms.length cm,.slice (some ⟨sb,so,none⟩) ss.length cs],.pointer (some ⟨b5+1,1,none⟩),.slice (some ⟨sb,so,none⟩) ss.length cs,.pointer (some ⟨sb,so,none⟩),.int .i64 s,.agg #[.slice am ms.length cm,.slice (some ⟨g11,0,none⟩) 1 1],x 0,x 1,x 2,x 3,x 4,x 5,x 6,x 7,x 8,x 9,x 10,x 11,x 12,x 13,x 14,x 15,x 16,undef,undef,undef,undef,undef,undef,undef,undef,undef,undef,undef,undef,undef,undef,undef,undef,undef,undef,undef,undef,undef,undef,undef,undef,undef,undef,undef,undef,undef,undef,undef,undef,undef,undef,undef,undef,undef,undef,undef,undef],[]⟩/\RdL w9 [.int .i64 T,.bool false,.agg #[.slice an ns.length cn,.slice (some ⟨g10,0,none⟩) 1 1],.agg #[.slice am ms.length cm,.slice (some ⟨g11,0,none⟩) 1 1],.bool false,.bool false,.bool false,.int .i64 T,.bool false,.bool false,undef,undef,undef,undef,undef,.bool false,.bool false] l' x w') (fun _ _ _⟨_,_,h⟩=>h.sz) ?hend ?hstep (fun _ _ _⟨_,_,h⟩=>vE (by kernel_rfl) h.sz) _ _ _ _ ⟨fun j=>[undef,undef,undef,undef,undef,undef,undef,undef,undef,undef,undef,undef,undef,undef,undef,undef,undef].getD j undef,rfl,RdL.start rfl (ue _ _).drew⟩ (UA rfl)
      case hstep=>
       rintro l' a' w' j⟨x,rfl,h⟩ hi;have hj:j<17:=jR hi;rcases(by omega:j=0\/j=1\/j=2\/j=3\/j=4\/j=5\/j=6\/j=7\/j=8\/j=9\/j=10\/j=11\/j=12\/j=13\/j=14\/j=15\/j=16)with rfl|rfl|rfl|rfl|rfl|rfl|rfl|rfl|rfl|rfl|rfl|rfl|rfl|rfl|rfl|rfl|rfl
       . refine uh rfl (fun K hK=>?_)
         go_simp;exact hK _ _ ⟨_,by simp[],h.nx 0 rfl⟩
       . have w0:=h.dv hi 0 rfl rfl
         simp only[w0];refine uh rfl (fun K hK=>?_);go_simp;exact hK _ _ ⟨_,by simp[w0],h.nx 1 rfl⟩
       . have c0:=((za HX9).below h.bl).n0
         have c1:=((za HX9).below h.bl).n1;have c2:=((za HX11).below h.bl).n0;have c3:=((za HX11).below h.bl).n1;refine uh rfl (fun K hK=>?_);go_simp;exact hK _ _ ⟨_,by simp[],h.nx 2 rfl⟩
       . have c0:=((za HX9).below h.bl).n0
         have c1:=((za HX9).below h.bl).n1;have c2:=((za HX11).below h.bl).n0;have c3:=((za HX11).below h.bl).n1;refine uh rfl (fun K hK=>?_);go_simp;exact hK _ _ ⟨_,by simp[],h.nx 3 rfl⟩
       . have w2:=h.dv hi 2 rfl rfl
         have w3:=h.dv hi 3 rfl rfl;simp only[w2,w3];refine uh rfl (fun K hK=>?_);go_simp
         go_at_call 12
         refine(za HSD w' h.bl).mono ?_;rintro e wz⟨rfl,hb⟩
         (try dsimp only)
         exact hK _ _ ⟨_,by simp[w2,w3],h.call 4 rfl hb⟩
       . have w1:=h.dv hi 1 rfl rfl
         have w4:=h.dv hi 4 rfl rfl;simp only[w1,w4];refine uh rfl (fun K hK=>?_);go_simp;exact hK _ _ ⟨_,by simp[w1,w4],h.nx 5 rfl⟩
       . have w5:=h.dv hi 5 rfl rfl
         simp only[w5];refine uh rfl (fun K hK=>?_);go_simp;exact hK _ _ ⟨_,by simp[w5],h.nx 6 rfl⟩
       . have w6:=h.dv hi 6 rfl rfl
         simp only[w6];refine uh rfl (fun K hK=>?_);go_simp;exact hK _ _ ⟨_,by simp[w6],h.nx 7 rfl⟩
       . have w6:=h.dv hi 6 rfl rfl
         have w7:=h.dv hi 7 rfl rfl;simp only[w6,w7];refine uh rfl (fun K hK=>?_);go_simp;exact hK _ _ ⟨_,by simp[w6,w7],h.nx 8 rfl⟩
       . have w6:=h.dv hi 6 rfl rfl
         have w8:=h.dv hi 8 rfl rfl;simp only[w6,w8];refine uh rfl (fun K hK=>?_);go_simp;exact hK _ _ ⟨_,by simp[w6,w8],h.nx 9 rfl⟩
       . have w9:=h.dv hi 9 rfl rfl
         simp only[w9];refine uh rfl (fun K hK=>?_);go_simp;exact hK _ _ ⟨_,by simp[w9],h.nx 10 rfl⟩
       . have w9:=h.dv hi 9 rfl rfl
         have w10:=h.dv hi 10 rfl rfl;simp only[w9,w10];refine uh rfl (fun K hK=>?_);go_simp;exact hK _ _ ⟨_,by simp[w9,w10],h.nx 11 rfl⟩
       . have w9:=h.dv hi 9 rfl rfl
         simp only[w9];refine uh rfl (fun K hK=>?_);go_simp;exact hK _ _ ⟨_,by simp[w9],h.nx 12 rfl⟩
       . have w9:=h.dv hi 9 rfl rfl
         have w12:=h.dv hi 12 rfl rfl;simp only[w9,w12];refine uh rfl (fun K hK=>?_);go_simp;exact hK _ _ ⟨_,by simp[w9,w12],h.nx 13 rfl⟩
       . have w9:=h.dv hi 9 rfl rfl
         have w11:=h.dv hi 11 rfl rfl;have w13:=h.dv hi 13 rfl rfl;simp only[w9,w11,w13];refine uh rfl (fun K hK=>?_);go_simp;exact hK _ _ ⟨_,by simp[w9,w11,w13],h.nx 14 rfl⟩
       . have w6:=h.dv hi 6 rfl rfl
         have w9:=h.dv hi 9 rfl rfl;have w14:=h.dv hi 14 rfl rfl;simp only[w6,w9,w14];refine uh rfl (fun K hK=>?_);go_simp;exact hK _ _ ⟨_,by simp[w6,w9,w14],h.nx 15 rfl⟩
       . have w6:=h.dv hi 6 rfl rfl
         have w15:=h.dv hi 15 rfl rfl;simp only[w6,w15];refine uh rfl (fun K hK=>?_);go_simp;exact hK _ _ ⟨_,by simp[w6,w15],h.nx 16 rfl⟩
      case hend=>
       rintro l' a' w'⟨x,rfl,h⟩ ha;simp only[h.fv ha 0 rfl (by decide),h.fv ha 1 rfl (by decide),h.fv ha 2 rfl (by decide),h.fv ha 3 rfl (by decide),h.fv ha 4 rfl (by decide),h.fv ha 5 rfl (by decide),h.fv ha 6 rfl (by decide),h.fv ha 7 rfl (by decide),h.fv ha 8 rfl (by decide),h.fv ha 9 rfl (by decide),h.fv ha 10 rfl (by decide),h.fv ha 11 rfl (by decide),h.fv ha 12 rfl (by decide),h.fv ha 13 rfl (by decide),h.fv ha 14 rfl (by decide),h.fv ha 15 rfl (by decide),h.fv ha 16 rfl (by decide)];have HBE:=zb h.bl;clear h ha;go_wp2_with fail;go_meet
       case rel=>exact⟨rfl,za HBE⟩
   case rest=>
    obtain⟨rfl,hbc⟩:=hcut;have HB10:Hid (Below W2.heap.size W2 wc):=zb (zi (za HB9) hbc);have HV:Hid (oc=true->ts.length≠0->T<=0->U<=0->V<=0/\(T<0\/U<0->V<0)):=zb (fun h1 h2 h3 h4=>by
     obtain⟨k1,_,_⟩:=za HPS;obtain⟨_,e2,e3,e4,e5,e6⟩:=za HEQ;obtain⟨j1,j2⟩:=za HRS;rw[h1]at e6;cases rs with
     |nil=>simp at j1
     |cons r' rs=>
      cases ss with
      |nil=>simp at j2
      |cons s' ss=>
       cases ts with
       |nil=>exact absurd rfl h2
       |cons t ts=>
        obtain rfl:r'=r:=by simpa using j1
        obtain rfl:s'=s:=by simpa using j2
        rw[xI e5 e6]at e2;rw[xI e4 e6]at e3;rw[k1]at h3⊢;rw[<-e2]at h4⊢;rw[<-e3];exact zdZ (jh e4).1 (jh e5).1 (jh e6).1 (jh e4).2 (jh e5).2 (jh e6).2 h3 h4)
    have r0:=(za HF).r.n0;have r1:=(za HF).r.n1;have z0:=zd (za HB10) p0;have z1:=zd (za HB10) p1;have z2:=zd (za HB10) q0;have z3:=zd (za HB10) q1;have z4:=zd (za HB10) r0;have z5:=zd (za HB10) r1;clear hbc HB7 HB8 HB9 HX9 HX11 HG9 HG11 HSD HH1 HH2 HRR HPS HRS HC1 HC2 HC3 HK1 HK2 HTB HCON HS HT2 H0 H1 HM0 HM1;go_wp2_with fail;refine(za HC4 wc (za HB10)).mono ?_;rintro e w11⟨rfl,hb11⟩;have HB11:=zb (zi (za HB10) hb11);clear hb11 z0 z1 z2 z3 z4 z5;have z0:=zd (za HB11) p0;have z1:=zd (za HB11) p1;have z2:=zd (za HB11) q0;have z3:=zd (za HB11) q1;have z4:=zd (za HB11) r0;have z5:=zd (za HB11) r1;go_wp2_with fail;cases oc with
    |false=>
     refine(za HK3 w11 (za HB11)).mono ?_;rintro e w12⟨rfl,hb12⟩;have HB12:=zb (zi (za HB11) hb12);clear hb12 z0 z1 z2 z3 z4 z5;have z0:=zd (za HB12) p0;have z1:=zd (za HB12) p1;have z2:=zd (za HB12) q0;have z3:=zd (za HB12) q1;have z4:=zd (za HB12) r0;have z5:=zd (za HB12) r1;go_wp2_with fail;go_ret;exact⟨rfl,zi (za HB2) (za HB12)⟩
    |true=>
    refine(za HK3 w11 (za HB11)).mono ?_;rintro e w12⟨rfl,hb12⟩;have HB12:=zb (zi (za HB11) hb12);clear hb12 z0 z1 z2 z3 z4 z5;have z0:=zd (za HB12) p0;have z1:=zd (za HB12) p1;have z2:=zd (za HB12) q0;have z3:=zd (za HB12) q1;have z4:=zd (za HB12) r0;have z5:=zd (za HB12) r1;by_cases ht0:ts.length=0
    . have x1:((ts.length:Int)==0)=true:=by simp[ht0]
      clear ht0;go_wp2_with fail;go_ret;exact⟨rfl,zi (za HB2) (za HB12)⟩
    have x1:((ts.length:Int)==0)=false:=by simpa using ht0
    by_cases gT:0<T
    . clear ht0
      go_wp2_with fail;go_ret;exact⟨rfl,zi (za HB2) (za HB12)⟩
    by_cases gU:0<U
    . clear ht0
      go_wp2_with fail;go_ret;exact⟨rfl,zi (za HB2) (za HB12)⟩
    obtain⟨v1,v2⟩:=za HV rfl ht0 (by omega) (by omega);have HV2:=zb v2;clear HV v2 ht0;go_wp2_with fail;refine(za HC5 w12 (za HB12)).mono ?_;rintro e w13⟨rfl,hb13⟩;have HB13:=zb (zi (za HB12) hb13);clear hb13 z0 z1 z2 z3 z4 z5;have z0:=zd (za HB13) p0;have z1:=zd (za HB13) p1;have z2:=zd (za HB13) q0;have z3:=zd (za HB13) q1;have z4:=zd (za HB13) r0;have z5:=zd (za HB13) r1;by_cases hTU:T=0/\U=0
    . obtain⟨rfl,rfl⟩:=hTU
      go_wp2_with fail;go_ret;exact⟨rfl,zi (za HB2) (za HB13)⟩
    . have v2:=za HV2 (by omega)
      by_cases hT0:T=0
      . subst hT0
        have yU:(U==0)=false:=by simp;omega
        clear hTU;go_wp2_with fail;refine(za HC5 w13 (za HB13)).mono ?_;rintro e w14⟨rfl,hb14⟩;have HB14:=zb (zi (za HB13) hb14);clear hb14 z0 z1 z2 z3 z4 z5;have z0:=zd (za HB14) p0;have z1:=zd (za HB14) p1;have z2:=zd (za HB14) q0;have z3:=zd (za HB14) q1;have z4:=zd (za HB14) r0;have z5:=zd (za HB14) r1;go_wp2_with fail;go_ret;exact⟨rfl,zi (za HB2) (za HB14)⟩
      . have yT:(T==0)=false:=by simpa using hT0
        clear hTU hT0;go_wp2_with fail;refine(za HC5 w13 (za HB13)).mono ?_;rintro e w14⟨rfl,hb14⟩;have HB14:=zb (zi (za HB13) hb14);clear hb14 z0 z1 z2 z3 z4 z5;have z0:=zd (za HB14) p0;have z1:=zd (za HB14) p1;have z2:=zd (za HB14) q0;have z3:=zd (za HB14) q1;have z4:=zd (za HB14) r0;have z5:=zd (za HB14) r1;go_wp2_with fail;go_ret;exact⟨rfl,zi (za HB2) (za HB14)⟩
end Go.Proofs.YtpbnmhnbkfnaeaaGreatDoor
namespace Go.Proofs.YtpbnmhnbkfnaeaaGreatDoor
open Go.ChangeShapes Go.WideShapes Go.ChangeAt Go.RowKit Go.Joins Nt
theorem own:ownKnob Tryz.prog.godebug=none:=by kernel_rfl
theorem Kh:laidOutB Tryz.prog=true:=by kernel_rfl
theorem zem:Tryz.prog.globalNamed "loop.example/sistab/impl.natTens" =some 3:=by kernel_rfl
theorem Yr:(Tryz.prog.globals[3]?).map (·.type)=some 238:=by kernel_rfl
theorem Yh:Tryz.prog.cellsOf 173=1:=by kernel_rfl
theorem zcA:Tryz.prog.cellsOf 238=9:=by kernel_rfl
theorem u8X:Go.Proofs.U8Extra Tryz.prog Tryz.lays196_ren:=⟨by kernel_rfl,by kernel_rfl,by kernel_rfl,by kernel_rfl,by kernel_rfl,by kernel_rfl,by kernel_rfl⟩
theorem zcs:(Rows.laid_unicode_utf8_acceptRanges:DataW Unit)=Lib.acceptData:=by kernel_rfl
theorem zdy:(Rows.laid_loop_example_sistab_impl_natTens:DataW Unit)=Lib.tabData .u64 [1,10,100,1000,10000,100000,1000000,10000000,100000000]:=by kernel_rfl
theorem zdI{P:Program}{B g:Nat}{W W':World}{n:String}{cs:Array Value}(h:Below B W W')(hg:P.globalNamed n=some g)(hgB:g<B)(hv:W.var? P n=some cs):W'.var? P n=some cs:=by
 unfold World.var? at hv⊢;simp only[hg,Option.bind_some]at hv⊢;rw[h.block g hgB];exact hv
theorem KK{W:World}(h:laidMet Tryz.prog Rows.fnTabTopRow.laid W):Tabz W:=
 Go.Proofs.utf8Tabs_of_readsT (ρ:=Tryz.lays196_ren) (Go.Proofs.U8Types.of196 Tryz.lays196) u8X (Pinned.utf8First_eq ▸ Lib.laidMet.reads h (.tail _ (.tail _ (.tail _ (.tail _ (.tail _ (.head _))))))) (zcs ▸ Lib.laidMet.reads h (.tail _ (.tail _ (.tail _ (.head _)))))
theorem KM{W:World}(h:laidMet Tryz.prog Rows.fnTabTopRow.laid W):Tens W:=by
 have hT:Lib.TabIs Tryz.prog W "loop.example/sistab/impl.natTens" .u64 [1,10,100,1000,10000,100000,1000000,10000000,100000000]:=by
  obtain⟨g,t,cs,fuel,p,h1,h2,h3,h4⟩:=Lib.laidMet.reads h (.tail _ (.tail _ (.tail _ (.tail _ (.head _)))));obtain rfl:=Ui (zem.symm.trans h1);obtain rfl:=Ui (Yr.symm.trans h2);rw[zdy]at h4;have e:=Lib.cells_of_tab Tryz.underlying238 dx Yh zcA h4;unfold Lib.TabIs;rw[h3,<-e]
 intro j hj;have h0:=hT.cell zem j (by simpa using hj);rw[h0]
 match j,hj with
 |0,_=>rfl
 |1,_=>rfl
 |2,_=>rfl
 |3,_=>rfl
 |4,_=>rfl
 |5,_=>rfl
 |6,_=>rfl
 |7,_=>rfl
 |8,_=>rfl
theorem zhJ:Tryz.prog.globalNamed "internal/strconv.uint64pow10" =some 4:=by kernel_rfl
theorem zel:(Tryz.prog.globals[4]?).map (·.type)=some 248:=by kernel_rfl
theorem zdY:Tryz.prog.cellsOf 248=20:=by kernel_rfl
theorem zeR:(Rows.laid_internal_strconv_uint64pow10:DataW Unit)=Lib.tabData .u64 Lib.pow10Tab:=by kernel_rfl
theorem XP{W:World}(h:laidMet Tryz.prog Rows.fnTabTopRow.laid W):Lib.TabIs Tryz.prog W "internal/strconv.uint64pow10" .u64 Lib.pow10Tab:=by
 obtain⟨g,t,cs,fuel,p,h1,h2,h3,h4⟩:=Lib.laidMet.reads h (.tail _ (.tail _ (.head _)));obtain rfl:=Ui (zhJ.symm.trans h1);obtain rfl:=Ui (zel.symm.trans h2);rw[zeR]at h4;have e:=Lib.cells_of_tab Tryz.underlying248 dx Yh zdY h4;unfold Lib.TabIs;rw[h3,<-e]
theorem K5{H:Type}{enc:TypeId×Value->H}{W:World}{a0:Option Addr}{len cap:Nat}{d:DataW H}{p:List MemPlace}
  (h:DataW.Trod enc Tryz.prog W 0 (fun _=>true) true 22 (.slice a0 len cap) d p):Bytes0 W a0 len/\len<=cap/\cap<=maxLen:=by
 obtain⟨fuel,hf⟩:=h;rcases open_ints Ug Ux (by kernel_rfl) hf with⟨hcs,_⟩|⟨x,l,c,zs,hcs,_,hl,hm,hz,_,hcell,hwz⟩
 . simp[Value.cells]at hcs
   obtain⟨rfl,rfl,rfl⟩:=hcs;exact⟨fun h=>absurd h (by omega),ud _,by unfold maxLen;omega⟩
 . simp[Value.cells]at hcs
   obtain⟨rfl,rfl,rfl⟩:=hcs;refine⟨fun h0=>?_,hl,hm⟩;have hz':zs.length=cap:=by simpa using hz
   obtain⟨b,off,spot⟩:=x;have hc:=hcell 0 (by omega);have hspot:spot=none:=by simpa[Addr.add]using World.cell?_spot hc
   subst hspot;refine⟨b,off,rfl,uo W _ hc,fun j hj=>?_⟩;have hcj:=hcell j (by omega);have hjz:j<zs.length:=by omega
   have hw:=hwz (zs.getD j 0) (by rw[uq,uf hjz];exact uF hjz);have hw':0<=zs.getD j 0/\zs.getD j 0<=255:=by simpa[Lit.wf,IntKind.min,IntKind.max,IntKind.signed,IntKind.bits]using hw
   refine⟨(zs.getD j 0).toNat,by omega,?_⟩;rw[show(((zs.getD j 0).toNat:Nat):Int)=zs.getD j 0 from by omega];by_cases hj0:j=0
   . subst hj0;simpa[Addr.add]using hcj
   . simpa[Addr.add,hj0]using hcj
theorem zbD(os:Os)(started:os.Started)(H:Type)(enc:TypeId×Value->H):
  ReturnsInHanded {} Tryz.checked os 3 .any (fun w args=>(Rows.fnTabTopSpec.pre enc Tryz.prog Tryz.f3 [] false w args/\laidMetH Tryz.prog Rows.fnTabTopRow.laid w)/\sizedMet enc Tryz.prog Tryz.f3 (OpenSpec.ofChange Rows.fnTabTopSpec) false w args)
   (Rows.fnTabTopSpec.post enc Tryz.prog Tryz.f3 false true false false):=by
 refine returnsInHanded_of_change_and (C:=Tryz.checked) (X:=fun w _=>laidMetH Tryz.prog Rows.fnTabTopRow.laid w) (fun _ _ _ hh h=>h.of_heap hh) own started (by kernel_rfl) Tryz.func3
  (ChangeSpec.witness_shaped (enc:=enc) (C:=Tryz.checked) (os:=os) (X:=fun w _=>laidMetH Tryz.prog Rows.fnTabTopRow.laid w) false (World.laidAll Tryz.prog os Rows.fnTabTopRow.laid) #[.slice none 0 0,.slice none 0 0] 8 (World.laidAll_os _ _ _)
   (World.shaped_of_ZipB (by kernel_rfl) (by kernel_rfl)) (by kernel_rfl) (by kernel_rfl) (by kernel_rfl)
   (by rw[MakeChecks.laidMetH_plain _ _ _ (by kernel_rfl)];exact laidMet_laidAll _ (by kernel_rfl) (by kernel_rfl))) ?_
 intro W base args ds gs before hval0 hW _ _ hL _;have hval:∀(j:Nat) t v,Tryz.f3.params[j]? =some t->args[j]? =some v->Value.okWide Tryz.prog W .any base t v:=hval0;have hW':=hW;obtain⟨p,q,hA0,hV0,rfl,_,_⟩:=hW;have hA:DataW.TrodAll enc Tryz.prog W 0 (fun _=>true) true Tryz.f3.params.toList args.toList ds p:=hA0;have hV:DataW.TrodVars enc Tryz.prog W (fun _=>true) ["loop.example/sistab/impl.natTens"] gs q:=hV0;rw[Tryz.params3]at hA hval;obtain⟨v0,vs0,d0,ds0,p0,q0,hargs,rfl,rfl,h0,r0⟩:=trodAll_cons hA;obtain⟨v1,vs1,d1,ds1,p1,q1,rfl,rfl,rfl,h1,r1⟩:=trodAll_cons r0;obtain⟨rfl,rfl,rfl⟩:=trodAll_nil r1;obtain rfl:args=#[v0,v1]:=by cases args;simp_all
 obtain⟨g,t,cs,fuel,d,p',rfl,hg,ht,hvar,hd,rfl⟩:=trodVars_one hV;obtain rfl:=Ui (zem.symm.trans hg);obtain rfl:=Ui (Yr.symm.trans ht);obtain⟨a0,len0,cap0,rfl⟩:=okWide_slice Ug (hval 0 22 v0 rfl rfl);obtain⟨a1,len1,cap1,rfl⟩:=okWide_slice Ug (hval 1 22 v1 rfl rfl);have k0:=h0;have k1:=h1;have lt0:∀x∈p0,x.block<W.heap.size:=by obtain⟨m,hm⟩:=k0;exact DataW.trod_lt m _ _ _ hm
 have lt1:∀x∈p1,x.block<W.heap.size:=by obtain⟨m,hm⟩:=k1;exact DataW.trod_lt m _ _ _ hm
 have ltv:∀x∈p',x.block<W.heap.size:=DataW.trod_lt fuel _ _ _ hd;have b0:=K5 h0;have b1:=K5 h1;have hL':=hL;rw[MakeChecks.laidMetH_plain _ _ _ (by kernel_rfl)]at hL';have hT:=KM hL';have hZ:=KK hL';have hgl:3<W.heap.size:=uo W _ (hT 0 (by omega));clear hA0 hval0 hV0;refine(Vk a0 a1 len0 cap0 len1 cap1 W b0.1 b1.1 b0.2.1 b1.2.1 b0.2.2 b1.2.2 hZ hT hgl (Lib.tabBelow_of_tabIs (XP hL'))).mono fun e W'⟨he,bel⟩=>?_
 subst he;obtain⟨fuel',hd'⟩:=Below.trod Kh (by kernel_rfl) (wU (by kernel_rfl)) (v:=.agg cs) (⟨fuel,by simpa[Value.cells]using hd⟩:DataW.Trod enc Tryz.prog W 0 (fun _=>true) true 238 (.agg cs) d p') bel ltv;have hv':=trodVars_mk1 (enc:=enc) (spare:=fun b=>decide (b<W.heap.size)) hg ht (zdI bel hg hgl hvar) (by simpa[Value.cells]using hd');exact⟨_,rfl,_,_,_,[],_,_,hW',trodAll_mk1 (shut_bool Wp _),(trodAll_cons_mk (Below.trod Kh (by kernel_rfl) (wU (by kernel_rfl)) k0 bel lt0) (trodAll_cons_mk (Below.trod Kh (by kernel_rfl) (wU (by kernel_rfl)) k1 bel lt1) trodAll_mk0)),hv',bel.frame _,fun h=>by cases h⟩
theorem zdD:Rows.FnTabTopSaid:=
 OpenClaim.holds_of_wide 3 Tryz.f3 rfl rfl rfl rfl rfl rfl rfl ⟨rfl,rfl,rfl,rfl,rfl⟩ rfl rfl rfl rfl rfl (by kernel_rfl) Tryz.func3 (by kernel_rfl)
  (wU (by kernel_rfl)) (by unfold Func.isWrapper;first|(rw[uj (by decide+kernel)];kernel_rfl)|(rw[ul (by decide+kernel)];exact⟨rfl,rfl⟩))
  (fun os started H enc _=>zbD os started H enc)
theorem fnTabTop_card:Rows.FnTabTopCardSaid:=
 Claim7.holds_tied_plain_at .later [] [.data,.data,.data,.data,.data,.pinned] true Rows.fnTabTopCard.stood.harness false zdD (fun _ h=>by cases h) (by kernel_rfl) (fun _ h=>by cases h) fnTabTop_row_tie rfl ⟨rfl,rfl⟩ (by kernel_rfl) rfl
  (fun f fn hf hfn=>by
   obtain rfl:f=3:=Ui ((show Tryz.prog.funcNamed "loop.example/sistab/laws.FnTabTop" =some 3 by kernel_rfl).symm.trans hf) |>.symm;obtain rfl:fn=Tryz.f3:=(Ui (Tryz.func3.symm.trans hfn)).symm;exact⟨by kernel_rfl,fun j t ht=>by
    rw[Tryz.params3]at ht;have hm:t∈[22,22]:=by simpa using Array.mem_of_getElem? ht
    have hall:([22,22].all fun u=> !Tryz.prog.wantsStandIn u)=true:=by kernel_rfl
    exact(show Tryz.prog.wantsStandIn t=false by simpa using uI.1 hall t hm)⟩)
  (by kernel_rfl)
#print axioms fnTabTop_card
end Go.Proofs.YtpbnmhnbkfnaeaaGreatDoor
