/- A part of the proof, put together out of smaller texts. -/
import Derived.Test.YtpbnmhnbkfnaeaaGreatDoorM0
import Derived.Test.YtpbnmhnbkfnaeaaGreatDoorM1
import Derived.Test.YtpbnmhnbkfnaeaaGreatDoorM2
import Derived.Test.YtpbnmhnbkfnaeaaGreatDoorM5
import Derived.BigRegion
import Derived.Lib.OthersKept
import Derived.Deep.RegionWith
import Derived.Lib.DecodeN
import Derived.Lib.ValidLaws
import Derived.Lib.RuneCount
import Derived.Lib.Bytealg
import Derived.BigQuiet
import Derived.Test.YtpbnmhnbkfnaeaaGreatDoorProg
import Derived.Laws.IdiomStrings
import Derived.Laws.Runes
import Derived.Lib.Strings
import Derived.Deep.RegionHeld3
import Derived.Deep.Cut
import Derived.Deep.CutRange
set_option linter.all false
set_option maxRecDepth 100000
set_option maxHeartbeats 32000000
namespace Go.Proofs.YtpbnmhnbkfnaeaaGreatDoor
open Go.RowKit Nt
theorem za7(x y:Nat)(v u:Value)(w:World)(hx:zy w v x)(hy:zy w u y)(hsx:(gr x).length<=1000000)(hsy:(gr y).length<=1000000)(hy0:0<y):
  Calls Tryz.prog 183 #[v,u] w fun e w'=>(∃v1 v2,e=.returned (.tuple #[v1,v2])/\zy w' v1 (x/y)/\zy w' v2 (x%y))/\Below w.heap.size w w':=by
 rcases df x y with h|h
 . exact za9 x y v u w hx hy hsx hsy h
 . exact za8 x y v u w hx hy hsx hsy h hy0
def zhk(w:World):Value->Nat
 | .slice (some a) n _=>zG 1000000000 ((List.range n).map fun j=>Je w a.block j)
 |_=>0
theorem zcm{w:World}{v:Value}{x:Nat}(h:zy w v x):zhk w v=x:=by
 have ho:=jM x;unfold zy at h;generalize gr x=xs at *;rcases vY h with⟨rfl,hn,_⟩|⟨g,cap,rfl,_⟩
 . have:xs=[]:=ur hn
   subst this;simp[zhk];simpa[zG]using ho
 . show zG 1000000000 ((List.range xs.length).map fun j=>Je w g j)=x
   rw[<-ho]
   congr 1
   apply wD
   . simp
   . intro j h1 h2
     simp only[WI,List.getElem_range];apply xT;rw[h.cellAt j (by omega),zz _ _ h2]
theorem zen(x y:Nat)(v u:Value)(w:World)(hx:zy w v x)(hy:zy w u y)(hsx:(gr x).length<=1000000)(hsy:(gr y).length<=1000000):
  Calls Tryz.prog 182 #[v,u] w fun e w'=>(∃v',e=.returned v'/\zy w' v' (Nat.gcd x y))/\Below w.heap.size w w':=by
 go_enter Tryz.func182,Tryz.ntmps182;go_wp2
 go_loopw [0,1] (fun a b wr=>∃(x' y':Nat),zy wr a x'/\zy wr b y'/\(gr x').length<=1000000/\(gr y').length<=1000000/\Below w.heap.size w wr/\Hid (Nat.gcd x' y'=Nat.gcd x y))
  (fun _ b wr=>zhk wr b)
 case atStart=>exact⟨x,y,hx,hy,hsx,hsy,ue _ _,zb rfl⟩
 case round=>
  obtain⟨x',y',hx',hy',hsx',hsy',hb,hg⟩:=hrel;obtain⟨p,cap,hv⟩:=zq hy';by_cases hz:y'=0
  . subst hz
    rw[vr]at hv;subst hv;go_wp2;go_ret;refine⟨⟨_,rfl,?_⟩,hb⟩;rw[<-za hg,Nat.gcd_zero_right];exact hx'
  . have hn0:0<(gr y').length:=by
     rcases ws (gr y').length with h|h
     . exact absurd (QQ.1 (ur h)) hz
     . exact h
    have hnI:¬((gr y').length:Int)<=0:=by omega
    have Hy:=zb hy';have Hx:=zb hx';subst hv;clear hx' hy';go_wp2_with fail;refine(za7 x' y' _ _ _ (za Hx) (za Hy) hsx' hsy' (by omega)).mono ?_;rintro e w1⟨⟨v1,v2,rfl,hv1,hv2⟩,hb1⟩;have hy1:=zu (za Hy) hb1;have hlt:=Ua x' (show 0<y' by omega);have hlen:=jW (dh hlt);have hm1:=zcm (za Hy);have hm2:=zcm hv2;have Hm1:=zb hm1;have Hm2:=zb hm2;have HV2:=zb hv2;have HY1:=zb hy1;clear hm1 hm2 hv2 hv1 hy1;go_wp2_with fail;go_roundw
    case rel=>
     refine⟨y',x'%y',za HY1,za HV2,hsy',by omega,hb.trans (hb1.mono hb.size),zb ?_⟩;rw[Nat.gcd_comm y',<-Nat.gcd_rec y' x',Nat.gcd_comm,za hg]
    case measure=>
     rw[za Hm2,za Hm1];exact hlt
def XT(l l':List UInt8)(k:Nat):Prop:=
 l'.length=l.length/\∀t(h:t<l.length)(h':t<l'.length),l'[t]=if t<k\/l.length-k<=t then l[l.length-1-t]'(by omega)else l[t]
theorem zbn(l:List UInt8):XT l l 0:=⟨rfl,fun t h h'=>by rw[ul (by omega)]⟩
theorem zdm{l l':List UInt8}{k:Nat}(h:XT l l' k)(hk:l.length<=2*k+1):l'=l.reverse:=by
 apply wD
 . simp[h.1]
 . intro t h1 h2
   rw[List.getElem_reverse,h.2 t (by simpa using h2) h1];by_cases ht:t<k\/l.length-k<=t
   . rw[uj ht]
   . rw[ul ht]
     congr 1
     have:t<l.length:=by simpa using h2
     omega
theorem zbm{l l':List UInt8}{k:Nat}(h:XT l l' k)(hk:2*k+1<l.length){a b:UInt8}(ha:l'[k]? =some a)(hb:l'[l.length-1-k]? =some b):
  XT l ((l'.set k b).set (l.length-1-k) a) (k+1):=by
 have hl:=h.1;have ha':l[k]'(by omega)=a:=by
  rw[uf (by omega)]at ha;have:=h.2 k (by omega) (by omega);rw[ul (by omega)]at this;rw[<-this];simpa using ha
 have hb':l[l.length-1-k]'(by omega)=b:=by
  rw[uf (by omega)]at hb;have:=h.2 (l.length-1-k) (by omega) (by omega);rw[ul (by omega)]at this;rw[<-this];simpa using hb
 refine⟨by simpa using hl,?_⟩;intro t h1 h2;by_cases h3:t=l.length-1-k
 . subst h3
   rw[uR,uj (by omega),<-ha']
   congr 1;omega
 . rw[uU (by omega)]
   by_cases h4:t=k
   . subst h4
     rw[uR,uj (by omega),<-hb']
   . rw[uU (by omega),h.2 t h1 (by omega)]
     by_cases h5:t<k\/l.length-k<=t
     . rw[uj h5,uj (by omega)]
     . rw[ul h5,ul (by omega)]
theorem VU(l:List UInt8)(j:Nat)(h:j<l.length):(l.map ZM)[j]? =some (.int .u8 (l[j]).toNat):=by simp[ZM,h]
theorem zcl(l:List UInt8)(j:Nat)(c:UInt8):(l.map ZM).set j (.int .u8 c.toNat)=(l.set j c).map ZM:=by simp[ZM,List.map_set]
theorem YJ(l:List UInt8)(g cap base:Nat)(w:World)(hs:l.length<=1000000000)(h:w.ownsRow base 5 1 (.slice (some ⟨g,0,none⟩) l.length cap) l.length (l.map ZM)):
  Calls Tryz.prog 207 #[.slice (some ⟨g,0,none⟩) l.length cap] w fun e w'=>e=.returned (.tuple #[])/\w'.ownsRow base 5 1 (.slice (some ⟨g,0,none⟩) l.length cap) l.length (l.reverse.map ZM)/\w.grownBy w' (some g):=by
 go_enter Tryz.func207,Tryz.ntmps207;go_wp2
 go_loopw [2,3] (fun i j wr=>∃(k:Nat)(l':List UInt8),2*k<=l.length+1/\i=.int .i64 k/\j=.int .i64 ((l.length:Int)-1-k)/\wr.ownsRow base 5 1 (.slice (some ⟨g,0,none⟩) l.length cap) l.length (l'.map ZM)/\w.grownBy wr (some g)/\Hid (XT l l' k))
  (fun i _ _=>l.length-(intOf i).toNat)
 case atStart=>exact⟨0,l,by omega,rfl,by go_num,h,World.grownBy.refl _ _,zb (zbn l)⟩
 case round=>
  obtain⟨k,l',hk,rfl,rfl,hown,hg,hrev⟩:=hrel;by_cases hlt:2*k+1<l.length
  . have hll:=(za hrev).1
    have hlI:(k:Int)<(l.length:Int)-1-k:=by omega
    have hc0:=hown.cellAt k (by omega);rw[VU _ _ (by omega)]at hc0;have hc1:=hown.cellAt (l.length-1-k) (by omega);rw[VU _ _ (by omega)]at hc1;have hf0:=hown.frozenAt k;have hf1:=hown.frozenAt (l.length-1-k);have hga:l'[k]? =some (l'[k]'(by omega)):=uf _;have hgb:l'[l.length-1-k]? =some (l'[l.length-1-k]'(by omega)):=uf _;have hstep:=fun a b ha hb=>@zbm l l' k (za hrev) hlt a b ha hb
    have hst1:=hstep _ _ hga hgb;generalize l'[k]'(by omega)=a at *;generalize l'[l.length-1-k]'(by omega)=b at *;have hs1:=hown.stored k (.int .u8 b.toNat);rw[zcl]at hs1;have hs2:=hs1.1.stored (l.length-1-k) (.int .u8 a.toNat);rw[zcl]at hs2;have Hown:=zb hs2.1;have Hg:=zb (kQ (kQ hg hs1.2) hs2.2);have Hst:=zb hst1;have e1:((l.length:Int)-1-k).toNat=l.length-1-k:=by omega
    have hkl:(k:Int)<l.length:=by omega
    have hjl:(l.length:Int)-1-k<l.length:=by omega
    have hj0:0<=(l.length:Int)-1-k:=by omega
    have hne:¬k=l.length-1-k:=by omega
    clear hs1 hs2 hst1 hstep hga hgb hll;go_wp2
    go_region
    all_goals
     go_wp2;go_roundw
     case rel=>exact⟨k+1,(l'.set k b).set (l.length-1-k) a,by omega,by go_num,by go_num,za Hown,⟨(za Hg).os,(za Hg).tape,(za Hg).output,(za Hg).size,(za Hg).block⟩,Hst⟩
     case measure=>simp[intOf];omega
  . go_wp2
    go_end0
    have:=zdm (za hrev) (by omega);rw[this]at hown;exact⟨rfl,hown,hg⟩
def j6(l:List UInt8):Bool:=qO l&&decide (l.length<=60)
theorem zbd{l:List UInt8}(h:60<l.length):j6 l=false:=by
 unfold j6;rw[uw (by omega)];simp
theorem VC{l:List UInt8}(h:qO l=false):j6 l=false:=by unfold j6;rw[h];simp
theorem XY(l:List UInt8)(pos:Nat)(h:pos<l.length):
  (48<=(l[pos]).toNat/\(l[pos]).toNat<=57/\Utf8.decode (B l) pos=((l[pos]).toNat,1))\/(¬(48<=(l[pos]).toNat/\(l[pos]).toNat<=57)/\((Utf8.decode (B l) pos).1<48\/57<(Utf8.decode (B l) pos).1)):=by
 have h2:pos<(B l).size:=by rw[zj];exact h
 have hg:((B l)[pos]'h2)=l[pos]'h:=j4 l pos h2;by_cases ha:(l[pos]).toNat<128
 . have:=decode_ascii (B l) pos h2 (by rw[hg];exact ha)
   rw[hg]at this;by_cases hd:48<=(l[pos]).toNat/\(l[pos]).toNat<=57
   . exact .inl ⟨hd.1,hd.2,this⟩
   . refine .inr ⟨hd,?_⟩
     rw[this];show(l[pos]).toNat<48\/57<(l[pos]).toNat;omega
 . have:=(decode_high (B l) pos h2 (by rw[hg];omega)).1
   exact .inr ⟨by omega,.inr (by omega)⟩
theorem xE(l:List UInt8)(w:World)(hs:l.length<=1000000000):
  Calls Tryz.prog 185 #[.string (B l)] w fun e w'=>e=.returned (.bool (j6 l))/\Below w.heap.size w w':=by
 have hI:((B l).size:Int)=(l.length:Int):=by rw[zj]
 by_cases hz:l.length=0
 . have:l=[]:=ur hz
   subst this;have hI0:(((B []).size:Int)==0)=true:=by rw[hI];rfl
   clear hI hz hs;go_enter Tryz.func185,Tryz.ntmps185;go_wp2;go_ret;exact⟨rfl,ue _ _⟩
 . have h0:0<l.length:=by omega
   have h0I:(((B l).size:Int)==0)=false:=by rw[ug];omega
   by_cases h60:60<l.length
   . have h60I:(60:Int)<((B l).size:Int):=by omega
     rw[zbd h60];clear hI hz h60;go_enter Tryz.func185,Tryz.ntmps185;go_wp2;go_ret;exact⟨rfl,ue _ _⟩
   . have h60I:¬(60:Int)<((B l).size:Int):=by omega
     by_cases h1:1<l.length
     . have h1I:(1:Int)<((B l).size:Int):=by omega
       have hg0:0<(B l).size:=by omega
       have hg:((B l)[0]'hg0).toNat=(l[0]'h0).toNat:=by rw[j4]
       by_cases hc:l[0]'h0=48
       . have hq:((((B l)[0]'hg0).toNat:Int)==48)=true:=by rw[hg,hc];rfl
         have hf:j6 l=false:=by
          apply VC;cases hd:qO l with
          |false=>rfl
          |true=>
           unfold qO at hd;simp only[WL,ux,Ur,ut]at hd;rcases hd.2 with h2|h2
           . omega
           . exact absurd (by rw[List.head?_eq_getElem?,uf h0,hc]) h2
         rw[hf];clear hI hc hg hf hz;go_enter Tryz.func185,Tryz.ntmps185;go_wp2;go_ret;exact⟨rfl,ue _ _⟩
       . have hq:((((B l)[0]'hg0).toNat:Int)==48)=false:=by
          rw[hg,ug];intro hh;apply hc;apply wM.1;simp only[We];omega
         have hl0:Hid (l.length<=1\/l.head?≠some 48):=.inr (by
          rw[List.head?_eq_getElem?,uf h0];intro hh;exact hc (by simpa using hh))
         clear hI hc hg hz;go_enter Tryz.func185,Tryz.ntmps185;go_wp2
         go_loopw [4] (fun _ wr=>∃pos:Nat,pos<=l.length/\wr.heap[w.heap.size]? =some (.stringIter (B l) pos)/\Below w.heap.size w wr/\Hid (∀j(hj:j<l.length),j<pos->48<=(l[j]).toNat/\(l[j]).toNat<=57))
          (fun _ wr=>l.length-wr.iterPos w.heap.size)
         case atStart=>exact⟨0,uD _,WN _ _ _,(ue _ _).alloc (ud _) _,zb (fun j _ h=>by omega)⟩
         case round=>
          obtain⟨pos,hpl,hit,hb,hv⟩:=hrel;have hpos0:=iterPos_of hit;by_cases hlt:pos<l.length
          . have hlt2:pos<(B l).size:=by rw[zj];exact hlt
            have hnx:=fun ty=>Lib.run_next_any_at (P:=Tryz.prog) wr w.heap.size (B l) pos ty hit hlt2
            rcases XY l pos hlt with⟨h1,h2,h3⟩|⟨h1,h2⟩
            . rw[h3]at hnx
              have hit2:=Lib.iterAt_heap wr w.heap.size (B l) pos (pos+1) hit;have hb2:=Lib.below_iterAt hb (k:=w.heap.size) (ud _) (B l) (pos+1);have hpos2:=iterPos_of hit2;have hv2:Hid (∀j(hj:j<l.length),j<pos+1->48<=(l[j]).toNat/\(l[j]).toNat<=57):=by
               intro j hj hjk;by_cases hjk2:j<pos
               . exact za hv j hj hjk2
               . have:j=pos:=by omega
                 subst this;exact⟨h1,h2⟩
              have h1I:(48:Int)<=((l[pos]'hlt).toNat:Int):=by omega
              have h2I:((l[pos]'hlt).toNat:Int)<=57:=by omega
              have Hit2:=zb hit2;have Hp0:=zb hpos0;have Hp2:=zb hpos2;clear h3 hit hit2 hpos0 hpos2;go_wp2;go_roundw
              case rel=>exact⟨pos+1,by omega,za Hit2,hb2,hv2⟩
              case measure=>rw[za Hp0,za Hp2];omega
            . have hb2:=Lib.below_iterAt hb (k:=w.heap.size) (ud _) (B l) (pos+(Utf8.decode (B l) pos).2)
              have hf:=VC (yP pos hlt h1);have Hf:=zb hf;generalize Utf8.decode (B l) pos=rw_ at *;clear hf h1 hit hpos0;rcases h2 with h2|h2
              . have h2I:(rw_.1:Int)<48:=by omega
                clear h2;go_wp2;go_ret;exact⟨zF (za Hf).symm,hb2⟩
              . have h2I:(57:Int)<rw_.1:=by omega
                have h3I:¬(rw_.1:Int)<48:=by omega
                clear h2;go_wp2;go_ret;exact⟨zF (za Hf).symm,hb2⟩
          . have hlt2:¬pos<(B l).size:=by rw[zj];exact hlt
            have hnx:=fun ty=>Lib.run_next_end_at (P:=Tryz.prog) wr w.heap.size (B l) pos ty hit hlt2
            have hf:j6 l=true:=by
             unfold j6;rw[xC h0 (za hl0) (fun j hj=>za hv j hj (by omega)),uy (by omega)];rfl
            have Hf:=zb hf;clear hf hit hpos0;go_wp2;go_ret;exact⟨zF (za Hf).symm,hb⟩
     . have h1I:¬(1:Int)<((B l).size:Int):=by omega
       have hl0:Hid (l.length<=1\/l.head?≠some 48):=.inl (by omega);clear hI hz;go_enter Tryz.func185,Tryz.ntmps185;go_wp2
       go_loopw [4] (fun _ wr=>∃pos:Nat,pos<=l.length/\wr.heap[w.heap.size]? =some (.stringIter (B l) pos)/\Below w.heap.size w wr/\Hid (∀j(hj:j<l.length),j<pos->48<=(l[j]).toNat/\(l[j]).toNat<=57))
        (fun _ wr=>l.length-wr.iterPos w.heap.size)
       case atStart=>exact⟨0,uD _,WN _ _ _,(ue _ _).alloc (ud _) _,zb (fun j _ h=>by omega)⟩
       case round=>
        obtain⟨pos,hpl,hit,hb,hv⟩:=hrel;have hpos0:=iterPos_of hit;by_cases hlt:pos<l.length
        . have hlt2:pos<(B l).size:=by rw[zj];exact hlt
          have hnx:=fun ty=>Lib.run_next_any_at (P:=Tryz.prog) wr w.heap.size (B l) pos ty hit hlt2
          rcases XY l pos hlt with⟨h1,h2,h3⟩|⟨h1,h2⟩
          . rw[h3]at hnx
            have hit2:=Lib.iterAt_heap wr w.heap.size (B l) pos (pos+1) hit;have hb2:=Lib.below_iterAt hb (k:=w.heap.size) (ud _) (B l) (pos+1);have hpos2:=iterPos_of hit2;have hv2:Hid (∀j(hj:j<l.length),j<pos+1->48<=(l[j]).toNat/\(l[j]).toNat<=57):=by
             intro j hj hjk;by_cases hjk2:j<pos
             . exact za hv j hj hjk2
             . have:j=pos:=by omega
               subst this;exact⟨h1,h2⟩
            have h1I:(48:Int)<=((l[pos]'hlt).toNat:Int):=by omega
            have h2I:((l[pos]'hlt).toNat:Int)<=57:=by omega
            have Hit2:=zb hit2;have Hp0:=zb hpos0;have Hp2:=zb hpos2;clear h3 hit hit2 hpos0 hpos2;go_wp2;go_roundw
            case rel=>exact⟨pos+1,by omega,za Hit2,hb2,hv2⟩
            case measure=>rw[za Hp0,za Hp2];omega
          . have hb2:=Lib.below_iterAt hb (k:=w.heap.size) (ud _) (B l) (pos+(Utf8.decode (B l) pos).2)
            have hf:=VC (yP pos hlt h1);have Hf:=zb hf;generalize Utf8.decode (B l) pos=rw_ at *;clear hf h1 hit hpos0;rcases h2 with h2|h2
            . have h2I:(rw_.1:Int)<48:=by omega
              clear h2;go_wp2;go_ret;exact⟨zF (za Hf).symm,hb2⟩
            . have h2I:(57:Int)<rw_.1:=by omega
              have h3I:¬(rw_.1:Int)<48:=by omega
              clear h2;go_wp2;go_ret;exact⟨zF (za Hf).symm,hb2⟩
        . have hlt2:¬pos<(B l).size:=by rw[zj];exact hlt
          have hnx:=fun ty=>Lib.run_next_end_at (P:=Tryz.prog) wr w.heap.size (B l) pos ty hit hlt2
          have hf:j6 l=true:=by
           unfold j6;rw[xC h0 (za hl0) (fun j hj=>za hv j hj (by omega)),uy (by omega)];rfl
          have Hf:=zb hf;clear hf hit hpos0;go_wp2;go_ret;exact⟨zF (za Hf).symm,hb⟩
def Tens(w:World):Prop:=∀j,j<9->w.cell? ⟨3,j,none⟩=some (.int .u64 ((10^j:Nat):Int))
theorem Tens.below{w w':World}(h:Tens w)(hb:Below w.heap.size w w'):Tens w':=by
 intro j hj;have h1:=h j hj;rw[hb.cell (p:=⟨3,j,none⟩) (uo w _ h1)];exact h1
theorem Tens.lt{w:World}(h:Tens w):3<w.heap.size:=uo w _ (h 0 (by omega))
theorem Tens.belowB{w w':World}{b:Nat}(h:Tens w)(hb:Below b w w')(hlt:3<b):Tens w':=by
 intro j hj;rw[hb.cell (p:=⟨3,j,none⟩) hlt];exact h j hj
theorem Vx{w:World}{base:Nat}{e:TypeId}{size:Nat}{v:Value}{n:Nat}{xs:List Value}(h:w.ownsRow base e size v n xs){k:Nat}(hk:v.ownBlock≠some k)(s:ByteArray)(p:Nat):(w.iterAt k s p).ownsRow base e size v n xs:=by
 obtain⟨h1,h2⟩:=h;refine⟨h1,?_⟩;rcases h2 with h2|⟨g,cap,cur,rfl,hb,hg,rest⟩
 . exact .inl h2
 . refine .inr ⟨g,cap,cur,rfl,hb,?_,rest⟩
   rw[Lib.iterAt_other _ _ _ _ _ (by intro hh;apply hk;simp[Value.ownBlock,hh])];exact hg
def Ki(xs:List Nat)(k:Nat):Prop:=∀g(h:g<xs.length),xs[g]<1000000000/\10^(min 9 (k-9*g)) ∣ xs[g]
theorem zc3{a c r:Nat}(ha:a<10^9)(hr:r<9)(hd:10^(r+1) ∣ a)(hc:c<=9):a+c*10^r<10^9:=by
 obtain⟨t,rfl⟩:=hd;have e:(10:Nat)^9=10^(r+1)*10^(8-r):=by rw[<-da];congr 1;omega
 rw[e]at ha⊢;have h1:t<10^(8-r):=Nat.lt_of_mul_lt_mul_left ha;have h2:10^(r+1)*(t+1)<=10^(r+1)*10^(8-r):=UP _ h1;rw[uS,Nat.mul_one]at h2;have h3:c*10^r<10^(r+1):=by
  rw[uZ,uE];exact Nat.mul_lt_mul_of_pos_left (by omega) (Nat.pow_pos (by omega))
 omega
theorem zc4{xs:List Nat}{p c:Nat}(h:Ki xs (p+1))(hg:p/9<xs.length)(hc:c<=9):
  xs[p/9]+c*10^(p%9)<1000000000/\Ki (xs.set (p/9) (xs[p/9]+c*10^(p%9))) p:=by
 have hr:p%9<9:=Ua _ (by omega);have h0:=h (p/9) hg;have hmin:min 9 (p+1-9*(p/9))=p%9+1:=by omega
 rw[hmin]at h0;have hroom:=zc3 (a:=xs[p/9]) h0.1 hr h0.2 hc;refine⟨hroom,?_⟩;intro g hgl;by_cases hgg:g=p/9
 . subst hgg
   rw[uR];refine⟨hroom,?_⟩;rw[show min 9 (p-9*(p/9))=p%9 from by omega];exact Nat.dvd_add (Nat.dvd_trans (Nat.pow_dvd_pow 10 (by omega)) h0.2) (Nat.dvd_mul_left _ _)
 . rw[uU (by omega)]
   have h1:=h g (by simpa using hgl);exact⟨h1.1,Nat.dvd_trans (Nat.pow_dvd_pow 10 (by omega)) h1.2⟩
theorem Q5(p:Nat):1000000000^(p/9)*10^(p%9)=10^p:=by
 have e:(1000000000:Nat)=10^9:=by decide
 rw[e,<-Nat.pow_mul,<-da]
 congr 1;omega
theorem zex{xs:List Nat}{p c V:Nat}(hg:p/9<xs.length)(hV:zG 1000000000 xs=V):zG 1000000000 (xs.set (p/9) (xs[p/9]+c*10^(p%9)))=V+c*10^p:=by
 have h:=ym 1000000000 xs (p/9) (xs[p/9]+c*10^(p%9)) hg;rw[hV,uS,UT,Q5]at h;omega
theorem Z4(x:Nat)(w:World)(hs:(zr x).size<=100000)(hT:Tens w):
  Calls Tryz.prog 186 #[.string (zr x)] w fun e w'=>(∃v',e=.returned v'/\isNatB w' w.heap.size v' x)/\Below w.heap.size w w':=by
 obtain⟨i0,hi,hz0,hz1,hz2⟩:=Ue Tryz.infoU64;obtain⟨n,hn⟩:∃n,(zr x).size=n:=⟨_,rfl⟩
 obtain⟨G,hG⟩:∃G:Nat,(n:Int)/9+1=G:=⟨n/9+1,by omega⟩
 have hnI:((zr x).size:Int)=n:=by omega
 have hn0:0<n:=by have:=jV x;omega
 rw[hn]at hs;have Hn:=zb hn;have HT:=zb hT;clear hn hT;go_enter Tryz.func186,Tryz.ntmps186;go_wp2_with (refine UY _ rfl (.tmp 10) (.tmp 10) 178 rfl w.heap.size 173 i0 (.int .u64 0) 1 UJ hi hz0 hz1 .i64 .i64 G G G rfl rfl rfl rfl (by rw[hz2];omega) (by unfold maxLen;omega) (ud _) ?_;intro w1 hown1 hg1);have hown0:w1.ownsRow w.heap.size 173 1 (.slice (some ⟨w.heap.size,0,none⟩) G G) G (zO (List.replicate G 0)):=by
  simpa[Value.cells,Ul,jC]using hown1
 have hb1:Below w.heap.size w w1:=(ue _ _).grown hg1 (ud _) (fun _ h=>by cases h);have hlt1:w.heap.size<w1.heap.size:=(hown0.lt _ rfl).2;clear hown1 hg1
 go_loopw [4] (fun _ wr=>∃(pos:Nat)(xs:List Nat),pos<=n/\wr.heap[w1.heap.size]? =some (.stringIter (zr x) pos)/\xs.length=G/\wr.ownsRow w.heap.size 173 1 (.slice (some ⟨w.heap.size,0,none⟩) G G) G (zO xs)/\Below w.heap.size w wr/\
   Hid (Ki xs (n-pos))/\Hid (zG 1000000000 xs=Qv x pos*10^(n-pos)))
  (fun _ wr=>n-wr.iterPos w1.heap.size)
 case atStart=>
  refine⟨0,List.replicate G 0,uD _,WN _ _ _,by simp,hown0.alloc _,hb1.alloc hb1.size _,?_,?_⟩
  . intro g hg
    simp
  . show _=_
    rw[qD,ZI];simp
 case round=>
  clear hown0 hb1;obtain⟨pos,xs,hpl,hit,hxl,hown,hb,hlaid,hval⟩:=hrel;have hpos0:=iterPos_of hit;by_cases hlt:pos<n
  . have hlt2:pos<(zr x).size:=by rw[za Hn];exact hlt
    obtain⟨p,hp⟩:∃p:Nat,(n:Int)-1-pos=p:=⟨n-1-pos,by omega⟩
    have hpN:n-1-pos=p:=by omega
    have hby:=Xd x pos hlt2;have hps:=Q6 x pos hlt2;rw[za Hn,hpN]at hby hps;have hc9:x/10^p%10<10:=Ua _ (by omega);generalize x/10^p%10=c at *;have hnx:=fun ty=>Lib.run_next_ascii_at (P:=Tryz.prog) wr w1.heap.size (zr x) pos ty hit hlt2 (by omega)
    obtain⟨b,hbb⟩:∃b,((zr x)[pos]'hlt2).toNat=b:=⟨_,rfl⟩
    rw[hbb]at hnx hby;have hb48:(b:Int)-48=c:=by omega
    have hit2:=Lib.iterAt_heap wr w1.heap.size (zr x) pos (pos+1) hit;have hb2:=Lib.below_iterAt hb (k:=w1.heap.size) (by omega) (zr x) (pos+1);have hown2:=Vx hown (k:=w1.heap.size) (by simp[Value.ownBlock];omega) (zr x) (pos+1);obtain⟨W1,hW1⟩:∃W1,W1=wr.iterAt w1.heap.size (zr x) (pos+1):=⟨_,rfl⟩
    rw[<-hW1]at hnx hit2 hb2 hown2;have hgp:p/9<xs.length:=by omega
    have hT2:=((za HT).belowB hb2 (za HT).lt) (p%9) (Ua _ (by omega))
    have hlaid':Ki xs (p+1):=by have:=za hlaid;rwa[show n-pos=p+1 from by omega]at this
    have hst:=zc4 (c:=c) hlaid' hgp (by omega);have hval':zG 1000000000 xs=Qv x pos*10^(p+1):=by have:=za hval;rwa[show n-pos=p+1 from by omega]at this
    have hof:=zex (c:=c) hgp hval';have hcx:=hown2.cellAt (p/9) (by omega);rw[zz _ _ hgp]at hcx;have hfr:=hown2.frozenAt (p/9);have hpow:10^(p%9)<=100000000:=by
     have:(10:Nat)^(p%9)<=10^8:=UC (by omega) (by omega);exact this
    generalize xs[p/9]'hgp=a at *;obtain⟨t,ht⟩:∃t,10^(p%9)=t:=⟨_,rfl⟩
    rw[ht]at hT2 hst hof hpow;obtain⟨q,hq⟩:∃q,p/9=q:=⟨_,rfl⟩
    obtain⟨r,hr⟩:∃r,p%9=r:=⟨_,rfl⟩
    rw[hq]at hgp hst hof hcx hfr;rw[hr]at hT2;obtain⟨pp,hpp⟩:∃pp,c*t=pp:=⟨_,rfl⟩
    have hppI:(c:Int)*t=pp:=by rw[<-hpp];simp
    rw[hpp]at hst hof;have hst2:=hown2.stored q (.int .u64 ((a:Int)+pp));rw[jU _ _ (a+pp) _ (by simp)]at hst2;have e1:(p:Int).tdiv 9=q:=by rw[Up (by omega)];omega
    have e2:(p:Int).tmod 9=r:=by rw[Uo (by omega)];omega
    have e3:=qX (q:Int) (by omega) (by omega);have e4:=zhK (c:Int) (by omega) (by omega);have e5:=yN (c:Int) (by omega) (by omega);have hrm:c*t<=9*100000000:=WH (by omega) hpow;have e6:=yN (pp:Int) (by omega) (by omega);have e7:=yN ((a:Int)+pp) (by omega) (by omega);have hqG:(q:Int)<G:=by omega
    have hr9:(r:Int)<9:=by omega
    have hqn:q<G:=by omega
    have hrn:r<9:=by omega
    have Hst:=zb hst;have Hof:=zb hof;have Hst2:=zb hst2;have Hit2:=zb hit2;have Hps:=zb hps;have Hp0:=zb hpos0;clear hst hof hst2 hit hit2 hps hpos0 hown hb hval hval' hlaid hlaid' hW1 hby hbb ht hq hr hpp hpN;go_wp2
    go_region
    all_goals
     go_wp2;go_roundw
     case rel=>
      refine⟨pos+1,xs.set q (a+pp),by omega,?_,by simpa using hxl,(za Hst2).1,(hb2.setCell (by simp) _).drew,?_,?_⟩
      . have h1:=za Hit2
        show(W1.setCell ⟨w.heap.size,q,none⟩ _).heap[w1.heap.size]? =_;rw[Uj _ _ _ _ (by show w1.heap.size≠w.heap.size;omega)];exact h1
      . rw[show n-(pos+1)=p from by omega];exact(za Hst).2
      . show _=_
        rw[za Hof,za Hps,show n-(pos+1)=p from by omega,wP,uZ,uE (10^p) 10,<-Ut,uE 10 (Qv x pos)]
     case measure=>
      have h1:=za Hit2;rw[za Hp0];have h2:((W1.setCell ⟨w.heap.size,q,none⟩ (.int .u64 ((a:Int)+pp))).drew).iterPos w1.heap.size=pos+1:=by
       apply iterPos_of (s:=zr x);show(W1.setCell ⟨w.heap.size,q,none⟩ _).heap[w1.heap.size]? =_;rw[Uj _ _ _ _ (by show w1.heap.size≠w.heap.size;omega)];exact h1
      rw[h2];omega
  . have hpn:pos=n:=by omega
    subst hpn;have hlt2:¬pos<(zr x).size:=by rw[za Hn];omega
    have hnx:=fun ty=>Lib.run_next_end_at (P:=Tryz.prog) wr w1.heap.size (zr x) pos ty hit hlt2
    have hfin:zG 1000000000 xs=x:=by
     have h1:=za hval;have h2:=Qw x;rw[za Hn]at h2;rw[h1,h2];simp
    have hall:∀d∈xs,d<1000000000:=by
     intro d hd;obtain⟨g,hg,rfl⟩:=dp hd;exact(za hlaid g hg).1
    have Hfin:=zb hfin;have Hall:=zb hall;clear hfin hall hval hlaid hpos0 hit;go_wp2_with fail;refine(jY xs w.heap.size _ _ (by omega) (za Hall) (by rw[hxl];exact hown)).mono ?_;rintro e w2⟨⟨v',rfl,hv'⟩,rfl⟩;rw[za Hfin]at hv';go_wp2;go_ret;exact⟨⟨v',rfl,hv'⟩,hb⟩
theorem vW(x:Nat)(w:World)(hs:(zr x).size<=100000)(hT:Tens w):
  Calls Tryz.prog 186 #[.string (zr x)] w fun e w'=>(∃v',e=.returned v'/\zy w' v' x)/\Below w.heap.size w w':=
 (Z4 x w hs hT).mono fun _ _ h=>⟨⟨h.1.choose,h.1.choose_spec.1,h.1.choose_spec.2.nat⟩,h.2⟩
theorem Xj(x k:Nat)(h:k/9<(gr x).length):(gr x)[k/9]/10^(k%9)%10=x/10^k%10:=by
 have hr:k%9<9:=Ua _ (by omega);have hg:=zea (b:=1000000000) (by omega) (k/9) x;have hg':(gr x)[k/9]=x/1000000000^(k/9)%1000000000:=by
  rw[<-hg,show dg 1000000000 x=gr x from rfl,uq,uf h];rfl
 rw[hg'];have e:(1000000000:Nat)=10^(k%9)*10^(9-k%9):=by
  rw[<-da,show k%9+(9-k%9)=9 from by omega]
 generalize hq:x/1000000000^(k/9)=q
 conv=>lhs;rw[e]
 rw[Nat.mod_mul_right_div_self,Nat.mod_mod_of_dvd _ (by
  have:10^1 ∣ 10^(9-k%9):=Nat.pow_dvd_pow 10 (by omega);simpa using this),<-hq,Nat.div_div_eq_div_mul,Q5]
def zhB:Value->Nat
 | .slice _ n _=>n
 |_=>0
def J0(x k:Nat):List Nat:=(List.range k).map fun j=>x/10^j%10
theorem Yn(x k:Nat):J0 x (k+1)=J0 x k++[x/10^k%10]:=by simp[J0,List.range_succ]
theorem Jh(x k:Nat):(J0 x k).length=k:=by simp[J0]
theorem zbO(x k:Nat):∀d∈J0 x k,d<10:=by
 intro d hd;obtain⟨j,_,rfl⟩:=UB.1 hd;exact Ua _ (by omega)
theorem zed(x:Nat):∀k,zG 10 (J0 x k)=x%10^k:=by
 intro k
 induction k with
 |zero=>simp[J0,zG,Nat.mod_one]
 |succ k ih=>rw[Yn,qz,ih,Jh,jd]
theorem zgW(x:Nat):x<10^(9*(gr x).length):=by
 have h:=vV (b:=1000000000) (by omega) x;rw[show(1000000000:Nat)=10^9 from by decide,<-Nat.pow_mul]at h;unfold gr;rw[show(1000000000:Nat)=10^9 from by decide];exact h
theorem jK(x:Nat)(v:Value)(w:World)(hx:zy w v x)(hs:(gr x).length<=100000)(hT:Tens w):
  Calls Tryz.prog 184 #[v] w fun e w'=>e=.returned (.string (zr x))/\Below w.heap.size w w':=by
 obtain⟨i0,hi,hz0,hz1,hz2⟩:=Ue Tryz.infoByte;obtain⟨p,cap,hv⟩:=zq hx;subst hv;by_cases hz:x=0
 . subst hz
   rw[vr,zd8];clear hx hs hT;go_enter Tryz.func184,Tryz.ntmps184;go_wp2;go_ret;exact⟨rfl,ue _ _⟩
 . obtain⟨n,hn⟩:∃n,(gr x).length=n:=⟨_,rfl⟩
   have hn0:0<n:=by
    rcases ws n with h|h
    . rw[h]at hn;exact absurd (QQ.1 (ur hn)) hz
    . exact h
   have hnI:((n:Int)==0)=false:=by rw[ug];omega
   have hgd:=Xj x;have hgl:=yw x;have hgp:=zgW x;have hx':=hx;unfold zy at hx';rw[hn]at hx' hs hgp;rw[hn];generalize gr x=xs at *;have Hgd:=zb hgd;have Hgl:=zb hgl;have Hgp:=zb hgp;have Hx:=zb hx';have Hn:=zb hn;have HT:=zb hT;have Hz:=zb hz;clear hgd hgl hgp hx' hn hT hz hx;go_enter Tryz.func184,Tryz.ntmps184;go_wp2
   go_loopw [3,13] (fun v i wr=>∃(k:Nat),k<=n*9/\i=.int .i64 k/\wr.ownsRow w.heap.size 5 1 v k (((J0 x k).map sg).map ZM)/\Below w.heap.size w wr)
    (fun _ i _=>n*9-(intOf i).toNat)
   case atStart=>
    exact⟨0,uD _,rfl,Wt w #[] 0 (ud _) (by decide) (by simp),(ue _ _).alloc (ud _) _⟩
   case round=>
    obtain⟨k,hk,rfl,hown,hb⟩:=hrel;by_cases hlt:k<n*9
    . have hkl:k/9<xs.length:=by rw[za Hn];omega
      obtain⟨g,cap',hvv,_⟩:=zY (za Hx) (by omega);simp only[wm,WJ]at hvv;obtain⟨rfl,rfl⟩:=hvv;have hcx:=(zu (za Hx) hb).cellAt (k/9) (by rw[za Hn]at hkl;omega);rw[zz _ _ hkl]at hcx;have hT2:=((za HT).below hb) (k%9) (Ua _ (by omega))
      have hd:=za Hgd k hkl;have ha9:xs[k/9]'hkl<1000000000:=za Hgl _ (uF _);have hdl:x/10^k%10<10:=Ua _ (by omega);have hsuc:=Yn x k;have hpow:0<10^(k%9):=Nat.pow_pos (by omega);have hpow2:10^(k%9)<=100000000:=by
       have:(10:Nat)^(k%9)<=10^8:=UC (by omega) (by have:=Ua k (show 9>0 by omega);omega);exact this
      generalize xs[k/9]'hkl=a at *;generalize x/10^k%10=d at *;obtain⟨t,ht⟩:∃t,10^(k%9)=t:=⟨_,rfl⟩
      rw[ht]at hT2 hd hpow hpow2;obtain⟨q,hq⟩:∃q,k/9=q:=⟨_,rfl⟩
      obtain⟨r,hr⟩:∃r,k%9=r:=⟨_,rfl⟩
      rw[hq]at hcx hkl;rw[hr]at hT2;obtain⟨at_,hat⟩:∃z,a/t=z:=⟨_,rfl⟩
      rw[hat]at hd;have hatl:at_<=a:=by rw[<-hat];exact WR _ _
      have e1:(k:Int).tdiv 9=q:=by rw[Up (by omega)];omega
      have e2:(k:Int).tmod 9=r:=by rw[Uo (by omega)];omega
      have e3:=qX (q:Int) (by omega) (by omega);have e4:(a:Int).tdiv t=at_:=by rw[Up (by omega),<-hat];rfl
      have e5:=yN (at_:Int) (by omega) (by omega);have e6:(at_:Int).tmod 10=d:=by rw[Uo (by omega)];omega
      have htN:¬(t:Int)=0:=by omega
      have hqn:(q:Int)<n:=by omega
      have hqn2:q<n:=by omega
      have hr9:(r:Int)<9:=by omega
      have hrn:r<9:=by omega
      have hki:(k:Int)<n*9:=by omega
      have Hsuc:=zb hsuc;clear hsuc hd ht hq hr hat;go_wp2
      go_quiet (fail)
      have hown2:=YF hown nq;have hb2:=jI hb nq;have hw:=hb.size;go_wp2_with (at_builtin;refine wG _ rfl (.tmp 27) (.tmp 31) 22 rfl w.heap.size 5 i0 (.int .u8 0) 1 1 Ug hi hz0 hz1 hz2 rfl (by decide) _ _ _ rfl (hown2.alloc _) ⟨wr.heap.size,0,none⟩ 1 1 [.int .u8 (48+(d:Int))] rfl rfl (cell_one_new _ _ _) (by intro u hu;simp at hu;subst hu;rfl) (by unfold maxLen;omega) (by omega) (by show w.heap.size<=((wr.drewN nq).alloc _).heap.size;rw[uk];show w.heap.size<=wr.heap.size+1;omega) ?_;intro v2 w2 hown3 hg3 _);have hbX:=qh (hb2.alloc hw _) (hown2.alloc _) hg3 (by rw[uk];show w.heap.size<=wr.heap.size+1;omega);go_roundw
      case rel=>
       refine⟨k+1,by omega,by go_num,?_,hbX⟩;rw[za Hsuc,UF,UF];simp only[UU,di,KO hdl];exact hown3
      case measure=>simp[intOf];omega
    . have hkn:k=n*9:=by omega
      subst hkn;have hpre:qQ (J0 x (n*9))=dg 10 x:=by
       rw[Jr (by omega) (zbO x _),zed,Uu (by rw[uE];exact za Hgp)]
      obtain⟨g,cap',hvv,hcc,hbg,hgw⟩:=zY hown (by omega);subst hvv;have Hpre:=zb hpre;have hdl:=zbO x (n*9);have hlen:=Jh x (n*9);generalize J0 x (n*9)=D at *;have Hdl:=zb hdl;clear hpre hdl;go_wp2
      go_loopw [3] (fun v wr2=>∃(E:List Nat),v=.slice (some ⟨g,0,none⟩) E.length cap'/\E.length<=n*9/\wr2=wr/\wr.ownsRow w.heap.size 5 1 (.slice (some ⟨g,0,none⟩) E.length cap') E.length ((E.map sg).map ZM)/\Hid (qQ E=dg 10 x)/\Hid (∀d∈E,d<10))
       (fun v _=>zhB v)
      case atStart=>exact⟨D,by rw[hlen],by omega,rfl,by rw[hlen];exact hown,Hpre,Hdl⟩
      case round=>
       obtain⟨E,rfl,hEl,rfl,hownE,hst,hEd⟩:=hrel;have hE0:0<E.length:=by
        rcases ws E.length with h|h
        . exfalso
          have:E=[]:=ur h;rw[this]at hst;exact za Hz ((Zx (by omega)).1 (za hst).symm)
        . exact h
       have hc:=hownE.cellAt (E.length-1) (by omega);rw[VU _ _ (by simp;omega),WI]at hc;have hsp:E=E.take (E.length-1)++[E[E.length-1]'(by omega)]:=by
        rw[<-uQ (by omega),show E.length-1+1=E.length from by omega,Uh]
       have hlast:E[E.length-1]'(by omega)<10:=za hEd _ (uF _);have htk:=Vy hownE (E.length-1) (by omega);generalize E[E.length-1]'(by omega)=d at *;rw[jw (by omega),uj hlast]at hc;by_cases hd0:d=0
       . have hst2:qQ (E.take (E.length-1))=dg 10 x:=by
          rw[<-za hst]
          conv=>rhs;rw[hsp,hd0]
          rw[xM]
         have hEd2:∀e∈E.take (E.length-1),e<10:=fun e he=>za hEd e (UV he)
         have hq:(((48+d:Nat):Int)==48)=true:=by rw[Um];omega
         have e1:((E.map sg).map ZM).take (E.length-1)=((E.take (E.length-1)).map sg).map ZM:=by simp[List.map_take]
         rw[e1]at htk;have hl1:(E.take (E.length-1)).length=E.length-1:=by simp
         generalize E.take (E.length-1)=F at *;have hzl:F.length+1=E.length:=by omega
         have Htk:=zb htk;have Hst2:=zb hst2;have Hd2:=zb hEd2;clear hst2 htk hsp hd0 e1 hEd2;go_wp2;go_roundw
         case rel=>exact⟨F,by rw[hl1],by omega,trivial,by rw[hl1];exact za Htk,Hst2,Hd2⟩
         case measure=>show E.length-1<E.length;omega
       . have hq:(((48+d:Nat):Int)==48)=false:=by rw[ug];omega
         have hfin:E=dg 10 x:=by rw[<-za hst,hsp,ki _ _ hd0]
         have Hfin:=zb hfin;clear hfin hsp htk hd0;have hrv:=YJ (E.map sg) g cap' w.heap.size wr (by rw[Ud];omega) (by rw[Ud];exact hownE);rw[Ud]at hrv;have Hrv:=zb hrv;clear hrv hownE hown;go_wp2_with fail;refine(za Hrv).mono ?_;rintro e w3⟨rfl,hown3,hg3⟩;have hbX:=hb.grown hg3 hb.size (fun k hk=>by cases hk;omega);have hconv:=qV (dst:=9) Ug Ux Uf hown3;have hfin2:B (E.map sg).reverse=zr x:=by unfold zr jB;rw[jZ (za Hz),<-za Hfin]
         rw[hfin2]at hconv;clear hfin2 hown3 hg3 Hrv;go_wp2;go_ret;exact⟨rfl,hbX⟩
theorem xA{x:Nat}:(gr x).length=0↔x=0:=by
 rw[UO];exact QQ
theorem kx{x y n:Nat}(h:x<=y)(hy:(gr y).length<=n):(gr x).length<=n:=uC (jW h) hy
theorem zN{w w3:World}{b:Nat}(h:Below b w w3)(hs:b<=w3.heap.size)(g:Nat)(hg:b<=g)(x y z:Value)(o:Obj):Below b w ((((w3.setCell ⟨g,0,none⟩ x).setCell ⟨g,1,none⟩ y).setCell ⟨g,2,none⟩ z).alloc o):=
 (zv h g hg x y z).alloc (by simpa using hs) o
theorem zaX{neg:Bool}{u d:Nat}(hd:0<d):zB neg u d=if 60<(zr (u/Nat.gcd u d)).size\/60<(zr (d/Nat.gcd u d)).size then none else some (neg&&u/Nat.gcd u d != 0,u/Nat.gcd u d,d/Nat.gcd u d):=by
 unfold zB;by_cases h:60<(zr (u/Nat.gcd u d)).size\/60<(zr (d/Nat.gcd u d)).size
 . rw[uj (.inr h),uj h]
 . rw[ul (by rintro(h1|h1);omega;exact h h1),ul h]
theorem Ze(neg:Bool)(u d:Nat)(vu vd:Value)(w:World)(hu:zy w vu u)(hdn:zy w vd d)(hd:0<d)(hsu:(gr u).length<=100000)(hsd:(gr d).length<=100000)(hT:Tens w):
  Calls Tryz.prog 158 #[.bool neg,vu,vd] w fun e w'=>e=.returned (zg (zB neg u d))/\Below w.heap.size w w':=by
 have Hu:=zb hu;have Hd:=zb hdn;have HT:=zb hT;have hg:0<Nat.gcd u d:=WE _ hd;have hgl:=kx (Nat.gcd_le_right u hd) hsd;have hql:=kx (WR u (Nat.gcd u d)) hsu;have hdl:=kx (WR d (Nat.gcd u d)) hsd;have Hlow:=zb (zaX (neg:=neg) (u:=u) hd);clear hu hdn hT;go_enter Tryz.func158,Tryz.ntmps158;go_wp2_with fail;have hbA:∀o:Obj,Below w.heap.size w (w.alloc o):=fun o=>(ue _ _).alloc (ud _) _
 refine(zen u d _ _ _ (zt (za Hu) (hbA _)) (zt (za Hd) (hbA _)) (by omega) (by omega)).mono ?_;rintro e w1⟨⟨vg,rfl,hvg⟩,hb1⟩;have hb0:=zn hb1;have hz0:w.heap.size+1<=w1.heap.size:=by have:=hb1.size;simpa using this
 have hbu1:=zm hb0;have Hvg:=zb hvg;have Hn1:=zb (And.intro hb0 hz0);clear hvg hb1 hb0 hz0;go_wp2_with fail;refine(za7 u _ _ _ _ (zt (za Hu) hbu1) (za Hvg) (by omega) (by omega) hg).mono ?_;rintro e w2⟨⟨v1,v1r,rfl,hv1,_⟩,hb2⟩;have hn2:=zk (za Hn1).1 (za Hn1).2 hb2;have hbu2:=zm hn2.1;have Hv1:=zb hv1;have Hvg2:=zb (zt (za Hvg) hb2);have Hn2:=zb hn2;clear hv1 hb2 hn2 hbu1;go_wp2_with fail;refine(za7 d _ _ _ _ (zt (za Hd) hbu2) (za Hvg2) (by omega) (by omega) hg).mono ?_;rintro e w3⟨⟨v2,v2r,rfl,hv2,_⟩,hb3⟩;have hn3:=zk (za Hn2).1 (za Hn2).2 hb3;have HV1:=zb (zt (za Hv1) hb3);have HV2:=zb hv2;have HT3:=zb ((za HT).below (zm hn3.1));have Hn3:=zb hn3;clear hv2 hb3 hn3 hbu2 Hv1 Hvg2 Hn2 Hn1 Hvg hbA;generalize hqu:u/Nat.gcd u d=qu at *;generalize hqd:d/Nat.gcd u d=qd at *;clear hqu hqd;obtain⟨p1,cp1,hv1s⟩:=zq (za HV1);subst hv1s;by_cases hq0:qu=0
 . have hl0:decide (0<(gr qu).length)=false:=by have:=xA.2 hq0;rw[wn];omega
   have Hsg:Hid ((neg&&qu != 0)=false):=by show _=_;rw[hq0];simp
   clear hq0;cases neg with
   |false=>
    go_wp2_with fail;refine(jK qu _ _ (za HV1) (by omega) (za HT3)).mono ?_;rintro e w4⟨rfl,hb4⟩;have hn4:=zk (za Hn3).1 (za Hn3).2 hb4;have hv2:=zt (za HV2) hb4;have hT4:=(za HT3).below hb4;have HV2':=zb hv2;have HT4:=zb hT4;have Hn4:=zb hn4;clear hv2 hT4 hn4 hb4;go_wp2_with fail;refine(jK qd _ _ (za HV2') (by omega) (za HT4)).mono ?_;rintro e w5⟨rfl,hb5⟩;have hn5:=zk (za Hn4).1 (za Hn4).2 hb5;have c0:=ze hn5.1 0;have c1:=ze hn5.1 1;have c2:=ze hn5.1 2;have f0:=zh hn5.1 0;have f1:=zh hn5.1 1;have f2:=zh hn5.1 2;have hbX:=zm hn5.1;simp at c0 c1 c2;have hbb:w.heap.size<w5.heap.size:=hn5.2;clear hb5 hn5;by_cases h1:60<(zr qu).size
    . rw[uj (.inl h1)]at Hlow
      go_wp2;refine um (v:=zg none) (by simp[results,wv,go_sem,zg,qe,qF,zH,c0,c1,c2,hbb]) rfl ⟨by rw[za Hlow],?_⟩;exact zN hbX hbX.size _ (ud _) _ _ _ _
    . by_cases h2:60<(zr qd).size
      . rw[uj (.inr h2)]at Hlow
        go_wp2;refine um (v:=zg none) (by simp[results,wv,go_sem,zg,qe,qF,zH,c0,c1,c2,hbb]) rfl ⟨by rw[za Hlow],?_⟩;exact zN hbX hbX.size _ (ud _) _ _ _ _
      . rw[ul (by rintro(h|h);exact h1 h;exact h2 h)]at Hlow
        go_wp2;refine um (v:=zg (some (false,qu,qd))) (by simp[results,wv,go_sem,zg,qe,zH,c0,c1,c2,hbb]) rfl ⟨by rw[za Hlow,za Hsg],?_⟩;exact zN hbX hbX.size _ (ud _) _ _ _ _
   |true=>
    go_wp2_with fail;refine(jK qu _ _ (za HV1) (by omega) (za HT3)).mono ?_;rintro e w4⟨rfl,hb4⟩;have hn4:=zk (za Hn3).1 (za Hn3).2 hb4;have hv2:=zt (za HV2) hb4;have hT4:=(za HT3).below hb4;have HV2':=zb hv2;have HT4:=zb hT4;have Hn4:=zb hn4;clear hv2 hT4 hn4 hb4;go_wp2_with fail;refine(jK qd _ _ (za HV2') (by omega) (za HT4)).mono ?_;rintro e w5⟨rfl,hb5⟩;have hn5:=zk (za Hn4).1 (za Hn4).2 hb5;have c0:=ze hn5.1 0;have c1:=ze hn5.1 1;have c2:=ze hn5.1 2;have f0:=zh hn5.1 0;have f1:=zh hn5.1 1;have f2:=zh hn5.1 2;have hbX:=zm hn5.1;simp at c0 c1 c2;have hbb:w.heap.size<w5.heap.size:=hn5.2;clear hb5 hn5;by_cases h1:60<(zr qu).size
    . rw[uj (.inl h1)]at Hlow
      go_wp2;refine um (v:=zg none) (by simp[results,wv,go_sem,zg,qe,qF,zH,c0,c1,c2,hbb]) rfl ⟨by rw[za Hlow],?_⟩;exact zN hbX hbX.size _ (ud _) _ _ _ _
    . by_cases h2:60<(zr qd).size
      . rw[uj (.inr h2)]at Hlow
        go_wp2;refine um (v:=zg none) (by simp[results,wv,go_sem,zg,qe,qF,zH,c0,c1,c2,hbb]) rfl ⟨by rw[za Hlow],?_⟩;exact zN hbX hbX.size _ (ud _) _ _ _ _
      . rw[ul (by rintro(h|h);exact h1 h;exact h2 h)]at Hlow
        go_wp2;refine um (v:=zg (some (false,qu,qd))) (by simp[results,wv,go_sem,zg,qe,zH,c0,c1,c2,hbb]) rfl ⟨by rw[za Hlow,za Hsg],?_⟩;exact zN hbX hbX.size _ (ud _) _ _ _ _
 . have hl0:decide (0<(gr qu).length)=true:=by have:=mt xA.1 hq0;rw[ut];omega
   cases neg with
   |false=>
    have Hsg:Hid ((false&&qu != 0)=false):=rfl;clear hq0;go_wp2_with fail;refine(jK qu _ _ (za HV1) (by omega) (za HT3)).mono ?_;rintro e w4⟨rfl,hb4⟩;have hn4:=zk (za Hn3).1 (za Hn3).2 hb4;have hv2:=zt (za HV2) hb4;have hT4:=(za HT3).below hb4;have HV2':=zb hv2;have HT4:=zb hT4;have Hn4:=zb hn4;clear hv2 hT4 hn4 hb4;go_wp2_with fail;refine(jK qd _ _ (za HV2') (by omega) (za HT4)).mono ?_;rintro e w5⟨rfl,hb5⟩;have hn5:=zk (za Hn4).1 (za Hn4).2 hb5;have c0:=ze hn5.1 0;have c1:=ze hn5.1 1;have c2:=ze hn5.1 2;have f0:=zh hn5.1 0;have f1:=zh hn5.1 1;have f2:=zh hn5.1 2;have hbX:=zm hn5.1;simp at c0 c1 c2;have hbb:w.heap.size<w5.heap.size:=hn5.2;clear hb5 hn5;by_cases h1:60<(zr qu).size
    . rw[uj (.inl h1)]at Hlow
      go_wp2;refine um (v:=zg none) (by simp[results,wv,go_sem,zg,qe,qF,zH,c0,c1,c2,hbb]) rfl ⟨by rw[za Hlow],?_⟩;exact zN hbX hbX.size _ (ud _) _ _ _ _
    . by_cases h2:60<(zr qd).size
      . rw[uj (.inr h2)]at Hlow
        go_wp2;refine um (v:=zg none) (by simp[results,wv,go_sem,zg,qe,qF,zH,c0,c1,c2,hbb]) rfl ⟨by rw[za Hlow],?_⟩;exact zN hbX hbX.size _ (ud _) _ _ _ _
      . rw[ul (by rintro(h|h);exact h1 h;exact h2 h)]at Hlow
        go_wp2;refine um (v:=zg (some (false,qu,qd))) (by simp[results,wv,go_sem,zg,qe,zH,c0,c1,c2,hbb]) rfl ⟨by rw[za Hlow,za Hsg],?_⟩;exact zN hbX hbX.size _ (ud _) _ _ _ _
   |true=>
    have Hsg:Hid ((true&&qu != 0)=true):=by show _=_;rw[WL.2 hq0];rfl
    clear hq0;go_wp2_with fail;refine(jK qu _ _ (za HV1) (by omega) (za HT3)).mono ?_;rintro e w4⟨rfl,hb4⟩;have hn4:=zk (za Hn3).1 (za Hn3).2 hb4;have hv2:=zt (za HV2) hb4;have hT4:=(za HT3).below hb4;have HV2':=zb hv2;have HT4:=zb hT4;have Hn4:=zb hn4;clear hv2 hT4 hn4 hb4;go_wp2_with fail;refine(jK qd _ _ (za HV2') (by omega) (za HT4)).mono ?_;rintro e w5⟨rfl,hb5⟩;have hn5:=zk (za Hn4).1 (za Hn4).2 hb5;have c0:=ze hn5.1 0;have c1:=ze hn5.1 1;have c2:=ze hn5.1 2;have f0:=zh hn5.1 0;have f1:=zh hn5.1 1;have f2:=zh hn5.1 2;have hbX:=zm hn5.1;simp at c0 c1 c2;have hbb:w.heap.size<w5.heap.size:=hn5.2;clear hb5 hn5;by_cases h1:60<(zr qu).size
    . rw[uj (.inl h1)]at Hlow
      go_wp2;refine um (v:=zg none) (by simp[results,wv,go_sem,zg,qe,qF,zH,c0,c1,c2,hbb]) rfl ⟨by rw[za Hlow],?_⟩;exact zN hbX hbX.size _ (ud _) _ _ _ _
    . by_cases h2:60<(zr qd).size
      . rw[uj (.inr h2)]at Hlow
        go_wp2;refine um (v:=zg none) (by simp[results,wv,go_sem,zg,qe,qF,zH,c0,c1,c2,hbb]) rfl ⟨by rw[za Hlow],?_⟩;exact zN hbX hbX.size _ (ud _) _ _ _ _
      . rw[ul (by rintro(h|h);exact h1 h;exact h2 h)]at Hlow
        go_wp2;refine um (v:=zg (some (true,qu,qd))) (by simp[results,wv,go_sem,zg,qe,zH,c0,c1,c2,hbb]) rfl ⟨by rw[za Hlow,za Hsg],?_⟩;exact zN hbX hbX.size _ (ud _) _ _ _ _
theorem YC(neg:Bool)(u d:List UInt8):vC neg u d=(j6 u&&j6 d&&decide (zC d≠0)&& !(neg&&decide (zC u=0))&&decide (Nat.gcd (zC u) (zC d)=1)):=by
 unfold vC j6;cases decide (u.length<=60)<;>cases decide (d.length<=60)<;>cases qO u<;>cases qO d<;>simp
theorem yE{x n:Nat}(h:(zr x).size<=n):(gr x).length<=n:=by
 have h1:=jE x;apply yO (by omega);have h2:(10:Nat)^(zr x).size<=1000000000^n:=uC (Nat.pow_le_pow_left (by omega) _) (UC (by omega) h);omega
theorem Kc(neg:Bool)(u d:List UInt8)(w:World)(hsu:u.length<=1000000000)(hsd:d.length<=1000000000)(h:(j6 u&&j6 d)=false):
  Calls Tryz.prog 159 #[xD neg u d] w fun e w'=>e=.returned (.bool (vC neg u d))/\Below w.heap.size w w':=by
 have Hok:Hid (vC neg u d=false):=by show _=_;rw[YC,h];simp
 unfold xD;have h1:=fun w=>xE u w hsu
 have h2:=fun w=>xE d w hsd
 have H2:=zb h2;cases hu:j6 u with
 |false=>
  rw[hu]at h1;have H1:=zb h1;clear h hu h1 h2;go_enter Tryz.func159,Tryz.ntmps159;go_wp2_with fail;refine(za H1 _).mono ?_;rintro e w1⟨rfl,hb1⟩;have hb0:=zn hb1;have hz0:w.heap.size+1<=w1.heap.size:=by have:=hb1.size;simpa using this
  clear hb1;go_wp2;go_ret;exact⟨zF (za Hok).symm,zm hb0⟩
 |true=>
  rw[hu]at h1 h;have hd:j6 d=false:=by simpa using h
  rw[hd]at H2;have H1:=zb h1;clear h hu hd h1 h2;go_enter Tryz.func159,Tryz.ntmps159;go_wp2_with fail;refine(za H1 _).mono ?_;rintro e w1⟨rfl,hb1⟩;have hb0:=zn hb1;have hz0:w.heap.size+1<=w1.heap.size:=by have:=hb1.size;simpa using this
  clear hb1;have c0:=ze hb0 0;have c1:=ze hb0 1;have c2:=ze hb0 2;simp at c0 c1 c2;go_wp2_with fail;refine(za H2 _).mono ?_;rintro e w2⟨rfl,hb2⟩;have hn2:=zk hb0 hz0 hb2;go_wp2;go_ret;exact⟨zF (za Hok).symm,zm hn2.1⟩
theorem V5(neg:Bool)(u d:List UInt8)(w:World)(hu:j6 u=true)(hd:j6 d=true)(hT:Tens w):
  Calls Tryz.prog 159 #[xD neg u d] w fun e w'=>e=.returned (.bool (vC neg u d))/\Below w.heap.size w w':=by
 have hu':=hu;have hd':=hd;unfold j6 at hu' hd';simp only[ux,ut]at hu' hd';have Hok:Hid (vC neg u d=(decide (zC d≠0)&& !(neg&&decide (zC u=0))&&decide (Nat.gcd (zC u) (zC d)=1))):=by
  show _=_;rw[YC,hu,hd];simp
 have h1:=fun w=>xE u w (by omega)
 have h2:=fun w=>xE d w (by omega)
 rw[hu]at h1;rw[hd]at h2;have Bu:B u=zr (zC u):=by unfold zr jB;rw[<-qR hu'.1]
 have Bd:B d=zr (zC d):=by unfold zr jB;rw[<-qR hd'.1]
 have hau:=zj u;have had:=zj d;unfold xD;rw[Bu]at h1 hau;rw[Bd]at h2 had;rw[Bu,Bd];have HT:=zb hT;have H1:=zb h1;have H2:=zb h2;generalize zC u=a at *;generalize zC d=q at *;have hsa:(zr a).size<=60:=by omega
 have hsq:(zr q).size<=60:=by omega
 have hga:=yE hsa;have hgq:=yE hsq;have ha0:=xw a;have hq0:=xw q;clear h1 h2 Bu Bd hu hd hu' hd' hau had hT;by_cases hq:q=0
 . rw[uy hq]at hq0
   have Hok:Hid (vC neg u d=false):=by show _=_;rw[za Hok];simp[hq]
   clear hq;go_enter Tryz.func159,Tryz.ntmps159;go_wp2_with fail;refine(za H1 _).mono ?_;rintro e w1⟨rfl,hb1⟩;have hb0:=zn hb1;have hz0:w.heap.size+1<=w1.heap.size:=by have:=hb1.size;simpa using this
   clear hb1;have c0:=ze hb0 0;have c1:=ze hb0 1;have c2:=ze hb0 2;simp at c0 c1 c2;go_wp2_with fail;refine(za H2 _).mono ?_;rintro e w2⟨rfl,hb2⟩;have hn2:=zk hb0 hz0 hb2;clear c0 c1 c2 hb2 hb0 hz0;have c0:=ze hn2.1 0;have c1:=ze hn2.1 1;have c2:=ze hn2.1 2;simp at c0 c1 c2;go_wp2;go_ret;exact⟨zF (za Hok).symm,zm hn2.1⟩
 . rw[uw hq]at hq0
   have hgg:(gr (Nat.gcd a q)).length<=60:=kx (Nat.gcd_le_right a (by omega)) hgq;cases neg with
   |false=>
    have Hok:Hid (vC false u d=decide (Nat.gcd a q=1)):=by show _=_;rw[za Hok];simp[hq]
    clear hq;go_enter Tryz.func159,Tryz.ntmps159;go_wp2_with fail;refine(za H1 _).mono ?_;rintro e w1⟨rfl,hb1⟩;have hb0:=zn hb1;have hz0:w.heap.size+1<=w1.heap.size:=by have:=hb1.size;simpa using this
    clear hb1;have c0:=ze hb0 0;have c1:=ze hb0 1;have c2:=ze hb0 2;simp at c0 c1 c2;go_wp2_with fail;refine(za H2 _).mono ?_;rintro e w2⟨rfl,hb2⟩;have hn2:=zk hb0 hz0 hb2;clear c0 c1 c2 hb2 hb0 hz0;have c0:=ze hn2.1 0;have c1:=ze hn2.1 1;have c2:=ze hn2.1 2;simp at c0 c1 c2;have HT2:=zb ((za HT).below (zm hn2.1));have HW:Hid (Below (w.heap.size+1) (w.alloc (.cells #[.bool false,.string (zr a),.string (zr q)] 79)) w2.drew/\w.heap.size+1<=w2.drew.heap.size):=zb ⟨hn2.1.drew,hn2.2⟩;have HC:Hid (∀wx:World,Below w2.drew.heap.size w2.drew wx->wx.cell? ⟨w.heap.size,1,none⟩=some (.string (zr a))/\wx.cell? ⟨w.heap.size,2,none⟩=some (.string (zr q))):=by
     intro wx hx;have hlt:w.heap.size<w2.drew.heap.size:=hn2.2;exact⟨by rw[hx.cell (p:=⟨w.heap.size,1,none⟩) hlt];exact c1,by rw[hx.cell (p:=⟨w.heap.size,2,none⟩) hlt];exact c2⟩
    go_wp2
    go_region_with (first|(go_at_call_of 186 (zr a);refine(vW a _ (by omega) (by first|exact(za HT2)|exact Tens.below (w:=w2.drew) (za HT2) (by assumption))).mono ?_;rintro e wa⟨⟨va,rfl,hva⟩,hba⟩;have Hva:=zb hva;have Hba:=zb hba;clear hva;have ca1:wa.cell? ⟨w.heap.size,1,none⟩=some (.string (zr a)):=(by first|exact(za HC _ hba).1|exact(za HC _ ((za Hbq).trans (hba.mono (za Hbq).size))).1);have ca2:wa.cell? ⟨w.heap.size,2,none⟩=some (.string (zr q)):=(by first|exact(za HC _ hba).2|exact(za HC _ ((za Hbq).trans (hba.mono (za Hbq).size))).2))|(go_at_call_of 186 (zr q);refine(vW q _ (by omega) (by first|exact(za HT2)|exact Tens.below (w:=w2.drew) (za HT2) (by assumption))).mono ?_;rintro e wq⟨⟨vq,rfl,hvq⟩,hbq⟩;have Hvq:=zb hvq;have Hbq:=zb hbq;clear hvq;have cq1:wq.cell? ⟨w.heap.size,1,none⟩=some (.string (zr a)):=(by first|exact(za HC _ hbq).1|exact(za HC _ ((za Hba).trans (hbq.mono (za Hba).size))).1);have cq2:wq.cell? ⟨w.heap.size,2,none⟩=some (.string (zr q)):=(by first|exact(za HC _ hbq).2|exact(za HC _ ((za Hba).trans (hbq.mono (za Hba).size))).2))|(go_at_call 182;refine(zen a q va vq _ (by first|exact za Hva|exact zt (za Hva) (za Hbq)) (by first|exact za Hvq|exact zt (za Hvq) (za Hba)) (by omega) (by omega)).mono ?_;rintro e wg⟨⟨vg,rfl,hvg⟩,hbg⟩;have Hvg:=zb hvg;have Hbg:=zb hbg;clear hvg)|(go_at_call 187;refine(zbU (Nat.gcd a q) vg _ (za Hvg) (by omega)).mono ?_;rintro e wi⟨rfl,rfl⟩))
    all_goals
     go_wp2;go_ret;refine⟨zF (za Hok).symm,zm (o:=.cells #[.bool false,.string (zr a),.string (zr q)] 79) ?_⟩
     first
      |exact(zk (zk (zk (za HW).1 (za HW).2 (za Hba)).1 (zk (za HW).1 (za HW).2 (za Hba)).2 (za Hbq)).1 (zk (zk (za HW).1 (za HW).2 (za Hba)).1 (zk (za HW).1 (za HW).2 (za Hba)).2 (za Hbq)).2 (za Hbg)).1
      |exact(zk (zk (zk (za HW).1 (za HW).2 (za Hbq)).1 (zk (za HW).1 (za HW).2 (za Hbq)).2 (za Hba)).1 (zk (zk (za HW).1 (za HW).2 (za Hbq)).1 (zk (za HW).1 (za HW).2 (za Hbq)).2 (za Hba)).2 (za Hbg)).1
   |true=>
    by_cases ha:a=0
    . rw[uy ha]at ha0
      have Hok:Hid (vC true u d=false):=by show _=_;rw[za Hok];simp[ha]
      clear hq ha;go_enter Tryz.func159,Tryz.ntmps159;go_wp2_with fail;refine(za H1 _).mono ?_;rintro e w1⟨rfl,hb1⟩;have hb0:=zn hb1;have hz0:w.heap.size+1<=w1.heap.size:=by have:=hb1.size;simpa using this
      clear hb1;have c0:=ze hb0 0;have c1:=ze hb0 1;have c2:=ze hb0 2;simp at c0 c1 c2;go_wp2_with fail;refine(za H2 _).mono ?_;rintro e w2⟨rfl,hb2⟩;have hn2:=zk hb0 hz0 hb2;clear c0 c1 c2 hb2 hb0 hz0;have c0:=ze hn2.1 0;have c1:=ze hn2.1 1;have c2:=ze hn2.1 2;simp at c0 c1 c2;go_wp2;go_ret;exact⟨zF (za Hok).symm,zm hn2.1⟩
    . rw[uw ha]at ha0
      have Hok:Hid (vC true u d=decide (Nat.gcd a q=1)):=by show _=_;rw[za Hok];simp[hq,ha]
      clear hq ha;go_enter Tryz.func159,Tryz.ntmps159;go_wp2_with fail;refine(za H1 _).mono ?_;rintro e w1⟨rfl,hb1⟩;have hb0:=zn hb1;have hz0:w.heap.size+1<=w1.heap.size:=by have:=hb1.size;simpa using this
      clear hb1;have c0:=ze hb0 0;have c1:=ze hb0 1;have c2:=ze hb0 2;simp at c0 c1 c2;go_wp2_with fail;refine(za H2 _).mono ?_;rintro e w2⟨rfl,hb2⟩;have hn2:=zk hb0 hz0 hb2;clear c0 c1 c2 hb2 hb0 hz0;have c0:=ze hn2.1 0;have c1:=ze hn2.1 1;have c2:=ze hn2.1 2;simp at c0 c1 c2;have HT2:=zb ((za HT).below (zm hn2.1));have HW:Hid (Below (w.heap.size+1) (w.alloc (.cells #[.bool true,.string (zr a),.string (zr q)] 79)) w2.drew/\w.heap.size+1<=w2.drew.heap.size):=zb ⟨hn2.1.drew,hn2.2⟩;have HC:Hid (∀wx:World,Below w2.drew.heap.size w2.drew wx->wx.cell? ⟨w.heap.size,1,none⟩=some (.string (zr a))/\wx.cell? ⟨w.heap.size,2,none⟩=some (.string (zr q))):=by
       intro wx hx;have hlt:w.heap.size<w2.drew.heap.size:=hn2.2;exact⟨by rw[hx.cell (p:=⟨w.heap.size,1,none⟩) hlt];exact c1,by rw[hx.cell (p:=⟨w.heap.size,2,none⟩) hlt];exact c2⟩
      go_wp2
      go_region_with (first|(go_at_call_of 186 (zr a);refine(vW a _ (by omega) (by first|exact(za HT2)|exact Tens.below (w:=w2.drew) (za HT2) (by assumption))).mono ?_;rintro e wa⟨⟨va,rfl,hva⟩,hba⟩;have Hva:=zb hva;have Hba:=zb hba;clear hva;have ca1:wa.cell? ⟨w.heap.size,1,none⟩=some (.string (zr a)):=(by first|exact(za HC _ hba).1|exact(za HC _ ((za Hbq).trans (hba.mono (za Hbq).size))).1);have ca2:wa.cell? ⟨w.heap.size,2,none⟩=some (.string (zr q)):=(by first|exact(za HC _ hba).2|exact(za HC _ ((za Hbq).trans (hba.mono (za Hbq).size))).2))|(go_at_call_of 186 (zr q);refine(vW q _ (by omega) (by first|exact(za HT2)|exact Tens.below (w:=w2.drew) (za HT2) (by assumption))).mono ?_;rintro e wq⟨⟨vq,rfl,hvq⟩,hbq⟩;have Hvq:=zb hvq;have Hbq:=zb hbq;clear hvq;have cq1:wq.cell? ⟨w.heap.size,1,none⟩=some (.string (zr a)):=(by first|exact(za HC _ hbq).1|exact(za HC _ ((za Hba).trans (hbq.mono (za Hba).size))).1);have cq2:wq.cell? ⟨w.heap.size,2,none⟩=some (.string (zr q)):=(by first|exact(za HC _ hbq).2|exact(za HC _ ((za Hba).trans (hbq.mono (za Hba).size))).2))|(go_at_call 182;refine(zen a q va vq _ (by first|exact za Hva|exact zt (za Hva) (za Hbq)) (by first|exact za Hvq|exact zt (za Hvq) (za Hba)) (by omega) (by omega)).mono ?_;rintro e wg⟨⟨vg,rfl,hvg⟩,hbg⟩;have Hvg:=zb hvg;have Hbg:=zb hbg;clear hvg)|(go_at_call 187;refine(zbU (Nat.gcd a q) vg _ (za Hvg) (by omega)).mono ?_;rintro e wi⟨rfl,rfl⟩))
      all_goals
       go_wp2;go_ret;refine⟨zF (za Hok).symm,zm (o:=.cells #[.bool true,.string (zr a),.string (zr q)] 79) ?_⟩
       first
        |exact(zk (zk (zk (za HW).1 (za HW).2 (za Hba)).1 (zk (za HW).1 (za HW).2 (za Hba)).2 (za Hbq)).1 (zk (zk (za HW).1 (za HW).2 (za Hba)).1 (zk (za HW).1 (za HW).2 (za Hba)).2 (za Hbq)).2 (za Hbg)).1
        |exact(zk (zk (zk (za HW).1 (za HW).2 (za Hbq)).1 (zk (za HW).1 (za HW).2 (za Hbq)).2 (za Hba)).1 (zk (zk (za HW).1 (za HW).2 (za Hbq)).1 (zk (za HW).1 (za HW).2 (za Hbq)).2 (za Hba)).2 (za Hbg)).1
theorem vz(neg:Bool)(u d:List UInt8)(w:World)(hsu:u.length<=1000000000)(hsd:d.length<=1000000000)(hT:Tens w):
  Calls Tryz.prog 159 #[xD neg u d] w fun e w'=>e=.returned (.bool (vC neg u d))/\Below w.heap.size w w':=by
 cases h:j6 u&&j6 d with
 |false=>exact Kc neg u d w hsu hsd h
 |true=>
  simp only[ux]at h;exact V5 neg u d w h.1 h.2 hT
theorem Jj{w:World}{base b:Nat}{v u0 u1 u2 u3:Value}{x:Nat}(h:isNatB w base v x)(hb:b<base):isNatB ((((w.setCell ⟨b,0,none⟩ u0).setCell ⟨b,1,none⟩ u1).setCell ⟨b,2,none⟩ u2).setCell ⟨b,3,none⟩ u3) base v x:=
 qH (qH (qH (qH h hb) hb) hb) hb
theorem zhI{w:World}{b:Nat}{u0 u1 u2 u3:Value}{a:Addr}(h:b≠a.block):((((w.setCell ⟨b,0,none⟩ u0).setCell ⟨b,1,none⟩ u1).setCell ⟨b,2,none⟩ u2).setCell ⟨b,3,none⟩ u3).cell? a=w.cell? a:=by
 rw[World.cell?_setCell_far _ _ _ _ h,World.cell?_setCell_far _ _ _ _ h,World.cell?_setCell_far _ _ _ _ h,World.cell?_setCell_far _ _ _ _ h]
theorem Y7(neg:Bool)(a q:Nat)(w:World)(ha:(zr a).size<=60)(hq:(zr q).size<=60)(hT:Tens w):
  Calls Tryz.prog 160 #[.agg #[.bool neg,.string (zr a),.string (zr q)]] w fun e w'=>(∃v u,e=.returned (zhw neg false v u)/\isNatB w' w.heap.size v a/\isNatB w' w.heap.size u q)/\Below w.heap.size w w':=by
 have HW:=zb (((ue w.heap.size w).alloc (ud _) (.cells #[.bool neg,.string (zr a),.string (zr q)] 79)).alloc (by simp) (.cells #[.bool false,.slice none 0 0,.bool false,.slice none 0 0] 185));have HA:=zb ((AtC.new w #[.bool neg,.string (zr a),.string (zr q)] 79).alloc (.cells #[.bool false,.slice none 0 0,.bool false,.slice none 0 0] 185));have HC:=zb (AtC.new (w.alloc (.cells #[.bool neg,.string (zr a),.string (zr q)] 79)) #[.bool false,.slice none 0 0,.bool false,.slice none 0 0] 185);rw[uk]at HC;have HT:=zb hT;clear hT;go_enter Tryz.func160,Tryz.ntmps160;go_wp2
 go_region_held3 (fun w'=>w'.cell? ⟨w.heap.size,0,none⟩=some (.bool neg)/\w'.cell? ⟨w.heap.size,1,none⟩=some (.string (zr a))/\w'.cell? ⟨w.heap.size,2,none⟩=some (.string (zr q))) (((try dsimp only);(repeat' apply And.intro)<;>(first|with_reducible assumption|(rw[zhI (by first|(simp;done)|(simp;omega))];with_reducible assumption)|exact(za HA).drew.c _))) (first|(go_at_call_of 186 (zr a);refine(Z4 a _ (by omega) (by exact(za HT).below (za HW).drew)).mono ?_;rintro e w1⟨⟨v,rfl,hv⟩,hb1⟩;obtain⟨vp,vc,rfl⟩:=zq hv;have hA:=(za HA).drew.below hb1;have hC:=(za HC).drew.below hb1;have a10:w1.cell? ⟨w.heap.size,0,none⟩=some (.bool neg):=hA.c 0;have a11:w1.cell? ⟨w.heap.size,1,none⟩=some (.string (zr a)):=hA.c 1;have a12:w1.cell? ⟨w.heap.size,2,none⟩=some (.string (zr q)):=hA.c 2;have HA1:=zb hA;have HC1:=zb hC;have Hv:=zb hv;have HW1:=zb ((za HW).drew.trans (hb1.mono (za HW).drew.size));clear hA hC hv hb1)|(go_at_call_of 186 (zr q);refine(Z4 q _ (by omega) (by exact(za HT).below (za HW1))).mono ?_;rintro e w2⟨⟨u,rfl,hu⟩,hb2⟩;obtain⟨up,uc,rfl⟩:=zq hu;have hA:=(za HA1).below hb2;have hC:=(za HC1).below hb2;have a20:w2.cell? ⟨w.heap.size,0,none⟩=some (.bool neg):=hA.c 0;have a21:w2.cell? ⟨w.heap.size,1,none⟩=some (.string (zr a)):=hA.c 1;have a22:w2.cell? ⟨w.heap.size,2,none⟩=some (.string (zr q)):=hA.c 2;have c20:w2.cell? ⟨w.heap.size+1,0,none⟩=some (.bool false):=hC.c 0;have c21:w2.cell? ⟨w.heap.size+1,1,none⟩=some (.slice none 0 0):=hC.c 1;have c22:w2.cell? ⟨w.heap.size+1,2,none⟩=some (.bool false):=hC.c 2;have c23:w2.cell? ⟨w.heap.size+1,3,none⟩=some (.slice none 0 0):=hC.c 3;have cf:=hC.f;have hs:=hC.lt;have Hu:=zb hu;have Hv2:=zb (zu (za Hv) hb2);have hs1:=(za HC1).lt;have HW2:=zb ((za HW1).trans (hb2.mono (za HW1).size));clear hA hC hu hb2))
 go_wp2;have hcc:=And.intro c20 (And.intro c21 (And.intro c22 c23));refine um (v:=.agg #[.bool neg,.slice vp (gr a).length vc,.bool false,.slice up (gr q).length uc]) (by simp[results,Tryz.results160,go_sem,hcc]) rfl ⟨⟨_,_,rfl,?_,?_⟩,?_⟩
 . have h0:=Jj (b:=w.heap.size+1) (u0:=.bool neg) (u1:=.slice vp (gr a).length vc) (u2:=.bool false) (u3:=.slice up (gr q).length uc) (za Hv2) (by simp)
   exact zV h0 (by simp;omega)
 . have h0:=Jj (b:=w.heap.size+1) (u0:=.bool neg) (u1:=.slice vp (gr a).length vc) (u2:=.bool false) (u3:=.slice up (gr q).length uc) (za Hu) (by omega)
   exact zV h0 (by have:=(za HW1).size;omega)
 . exact((((za HW2).setCell (by show w.heap.size<=w.heap.size+1;omega) _).setCell (by show w.heap.size<=w.heap.size+1;omega) _).setCell (by show w.heap.size<=w.heap.size+1;omega) _).setCell (by show w.heap.size<=w.heap.size+1;omega) _
theorem zfH{x y:Nat}(hx:(zr x).size<=60)(hy:(zr y).size<=60):x*y<10^120:=by
 have h1:=jE x;have h2:=jE y;have h3:10^(zr x).size<=10^60:=UC (by omega) hx;have h4:10^(zr y).size<=10^60:=UC (by omega) hy
 calc x*y<10^60*10^60:=Nat.mul_lt_mul'' (by omega) (by omega)
  _=10^120:=by rw[<-da]
theorem far3{w:World}{b:Nat}{u0 u1 u2:Value}{a:Addr}(h:b≠a.block):(((w.setCell ⟨b,0,none⟩ u0).setCell ⟨b,1,none⟩ u1).setCell ⟨b,2,none⟩ u2).cell? a=w.cell? a:=by
 rw[World.cell?_setCell_far _ _ _ _ h,World.cell?_setCell_far _ _ _ _ h,World.cell?_setCell_far _ _ _ _ h]
theorem Qk{x y:Nat}(hx:(zr x).size<=60)(hy:(zr y).size<=60):(zr (x*y)).size<=120:=by
 rw[zJ];exact qW (by omega) (by omega) (zfH hx hy)
def JD(p:Bool×Nat):Int:=if p.1 then-(p.2:Int)else(p.2:Int)
def zaW(z:Int)(d:Nat):Option (Bool×Nat×Nat):=zB (decide (z<0)) z.natAbs d
theorem zbu(p:Bool×Nat):(JD p).natAbs=p.2:=by unfold JD;split<;>simp
theorem zaY(n:Bool)(u d:Nat):zB n u d=zaW (JD (n,u)) d:=by
 unfold zaW;rw[zbu];by_cases hu:u=0
 . subst hu
   unfold zB;cases n<;>simp[JD]
 . have:decide (JD (n,u)<0)=n:=by
    cases n
    . simp[JD]
    . simp[JD];omega
   rw[this]
theorem zd2{a b a' b':Nat}(h:Nat.gcd a b=1)(h':Nat.gcd a' b'=1)(he:a*b'=a'*b)(hb:0<b):a=a'/\b=b':=by
 have d1:b ∣ b':=by
  have:b ∣ a*b':=⟨a',by rw[he,uE]⟩
  exact(Nat.Coprime.symm h).dvd_of_dvd_mul_left this
 have d2:b' ∣ b:=by
  have:b' ∣ a'*b:=⟨a,by rw[<-he,uE]⟩
  exact(Nat.Coprime.symm h').dvd_of_dvd_mul_left this
 have hbb:b=b':=Nat.dvd_antisymm d1 d2;subst hbb;exact⟨Nat.eq_of_mul_eq_mul_right hb he,rfl⟩
theorem zc5{u d u' d':Nat}(hd:0<d)(hd':0<d')(h:u*d'=u'*d):u/Nat.gcd u d=u'/Nat.gcd u' d'/\d/Nat.gcd u d=d'/Nat.gcd u' d':=by
 have hg:0<Nat.gcd u d:=WE _ hd;have hg':0<Nat.gcd u' d':=WE _ hd';have hc:Nat.gcd (u/Nat.gcd u d) (d/Nat.gcd u d)=1:=Nat.coprime_div_gcd_div_gcd hg;have hc':Nat.gcd (u'/Nat.gcd u' d') (d'/Nat.gcd u' d')=1:=Nat.coprime_div_gcd_div_gcd hg';have eu:Nat.gcd u d*(u/Nat.gcd u d)=u:=Nat.mul_div_cancel' (Nat.gcd_dvd_left u d);have ed:Nat.gcd u d*(d/Nat.gcd u d)=d:=Nat.mul_div_cancel' (Nat.gcd_dvd_right u d);have eu':Nat.gcd u' d'*(u'/Nat.gcd u' d')=u':=Nat.mul_div_cancel' (Nat.gcd_dvd_left u' d');have ed':Nat.gcd u' d'*(d'/Nat.gcd u' d')=d':=Nat.mul_div_cancel' (Nat.gcd_dvd_right u' d');have hb:0<d/Nat.gcd u d:=Nat.div_pos (Nat.le_of_dvd hd (Nat.gcd_dvd_right u d)) hg;generalize Nat.gcd u d=g at *;generalize Nat.gcd u' d'=g' at *;generalize u/g=a at *;generalize d/g=b at *;generalize u'/g'=a' at *;generalize d'/g'=b' at *;subst eu ed eu' ed';apply zd2 hc hc' _ hb;have h2:(g*g')*(a*b')=(g*g')*(a'*b):=by
  have e1:g*a*(g'*b')=(g*g')*(a*b'):=by simp only[uE,UT]
  have e2:g'*a'*(g*b)=(g*g')*(a'*b):=by simp only[uE,UT]
  rw[<-e1,<-e2,h]
 exact Nat.eq_of_mul_eq_mul_left (Nat.mul_pos hg hg') h2
theorem zfW{z z':Int}{d d':Nat}(hd:0<d)(hd':0<d')(h:z*(d':Int)=z'*(d:Int)):zaW z d=zaW z' d':=by
 have hn:z.natAbs*d'=z'.natAbs*d:=by
  have:=uB Int.natAbs h;rwa[Int.natAbs_mul,Int.natAbs_mul,Int.natAbs_natCast,Int.natAbs_natCast]at this
 have hs:decide (z<0)=decide (z'<0):=by
  have key:∀ {x y:Int}{e f:Nat},0<e->0<f->x*(f:Int)=y*(e:Int)->x<0->y<0:=by
   intro x y e f he hf hh hx;rcases(show y<0\/0<=y by omega)with h1|h1
   . exact h1
   . have h2:x*(f:Int)<0:=Int.mul_neg_of_neg_of_pos hx (by omega)
     have h3:0<=y*(e:Int):=Int.mul_nonneg h1 (by omega);omega
  by_cases h1:z<0
  . rw[uy h1,uy (key hd hd' h h1)]
  . have:¬z'<0:=fun h2=>h1 (key hd' hd h.symm h2)
    rw[uw h1,uw this]
 obtain⟨e1,e2⟩:=zc5 hd hd' hn;unfold zaW zB;rw[hs,e1,e2];have z1:¬d=0:=by omega
 have z2:¬d'=0:=by omega
 simp only[z1,z2,false_or]
theorem zfX{n:Bool}{x y:Nat}(h:vC n (qj 10 x) (qj 10 y)=true):zaW (JD (n,x)) y=some (n,x,y):=by
 obtain⟨_,_,h3,h4,h5,h6,h7⟩:=ju h;rw[qw]at h5 h6;rw[qw,qw]at h7;rw[<-zaY];exact zc6 h5 h7 (by rw[zJ];exact h3) (by rw[zJ];exact h4) h6
theorem zdi(p q:Bool×Nat):JD (yB p q)=JD p+JD q:=by
 obtain⟨n,x⟩:=p;obtain⟨m,y⟩:=q;unfold yB JD;cases n<;>cases m<;>simp
 . by_cases h:x<y
   . simp[h];omega
   . simp[h];omega
 . by_cases h:x<y
   . simp[h];omega
   . simp[h];omega
 . omega
abbrev Rt:=Bool×Nat×Nat
def okP(p:Rt):Bool:=vC p.1 (qj 10 p.2.1) (qj 10 p.2.2)
def zP(p:Rt):Int:=JD (p.1,p.2.1)
theorem zcf(n:Bool)(x y:Nat):JD (n,x*y)=JD (n,x)*(y:Int):=by
 unfold JD;cases n<;>simp[Int.neg_mul]
theorem zgg(n:Bool)(x:Nat):JD (!n,x)= -JD (n,x):=by
 unfold JD;cases n<;>simp
theorem Kp{p:Rt}(h:okP p=true):0<p.2.2:=by
 have:=(ju h).2.2.2.2.1;rw[qw]at this;omega
theorem zb3{p:Rt}(h:okP p=true):zaW (zP p) p.2.2=some p:=zfX h
abbrev T3:=Bool×List UInt8×List UInt8
def za3(t:T3):Value:=.agg #[.bool t.1,.string (B t.2.1),.string (B t.2.2)]
def okT(t:T3):Bool:=vC t.1 t.2.1 t.2.2
def Zs(t:T3):Rt:=(t.1,zC t.2.1,zC t.2.2)
def Q7(p:Rt):T3:=(p.1,qj 10 p.2.1,qj 10 p.2.2)
def zg6:T3:=(false,[],[])
theorem XQ{t:T3}(h:okT t=true):Q7 (Zs t)=t:=by
 obtain⟨h1,h2,_⟩:=ju h;unfold Q7 Zs;simp only;rw[<-qR h1,<-qR h2]
theorem Kq{t:T3}(h:okT t=true):okP (Zs t)=true:=by
 have:=XQ h;unfold okP;rw[show vC (Zs t).1 (qj 10 (Zs t).2.1) (qj 10 (Zs t).2.2)=okT (Q7 (Zs t))from rfl,this];exact h
theorem zf5{p:Rt}(h:okP p=true):okT (Q7 p)=true:=h
end Go.Proofs.YtpbnmhnbkfnaeaaGreatDoor
namespace Go.Proofs.YtpbnmhnbkfnaeaaGreatDoor
open Nt
theorem zbR(s:ByteArray)(k:Nat)(h:k<s.size):s.get! k=s[k]'h:=by
 cases s with
 |mk d=>exact getElem!_pos d k h
abbrev zcu(s:ByteArray):Prop:=s.size<3\/s.extract 0 3≠⟨#[239,191,189]⟩
def qt(s:ByteArray):Nat:=
 if s.size=0\/(Utf8.decode s 0).1=65533/\zcu s then 0 else(Utf8.encode ((Utf8.decode s 0).1:Nat)).size
theorem xU(c:Nat):(Utf8.encode (c:Int)).size=if c<128 then 1 else if c<2048 then 2 else if 65536<=c/\c<=1114111 then 4 else 3:=by
 unfold Utf8.encode Utf8.valid Utf8.runeError;simp only[Ur,ux,ut,UI]
 repeat' split
 all_goals first|rfl|(exfalso;omega)
theorem zei(s:ByteArray)(h:3<=s.size):s.extract 0 3=⟨#[s.get! 0,s.get! 1,s.get! 2]⟩:=by
 apply ByteArray.ext_getElem
 . rw[ByteArray.size_extract];show _=3;omega
 . intro i h1 h2
   have hi:i<3:=h2;rw[ByteArray.getElem_extract,<-zbR]
   match i,hi with
   |0,_=>rfl
   |1,_=>rfl
   |2,_=>rfl
theorem X6(s:ByteArray)(h:0<s.size):(if qt s=0 then 1 else qt s)=(Utf8.decode s 0).2:=by
 have he:∀a b c:UInt8,((⟨#[a,b,c]⟩:ByteArray)=⟨#[239,191,189]⟩)↔a.toNat=239/\b.toNat=191/\c.toNat=189:=by
  intro a b c;simp only[ByteArray.mk.injEq,Ws,ww,and_true,<-wM];rfl
 have hx:zcu s↔¬(3<=s.size/\(s.get! 0).toNat=239/\(s.get! 1).toNat=191/\(s.get! 2).toNat=189):=by
  unfold zcu;by_cases h3:3<=s.size
  . rw[zei s h3,Ne,he]
    constructor
    . rintro(h|h)
      . omega
      . exact fun k=>h k.2
    . exact fun k=>.inr fun m=>k ⟨h3,m⟩
  . constructor
    . exact fun _ k=>h3 k.1
    . exact fun _=>.inl (by omega)
 unfold qt;simp only[hx,xU];have l0:=(s.get! 0).toNat_lt;have l1:=(s.get! 1).toNat_lt;have l2:=(s.get! 2).toNat_lt;have l3:=(s.get! 3).toNat_lt
 have key:∀(n b0 b1 b2 b3:Nat),0<n->b0<256->b1<256->b2<256->b3<256->∀d,d=Lib.decodeN n b0 b1 b2 b3->
   (if(if n=0\/d.1=65533/\¬(3<=n/\b0=239/\b1=191/\b2=189)then 0 else(if d.1<128 then 1 else if d.1<2048 then 2 else if 65536<=d.1/\d.1<=1114111 then 4 else 3))=0 then 1
    else(if n=0\/d.1=65533/\¬(3<=n/\b0=239/\b1=191/\b2=189)then 0 else(if d.1<128 then 1 else if d.1<2048 then 2 else if 65536<=d.1/\d.1<=1114111 then 4 else 3)))=d.2:=by
  intro n b0 b1 b2 b3 hn h0 h1 h2 h3 d hd;have hd':d=(d.1,d.2):=rfl;generalize hu:d.1=u at hd'⊢;generalize hv:d.2=v at hd'⊢;rw[hd']at hd;clear hu hv hd';unfold Lib.decodeN at hd
  repeat' split at hd
  all_goals (simp only[wS]at hd;obtain⟨e1,e2⟩:=hd;repeat' split)
  all_goals omega
 exact key _ _ _ _ _ h l0 l1 l2 l3 _ (by rw[Lib.decode_at];simp only[Nat.sub_zero,Uz])
end Go.Proofs.YtpbnmhnbkfnaeaaGreatDoor
namespace Go.Proofs.YtpbnmhnbkfnaeaaGreatDoor
open Nt
theorem Y1(s:ByteArray)(k:Nat)(h:k<s.size):1<=(Utf8.decode s k).2/\k+(Utf8.decode s k).2<=s.size/\
  ((Utf8.decode s k).1<128->(Utf8.decode s k).2=1/\(s.get! k).toNat=(Utf8.decode s k).1)/\(128<=(Utf8.decode s k).1->∀i,k<=i->i<k+(Utf8.decode s k).2->128<=(s.get! i).toNat):=by
 rw[Lib.decode_at];have l0:=(s.get! k).toNat_lt;have l1:=(s.get! (k+1)).toNat_lt;have l2:=(s.get! (k+2)).toNat_lt;have l3:=(s.get! (k+3)).toNat_lt;have key:∀(n b0 b1 b2 b3:Nat),0<n->b0<256->b1<256->b2<256->b3<256->∀d,d=Lib.decodeN n b0 b1 b2 b3->1<=d.2/\d.2<=n/\d.2<=4/\(d.1<128->d.2=1/\b0=d.1)/\(128<=d.1->128<=b0/\(1<d.2->128<=b1)/\(2<d.2->128<=b2)/\(3<d.2->128<=b3)):=by
  intro n b0 b1 b2 b3 hn h0 h1 h2 h3 d hd;subst hd;unfold Lib.decodeN
  repeat' split
  all_goals (refine⟨?_,?_,?_,fun h=>?_,fun h=>⟨?_,fun _=>?_,fun _=>?_,fun _=>?_⟩⟩<;>dsimp only at * <;>omega)
 obtain⟨a1,a2,a3,a4,a5⟩:=key _ _ _ _ _ (by omega:0<s.size-k) l0 l1 l2 l3 _ rfl;refine⟨a1,by omega,a4,fun hge i h1 h2=>?_⟩;obtain⟨c0,c1,c2,c3⟩:=a5 hge;obtain rfl|rfl|rfl|rfl:i=k\/i=k+1\/i=k+2\/i=k+3:=by omega
 . exact c0
 . exact c1 (by omega)
 . exact c2 (by omega)
 . exact c3 (by omega)
theorem zaB(c:Nat)(h:c=65533):(Utf8.encode ((c:Nat):Int)).size=3:=by subst h;rfl
theorem VK(s:ByteArray)(h:0<s.size):qt s=0↔((Utf8.decode s 0).1=65533/\(Utf8.decode s 0).2=1):=by
 have e:=X6 s h;constructor
 . intro h0
   rw[uj h0]at e;refine⟨?_,e.symm⟩;unfold qt at h0
   split at h0
   . rename_i hh
     rcases hh with hh|hh
     . omega
     . exact hh.1
   . rw[xU]at h0
     repeat' split at h0
     all_goals omega
 . rintro⟨e1,e2⟩
   refine Decidable.byContradiction fun h0=>?_
   rw[ul h0]at e;unfold qt at e h0
   split at e
   . rename_i hh
     rw[uj hh]at h0;exact h0 rfl
   . rw[zaB _ e1]at e
     omega
theorem Qa(s:ByteArray)(h:0<s.size)(h0:qt s≠0):qt s=(Utf8.decode s 0).2:=by
 have e:=X6 s h;rwa[ul h0]at e
theorem YN:qt ⟨#[]⟩=0:=by
 unfold qt;rw[uj (.inl rfl)]
theorem VW(l:List UInt8)(hne:l≠[]):Lib.validD l=if qt (B l)=0 then false else Lib.validD (l.drop (qt (B l))):=by
 have hs:0<(B l).size:=by rw[zj];exact UQ.2 hne
 rw[Lib.validD_step l hne];have e:Lib.decodeL l=Utf8.decode (B l) 0:=rfl;rw[e];by_cases h0:qt (B l)=0
 . rw[uj h0,uj ((VK _ hs).1 h0)]
 . rw[ul h0,ul (fun h=>h0 ((VK _ hs).2 h)),Qa _ hs h0]
def V7(t:List UInt8):Bool:=decide (0<qt (B t))&&decide (qt (B t)=t.length)
theorem V0(s:ByteArray)(fuel pos:Nat)(h:Lib.runeCountFrom s (fuel+1) pos=0):¬pos<s.size:=fun hp=>by
 unfold Lib.runeCountFrom at h;rw[uj hp]at h;omega
theorem zf7(t:List UInt8):V7 t=(Lib.validD t&&decide (Lib.runeCount (B t)=1)):=by
 by_cases hne:t=[]
 . subst hne
   have:qt (B [])=0:=YN;unfold V7;rw[this];rfl
 . have hl:0<t.length:=UQ.2 hne
   have hs:0<(B t).size:=by rw[zj];exact hl
   rw[VW t hne];unfold V7;by_cases h0:qt (B t)=0
   . rw[uj h0,h0];rfl
   . rw[ul h0]
     have e:=Qa _ hs h0;have a:=Y1 (B t) 0 hs;rw[Uz,<-e,zj]at a;have hp:decide (0<qt (B t))=true:=by simp;omega
     rw[hp,wI];obtain⟨n,hn⟩:∃n,(B t).size=n+1:=⟨(B t).size-1,by omega⟩
     have hc:Lib.runeCount (B t)=1+Lib.runeCountFrom (B t) n (qt (B t)):=by
      unfold Lib.runeCount;rw[hn];show(if 0<(B t).size then _ else _)=_;rw[uj hs,Uz,<-e]
     by_cases hz:qt (B t)=t.length
     . have hd:t.drop (qt (B t))=[]:=by rw[hz];simp
       have h1:Lib.runeCountFrom (B t) n (qt (B t))=0:=Lib.runeCountFrom_end _ _ _ (by rw[zj];omega);rw[hd,hc,h1];simp[hz,Lib.validD_nil]
     . have h1:Lib.runeCountFrom (B t) n (qt (B t))≠0:=by
        intro h;obtain⟨m,rfl⟩:∃m,n=m+1:=⟨n-1,by rw[zj]at hn;omega⟩
        have:=V0 _ _ _ h;rw[zj]at this;omega
       have h2:decide (Lib.runeCount (B t)=1)=false:=by simp;omega
       rw[h2,wo];simp[hz]
theorem qU:∀(a b:List UInt8),(Op.bytesLess a b=decide (Lib.compareBytes a b= -1))/\(Op.bytesLess b a=decide (Lib.compareBytes a b=1))/\(Lib.compareBytes a b=0↔a=b)/\(Lib.compareBytes a b= -1\/Lib.compareBytes a b=0\/Lib.compareBytes a b=1)
 | [],[]=>by simp[Op.bytesLess,Lib.compareBytes]
 | [],_::_=>by simp[Op.bytesLess,Lib.compareBytes]
 |_::_,[]=>by simp[Op.bytesLess,Lib.compareBytes]
 |a::x,b::y=>by
  obtain⟨h1,h2,h3,h4⟩:=qU x y;unfold Op.bytesLess Lib.compareBytes;rw[h1,h2];by_cases e1:a<b
  . have e2:¬b<a:=by rw[UInt8.lt_iff_toNat_lt]at *;omega
    have e3:¬a=b:=fun e=>by subst e;exact e2 e1
    have e4:(b==a)=false:=ug.2 (fun e=>e3 e.symm);simp[e1,e2,e3,e4]
  . by_cases e2:b<a
    . have e3:¬a=b:=fun e=>by subst e;exact e1 e2
      have e4:(a==b)=false:=ug.2 e3;simp[e1,e2,e3,e4]
    . have e3:a=b:=by rw[UInt8.lt_iff_toNat_lt]at *;exact wM.1 (by omega)
      subst e3;simp[e1,h3];rw[<-h3];exact h4
def js(c:Nat):Bool:=c==32||c==9||c==10||c==13||c==40||c==41||c==34||c==59||c==39
def jD(c:Nat):Bool:=js c||decide (c<33)||c==127||c==92||c==124
def kB(c:Nat):Bool:=c==35||c==44||c==96||(decide (48<=c)&&decide (c<=57))
def j7(t:List UInt8):Bool:=match t with
 | []=>false
 |c::_=> !kB c.toNat&&decide (t.length<=200)&&Lib.validD t&&t.all fun c=> !jD c.toNat
def kq(t:List UInt8):Bool:=(zw t 10).isNone&&decide (t≠[46])&&j7 t
def yd(p:Bool×Nat×Nat):List UInt8:=qo p.1 (qj 10 p.2.1) (qj 10 p.2.2) 10
def vI(t:List UInt8):Bool:=match zw t 10 with
 |some p=>decide (yd p=t)
 |none=>false
def yG(p:Nat->Bool)(l:List UInt8):Nat:=(l.takeWhile fun c=> !p c.toNat).length
def jo(t:List UInt8):List UInt8:=t.takeWhile fun c=> !js c.toNat
def vQ(s:Int)(t:List UInt8):Bool:=
 if jo t=[46]then false else match zw (jo t) 10 with
  |some p=>decide (s=1)&&decide (yd p=t)
  |none=>decide (s=2)&&decide (jo t=t)&&j7 (jo t)
theorem zeq(t:List UInt8):jo t=t.take (yG js t):=by
 unfold jo yG;exact List.prefix_iff_eq_take.1 (List.takeWhile_prefix _)
theorem VV{p:Nat->Bool}:∀ {l:List UInt8}{k:Nat},(∀i(h:i<l.length),i<k->p (l[i]'h).toNat=false)->(∀h:k<l.length,p (l[k]'h).toNat=true)->k<=l.length->yG p l=k
 | [],k,_,_,hk=>by
  have:k=0:=by simpa using hk
  subst this;rfl
 |c::t,0,_,h1,_=>by
  have:=h1 (by simp);simp only[List.getElem_cons_zero]at this;unfold yG;rw[List.takeWhile_cons_of_neg (by simp[this])];rfl
 |c::t,k+1,h0,h1,hk=>by
  have h2:=h0 0 (by simp) (by omega);simp only[List.getElem_cons_zero]at h2;have ih:=VV (p:=p) (l:=t) (k:=k) (fun i h hik=>h0 (i+1) (by simp;omega) (by omega)) (fun h=>h1 (by simp;omega)) (by simpa using hk);unfold yG at ih⊢;rw[List.takeWhile_cons_of_pos (by simp[h2]),Uv,ih]
theorem QT:∀ {t:List UInt8},(∀c∈t,js c.toNat=false)->jo t=t
 | [],_=>rfl
 |c::t,h=>by
  have ih:=QT (t:=t) (fun d hd=>h d (Uw _ hd));unfold jo at ih⊢;rw[List.takeWhile_cons_of_pos (by simp[h c UK]),ih]
theorem YR{n:Nat}{c:UInt8}(h:c∈qj 10 n):48<=c.toNat/\c.toNat<=57:=by
 have h0:=ZA n;unfold qO at h0;simp only[ux,uI,ut,UInt8.le_iff_toNat_le]at h0;exact h0.1.2 c h
theorem Jo{p:Bool×Nat×Nat}{c:UInt8}(h:c∈yd p):c.toNat=45\/c.toNat=47\/(48<=c.toNat/\c.toNat<=57):=by
 unfold yd qo at h
 split at h
 . unfold prM at h
   simp only[uA]at h;rcases h with(h|h)|h
   . split at h
     . have:c=45:=by simpa using h
       subst this;exact .inl rfl
     . simp at h
   . exact .inr (.inr (YR h))
   . split at h
     . simp at h
     . rcases uX.1 h with h|h
       . subst h
         exact .inr (.inl rfl)
       . exact .inr (.inr (YR h))
 . simp at h
theorem zbi{p:Bool×Nat×Nat}{c:UInt8}(h:c∈yd p):js c.toNat=false:=by
 rcases Jo h with h|h|h
 . rw[h];rfl
 . rw[h];rfl
 . unfold js
   simp only[WZ,ug];omega
theorem zbx(t:List UInt8):vQ 1 t=vI t:=by
 unfold vQ vI;have key:∀q,yd q=t->jo t=t/\jo t≠[46]:=fun q h=>by
  have h1:jo t=t:=QT (fun c hc=>zbi (p:=q) (by rw[h];exact hc));refine⟨h1,fun e=>?_⟩;rw[h1]at e;have:=Jo (p:=q) (c:=46) (by rw[h,e];simp);simp at this
 cases e:zw t 10 with
 |some p=>
  by_cases hp:yd p=t
  . obtain⟨h1,h2⟩:=key p hp
    rw[ul h2,h1,e];simp
  . simp only[hp,decide_false]
    split
    . rfl
    . cases e2:zw (jo t) 10 with
      |none=>rfl
      |some q=>
       by_cases hq:yd q=t
       . have:=(key q hq).1
         rw[this,e]at e2;have:=Ui e2;subst this;exact absurd hq hp
       . simp[hq]
 |none=>
  split
  . rfl
  . cases e2:zw (jo t) 10 with
    |none=>rfl
    |some q=>
     by_cases hq:yd q=t
     . have:=(key q hq).1
       rw[this,e]at e2;cases e2
     . simp[hq]
theorem zfw{c:Nat}(h:js c=true):jD c=true:=by unfold jD;rw[h];rfl
theorem zby(t:List UInt8):vQ 2 t=kq t:=by
 unfold vQ kq;by_cases h:jo t=t
 . rw[h]
   by_cases h46:t=[46]
   . rw[uj h46];simp[h46]
   . rw[ul h46]
     cases zw t 10 with
     |none=>simp[h46]
     |some p=>simp
 . have hb:j7 t=false:=by
    have:∃c∈t,js c.toNat=true:=by
     refine Decidable.byContradiction fun hn=>h (QT (fun c hc=>?_))
     cases e:js c.toNat with
     |false=>rfl
     |true=>exact absurd ⟨c,hc,e⟩ hn
    obtain⟨c,hc,e⟩:=this;unfold j7;cases t with
    |nil=>rfl
    |cons a r=>
     have:((a::r).all fun c=> !jD c.toNat)=false:=by
      rw[wW];exact⟨c,hc,by simp[zfw e]⟩
     simp only[this,wo]
   rw[hb,wo]
   split
   . rfl
   . cases zw (jo t) 10 with
     |none=>simp[h]
     |some p=>rfl
def kL(s:Int)(t:List UInt8):Bool:=
 if s=1 then vI t else if s=2 then kq t else if s=3 then decide (t.length<=200)&&Lib.validD t else if s=4 then V7 t
 else if s=5 then decide (t=[116])||decide (t=[102])else if s=9 then decide (t.length<=200)else decide (t=[])
end Go.Proofs.YtpbnmhnbkfnaeaaGreatDoor
namespace Go.Proofs.YtpbnmhnbkfnaeaaGreatDoor
open Go.RowKit Nt
def qJ(s:Int)(m:Nat):Bool:=if s=7 then m==2 else if s=8 then decide (m<=40)else m==0
def kW(k:Int)(n:Nat):Bool:=decide (0<=k)&&decide (k<n)
def jN(nd:Nd)(n:Nat):Bool:=qJ nd.1 nd.2.2.length&&nd.2.2.all (kW · n)
def zD(g:List Int)(k:Int):Int:=g.getD k.toNat 0
def vF(a b:Nd)(g:List Int):Bool:=decide (a.1=b.1)&&decide (a.2.1=b.2.1)&&decide (a.2.2.map (zD g)=b.2.2.map (zD g))
theorem zaR(k:Int)(n:Nat)(w:World):
  Calls Tryz.prog 34 #[.int .i64 k,.int .i64 0,.int .i64 ((n:Int)-1)] w fun e w'=>e=.returned (.bool (kW k n))/\w'=w:=by
 by_cases h0:0<=k
 . have d0:decide (0<=k)=true:=uy h0
   have hr:Hid (kW k n=decide (k<=(n:Int)-1)):=by
    show _=_;unfold kW;rw[d0,wI];congr 1;rw[eq_iff_iff];omega
   go_enter Tryz.func34,Tryz.ntmps34;go_wp2;go_ret;exact⟨by rw[za hr];rfl,rfl⟩
 . have d0:decide (0<=k)=false:=uw h0
   have hr:Hid (kW k n=false):=by show _=_;unfold kW;rw[d0,UR]
   go_enter Tryz.func34,Tryz.ntmps34;go_wp2;go_ret;exact⟨by rw[za hr];rfl,rfl⟩
theorem yh{xs:List Int}{p:Int->Bool}{j:Nat}{x:Int}(h:xs[j]? =some x):(xs.take (j+1)).all p=((xs.take j).all p&&p x):=by
 rw[uY,h];simp
theorem QI{xs:List Int}{p:Int->Bool}{j:Nat}{x:Int}(h:xs[j]? =some x)(hp:p x=false):xs.all p=false:=by
 rw[wW];exact⟨x,un h,by simp[hp]⟩
theorem Xu(v:Value)(nd:Nd)(n:Nat)(w:World)(h:zhG w v nd)(hn:n<=1048576):
  Calls Tryz.prog 36 #[v,.int .i64 n] w fun e w'=>e=.returned (.bool (jN nd n))/\Below w.heap.size w w':=by
 obtain⟨s,text,kids⟩:=nd;obtain⟨kv,rfl,_,hk⟩:=h;obtain⟨a,cap,rfl,h1,h2⟩:=hk.form;unfold maxLen at h2;have hbb:=(ue w.heap.size w).alloc (ud _) (.cells #[.int .i64 s,.string (B text),.slice a kids.length cap] 56);have HK:=zb (hk.below hbb);have HBB:=zb hbb;clear hk hbb;simp only at *;by_cases h7:s=7
 . subst h7
   by_cases hm:kids.length=2
   . have HC:Hid (qJ 7 kids.length=true):=by show _=_;unfold qJ;rw[uj rfl,hm];rfl
     have HLEN:=zb hm;rw[hm]at h1 HK HBB;rw[show(Value.slice a kids.length cap)=Value.slice a 2 cap from by rw[hm]];clear hm;go_enter Tryz.func36,Tryz.ntmps36;go_wp2
     go_loopw [5] (fun i wr=>∃j:Nat,j<=2/\i=.int .i64 j/\Hid ((kids.take j).all (kW · n)=true)/\wr=w.alloc (.cells #[.int .i64 7,.string (B text),.slice a 2 cap] 56))
      (fun i _=>2-(intOf i).toNat)
     case atStart=>exact⟨0,by omega,rfl,zb (by simp),rfl⟩
     case round=>
      obtain⟨j,hj,rfl,hall,rfl⟩:=hrel;by_cases hlt:j<2
      . obtain⟨x,hx⟩:∃x,kids[j]? =some x:=⟨_,uf (by have:=za HLEN;omega)⟩
        obtain⟨b,off,rfl,hb,hc⟩:=(za HK).cell hx;have hst:=yh (p:=(kW · n)) hx;rw[za hall,wI]at hst;have hfa:=fun h=>QI (p:=(kW · n)) hx h
        have HST:=zb (And.intro hst hfa);clear hst hfa hx;go_wp2_with fail;refine(zaR x n _).mono ?_;rintro e w1⟨rfl,rfl⟩;cases hxr:kW x n with
        |false=>
         have HXR:=zb hxr;clear hxr;go_wp2;go_ret;exact⟨by unfold jN;rw[(za HST).2 (za HXR),wo];rfl,za HBB⟩
        |true=>
         have HXR:=zb hxr;clear hxr;go_wp2;go_roundw
         case rel=>exact⟨j+1,by omega,by go_num,zb (by rw[(za HST).1];exact za HXR),by first|rfl|trivial⟩
         case measure=>simp[intOf];omega
      . go_wp2
        go_ret;have:=za hall;rw[uz (by have:=za HLEN;omega)]at this;exact⟨by unfold jN;rw[this];simp only at *;rw[za HC];rfl,za HBB⟩
   . have HC:Hid (qJ 7 kids.length=false):=by show _=_;unfold qJ;rw[uj rfl];simpa using hm
     have hmI:¬(kids.length:Int)=2:=by omega
     go_enter Tryz.func36,Tryz.ntmps36;go_wp2;go_ret;exact⟨by unfold jN;rw[za HC];rfl,za HBB⟩
 . by_cases h8:s=8
   . subst h8
     by_cases hm:kids.length<=40
     . have HC:Hid (qJ 8 kids.length=true):=by show _=_;unfold qJ;rw[ul (by decide),uj rfl];simpa using hm
       have hmI:¬(40<(kids.length:Int)):=by omega
       go_enter Tryz.func36,Tryz.ntmps36;go_wp2;have HLEN:Hid (kids.length=kids.length):=rfl
       go_loopw [5] (fun i wr=>∃j:Nat,j<=kids.length/\i=.int .i64 j/\Hid ((kids.take j).all (kW · n)=true)/\wr=w.alloc (.cells #[.int .i64 8,.string (B text),.slice a kids.length cap] 56))
        (fun i _=>kids.length-(intOf i).toNat)
       case atStart=>exact⟨0,by omega,rfl,zb (by simp),rfl⟩
       case round=>
        obtain⟨j,hj,rfl,hall,rfl⟩:=hrel;by_cases hlt:j<kids.length
        . obtain⟨x,hx⟩:∃x,kids[j]? =some x:=⟨_,uf (by have:=za HLEN;omega)⟩
          obtain⟨b,off,rfl,hb,hc⟩:=(za HK).cell hx;have hst:=yh (p:=(kW · n)) hx;rw[za hall,wI]at hst;have hfa:=fun h=>QI (p:=(kW · n)) hx h
          have HST:=zb (And.intro hst hfa);clear hst hfa hx;go_wp2_with fail;refine(zaR x n _).mono ?_;rintro e w1⟨rfl,rfl⟩;cases hxr:kW x n with
          |false=>
           have HXR:=zb hxr;clear hxr;go_wp2;go_ret;exact⟨by unfold jN;rw[(za HST).2 (za HXR),wo];rfl,za HBB⟩
          |true=>
           have HXR:=zb hxr;clear hxr;go_wp2;go_roundw
           case rel=>exact⟨j+1,by omega,by go_num,zb (by rw[(za HST).1];exact za HXR),by first|rfl|trivial⟩
           case measure=>simp[intOf];omega
        . go_wp2
          go_ret;have:=za hall;rw[uz (by have:=za HLEN;omega)]at this;exact⟨by unfold jN;rw[this];simp only at *;rw[za HC];rfl,za HBB⟩
     . have HC:Hid (qJ 8 kids.length=false):=by show _=_;unfold qJ;rw[ul (by decide),uj rfl];simpa using hm
       have hmI:40<(kids.length:Int):=by omega
       go_enter Tryz.func36,Tryz.ntmps36;go_wp2;go_ret;exact⟨by unfold jN;rw[za HC];rfl,za HBB⟩
   . by_cases hm:kids.length=0
     . have hk0:kids=[]:=UO.1 hm
       subst hk0;have HC:Hid (jN (s,text,[]) n=true):=by show _=_;unfold jN qJ;simp[h7,h8]
       go_enter Tryz.func36,Tryz.ntmps36;go_wp2
       go_loopw [5] (fun i wr=>i=.int .i64 0/\wr=w.alloc (.cells #[.int .i64 s,.string (B text),.slice a 0 cap] 56)) (fun _ _=>0)
       case atStart=>exact⟨rfl,rfl⟩
       case round=>
        obtain⟨rfl,rfl⟩:=hrel;go_wp2;go_ret;exact⟨by rw[za HC];rfl,za HBB⟩
     . have HC:Hid (qJ s kids.length=false):=by show _=_;unfold qJ;rw[ul h7,ul h8];simpa using hm
       have hmI:0<(kids.length:Int):=by omega
       go_enter Tryz.func36,Tryz.ntmps36;go_wp2;go_ret;exact⟨by unfold jN;rw[za HC];rfl,za HBB⟩
end Go.Proofs.YtpbnmhnbkfnaeaaGreatDoor
namespace Go.Proofs.YtpbnmhnbkfnaeaaGreatDoor
theorem jk{α:Type}[BEq α][LawfulBEq α]:∀ {l m:List α},l.Nodup->(∀x∈l,x∈m)->l.length<=m.length
 | [],_,_,_=>uD _
 |x::l,m,h,hs=>by
  have hx:=hs x (by simp);rw[WT]at h;have:=jk (l:=l) (m:=m.erase x) h.2 (fun y hy=>by
   have:=hs y (by simp[hy]);rw[List.mem_erase_of_ne]
   . exact this
   . intro e;subst e;exact h.1 hy)
  rw[List.length_erase_of_mem hx]at this;have:0<m.length:=List.length_pos_of_mem hx;simp;omega
def qG(l:List (Int×Int)):List (Int×Int)->List (Int×Int)
 | []=>l
 |x::ks=>qG (if x∈l then l else l++[x]) ks
def qA(c:Int->Int->Int)(kids:Int->Int->List (Int×Int)):Nat->Nat->List (Int×Int)->Int
 |0,_,_=>0
 |f+1,i,l=>match l[i]? with
  |none=>0
  |some (a,b)=>if c a b=0 then qA c kids f (i+1) (qG l (kids a b))else c a b
def vT(n m:Nat)(x:Int×Int):Prop:=(0<=x.1/\x.1<n)/\0<=x.2/\x.2<m
theorem yi{n m:Nat}:∀ {ks l:List (Int×Int)},l.Nodup->(∀x∈l,vT n m x)->(∀x∈ks,vT n m x)->(qG l ks).Nodup/\(∀x∈qG l ks,vT n m x)/\∃r,qG l ks=l++r
 | [],l,hn,hl,_=>⟨hn,hl,[],by simp[qG]⟩
 |x::ks,l,hn,hl,hk=>by
  unfold qG;have hk':∀y∈ks,vT n m y:=fun y hy=>hk y (Uw _ hy)
  by_cases e:x∈l
  . rw[uj e]
    exact yi hn hl hk'
  . rw[ul e]
    have h1:(l++[x]).Nodup:=by
     rw[U2];refine⟨hn,by simp,fun a ha b hb=>?_⟩;have:b=x:=by simpa using hb
     subst this;exact fun e'=>e (e' ▸ ha)
    have h2:∀y∈l++[x],vT n m y:=fun y hy=>by
     rcases uA.1 hy with hy|hy
     . exact hl y hy
     . have:y=x:=by simpa using hy
       subst this;exact hk _ UK
    obtain⟨a,b,r,hr⟩:=yi h1 h2 hk';exact⟨a,b,[x]++r,by rw[hr,U4]⟩
def zfs(n m:Nat):List (Int×Int):=(List.range n).flatMap fun(a:Nat)=>(List.range m).map fun(b:Nat)=>((a:Int),(b:Int))
theorem zdO(n m:Nat):(zfs n m).length=n*m:=by
 unfold zfs
 induction n with
 |zero=>simp
 |succ n ih=>rw[List.range_succ,List.flatMap_append,uG,ih];simp[Nat.succ_mul]
theorem zdP{n m:Nat}{x:Int×Int}(h:vT n m x):x∈zfs n m:=by
 obtain⟨a,b⟩:=x;obtain⟨⟨a0,a1⟩,b0,b1⟩:=h;simp only at a0 a1 b0 b1;unfold zfs;rw[List.mem_flatMap];refine⟨a.toNat,List.mem_range.2 (by omega),?_⟩;rw[UB];refine⟨b.toNat,List.mem_range.2 (by omega),?_⟩;rw[wS];omega
theorem jz{n m:Nat}{l:List (Int×Int)}(hn:l.Nodup)(hl:∀x∈l,vT n m x):l.length<=n*m:=by
 rw[<-zdO];exact jk hn (fun x hx=>zdP (hl x hx))
theorem VX{c:Int->Int->Int}{kids:Int->Int->List (Int×Int)}{n m:Nat}(hk:∀a b,vT n m (a,b)->∀x∈kids a b,vT n m x):
  ∀ {f g i:Nat}{l:List (Int×Int)},l.Nodup->(∀x∈l,vT n m x)->n*m<f+i->n*m<g+i->qA c kids f i l=qA c kids g i l:=by
 intro f
 induction f with
 |zero=>
  intro g i l hn hl hf hg;have:=jz hn hl;cases g with
  |zero=>rfl
  |succ g=>
   unfold qA;rw[UM (by omega)]
 |succ f ih=>
  intro g i l hn hl hf hg;cases g with
  |zero=>
   have:=jz hn hl;unfold qA;rw[UM (by omega)]
  |succ g=>
   unfold qA;cases e:l[i]? with
   |none=>rfl
   |some x=>
    obtain⟨a,b⟩:=x;simp only;by_cases e0:c a b=0
    . rw[uj e0,uj e0]
      obtain⟨h1,h2,_⟩:=yi hn hl (hk a b (hl _ (un e)));exact ih h1 h2 (by omega) (by omega)
    . rw[ul e0,ul e0]
def km(c:Int->Int->Int)(kids:Int->Int->List (Int×Int)):Nat->Nat->List (Int×Int)->Int
 |0,_,_=>0
 |f+1,j,q=>match q[j]? with
  |none=>0
  |some (a,b)=>if c a b=0 then km c kids f (j+1) (q++kids a b)else c a b
theorem jP:∀ {q ks l:List (Int×Int)},qG l (q++ks)=qG (qG l q) ks
 | [],_,_=>rfl
 |x::q,ks,l=>by
  show qG _ (q++ks)=_;rw[jP];rfl
theorem vJ:∀ {ks l:List (Int×Int)}{x:Int×Int},x∈qG l ks↔x∈l\/x∈ks
 | [],l,x=>by simp[qG]
 |y::ks,l,x=>by
  unfold qG;rw[vJ,uX];by_cases e:y∈l
  . rw[uj e]
    constructor
    . rintro(h|h)
      . exact .inl h
      . exact .inr (.inr h)
    . rintro(h|rfl|h)
      . exact .inl h
      . exact .inl e
      . exact .inr h
  . rw[ul e,uA,dz]
    constructor
    . rintro((h|h)|h)
      . exact .inl h
      . exact .inr (.inl h)
      . exact .inr (.inr h)
    . rintro(h|h|h)
      . exact .inl (.inl h)
      . exact .inl (.inr h)
      . exact .inr h
theorem QZ:∀ {ks l:List (Int×Int)},(∀x∈ks,x∈l)->qG l ks=l
 | [],_,_=>rfl
 |x::ks,l,h=>by
  unfold qG;rw[uj (h x UK)];exact QZ (fun y hy=>h y (Uw _ hy))
theorem Kn:∀ {ks l:List (Int×Int)},l.Nodup->(qG l ks).Nodup
 | [],_,h=>h
 |x::ks,l,h=>by
  unfold qG;by_cases e:x∈l
  . rw[uj e];exact Kn h
  . rw[ul e]
    refine Kn ?_;rw[U2];refine⟨h,by simp,fun a ha b hb=>?_⟩;have:b=x:=by simpa using hb
    subst this;exact fun e'=>e (e' ▸ ha)
theorem y6:∀ {ks l:List (Int×Int)},∃r,qG l ks=l++r
 | [],l=>⟨[],by simp[qG]⟩
 |x::ks,l=>by
  unfold qG;by_cases e:x∈l
  . rw[uj e];exact y6
  . rw[ul e]
    obtain⟨r,hr⟩:=y6 (ks:=ks) (l:=l++[x]);exact⟨[x]++r,by rw[hr,U4]⟩
structure WInv(c:Int->Int->Int)(kids:Int->Int->List (Int×Int))(i:Nat)(l:List (Int×Int))(j:Nat)(q:List (Int×Int)):Prop where
 all:qG [] q=l
 fst:qG [] (q.take j)=l.take i
 il:i<=l.length
 jl:j<=q.length
 done:∀p∈l.take i,c p.1 p.2=0/\∀k∈kids p.1 p.2,k∈l
theorem WInv.start(c:Int->Int->Int)(kids:Int->Int->List (Int×Int))(x:Int×Int):WInv c kids 0 [x] 0 [x]:=
 ⟨rfl,rfl,by simp,by simp,fun p hp=>by simp at hp⟩
theorem WInv.skip{c:Int->Int->Int}{kids:Int->Int->List (Int×Int)}{i j:Nat}{l q:List (Int×Int)}(h:WInv c kids i l j q){a b:Int}(hq:q[j]? =some (a,b))(hm:(a,b)∈l.take i):
  c a b=0/\WInv c kids i l (j+1) (q++kids a b):=by
 obtain⟨h0,hk⟩:=h.done _ hm;have hjl:=(ui.1 hq).1;refine⟨h0,?_,?_,h.il,by simp;omega,h.done⟩
 . rw[jP,h.all];exact QZ hk
 . rw[List.take_append_of_le_length (by omega),uY,hq,jP,h.fst]
   exact QZ (fun y hy=>by
    have:y=(a,b):=by simpa using hy
    rw[this];exact hm)
theorem WInv.new{c:Int->Int->Int}{kids:Int->Int->List (Int×Int)}{i j:Nat}{l q:List (Int×Int)}(h:WInv c kids i l j q){a b:Int}(hq:q[j]? =some (a,b))(hm:(a,b)∉l.take i):
  l[i]? =some (a,b)/\(c a b=0->WInv c kids (i+1) (qG l (kids a b)) (j+1) (q++kids a b)):=by
 have hjl:=(ui.1 hq).1;have e1:qG [] (q.take (j+1))=l.take i++[(a,b)]:=by
  rw[uY,hq,jP,h.fst];show qG _ [(a,b)]=_;unfold qG;rw[ul hm];rfl
 obtain⟨r,hr⟩:=y6 (ks:=q.drop (j+1)) (l:=l.take i++[(a,b)]);have e2:l=l.take i++[(a,b)]++r:=by
  rw[<-hr,<-e1,<-jP,WV];exact h.all.symm
 have hil:=h.il;have hlen:(l.take i).length=i:=by rw[uH];omega
 have e3:l[i]? =some (a,b):=by
  rw[e2,U4,uO (by omega),hlen];simp
 have hlt:=(ui.1 e3).1;refine⟨e3,fun h0=>?_⟩;obtain⟨s,hs⟩:=y6 (ks:=kids a b) (l:=l);have e4:(qG l (kids a b)).take (i+1)=l.take i++[(a,b)]:=by
  rw[hs,List.take_append_of_le_length (by omega),uY,e3];rfl
 refine⟨by rw[jP,h.all],?_,by rw[hs];simp;omega,by simp;omega,fun p hp=>?_⟩
 . rw[List.take_append_of_le_length (by omega),e1,e4]
 . rw[e4]at hp
   rcases uA.1 hp with hp|hp
   . obtain⟨d0,d1⟩:=h.done p hp
     exact⟨d0,fun k hk=>vJ.2 (.inl (d1 k hk))⟩
   . have:p=(a,b):=by simpa using hp
     subst this;exact⟨h0,fun k hk=>vJ.2 (.inr hk)⟩
theorem zan{c:Int->Int->Int}{kids:Int->Int->List (Int×Int)}:∀ {f i j:Nat}{l q:List (Int×Int)},WInv c kids i l j q->km c kids f j q≠0->∃g,qA c kids g i l=km c kids f j q:=by
 intro f
 induction f with
 |zero=>intro i j l q _ h;exact absurd rfl h
 |succ f ih=>
  intro i j l q h hne;unfold km at hne⊢;cases e:q[j]? with
  |none=>rw[e]at hne;exact absurd rfl hne
  |some x=>
   obtain⟨a,b⟩:=x;rw[e]at hne;simp only at hne⊢;by_cases hm:(a,b)∈l.take i
   . obtain⟨h0,h1⟩:=h.skip e hm
     rw[uj h0]at hne⊢;exact ih h1 hne
   . obtain⟨e3,h1⟩:=h.new e hm
     by_cases h0:c a b=0
     . rw[uj h0]at hne⊢
       obtain⟨g,hg⟩:=ih (h1 h0) hne;refine⟨g+1,?_⟩;unfold qA;rw[e3];simp only;rw[uj h0];exact hg
     . rw[ul h0]
       refine⟨1,?_⟩;unfold qA;rw[e3];simp only;rw[ul h0]
theorem zbK{c:Int->Int->Int}{kids:Int->Int->List (Int×Int)}:∀(n:Nat){i j:Nat}{l q:List (Int×Int)},WInv c kids i l j q->∀x,q[j+n]? =some x->x∉l.take i->
  ∃k j' q' y,WInv c kids i l j' q'/\q'[j']? =some y/\y∉l.take i/\∀F,km c kids (F+k) j q=km c kids F j' q'
 |0,i,j,l,q,h,x,hx,hm=>⟨0,j,q,x,h,hx,hm,fun F=>rfl⟩
 |n+1,i,j,l,q,h,x,hx,hm=>by
  have hlt:=(ui.1 hx).1;obtain⟨z,hz⟩:∃z,q[j]? =some z:=⟨_,uf (by omega)⟩
  by_cases hzm:z∈l.take i
  . obtain⟨a,b⟩:=z
    obtain⟨h0,h1⟩:=h.skip hz hzm;obtain⟨k,j',q',y,g1,g2,g3,g4⟩:=zbK n h1 x (by rw[uL (by omega),show j+1+n=j+(n+1) by omega];exact hx) hm;refine⟨k+1,j',q',y,g1,g2,g3,fun F=>?_⟩;rw[<-g4 F,<-Nat.add_assoc]
    conv=>lhs;unfold km
    rw[hz];simp only;rw[uj h0]
  . exact⟨0,j,q,z,h,hz,hzm,fun F=>rfl⟩
theorem zam{c:Int->Int->Int}{kids:Int->Int->List (Int×Int)}:∀ {g i j:Nat}{l q:List (Int×Int)},l.Nodup->WInv c kids i l j q->qA c kids g i l≠0->∃f,km c kids f j q=qA c kids g i l:=by
 intro g
 induction g with
 |zero=>intro i j l q _ _ h;exact absurd rfl h
 |succ g ih=>
  intro i j l q hn h hne;unfold qA at hne⊢;cases e:l[i]? with
  |none=>rw[e]at hne;exact absurd rfl hne
  |some x=>
   rw[e]at hne;have hxq:x∈q:=by
    have h1:x∈qG [] q:=by rw[h.all];exact un e
    rcases vJ.1 h1 with h1|h1
    . simp at h1
    . exact h1
   have hxm:x∉l.take i:=fun hm=>by
    obtain⟨t,ht⟩:=uT hm;have htl:=(ui.1 ht).1;rw[uH]at htl;rw[Wu,uj (by omega)]at ht;obtain⟨g1,g2⟩:=ui.1 ht;obtain⟨g3,g4⟩:=ui.1 e;have:=(List.getElem_inj hn (h₀:=g1) (h₁:=g3)).1 (g2.trans g4.symm);omega
   obtain⟨n,hnq⟩:∃n,q[j+n]? =some x:=by
    obtain⟨t,ht⟩:=uT hxq;by_cases htj:t<j
    . exfalso
      apply hxm;rw[<-h.fst,vJ];exact .inr (un (i:=t) (by rw[Wu,uj htj];exact ht))
    . exact⟨t-j,by rw[show j+(t-j)=t by omega];exact ht⟩
   obtain⟨k,j',q',y,g1,g2,g3,g4⟩:=zbK n h x hnq hxm;obtain⟨a,b⟩:=y;obtain⟨e3,h1⟩:=g1.new g2 g3;obtain rfl:=Ui (e.symm.trans e3);simp only at hne⊢;have hstep:∀F,km c kids (F+1) j' q'=if c a b=0 then km c kids F (j'+1) (q'++kids a b)else c a b:=fun F=>by
    conv=>lhs;unfold km
    rw[g2]
   by_cases h0:c a b=0
   . rw[uj h0]at hne⊢
     have hn2:(qG l (kids a b)).Nodup:=Kn hn;obtain⟨f,hf⟩:=ih hn2 (h1 h0) hne;exact⟨f+1+k,by rw[g4,hstep,uj h0];exact hf⟩
   . rw[ul h0]
     exact⟨0+1+k,by rw[g4,hstep,ul h0]⟩
end Go.Proofs.YtpbnmhnbkfnaeaaGreatDoor
namespace Go.Proofs.YtpbnmhnbkfnaeaaGreatDoor
structure Dat(L:Type) where
 kids:Int->List Int
 lab:Int->L
def Dat.que{L:Type}(D:Dat L)(a:Int):Nat->List Int
 |0=>[a]
 |t+1=>match (D.que a t)[t]? with
  |none=>D.que a t
  |some x=>D.que a t++D.kids x
def Dat.lb{L:Type}(D:Dat L)(a:Int)(t:Nat):Option L:=((D.que a t)[t]?).map D.lab
def cO{L:Type}(cmp:L->L->Int):Option L->Option L->Int
 |some x,some y=>cmp x y
 |_,_=>0
section
variable {L:Type} {cmp:L->L->Int} {ar:L->Nat} {D E:Dat L} {a b:Int}
theorem JO(hD:∀x,(D.kids x).length=ar (D.lab x))(hE:∀x,(E.kids x).length=ar (E.lab x))(hc:∀x y,cmp x y=0->ar x=ar y):
  ∀t,(∀s,s<t->cO cmp (D.lb a s) (E.lb b s)=0)->(D.que a t).length=(E.que b t).length
 |0,_=>rfl
 |t+1,h=>by
  have h1:=JO hD hE hc t (fun s hs=>h s (by omega));have h2:=h t (by omega);unfold Dat.lb at h2;unfold Dat.que;cases e:(D.que a t)[t]? with
  |none=>
   have:(E.que b t)[t]? =none:=by rw[U6]at e⊢;omega
   rw[this];exact h1
  |some x=>
   have hl:=(ui.1 e).1;obtain⟨y,hy⟩:∃y,(E.que b t)[t]? =some y:=⟨_,uf (by omega)⟩
   rw[e,hy]at h2;rw[hy];simp only[uG,h1,hD,hE];rw[hc _ _ h2]
def yZ(c:Nat->Int):Nat->Nat->Int
 |0,_=>0
 |f+1,j=>if c j=0 then yZ c f (j+1)else c j
theorem zfU:∀ {t:Nat},(D.que a t)[t]? =none->D.que a (t+1)=D.que a t/\(D.que a (t+1))[t+1]? =none:=fun{t} h=>by
 have e:D.que a (t+1)=D.que a t:=by
  conv=>lhs;unfold Dat.que
  rw[h]
 refine⟨e,?_⟩;rw[e,U6];rw[U6]at h;omega
theorem J1:∀ {f t:Nat},(D.que a t)[t]? =none->yZ (fun s=>cO cmp (D.lb a s) (E.lb b s)) f t=0
 |0,_,_=>rfl
 |f+1,t,h=>by
  unfold yZ;have h0:cO cmp (D.lb a t) (E.lb b t)=0:=by
   unfold Dat.lb;rw[h];rfl
  rw[uj h0];exact J1 (zfU h).2
theorem Jw(hD:∀x,(D.kids x).length=ar (D.lab x))(hE:∀x,(E.kids x).length=ar (E.lab x))(hc:∀x y,cmp x y=0->ar x=ar y):
  ∀ {f j:Nat},(∀s,s<j->cO cmp (D.lb a s) (E.lb b s)=0)->
   km (fun x y=>cmp (D.lab x) (E.lab y)) (fun x y=>(D.kids x).zip (E.kids y)) f j ((D.que a j).zip (E.que b j))=yZ (fun s=>cO cmp (D.lb a s) (E.lb b s)) f j
 |0,_,_=>rfl
 |f+1,j,h=>by
  have hl:=JO hD hE hc j h;cases e:(D.que a j)[j]? with
  |none=>
   rw[J1 e];unfold km;rw[UM (by rw[U6]at e;rw[List.length_zip];omega)]
  |some x=>
   have hlt:=(ui.1 e).1;obtain⟨y,hy⟩:∃y,(E.que b j)[j]? =some y:=⟨_,uf (by omega)⟩
   have hz:((D.que a j).zip (E.que b j))[j]? =some (x,y):=by rw[Wy];exact⟨e,hy⟩
   have hcO:cO cmp (D.lb a j) (E.lb b j)=cmp (D.lab x) (E.lab y):=by
    unfold Dat.lb;rw[e,hy];rfl
   unfold km yZ;rw[hz];simp only[hcO];by_cases h0:cmp (D.lab x) (E.lab y)=0
   . rw[uj h0,uj h0]
     rw[<-Jw hD hE hc (f:=f) (j:=j+1) (fun s hs=>by
      by_cases e':s=j
      . subst e';rw[hcO];exact h0
      . exact h s (by omega))]
     have e1:D.que a (j+1)=D.que a j++D.kids x:=by
      conv=>lhs;unfold Dat.que
      rw[e]
     have e2:E.que b (j+1)=E.que b j++E.kids y:=by
      conv=>lhs;unfold Dat.que
      rw[hy]
     rw[e1,e2,List.zip_append hl]
   . rw[ul h0,ul h0]
end
end Go.Proofs.YtpbnmhnbkfnaeaaGreatDoor
namespace Go.Proofs.YtpbnmhnbkfnaeaaGreatDoor
def IsFirst(c:Nat->Int)(r:Int):Prop:=(r=0/\∀s,c s=0)\/∃t,(∀s,s<t->c s=0)/\c t≠0/\r=c t
theorem IsFirst.at{c:Nat->Int}{r:Int}(h:IsFirst c r){t:Nat}(ht:∀s,s<t->c s=0)(hn:c t≠0):r=c t:=by
 rcases h with⟨_,h⟩|⟨u,h1,h2,h3⟩
 . exact absurd (h t) hn
 . rcases Nat.lt_trichotomy u t with e|e|e
   . exact absurd (ht u e) h2
   . rw[h3,e]
   . exact absurd (h1 t e) hn
theorem IsFirst.zero{c:Nat->Int}{r:Int}(h:IsFirst c r)(hz:∀s,c s=0):r=0:=by
 rcases h with⟨e,_⟩|⟨u,_,h2,_⟩
 . exact e
 . exact absurd (hz u) h2
theorem Yp{c:Nat->Int}:∀ {f j:Nat},yZ c f j≠0->∃t,j<=t/\(∀s,j<=s->s<t->c s=0)/\c t≠0/\yZ c f j=c t
 |0,_,h=>absurd rfl h
 |f+1,j,h=>by
  unfold yZ at h⊢;by_cases e:c j=0
  . rw[uj e]at h⊢
    obtain⟨t,h1,h2,h3,h4⟩:=Yp h;exact⟨t,by omega,fun s hs hst=>by
     by_cases e':s=j
     . rw[e'];exact e
     . exact h2 s (by omega) hst,h3,h4⟩
  . rw[ul e]
    exact⟨j,ud _,fun s hs hst=>absurd hst (by omega),e,rfl⟩
theorem Yo{c:Nat->Int}{t:Nat}(hn:c t≠0):∀ {f j:Nat},j<=t->t<j+f->(∀s,j<=s->s<t->c s=0)->yZ c f j=c t
 |0,_,_,h2,_=>absurd h2 (by omega)
 |f+1,j,h1,h2,h3=>by
  unfold yZ;by_cases e:j=t
  . subst e;rw[ul hn]
  . rw[uj (h3 j (ud _) (by omega))]
    exact Yo hn (by omega) (by omega) (fun s hs hst=>h3 s (by omega) hst)
theorem VY{c:Int->Int->Int}{kids:Int->Int->List (Int×Int)}:∀ {g k i:Nat}{l:List (Int×Int)},qA c kids g i l≠0->qA c kids (g+k) i l=qA c kids g i l
 |0,_,_,_,h=>absurd rfl h
 |g+1,k,i,l,h=>by
  rw[show g+1+k=(g+k)+1 by omega];unfold qA at h⊢;cases e:l[i]? with
  |none=>rfl
  |some x=>
   obtain⟨a,b⟩:=x;rw[e]at h;simp only at h⊢;by_cases h0:c a b=0
   . rw[uj h0]at h⊢
     rw[uj h0];exact VY h
   . rw[ul h0,ul h0]
section
variable {L:Type} {cmp:L->L->Int} {ar:L->Nat} {D E F:Dat L} {a b d:Int}
theorem zal(hD:∀x,(D.kids x).length=ar (D.lab x))(hE:∀x,(E.kids x).length=ar (E.lab x))(hc:∀x y,cmp x y=0->ar x=ar y){n m g:Nat}
  (hk:∀x y,vT n m (x,y)->∀z∈(D.kids x).zip (E.kids y),vT n m z)(hab:vT n m (a,b))(hg:n*m<g):
  IsFirst (fun s=>cO cmp (D.lb a s) (E.lb b s)) (qA (fun x y=>cmp (D.lab x) (E.lab y)) (fun x y=>(D.kids x).zip (E.kids y)) g 0 [(a,b)]):=by
 have hq:∀f,km (fun x y=>cmp (D.lab x) (E.lab y)) (fun x y=>(D.kids x).zip (E.kids y)) f 0 [(a,b)]=yZ (fun s=>cO cmp (D.lb a s) (E.lb b s)) f 0:=fun f=>
  Jw (a:=a) (b:=b) hD hE hc (f:=f) (j:=0) (fun s hs=>absurd hs (by omega))
 by_cases h0:qA (fun x y=>cmp (D.lab x) (E.lab y)) (fun x y=>(D.kids x).zip (E.kids y)) g 0 [(a,b)]=0
 . refine .inl ⟨h0,?_⟩
   apply uM;intro hne;have hne':∃s,cO cmp (D.lb a s) (E.lb b s)≠0:=by
    apply uM;intro h;exact hne (fun s=>uM fun h'=>h ⟨s,h'⟩)
   have hmin:∀s,cO cmp (D.lb a s) (E.lb b s)≠0->∃t,(∀s,s<t->cO cmp (D.lb a s) (E.lb b s)=0)/\cO cmp (D.lb a t) (E.lb b t)≠0:=by
    intro s
    induction s using Nat.strongRecOn with
    |_ s ih=>
     intro hs;by_cases h:∃u,u<s/\cO cmp (D.lb a u) (E.lb b u)≠0
     . obtain⟨u,hu,hu2⟩:=h
       exact ih u hu hu2
     . exact⟨s,fun u hu=>uM fun h'=>h ⟨u,hu,h'⟩,hs⟩
   obtain⟨s,hs⟩:=hne';obtain⟨t,ht,htn⟩:=hmin s hs;have h1:=hq (t+1);rw[Yo (c:=fun s=>cO cmp (D.lb a s) (E.lb b s)) (t:=t) htn (uD _) (by omega) (fun s _ hst=>ht s hst)]at h1;obtain⟨g',hg'⟩:=zan (WInv.start _ _ (a,b)) (by rw[h1];exact htn);rw[h1]at hg';have h2:=VY (k:=n*m+1) (by rw[hg'];exact htn);rw[VX hk (f:=g'+(n*m+1)) (g:=g) (by simp) (fun x hx=>by
    have:x=(a,b):=by simpa using hx
    rw[this];exact hab) (by omega) (by omega),h0]at h2
   rw[hg']at h2;exact htn h2.symm
 . obtain⟨f,hf⟩:=zam (by simp) (WInv.start _ _ (a,b)) h0
   rw[hq]at hf;obtain⟨t,_,h2,h3,h4⟩:=Yp (by rw[hf];exact h0);exact .inr ⟨t,fun s hs=>h2 s (uD _) hs,h3,by rw[<-hf,h4]⟩
end
end Go.Proofs.YtpbnmhnbkfnaeaaGreatDoor
namespace Go.Proofs.YtpbnmhnbkfnaeaaGreatDoor
open Go.RowKit Nt
def sgI(z:Int):Int:=if z<0 then-1 else if 0<z then 1 else 0
def j9(a b:Int):Int:=if a<b then-1 else if b<a then 1 else 0
def vb(p q:Rt):Int:=sgI (zP p*(q.2.2:Int)-zP q*(p.2.2:Int))
def Z0(a b:T3):Int:=if okT a&&okT b then vb (Zs a) (Zs b)else 0
def j5(t:List UInt8):T3:=match zw t 10 with
 |some p=>Q7 p
 |none=>zg6
def zU(a b:Nd):Int:=
 if a.1≠b.1 then j9 a.1 b.1 else if a.1=1 then Z0 (j5 a.2.1) (j5 b.2.1)else if a.2.1≠b.2.1 then Lib.compareBytes a.2.1 b.2.1 else j9 a.2.2.length b.2.2.length
theorem zg7(o:Option Rt):qe o=za3 (match o with|some p=>Q7 p|none=>zg6):=by
 cases o with
 |none=>rfl
 |some p=>obtain⟨n,u,d⟩:=p;rfl
theorem Km(t:List UInt8):qe (zw t 10)=za3 (j5 t):=zg7 _
theorem zcD(a:Int):j9 a a=0:=by unfold j9;simp
theorem ku{a b:Int}:j9 a b=0↔a=b:=by unfold j9;split<;>(try split)<;>omega
theorem zce(z:Int):sgI (-z)= -sgI z:=by unfold sgI;split<;>split<;>(try split)<;>omega
theorem Yj(a:T3):Z0 a a=0:=by unfold Z0 vb;split<;>simp[sgI]
def zT(n:Nat)(nd:Nd):Bool:=(decide (1<=nd.1)&&decide (nd.1<=9))&&kL nd.1 nd.2.1&&jN nd n
def jG(d:Dt):Bool:=decide (d.1.length<=80)&&decide (d.2.length<=12)
def vD(d:Dt):Bool:=jG d&&d.1.all (zT d.1.length)&&d.2.all (kW · d.1.length)
theorem ZF{n:Nat}{nd:Nd}(h:zT n nd=true):∀x∈nd.2.2,0<=x/\x<n:=by
 unfold zT jN at h;simp only[ux,uI]at h;intro x hx;have:=h.2.2 x hx;unfold kW at this;simpa using this
theorem Vt{n:Nat}{nd:Nd}(h:zT n nd=true):qJ nd.1 nd.2.2.length=true:=by
 unfold zT jN at h;simp only[ux]at h;exact h.2.1
theorem xu{m:Nat}(h:qJ 1 m=true):m=0:=by
 unfold qJ at h;simpa using h
theorem zaT{n m:Nat}{a b:Nd}(ha:zT n a=true)(hb:zT m b=true)(h:zU a b=0):a.2.2.length=b.2.2.length:=by
 unfold zU at h;by_cases h1:a.1≠b.1
 . rw[uj h1]at h
   exact absurd (ku.1 h) h1
 . rw[ul h1]at h
   have h1:a.1=b.1:=Decidable.not_not.1 h1;by_cases h2:a.1=1
   . have c1:=Vt ha
     have c2:=Vt hb;rw[h2]at c1;rw[<-h1,h2]at c2;rw[xu c1,xu c2]
   . rw[ul h2]at h
     by_cases h3:a.2.1≠b.2.1
     . rw[uj h3]at h
       exact absurd ((qU _ _).2.2.1.1 h) h3
     . rw[ul h3]at h
       have:=ku.1 h;omega
def kp(ns:List Nd)(x:Int):Nd:=ns.getD x.toNat (0,[],[])
theorem vt{ns:List Nd}{x:Int}{nd:Nd}(h:ns[x.toNat]? =some nd):kp ns x=nd:=by
 unfold kp;rw[uq,h];rfl
def vh(ns ms:List Nd)(x y:Int):List (Int×Int):=(kp ns x).2.2.zip (kp ms y).2.2
def kZ(ns ms:List Nd)(x y:Int):Int:=zU (kp ns x) (kp ms y)
def jf(ns ms:List Nd)(a b:Int):Int:=qA (kZ ns ms) (vh ns ms) (ns.length*ms.length+1) 0 [(a,b)]
def vR(d e:Dt):Int:=
 if vD d&&vD e then match d.2,e.2 with
  |a::_,b::_=>jf d.1 e.1 a b
  |_,_=>0
 else 0
theorem kG{ns:List Nd}{x:Int}(h:0<=x/\x<ns.length):kp ns x∈ns:=by
 have:ns[x.toNat]? =some (ns[x.toNat]'(by omega)):=uf _;rw[vt this];exact uF _
theorem jO{ns ms:List Nd}(hn:ns.all (zT ns.length)=true)(hm:ms.all (zT ms.length)=true):∀a b,vT ns.length ms.length (a,b)->∀x∈vh ns ms a b,vT ns.length ms.length x:=by
 intro a b hab x hx;obtain⟨x1,x2⟩:=x;have h:=List.of_mem_zip hx;exact⟨ZF (uI.1 hn _ (kG hab.1)) x1 h.1,ZF (uI.1 hm _ (kG hab.2)) x2 h.2⟩
theorem VJ(s:ByteArray):∀(n i:Nat)(acc:Array Value)(j:Nat),j<acc.size->(Conv.runesFrom s n i acc)[j]? =acc[j]?
 |0,_,acc,j,_=>rfl
 |n+1,i,acc,j,h=>by
  unfold Conv.runesFrom
  split
  . rw[VJ s n _ _ j (by simp;omega),Array.getElem?_push_lt h,U7 h]
  . rfl
theorem zbr(s:ByteArray)(h:0<s.size):(Conv.runesFrom s s.size 0 #[])[0]? =some (.int .i32 ((Utf8.decode s 0).1:Nat)):=by
 obtain⟨n,hn⟩:∃n,s.size=n+1:=⟨s.size-1,by omega⟩
 rw[hn];unfold Conv.runesFrom;rw[uj (by omega),VJ s n _ _ 0 (by simp)];rfl
theorem zcX(s:ByteArray)(w:World)(hs:s.size<=1048576)(h0:0<s.size):
  Calls Tryz.prog 67 #[.string s] w fun e w'=>e=.returned (.int .i64 (qt s))/\Below w.heap.size w w':=by
 have hz:=size_runesFrom s s.size 0 #[];simp only[UZ,UG,Uz]at hz;have hcv:=run_runes_of_string (P:=Tryz.prog) w 9 139 21 s Uf Tryz.underlying139 Tryz.underlying21 (by omega);have hh:=zbr s h0;obtain⟨R,hR⟩:∃R,Conv.runesFrom s s.size 0 #[]=R:=⟨_,rfl⟩
 rw[hR]at hcv hz hh;have hR0:0<R.size:=by
  rcases ws R.size with h|h
  . rw[Array.getElem?_eq_none (by omega)]at hh;cases hh
  . exact h
 obtain⟨C,hC⟩:∃C,R++Array.replicate (grownCap w R.size 0 21-R.size) (Value.int .i32 0)=C:=⟨_,rfl⟩
 have hc0:C[0]? =some (.int .i32 ((Utf8.decode s 0).1:Nat)):=by rw[<-hC,Array.getElem?_append_left hR0];exact hh
 rw[hC]at hcv;obtain⟨rn,hrn⟩:∃rn,(Utf8.decode s 0).1=rn:=⟨_,rfl⟩
 rw[hrn]at hc0;obtain⟨cp,hcp⟩:∃cp,grownCap w R.size 0 21=cp:=⟨_,rfl⟩
 rw[hcp]at hcv;have HB:=zb (((ue w.heap.size w).alloc (ud _) (.cells C 21)).drew);have hcell:(w.alloc (.cells C 21)).cell? ⟨w.heap.size,0,none⟩=some (.int .i32 rn):=by rw[World.cell?_alloc_mark];exact hc0
 have h0':((s.size:Int)==0)=false:=by rw[ug];omega
 have h0'':(0:Int)<R.size:=by omega
 clear hC hcp hR hz hh hc0;by_cases hb:rn=65533
 . subst hb
   by_cases h3:s.size<3
   . have h3':(s.size:Int)<3:=by omega
     have HE:Hid (qt s=0):=zb (by unfold qt zcu;rw[hrn,uj (.inr ⟨rfl,.inl h3⟩)]);clear hrn h3;go_enter Tryz.func67,Tryz.ntmps67;go_wp2_with (simp only[hcv]);go_ret;exact⟨zK (by rw[za HE];rfl),za HB⟩
   . have h3':¬(s.size:Int)<3:=by omega
     by_cases he:s.extract 0 3=⟨#[239,191,189]⟩
     . have HE:Hid (qt s=(Utf8.encode (65533:Int)).size):=zb (by
        unfold qt zcu;rw[hrn,ul];· rfl
        . rintro(h|⟨_,h|h⟩)
          . omega
          . exact h3 h
          . exact h he)
       clear hrn h3;go_enter Tryz.func67,Tryz.ntmps67;go_wp2_with (simp only[hcv]);go_ret;exact⟨zK (by rw[za HE]),za HB⟩
     . have HE:Hid (qt s=0):=zb (by unfold qt zcu;rw[hrn,uj (.inr ⟨rfl,.inr he⟩)])
       have hne:((s.extract 0 3).toList== [239,191,189])=false:=by
        rw[ug];intro e;apply he;rw[Lib.toList_data]at e;exact ByteArray.ext (by apply Array.ext';exact e)
       clear hrn h3 he;go_enter Tryz.func67,Tryz.ntmps67;go_wp2_with (simp only[hcv]);go_ret;exact⟨zK (by rw[za HE];rfl),za HB⟩
 . have hb':((rn:Int)==65533)=false:=by rw[ug];omega
   have HE:Hid (qt s=(Utf8.encode (rn:Int)).size):=zb (by unfold qt;rw[hrn,ul (by omega)]);clear hb hrn;go_enter Tryz.func67,Tryz.ntmps67;go_wp2_with (simp only[hcv]);go_ret;exact⟨zK (by rw[za HE]),za HB⟩
theorem Vh(k a b:Int)(w:World):
  Calls Tryz.prog 34 #[.int .i64 k,.int .i64 a,.int .i64 b] w fun e w'=>e=.returned (.bool (decide (a<=k)&&decide (k<=b)))/\w'=w:=by
 by_cases h0:a<=k
 . have d0:decide (a<=k)=true:=uy h0
   have HR:Hid ((decide (a<=k)&&decide (k<=b))=decide (k<=b)):=zb (by rw[d0,wI]);clear d0;go_enter Tryz.func34,Tryz.ntmps34;go_wp2;go_ret;exact⟨by rw[za HR];rfl,rfl⟩
 . have HR:Hid ((decide (a<=k)&&decide (k<=b))=false):=zb (by rw[uw h0,UR])
   go_enter Tryz.func34,Tryz.ntmps34;go_wp2;go_ret;exact⟨by rw[za HR];rfl,rfl⟩
def ZX(c:Nat):Bool:=c==32||c==9||c==10||c==13
theorem zaO(c:Nat)(w:World):
  Calls Tryz.prog 134 #[.int .u8 c] w fun e w'=>e=.returned (.bool (ZX c))/\w'=w:=by
 by_cases h:c=32\/c=9\/c=10\/c=13
 . rcases h with rfl|rfl|rfl|rfl
   all_goals
    go_enter Tryz.func134,Tryz.ntmps134;go_wp2;go_ret;exact⟨rfl,rfl⟩
 . have HR:Hid (ZX c=false):=zb (by unfold ZX;simp only[WZ,ug];omega)
   have h1:((c:Int)==32)=false:=by rw[ug];omega
   have h2:((c:Int)==9)=false:=by rw[ug];omega
   have h3:((c:Int)==10)=false:=by rw[ug];omega
   have h4:((c:Int)==13)=false:=by rw[ug];omega
   clear h;go_enter Tryz.func134,Tryz.ntmps134;go_wp2;go_ret;exact⟨by rw[za HR];rfl,rfl⟩
theorem zcW(c:Nat)(w:World):
  Calls Tryz.prog 108 #[.int .u8 c] w fun e w'=>e=.returned (.bool (js c))/\w'=w:=by
 have HB:=zb (zaO c w);by_cases h:ZX c=true
 . have HR:Hid (js c=true):=zb (by unfold js ZX at *;simp only[Ur,Um]at *;omega)
   rw[h]at HB;clear h;go_enter Tryz.func108,Tryz.ntmps108;go_wp2_with fail;refine(za HB).mono ?_;rintro e w1⟨rfl,rfl⟩;go_wp2;go_ret;exact⟨by rw[za HR];rfl,rfl⟩
 . have h:ZX c=false:=by simpa using h
   have hE:js c=(c==40||c==41||c==34||c==59||c==39):=by
    have:js c=(ZX c||c==40||c==41||c==34||c==59||c==39):=rfl;rw[this,h];rfl
   by_cases h':c=40\/c=41\/c=34\/c=59\/c=39
   . rcases h' with rfl|rfl|rfl|rfl|rfl
     all_goals
      rw[h]at HB;go_enter Tryz.func108,Tryz.ntmps108;go_wp2_with fail;refine(za HB).mono ?_;rintro e w1⟨rfl,rfl⟩;go_wp2;go_ret;exact⟨rfl,rfl⟩
   . have HR:Hid (js c=false):=zb (by rw[hE];simp only[WZ,ug];omega)
     rw[h]at HB;have h1:((c:Int)==40)=false:=by rw[ug];omega
     have h2:((c:Int)==41)=false:=by rw[ug];omega
     have h3:((c:Int)==34)=false:=by rw[ug];omega
     have h4:((c:Int)==59)=false:=by rw[ug];omega
     have h5:((c:Int)==39)=false:=by rw[ug];omega
     clear h h' hE;go_enter Tryz.func108,Tryz.ntmps108;go_wp2_with fail;refine(za HB).mono ?_;rintro e w1⟨rfl,rfl⟩;go_wp2;go_ret;exact⟨by rw[za HR];rfl,rfl⟩
theorem Xt(w:World):
  Calls Tryz.prog 67 #[.string ⟨#[]⟩] w fun e w'=>e=.returned (.int .i64 0)/\Below w.heap.size w w':=by
 have hcv:=run_runes_of_string (P:=Tryz.prog) w 9 139 21 ⟨#[]⟩ Uf Tryz.underlying139 Tryz.underlying21 (by first|decide|exact uD _);obtain⟨X,hX⟩:∃X,Conv.runesFrom ⟨#[]⟩ (⟨#[]⟩:ByteArray).size 0 #[]=X:=⟨_,rfl⟩
 rw[hX]at hcv;obtain⟨C,hC⟩:∃C,X++Array.replicate (grownCap w X.size 0 21-X.size) (Value.int .i32 0)=C:=⟨_,rfl⟩
 rw[hC]at hcv;have HB:=zb (((ue w.heap.size w).alloc (ud _) (.cells C 21)).drew);clear hX hC;go_enter Tryz.func67,Tryz.ntmps67;go_wp2_with (simp only[hcv]);go_ret;exact⟨rfl,za HB⟩
theorem VM(l:List UInt8)(w:World)(hs:l.length<=1048576):
  Calls Tryz.prog 67 #[.string (B l)] w fun e w'=>e=.returned (.int .i64 (qt (B l)))/\Below w.heap.size w w':=by
 by_cases h:l=[]
 . subst h
   have:qt (B [])=0:=YN;rw[this];exact Xt w
 . exact zcX (B l) w (by rw[zj];exact hs) (by rw[zj];exact UQ.2 h)
theorem ze4(l:List UInt8)(hne:l≠[]):qt (B l)<=l.length:=by
 have hs:0<(B l).size:=by rw[zj];exact UQ.2 hne
 by_cases h0:qt (B l)=0
 . omega
 . have:=Y1 (B l) 0 hs
   rw[<-Qa _ hs h0,zj]at this;omega
def zhA:Value->Nat
 | .string s=>s.size
 |_=>0
theorem Vf(l:List UInt8)(w:World)(hs:l.length<=1048576):
  Calls Tryz.prog 66 #[.string (B l)] w fun e w'=>e=.returned (.bool (Lib.validD l))/\Below w.heap.size w w':=by
 obtain⟨V,hV⟩:∃V,Lib.validD l=V:=⟨_,rfl⟩
 rw[hV];have HC:=zb (fun(m:List UInt8) W h=>VM m W h);go_enter Tryz.func66,Tryz.ntmps66;go_wp2_with fail
 go_loopw [0] (fun s wr=>∃m:List UInt8,s=.string (B m)/\m.length<=l.length/\Hid (Lib.validD m=V)/\Below w.heap.size w wr) (fun s _=>zhA s)
 case atStart=>exact⟨l,rfl,ud _,zb hV,ue _ _⟩
 case round=>
  obtain⟨m,rfl,hm,HV,hb⟩:=hrel;have HB:=zb hb;have HL:=zb (zj m);clear hb hV;by_cases hne:m=[]
  . subst hne
    have HR:Hid (V=true):=zb (by rw[<-za HV];rfl);have hz:¬(0:Int)<((B []).size:Int):=by simp[zj]
    go_wp2_with fail;go_ret;exact⟨by rw[za HR];rfl,za HB⟩
  . have hz:(0:Int)<((B m).size:Int):=by rw[zj];have:=UQ.2 hne;omega
    have HST:=zb (VW m hne);have hle:=ze4 m hne;obtain⟨k,hk⟩:∃k,qt (B m)=k:=⟨_,rfl⟩
    have HM:Hid ((B m).extract k (B m).size=B (m.drop k)):=zb (by rw[zj,qp,Uh]);have hpos:=UQ.2 hne;have HS:Hid (∀W,Calls Tryz.prog 67 #[.string (B m)] W fun e w'=>e=.returned (.int .i64 k)/\Below W.heap.size W w'):=zb (fun W=>by rw[<-hk];exact za HC m W (by omega));rw[hk]at HST hle;clear hk;go_wp2_with fail;refine(za HS _).mono ?_;rintro e w1⟨rfl,hb1⟩;have HB1:=zb (zi (za HB) hb1);clear hb1;by_cases h0:k=0
    . subst h0
      have HR:Hid (V=false):=zb (by rw[<-za HV,za HST,uj rfl]);go_wp2_with fail;go_ret;exact⟨by rw[za HR];rfl,za HB1⟩
    . have h0':((k:Int)==0)=false:=by rw[ug];omega
      have hk2:¬((B m).size:Int)<(k:Int):=by rw[zj];omega
      have HV2:Hid (Lib.validD (m.drop k)=V):=zb (by rw[<-za HV,za HST,ul h0]);go_wp2_with fail;go_roundw
      case rel=>exact⟨m.drop k,by rw[za HM],by simp;omega,HV2,za HB1⟩
      case measure=>rw[za HM];simp[zhA,zj];omega
theorem Yz(a b:Int)(w:World):
  Calls Tryz.prog 101 #[.int .i64 a,.int .i64 b] w fun e w'=>e=.returned (.int .i64 (j9 a b))/\w'=w:=by
 by_cases h1:a<b
 . have HR:Hid (j9 a b= -1):=zb (by unfold j9;rw[uj h1])
   go_enter Tryz.func101,Tryz.ntmps101;go_wp2;go_ret;exact⟨zK (za HR).symm,rfl⟩
 . by_cases h2:b<a
   . have HR:Hid (j9 a b=1):=zb (by unfold j9;rw[ul h1,uj h2])
     go_enter Tryz.func101,Tryz.ntmps101;go_wp2;go_ret;exact⟨zK (za HR).symm,rfl⟩
   . have HR:Hid (j9 a b=0):=zb (by unfold j9;rw[ul h1,ul h2])
     go_enter Tryz.func101,Tryz.ntmps101;go_wp2;go_ret;exact⟨zK (za HR).symm,rfl⟩
theorem zaS(a b:List UInt8)(w:World):
  Calls Tryz.prog 103 #[.string (B a),.string (B b)] w fun e w'=>e=.returned (.int .i64 (Lib.compareBytes a b))/\w'=w:=by
 obtain⟨h1,h2,h3,h4⟩:=qU a b;obtain⟨c,hc⟩:∃c,Lib.compareBytes a b=c:=⟨_,rfl⟩
 have h5:((B a).toList==(B b).toList)=decide (c=0):=by
  rw[jg,jg,UW];simp only[Um,ut];rw[<-hc];exact h3.symm
 rw[hc]at h1 h4⊢;rw[<-jg a,<-jg b]at h1;clear h2 h3 hc;rcases h4 with rfl|rfl|rfl
 . have k1:Op.bytesLess (B a).toList (B b).toList=true:=h1
   clear h1 h5;go_enter Tryz.func103,Tryz.ntmps103;go_wp2;go_ret;exact⟨rfl,rfl⟩
 . have k1:Op.bytesLess (B a).toList (B b).toList=false:=h1
   have k2:((B a).toList==(B b).toList)=true:=h5;clear h1 h5;go_enter Tryz.func103,Tryz.ntmps103;go_wp2;go_ret;exact⟨rfl,rfl⟩
 . have k1:Op.bytesLess (B a).toList (B b).toList=false:=h1
   have k2:((B a).toList==(B b).toList)=false:=h5;clear h1 h5;go_enter Tryz.func103,Tryz.ntmps103;go_wp2;go_ret;exact⟨rfl,rfl⟩
theorem ze2(x y:Nat):sgI ((x:Int)-y)=kP x y:=by
 unfold sgI kP;split<;>split<;>(try split)<;>(try split)<;>omega
theorem YY(n1 n2:Bool)(x1 y1 x2 y2:Nat)(hy1:0<y1)(hy2:0<y2)(h1:n1=true->x1≠0)(h2:n2=true->x2≠0):
  vb (n1,x1,y1) (n2,x2,y2)=if n1≠n2 then(if n1 then-1 else 1)else if n1 then-kP (x1*y2) (x2*y1)else kP (x1*y2) (x2*y1):=by
 unfold vb zP;simp only;have e:∀(a b:Nat),((a*b:Nat):Int)=(a:Int)*(b:Int):=fun a b=>by simp
 cases n1<;>cases n2
 . simp only[JD,ne_eq,not_true_eq_false,if_false,dB]
   rw[<-e,<-e,ze2]
 . simp only[JD,ne_eq,dB,if_false,if_true,not_false_eq_true]
   rw[Int.neg_mul,<-e,<-e];have:0<x2*y1:=Nat.mul_pos (by have:=h2 rfl;omega) hy1;unfold sgI;rw[ul (by omega),uj (by omega)]
 . simp only[JD,ne_eq,dB,if_false,if_true,not_false_eq_true,reduceCtorEq]
   rw[Int.neg_mul,<-e,<-e];have:0<x1*y2:=Nat.mul_pos (by have:=h1 rfl;omega) hy2;unfold sgI;rw[uj (by omega)]
 . simp only[JD,ne_eq,not_true_eq_false,if_false,if_true]
   rw[Int.neg_mul,Int.neg_mul,<-e,<-e,<-ze2,<-zce]
   congr 1;omega
theorem jy(w:World)(x y z x' y' z':Value)(T:TypeId):Below w.heap.size w ((w.alloc (.cells #[x,y,z] T)).alloc (.cells #[x',y',z'] T)):=zf (zf (ue _ _) _) _
theorem zfR(n1 n2:Bool)(x1 y1 x2 y2:Nat)(w:World)(sx1:(zr x1).size<=60)(sy1:(zr y1).size<=60)(sx2:(zr x2).size<=60)(sy2:(zr y2).size<=60)(hy1:0<y1)(hy2:0<y2)(h1:n1=true->x1≠0)(h2:n2=true->x2≠0):
  Calls Tryz.prog 130 #[.agg #[.bool n1,.string (zr x1),.string (zr y1)],.agg #[.bool n2,.string (zr x2),.string (zr y2)]] w fun e w'=>e=.returned (.int .i64 (vb (n1,x1,y1) (n2,x2,y2)))/\Below w.heap.size w w':=by
 have HE:=zb (YY n1 n2 x1 y1 x2 y2 hy1 hy2 h1 h2);obtain⟨R,hR⟩:∃R,vb (n1,x1,y1) (n2,x2,y2)=R:=⟨_,rfl⟩
 rw[hR]at HE⊢;have HB:=zb (jy w (.bool n1) (.string (zr x1)) (.string (zr y1)) (.bool n2) (.string (zr x2)) (.string (zr y2)) 79);have HA1:=zb ((AtC3.new w (.bool n1) (.string (zr x1)) (.string (zr y1)) 79).below (zf (ue _ _) (.cells #[.bool n2,.string (zr x2),.string (zr y2)] 79)));have HA2:=zb (AtC3.new (w.alloc (.cells #[.bool n1,.string (zr x1),.string (zr y1)] 79)) (.bool n2) (.string (zr x2)) (.string (zr y2)) 79);rw[uk]at HA2;clear hR h1 h2 hy1 hy2;by_cases hn:n1=n2
 . subst hn
   have hb:(n1==n1)=true:=by simp
   have d1:=Qk sx1 sy2;have d2:=Qk sx2 sy1;have HM1:=zb (fun W=>Kf x1 y2 W (by omega) (by omega));have HM2:=zb (fun W=>Kf x2 y1 W (by omega) (by omega));have HM3:=zb (fun W=>Kd (x1*y2) (x2*y1) W (by omega) (by omega));obtain⟨c,hc⟩:∃c,kP (x1*y2) (x2*y1)=c:=⟨_,rfl⟩
   have hcr: -1<=c/\c<=1:=by rw[<-hc];unfold kP;split<;>(try split)<;>omega
   rw[hc]at HE HM3;rw[ul (by simp)]at HE;clear sx1 sx2 sy1 sy2 d1 d2 hc;go_enter Tryz.func130,Tryz.ntmps130;go_wp2_with fail;obtain⟨W,hW⟩:∃W,(w.alloc (.cells #[.bool n1,.string (zr x1),.string (zr y1)] 79)).alloc (.cells #[.bool n1,.string (zr x2),.string (zr y2)] 79)=W:=⟨_,rfl⟩
   rw[hW]at HB HA1 HA2⊢;clear hW;have a1:=(za HA1).n1;have a2:=(za HA1).n2;have b1:=(za HA2).n1;have b2:=(za HA2).n2
   go_cut [5]from 13 to 23 (fun s wx=>s=.int .i64 c/\Below W.heap.size W wx)
   case first=>
    go_region_held3 (fun w'=>w'.cell? ⟨w.heap.size,1,none⟩=some (.string (zr x1))/\w'.cell? ⟨w.heap.size,2,none⟩=some (.string (zr y1))/\w'.cell? ⟨w.heap.size+1,1,none⟩=some (.string (zr x2))/\w'.cell? ⟨w.heap.size+1,2,none⟩=some (.string (zr y2))) (((try dsimp only);(repeat' apply And.intro)<;>(first|with_reducible assumption|exact a1|exact a2|exact b1|exact b2))) (first|(go_at_call_of 133 (zr x1);refine(za HM1 W.drew).mono ?_;rintro e w1⟨rfl,hb1⟩;have HB1:Hid (Below W.heap.size W w1):=(ue _ _).drew.trans hb1;have HC1:=zb ((za HA1).below (za HB1));have HC2:=zb ((za HA2).below (za HB1));have p1:=(za HC1).n1;have p2:=(za HC1).n2;have p3:=(za HC2).n1;have p4:=(za HC2).n2;clear hb1)|(go_at_call_of 133 (zr x2);refine(za HM2 w1).mono ?_;rintro e w2⟨rfl,hb2⟩;have HB2:=zb (zi (za HB1) hb2);have q1:=((za HC1).below hb2).n1;have q2:=((za HC1).below hb2).n2;have q3:=((za HC2).below hb2).n1;have q4:=((za HC2).below hb2).n2;clear hb2)|(go_at_call 152;refine(za HM3 w2).mono ?_;rintro e w3⟨rfl,rfl⟩))
    all_goals
     go_wp2_with fail;go_meet;exact⟨rfl,za HB2⟩
   case rest=>
   obtain⟨rfl,hbc⟩:=hcut
   rename World=>w4
   have HB4:=zb (zi (za HB) hbc);have p0:=((za HA1).below hbc).n0;clear hbc a1 a2 b1 b2;cases n1 with
   |true=>
    have HQ:Hid (-c=R):=zb (by rw[za HE];rfl);go_wp2_with fail;go_ret;exact⟨zK (za HQ),za HB4⟩
   |false=>
    go_wp2_with fail;go_ret;exact⟨zK (by rw[za HE];rfl),za HB4⟩
 . have hb:(n1==n2)=false:=by simpa using hn
   rw[uj hn]at HE;clear hn;cases n1 with
   |true=>
    go_enter Tryz.func130,Tryz.ntmps130;go_wp2_with fail;go_ret;exact⟨zK (za HE).symm,za HB⟩
   |false=>
    go_enter Tryz.func130,Tryz.ntmps130;go_wp2_with fail;go_ret;exact⟨zK (za HE).symm,za HB⟩
def Q8(t:T3):Prop:=t.2.1.length<=1000/\t.2.2.length<=1000
theorem zbM{a b:T3}(h:(okT a&&okT b)=false):Z0 a b=0:=by unfold Z0;rw[h];rfl
theorem K8{a b:T3}(ha:okT a=true)(hb:okT b=true):Z0 a b=vb (Zs a) (Zs b):=by unfold Z0;rw[ha,hb];rfl
theorem zf6{t:T3}(h:okT t=true):∃n x y,t=Q7 (n,x,y)/\Zs t=(n,x,y)/\(zr x).size<=60/\(zr y).size<=60/\0<y/\(n=true->x≠0):=by
 have h1:=XQ h;obtain⟨n,x,y,hv⟩:∃n x y,Zs t=(n,x,y):=⟨_,_,_,rfl⟩
 rw[hv]at h1;obtain⟨p1,p2,p3,p4,p5,p6,_⟩:=ju h;rw[<-h1]at p3 p4 p5 p6;simp only[Q7,qw]at p3 p4 p5 p6;exact⟨n,x,y,h1.symm,hv,by rw[zJ];exact p3,by rw[zJ];exact p4,by omega,p6⟩
theorem KF(a b:T3)(w:World)(ha:Q8 a)(hb:Q8 b):
  Calls Tryz.prog 102 #[za3 a,za3 b] w fun e w'=>e=.returned (.int .i64 (Z0 a b))/\Below w.heap.size w w':=by
 obtain⟨n1,u1,d1⟩:=a;obtain⟨n2,u2,d2⟩:=b;obtain⟨ha1,ha2⟩:=ha;obtain⟨hb1,hb2⟩:=hb;simp only at ha1 ha2 hb1 hb2;have HB:=zb (jy w (.bool n1) (.string (B u1)) (.string (B d1)) (.bool n2) (.string (B u2)) (.string (B d2)) 79);have HA1:=zb ((AtC3.new w (.bool n1) (.string (B u1)) (.string (B d1)) 79).below (zf (ue _ _) (.cells #[.bool n2,.string (B u2),.string (B d2)] 79)));have HA2:=zb (AtC3.new (w.alloc (.cells #[.bool n1,.string (B u1),.string (B d1)] 79)) (.bool n2) (.string (B u2)) (.string (B d2)) 79);rw[uk]at HA2;have H1:=zb (fun W=>kJ n1 u1 d1 W (by omega) (by omega));have H2:=zb (fun W=>kJ n2 u2 d2 W (by omega) (by omega));have HR:=zb (fun(h:(vC n1 u1 d1&&vC n2 u2 d2)=false)=>zbM (a:=(n1,u1,d1)) (b:=(n2,u2,d2)) h);have HY:=zb (fun(h:vC n1 u1 d1=true)(h':vC n2 u2 d2=true)=>K8 (a:=(n1,u1,d1)) (b:=(n2,u2,d2)) h h');have HT1:=zb (fun(h:vC n1 u1 d1=true)=>zf6 (t:=(n1,u1,d1)) h);have HT2:=zb (fun(h:vC n2 u2 d2=true)=>zf6 (t:=(n2,u2,d2)) h);unfold xD at H1 H2;show Calls Tryz.prog 102 #[.agg #[.bool n1,.string (B u1),.string (B d1)],.agg #[.bool n2,.string (B u2),.string (B d2)]] w _;clear ha1 ha2 hb1 hb2;go_enter Tryz.func102,Tryz.ntmps102;go_wp2_with fail;obtain⟨W,hW⟩:∃W,(w.alloc (.cells #[.bool n1,.string (B u1),.string (B d1)] 79)).alloc (.cells #[.bool n2,.string (B u2),.string (B d2)] 79)=W:=⟨_,rfl⟩
 rw[hW]at HB HA1 HA2⊢;clear hW;refine(za H1 W).mono ?_;rintro e w1⟨rfl,hb1⟩;have HB1:=zb (zi (za HB) hb1);have HC1:=zb ((za HA1).below hb1);have HC2:=zb ((za HA2).below hb1);clear hb1 HB HA1 HA2;cases ho1:vC n1 u1 d1 with
 |false=>
  have HQ:=zb (za HR (by rw[ho1];rfl));clear ho1;go_wp2_with fail;go_ret;exact⟨zK (za HQ).symm,za HB1⟩
 |true=>
  have q0:=(za HC2).n0;have q1:=(za HC2).n1;have q2:=(za HC2).n2;go_wp2_with fail;refine(za H2 w1).mono ?_;rintro e w2⟨rfl,hb2⟩;have HB2:=zb (zi (za HB1) hb2);have HD1:=zb ((za HC1).below hb2);have HD2:=zb ((za HC2).below hb2);clear hb2 HB1 HC1 HC2 q0 q1 q2;cases ho2:vC n2 u2 d2 with
  |false=>
   have HQ:=zb (za HR (by rw[ho1,ho2];rfl));clear ho1 ho2;go_wp2_with fail;go_ret;exact⟨zK (za HQ).symm,za HB2⟩
  |true=>
   have HQ:=za HY ho1 ho2;obtain⟨m1,x1,y1,e1,v1,s1,s2,s3,s4⟩:=za HT1 ho1;obtain⟨m2,x2,y2,e2,v2,s5,s6,s7,s8⟩:=za HT2 ho2;rw[v1,v2]at HQ;have HQ:=zb HQ;unfold Q7 at e1 e2;simp only[wS]at e1 e2;obtain⟨rfl,rfl,rfl⟩:=e1;obtain⟨rfl,rfl,rfl⟩:=e2;have q0:=(za HD2).n0;have q1:=(za HD2).n1;have q2:=(za HD2).n2;have p0:=(za HD1).n0;have p1:=(za HD1).n1;have p2:=(za HD1).n2;clear ho1 ho2 v1 v2 HY HR HT1 HT2;go_wp2_with fail;refine(zfR n1 n2 x1 y1 x2 y2 w2 s1 s2 s5 s6 s3 s7 s4 s8).mono ?_;rintro e w3⟨rfl,hb3⟩;have HB3:=zb (zi (za HB2) hb3);clear hb3;go_wp2_with fail;go_ret;exact⟨zK (za HQ).symm,za HB3⟩
end Go.Proofs.YtpbnmhnbkfnaeaaGreatDoor
