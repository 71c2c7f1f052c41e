/- A part of the proof, put together out of smaller texts. -/
import Derived.Test.YtpbnmhnbkfnaeaaGreatDoorM0
import Derived.Test.YtpbnmhnbkfnaeaaGreatDoorM1
import Derived.Test.YtpbnmhnbkfnaeaaGreatDoorM2
import Derived.Test.YtpbnmhnbkfnaeaaGreatDoorM5
import Derived.Test.YtpbnmhnbkfnaeaaGreatDoorM6
import Derived.Test.YtpbnmhnbkfnaeaaGreatDoorM7
import Derived.Test.YtpbnmhnbkfnaeaaGreatDoorM8
import Derived.Test.YtpbnmhnbkfnaeaaGreatDoorM9
import Derived.Lib.Bytealg
import Derived.Handy
import Derived.Deep.RegionWith
import Derived.Deep.Cut
import Derived.Deep.CutRange
import Derived.Deep.RegionHeld3
import Derived.Deep.AppendLies
import Derived.Deep.QuietTactic
import Derived.BigQuiet
set_option linter.all false
set_option maxRecDepth 100000
set_option maxHeartbeats 32000000
namespace Go.Proofs.YtpbnmhnbkfnaeaaGreatDoor
open Go.RowKit Nt
def Tabz(w:World):Prop:=Lib.Utf8Tabs 1 2 w
theorem Tabz.below{B:Nat}{w w':World}(h:Tabz w)(hB:2<B)(k:Below B w w'):Tabz w':=by
 refine⟨fun c hc=>?_,fun i hi=>⟨?_,?_⟩⟩
 . exact(k.cell (p:=⟨_,c,none⟩) (by show 1<B;omega)).trans (h.1 c hc)
 . exact(k.cell (p:=⟨_,2*i,none⟩) (by show 2<B;omega)).trans (h.2 i hi).1
 . exact(k.cell (p:=⟨_,2*i+1,none⟩) (by show 2<B;omega)).trans (h.2 i hi).2
theorem ZV(t:List UInt8)(w:World)(hs:t.length<=1048576)(hT:Tabz w):
  Calls Tryz.prog 167 #[.string (B t)] w fun e w'=>e=.returned (.bool (Lib.validD t))/\Below w.heap.size w w':=by
 have h:=Tryz.utf8_ValidString (B t) w (by rw[zj];omega) hT;rw[JS]at h;exact h
theorem XW(t:List UInt8)(w:World)(hs:t.length<=1048576):
  Calls Tryz.prog 168 #[.string (B t)] w fun e w'=>e=.returned (.int .i64 (Lib.runeCount (B t)))/\Below w.heap.size w w':=by
 refine(Tryz.utf8_RuneCountInString (B t) w (by rw[zj];omega)).mono ?_;rintro e w'⟨rfl,pos,rfl⟩;exact⟨rfl,(ue _ _).alloc (ud _) _⟩
theorem Qy(t:List UInt8)(w:World)(hs:t.length<=1048576)(hT:Tabz w):
  Calls Tryz.prog 136 #[.string (B t)] w fun e w'=>e=.returned (.bool (decide (t.length<=200)&&Lib.validD t))/\Below w.heap.size w w':=by
 have HV:=zb (ZV t w hs hT);by_cases h:t.length<=200
 . have h':((B t).size:Int)<=200:=by rw[zj];omega
   have HQ:Hid ((decide (t.length<=200)&&Lib.validD t)=Lib.validD t):=zb (by rw[uy h,wI]);clear h;go_enter Tryz.func136,Tryz.ntmps136;go_wp2_with fail;refine(za HV).mono ?_;rintro e w1⟨rfl,hb⟩;have HB:=zb hb;clear hb;go_wp2_with fail;go_ret;exact⟨by rw[za HQ];rfl,za HB⟩
 . have h':¬((B t).size:Int)<=200:=by rw[zj];omega
   have HQ:Hid ((decide (t.length<=200)&&Lib.validD t)=false):=zb (by rw[uw h,UR]);clear h;go_enter Tryz.func136,Tryz.ntmps136;go_wp2_with fail;go_ret;exact⟨by rw[za HQ];rfl,ue _ _⟩
theorem Qx(t:List UInt8)(w:World)(hs:t.length<=1048576)(hT:Tabz w):
  Calls Tryz.prog 137 #[.string (B t)] w fun e w'=>e=.returned (.bool (V7 t))/\Below w.heap.size w w':=by
 have HV:=zb (ZV t w hs hT);have HC:=zb (fun W=>XW t W hs);obtain⟨n,hn⟩:∃n,Lib.runeCount (B t)=n:=⟨_,rfl⟩
 have he:=zf7 t;rw[hn]at HC he;have HE:=zb he;clear he hn;cases hv:Lib.validD t with
 |false=>
  rw[hv]at HV HE;clear hv;go_enter Tryz.func137,Tryz.ntmps137;go_wp2_with fail;refine(za HV).mono ?_;rintro e w1⟨rfl,hb⟩;have HB:=zb hb;clear hb;go_wp2_with fail;go_ret;exact⟨by rw[za HE];rfl,za HB⟩
 |true=>
  rw[hv]at HV HE;have HQ:Hid (V7 t=((n:Int)==1)):=zb (by rw[za HE,wI,UW];simp;omega);clear hv;go_enter Tryz.func137,Tryz.ntmps137;go_wp2_with fail;refine(za HV).mono ?_;rintro e w1⟨rfl,hb⟩;have HB:=zb hb;clear hb;go_wp2_with fail;refine(za HC w1).mono ?_;rintro e w2⟨rfl,hb⟩;have HB2:=zb (zi (za HB) hb);clear hb;go_wp2_with fail;go_ret;exact⟨by rw[za HQ];rfl,za HB2⟩
def Y6:List UInt8:=[48,49,50,51,52,53,54,55,56,57,35,44,96]
def zdR:List UInt8:=[40,41,34,59,39,92,124]
theorem zaF(c:Nat):J7 Y6 c=kB c:=by
 unfold J7 Y6 kB;simp only[List.any_cons,List.any_nil,Bool.or_false];rw[UW];simp only[Ur,ux,Um,We,ut];omega
theorem zdS(c:Nat)(h:¬c<33)(h2:c≠127):J7 zdR c=jD c:=by
 unfold J7 zdR jD js;simp only[List.any_cons,List.any_nil,Bool.or_false];rw[UW];simp only[Ur,Um,We,ut];omega
theorem zcw{c:Nat}(h:jD c=true):c<128:=by
 unfold jD js at h;simp only[Ur,Um,ut]at h;omega
theorem zfx{c:Nat}(h:c<33):jD c=true:=by
 unfold jD;rw[uy h];simp
theorem zfv:jD 127=true:=by decide
theorem JV{l:List UInt8}{k:Nat}(h:k<l.length)(hb:jD (l[k]'h).toNat=true):(l.all fun c=> !jD c.toNat)=false:=by
 rw[wW];exact⟨l[k]'h,uF h,by simp[hb]⟩
theorem zct{l:List UInt8}(h:∀i(hi:i<l.length),jD (l[i]'hi).toNat=false):(l.all fun c=> !jD c.toNat)=true:=by
 rw[uI];intro c hc;obtain⟨i,hi,rfl⟩:=List.mem_iff_getElem.1 hc;simp[h i hi]
theorem Z8(t:List UInt8)(w:World)(hs:t.length<=1048576)(hT:Tabz w):
  Calls Tryz.prog 250 #[.string (B t)] w fun e w'=>e=.returned (.bool (j7 t))/\Below w.heap.size w w':=by
 have HT:=zb (Qy t w hs hT);by_cases hne:t=[]
 . have e0:((B t).toList.isEmpty)=true:=by rw[hne,jg];rfl
   have HQ:Hid (j7 t=false):=zb (by rw[hne];rfl);clear hne;go_enter Tryz.func250,Tryz.ntmps250;go_wp2_with fail;go_ret;exact⟨by rw[za HQ];rfl,ue _ _⟩
 . have e0:((B t).toList.isEmpty)=false:=by rw[jg];cases t with|nil=>exact absurd rfl hne|cons a r=>rfl
   obtain⟨c,r,hcr⟩:∃c r,t=c::r:=by cases t with|nil=>exact absurd rfl hne|cons c r=>exact⟨c,r,rfl⟩
   have HW:Hid (j7 t=(!kB c.toNat&&decide (t.length<=200)&&Lib.validD t&&t.all fun c=> !jD c.toNat)):=zb (by rw[hcr];rfl);have hz:0<(B t).size:=by rw[zj,hcr];simp
   have hc:(B t)[0]'hz=c:=by rw[j4];subst hcr;rfl
   clear hcr hne;rcases uN (decide (t.length<=200)&&Lib.validD t)with hv|hv
   . rw[hv]at HT
     obtain⟨n,hn⟩:∃n,c.toNat=n:=⟨_,rfl⟩
     have hn256:n<256:=by rw[<-hn];exact c.toNat_lt
     have HC1:Hid (∀W,Calls Tryz.prog 218 #[.string ⟨#[48,49,50,51,52,53,54,55,56,57,35,44,96]⟩,.int .i32 n] W fun e w'=>e=.returned (.bool (kB n))/\Below W.heap.size W w'):=zb (fun W=>by
      have h:=yY Y6 n W (by decide) (by unfold yW;omega) (by decide);rw[zaF]at h;exact h)
     have hw32:wrap32 (n:Int)=(n:Int):=by unfold wrap32;omega
     have HW2:Hid (j7 t=(!kB n&&t.all fun c=> !jD c.toNat)):=zb (by rw[za HW,hn,Bool.and_assoc (!kB n),hv,Bool.and_true]);clear hv hn256 HW;go_enter Tryz.func250,Tryz.ntmps250;go_wp2_with fail;refine(za HT).mono ?_;rintro e w1⟨rfl,hb⟩;have HB:=zb hb;clear hb;go_wp2_with fail;refine(za HC1 w1).mono ?_;rintro e w2⟨rfl,hb⟩;have HB2:=zb (zi (za HB) hb);clear hb HB HC1;rcases uN (kB n)with hh|hh
     . have HQ:Hid (j7 t=false):=zb (by rw[za HW2,hh];rfl)
       rw[hh];clear hh HW2;go_wp2_with fail;go_ret;exact⟨by rw[za HQ];rfl,za HB2⟩
     . have HQ:Hid (j7 t=t.all fun c=> !jD c.toNat):=zb (by rw[za HW2,hh];rfl)
       rw[hh];have HIT0:Hid ((w2.iter (B t) 0).heap[w2.heap.size]? =some (.stringIter (B t) 0)):=zb (WN _ _ _);have HB0:Hid (Below w.heap.size w (w2.iter (B t) 0)):=zb ((za HB2).alloc (za HB2).size _);have HBZ:=zb (za HB2).size;clear hh HW2 hc hn hw32 hz e0 HT HB2;go_wp2_with fail
       go_loopw [4] (fun _ wr=>∃pos:Nat,pos<=t.length/\Hid (wr.heap[w2.heap.size]? =some (.stringIter (B t) pos))/\Hid (Below w.heap.size w wr)/\Hid (∀j(hj:j<t.length),j<pos->jD (t[j]'hj).toNat=false))
        (fun _ wr=>t.length-wr.iterPos w2.heap.size)
       case atStart=>exact⟨0,uD _,HIT0,HB0,zb (fun j _ h=>by omega)⟩
       case round=>
        clear HIT0 HB0;obtain⟨pos,hpl,HIT,HB,HV⟩:=hrel;have hpos0:=iterPos_of (za HIT);by_cases hlt:pos<t.length
        . have hlt2:pos<(B t).size:=by rw[zj];exact hlt
          have hnx:=fun ty=>Lib.run_next_any_at (P:=Tryz.prog) wr w2.heap.size (B t) pos ty (za HIT) hlt2
          have hb2:=Lib.below_iterAt (za HB) (k:=w2.heap.size) (za HBZ) (B t) (pos+(Utf8.decode (B t) pos).2);have hit2:=Lib.iterAt_heap wr w2.heap.size (B t) pos (pos+(Utf8.decode (B t) pos).2) (za HIT);have HRB:=zb (VI (p:=jD) (fun c h=>zcw h) t pos hlt);have hro:=Xe (B t) pos;obtain⟨c,wd,hcw⟩:∃c wd,Utf8.decode (B t) pos=(c,wd):=⟨_,_,rfl⟩
          rw[hcw]at hnx hb2 hit2 HRB hro;simp only at hnx hb2 hit2 HRB hro;have HRO:=zb hro;have HB2:=zb hb2;have HIT2:=zb hit2;have HP0:=zb hpos0;have HP2:=zb (iterPos_of hit2);clear hcw hb2 hit2 hpos0 HB HIT hro;by_cases h33:c<33
          . have h33':(c:Int)<33:=by omega
            have HX:Hid (j7 t=false):=zb (by rw[za HQ];exact JV hlt ((za HRB).2.2.1 (zfx h33)));clear h33;go_wp2_with fail;go_ret;exact⟨by rw[za HX];rfl,za HB2⟩
          . have h33':¬(c:Int)<33:=by omega
            by_cases h127:c=127
            . subst h127
              have HX:Hid (j7 t=false):=zb (by rw[za HQ];exact JV hlt ((za HRB).2.2.1 zfv));clear h33;go_wp2_with fail;go_ret;exact⟨by rw[za HX];rfl,za HB2⟩
            . have h127':((c:Int)==127)=false:=by rw[ug];omega
              have HC:Hid (∀W,Calls Tryz.prog 218 #[.string ⟨#[40,41,34,59,39,92,124]⟩,.int .i32 c] W fun e w'=>e=.returned (.bool (jD c))/\Below W.heap.size W w'):=zb (fun W=>by
               have h:=yY zdR c W (by decide) (za HRO) (by decide);rw[zdS c h33 h127]at h;exact h)
              clear h33 h127;go_wp2_with fail;refine(za HC _).mono ?_;rintro e w3⟨rfl,hb3⟩;have HB3:=zb (zi (za HB2) hb3);have HIT3:Hid (w3.heap[w2.heap.size]? =some (.stringIter (B t) (pos+wd))):=zb ((hb3.block w2.heap.size (uu.1 (za HIT2)).1).trans (za HIT2));have HP3:=zb (iterPos_of (za HIT3));clear hb3;obtain⟨r1,r2,r3,r4⟩:=za HRB;rcases uN (jD c)with hb|hb
              . have HX:Hid (j7 t=false):=zb (by rw[za HQ];exact JV hlt (r3 hb))
                rw[hb];clear hb r3 r4;go_wp2_with fail;go_ret;exact⟨by rw[za HX];rfl,za HB3⟩
              . have HV2:Hid (∀j(hj:j<t.length),j<pos+wd->jD (t[j]'hj).toNat=false):=zb (fun j hj h=>by
                 by_cases h2:j<pos
                 . exact za HV j hj h2
                 . exact r4 hb j hj (by omega) h)
                rw[hb];clear hb r3 r4;go_wp2_with fail;go_roundw
                case rel=>exact⟨pos+wd,r2,HIT3,HB3,HV2⟩
                case measure=>rw[za HP0,za HP3];omega
        . have hlt2:¬pos<(B t).size:=by rw[zj];exact hlt
          have hnx:=fun ty=>Lib.run_next_end_at (P:=Tryz.prog) wr w2.heap.size (B t) pos ty (za HIT) hlt2
          have HX:Hid (j7 t=true):=zb (by rw[za HQ];exact zct (fun i hi=>za HV i hi (by omega)));clear hpos0;go_wp2_with fail;go_ret;exact⟨by rw[za HX];rfl,za HB⟩
   . rw[hv]at HT
     have HQ:Hid (j7 t=false):=zb (by rw[za HW,Bool.and_assoc (!kB c.toNat),hv,wo,UR]);clear hv HW;go_enter Tryz.func250,Tryz.ntmps250;go_wp2_with fail;refine(za HT).mono ?_;rintro e w1⟨rfl,hb⟩;have HB:=zb hb;clear hb;go_wp2_with fail;go_ret;exact⟨by rw[za HQ];rfl,za HB⟩
theorem Vb(c:UInt8)(l:List UInt8):Lib.indexByte l c=zW c l:=by
 unfold zW
 induction l with
 |nil=>rfl
 |cons d r ih=>
  unfold Lib.indexByte zZ;by_cases h:d=c
  . simp[h]
  . simp only[h,if_false]
    cases hf:zZ c r with
    |none=>rw[hf]at ih;simp_all
    |some k=>rw[hf]at ih;simp_all;try omega
theorem Xn(l:List UInt8)(c:UInt8)(w:World):
  Calls Tryz.prog 221 #[.string (B l),.int .u8 c.toNat] w fun e w'=>e=.returned (.int .i64 (zW c l))/\w'=w:=by
 go_enter Tryz.func221,Tryz.ntmps221;go_wp2;rw[run_callFunc_extern Tryz.func226 (by kernel_rfl) (by kernel_rfl) (by kernel_rfl) (e:=Extern.BytealgIndexByte.indexByte) (by kernel_rfl),Lib.run_indexByteString];simp only[Result.andThen];rw[Oper.upon_value];go_wp2;go_ret;refine⟨?_,rfl⟩;exact zK (by rw[JS,Vb])
theorem zfK(l:List UInt8)(c:UInt8)(w:World):
  Calls Tryz.prog 217 #[.string (B l),.string (B [c])] w fun e w'=>e=.returned (.int .i64 (zW c l))/\w'=w:=by
 have hs1:(B [c]).size=1:=rfl;have hg:(B [c])[0].toNat=c.toNat:=rfl;by_cases hl:[c]=l
 . have he:((B [c]).toList==(B l).toList)=true:=by rw[jg,jg,hl];simp
   have Hf:Hid (zW c l=0):=by show _=_;rw[<-hl];simp[zW,zZ]
   clear hl;go_enter Tryz.func217,Tryz.ntmps217;go_wp2;go_ret;exact⟨zK (za Hf).symm,rfl⟩
 . have he:((B [c]).toList==(B l).toList)=false:=by rw[jg,jg,ug];exact hl
   clear hl;go_enter Tryz.func217,Tryz.ntmps217;go_wp2_with fail;refine(Xn l c _).mono ?_;rintro e w1⟨rfl,rfl⟩;go_wp2;go_ret;exact⟨rfl,rfl⟩
def Y0(c:UInt8)(l:List UInt8):List UInt8×List UInt8×Bool:=match zZ c l with|some k=>(l.take k,l.drop (k+1),true)|none=>(l,[],false)
theorem zfA(l:List UInt8)(c:UInt8)(w:World)(hs:l.length<=1000000000):
  Calls Tryz.prog 199 #[.string (B l),.string (B [c])] w fun e w'=>e=.returned (.tuple #[.string (B (Y0 c l).1),.string (B (Y0 c l).2.1),.bool (Y0 c l).2.2])/\Below w.heap.size w w':=by
 have hs1:(B [c]).size=1:=rfl;have hsz:(B l).size<=1000000000:=by rw[zj];exact hs
 have hix:=fun w=>zfK l c w
 unfold Y0;cases hf:zZ c l with
 |none=>
  have hi:zW c l= -1:=by unfold zW;rw[hf]
  rw[hi]at hix;have Hix:=zb hix;clear hix hi hf;go_enter Tryz.func199,Tryz.ntmps199;go_wp2_with fail;refine(za Hix _).mono ?_;rintro e w1⟨rfl,rfl⟩;go_wp2;go_ret3;exact⟨rfl,ue _ _⟩
 |some k=>
  have hk:=vf hf;have hi:zW c l=k:=by unfold zW;rw[hf]
  rw[hi]at hix;have Hix:=zb hix;have hk2:k<(B l).size:=by rw[zj];exact hk
  clear hix hi hf;have c1:(0:Int)<= ↑k:=by omega
  have c2:(↑k:Int)<= ↑(B l).size:=by omega
  have c3:(0:Int)<= ↑k+ ↑(B [c]).size:=by omega
  have c4:(↑k+ ↑(B [c]).size:Int)<= ↑(B l).size:=by omega
  have c5:(0:Int)<= ↑k+1:=by omega
  have c6:(↑k+1:Int)<= ↑(B l).size:=by omega
  have w1:=qX ((k:Int)+1) (by omega) (by omega);go_enter Tryz.func199,Tryz.ntmps199;go_wp2_with fail;refine(za Hix _).mono ?_;rintro e w1⟨rfl,rfl⟩;go_wp2
  go_region
  go_wp2;go_ret3;have e1:(B l).extract 0 k=B (l.take k):=by rw[qp];rfl
  have e2:(B l).extract (k+1) (B l).size=B (l.drop (k+1)):=by rw[qp,zj,Uh]
  rw[<-e1,<-e2];exact⟨rfl,(ue _ _).drew⟩
theorem zgC(l:List UInt8)(c:UInt8)(w:World)(hs:l.length<=1000000000):
  Calls Tryz.prog 179 #[.string (B l),.string (B [c])] w fun e w'=>e=.returned (.tuple #[.string (B (Y0 c l).1),.string (B (Y0 c l).2.1),.bool (Y0 c l).2.2])/\Below w.heap.size w w':=by
 go_enter Tryz.func179,Tryz.ntmps179;go_wp2_with fail;refine(zfA l c _ hs).mono ?_;rintro e w1⟨rfl,hb1⟩;go_wp2;go_ret3;exact⟨rfl,hb1⟩
theorem zbh(l:List UInt8)(c:UInt8)(w:World):
  Calls Tryz.prog 178 #[.string (B l),.string (B [c])] w fun e w'=>e=.returned (.bool (l.head?==some c))/\w'=w:=by
 have hs1:(B [c]).size=1:=rfl;cases l with
 |nil=>
  have hz:(B []).size=0:=rfl;go_enter Tryz.func178,Tryz.ntmps178;go_wp2;go_ret;exact⟨rfl,rfl⟩
 |cons d r=>
  have hz:(B (d::r)).size=r.length+1:=by rw[zj];rfl
  have he:(((B (d::r)).extract 0 1).toList==(B [c]).toList)=((d::r).head?==some c):=by
   rw[qp,jg,jg];simp
  go_enter Tryz.func178,Tryz.ntmps178;go_wp2;go_ret;exact⟨zF (by simp),rfl⟩
theorem Zj(l:List UInt8)(c:UInt8)(w:World):
  Calls Tryz.prog 156 #[.string (B l),.string (B [c])] w fun e w'=>e=.returned (.bool (l.head?==some c))/\w'=w:=by
 go_enter Tryz.func156,Tryz.ntmps156;go_wp2_with fail;refine(zbh l c _).mono ?_;rintro e w1⟨rfl,rfl⟩;go_wp2;go_ret;exact⟨rfl,rfl⟩
theorem kF(r:Int)(w:World):
  Calls Tryz.prog 155 #[.int .i64 r] w fun e w'=>e=.returned (.bool (zQ r))/\w'=w:=by
 unfold zQ;by_cases h2:(r==2)=true
 . go_enter Tryz.func155,Tryz.ntmps155
   go_wp2;go_ret;exact⟨zF (by simp[h2]),rfl⟩
 . have h2':(r==2)=false:=by simpa using h2
   clear h2;by_cases h8:(r==8)=true
   . go_enter Tryz.func155,Tryz.ntmps155
     go_wp2;go_ret;exact⟨zF (by simp[h8,h2']),rfl⟩
   . have h8':(r==8)=false:=by simpa using h8
     clear h8;by_cases h10:(r==10)=true
     . go_enter Tryz.func155,Tryz.ntmps155
       go_wp2;go_ret;exact⟨zF (by simp[h8',h2',h10]),rfl⟩
     . have h10':(r==10)=false:=by simpa using h10
       clear h10;by_cases h16:(r==16)=true
       . go_enter Tryz.func155,Tryz.ntmps155
         go_wp2;go_ret;exact⟨zF (by simp[h8',h2',h10',h16]),rfl⟩
       . have h16':(r==16)=false:=by simpa using h16
         clear h16;go_enter Tryz.func155,Tryz.ntmps155;go_wp2;go_ret;exact⟨zF (by simp[h8',h2',h10',h16']),rfl⟩
def Ql(x:Int):Int:=if 48<=x/\x<=57 then x-48 else if 97<=x/\x<=102 then x-87 else 99
def Y4(x:Int):Int:=if Ql x=99 then 0 else Ql x
theorem zcH(c:UInt8):Ql (c.toNat:Int)=(vU c:Nat):=by
 unfold Ql vU;by_cases h1:48<=c.toNat/\c.toNat<=57
 . rw[uj h1,uj (by omega)];omega
 . rw[ul h1,ul (by omega)]
   by_cases h2:97<=c.toNat/\c.toNat<=102
   . rw[uj h2,uj (by omega)];omega
   . rw[ul h2,ul (by omega)];rfl
theorem zcn(x:Int)(b:Nat)(w:World)(hb:b<=16):
  Calls Tryz.prog 200 #[.int .i64 b,.int .i32 x] w fun e w'=>e=.returned (.tuple #[.int .u64 (Y4 x),.bool (decide (Ql x<b))])/\w'=w:=by
 by_cases h1:48<=x/\x<=57
 . have hf:Ql x=x-48:=by unfold Ql;rw[uj h1]
   have hu:Y4 x=x-48:=by unfold Y4;rw[hf,ul (by omega)]
   rw[hf,hu];have e1:IntKind.wrap .i32 (x-48)=x-48:=by rw[IntKind.wrap_i32];omega
   have e2:=yN (x-48) (by omega) (by omega);have e3:=qX (x-48) (by omega) (by omega);obtain⟨h1a,h1b⟩:=h1;clear hf hu;go_enter Tryz.func200,Tryz.ntmps200;go_wp2
   go_ret2
   exact⟨rfl,rfl⟩
 . by_cases h2:97<=x/\x<=102
   . have hf:Ql x=x-87:=by unfold Ql;rw[ul h1,uj h2]
     have hu:Y4 x=x-87:=by unfold Y4;rw[hf,ul (by omega)]
     rw[hf,hu];have e1:IntKind.wrap .i32 (x-87)=x-87:=by rw[IntKind.wrap_i32];omega
     have e2:=yN (x-87) (by omega) (by omega);have e3:=qX (x-87) (by omega) (by omega);have a1:48<=x:=by omega
     have a2:¬x<=57:=by omega
     obtain⟨h2a,h2b⟩:=h2;clear hf hu h1;go_enter Tryz.func200,Tryz.ntmps200;go_wp2
     go_ret2
     exact⟨rfl,rfl⟩
   . have hf:Ql x=99:=by unfold Ql;rw[ul h1,ul h2]
     have hu:Y4 x=0:=by unfold Y4;rw[hf,uj rfl]
     have hd:decide (Ql x<b)=false:=by rw[hf];exact uw (by omega)
     rw[hd,hu];clear hf hu hd;by_cases a1:48<=x
     . have a2:¬x<=57:=by omega
       by_cases a3:97<=x
       . have a4:¬x<=102:=by omega
         clear h1 h2;go_enter Tryz.func200,Tryz.ntmps200;go_wp2
         go_ret2
         exact⟨rfl,rfl⟩
       . clear h1 h2
         go_enter Tryz.func200,Tryz.ntmps200;go_wp2
         go_ret2
         exact⟨rfl,rfl⟩
     . have a3:¬97<=x:=by omega
       clear h1 h2;go_enter Tryz.func200,Tryz.ntmps200;go_wp2
       go_ret2
       exact⟨rfl,rfl⟩
theorem zeX(l:List UInt8)(pos:Nat)(h:pos<l.length):
  ((l[pos]).toNat<128/\Utf8.decode (B l) pos=((l[pos]).toNat,1))\/(vU (l[pos])=99/\128<=(Utf8.decode (B l) pos).1):=by
 have h2:pos<(B l).size:=by rw[zj];exact h
 have hg:((B l)[pos]'h2)=l[pos]'h:=j4 l pos h2;by_cases ha:(l[pos]).toNat<128
 . have:=decode_ascii (B l) pos h2 (by rw[hg];exact ha)
   rw[hg]at this;exact .inl ⟨ha,this⟩
 . have:=decode_high (B l) pos h2 (by rw[hg];omega)
   refine .inr ⟨?_,this.1⟩;unfold vU;rw[ul (by omega),ul (by omega)]
theorem Ks{w:World}{base:Nat}{e:TypeId}{size:Nat}{v:Value}{n:Nat}{xs:List Value}(h:w.ownsRow base e size v n xs){k:Nat}(hk:k<base):v.ownBlock≠some k:=by
 intro hh;have:=(h.lt _ hh).1;omega
theorem Zd(w:World):zy (w.alloc (.cells #[] 173)) (.slice (some ⟨w.heap.size,0,none⟩) 0 0) 0:=by
 unfold zy;rw[vr];exact zV (Wt w #[] 0 (ud _) (by decide) (by simp)) (uD _)
theorem Kx(l:List UInt8)(b:Nat)(w:World)(hb2:2<=b)(hb16:b<=16)(hs:l.length<=10000):
  Calls Tryz.prog 180 #[.int .i64 b,.string (B l)] w fun e w'=>(∃v',e=.returned (.tuple #[v',.bool (yq b l)])/\zy w' v' (qZ b l))/\Below w.heap.size w w':=by
 go_enter Tryz.func180,Tryz.ntmps180;go_wp2
 go_loopw [6,8,9,10] (fun v _ _ _ wr=>∃pos:Nat,pos<=l.length/\wr.heap[w.heap.size+1]? =some (.stringIter (B l) pos)/\zy wr v (Zk b (l.take pos))/\v.ownBlock≠some (w.heap.size+1)/\Below w.heap.size w wr/\w.heap.size+2<=wr.heap.size/\Hid (∀c∈l.take pos,vU c<b))
  (fun _ _ _ _ wr=>l.length-wr.iterPos (w.heap.size+1))
 case atStart=>
  refine⟨0,uD _,?_,?_,?_,?_,?_,zb (by simp)⟩
  . simpa using WN (w.alloc (.cells #[] 173)) (B l) 0
  . exact zu (Zd w) ((ue _ _).alloc (ud _) _)
  . simp[Value.ownBlock]
  . exact((ue _ _).alloc (ud _) _).alloc (by simp) _
  . simp[World.iter]
 case round=>
  obtain⟨pos,hpl,hit,hown,hob,hb,hsz,hdg⟩:=hrel;have hpos0:=iterPos_of hit;by_cases hlt:pos<l.length
  . have hlt2:pos<(B l).size:=by rw[zj];exact hlt
    have hnx:=fun ty=>Lib.run_next_any_at (P:=Tryz.prog) wr (w.heap.size+1) (B l) pos ty hit hlt2
    have hbad:=@Ko b l pos hlt;rcases zeX l pos hlt with⟨h1,h3⟩|⟨h1,h2⟩
    . rw[h3]at hnx
      have hit2:=Lib.iterAt_heap wr (w.heap.size+1) (B l) pos (pos+1) hit;have hb2:=Lib.below_iterAt hb (k:=w.heap.size+1) (by omega) (B l) (pos+1);have hown2:zy _ _ _:=Vx hown hob (B l) (pos+1);have hpos2:=iterPos_of hit2;have hsn:=VP l pos hlt;have hlk:=zbj b (l.take pos) (za hdg);rw[uH,Uq hpl]at hlk;have hsk:=xx hb16 hlk;have hgk:=yE (n:=2*pos+1) hsk;have hdI:=zcH (l[pos]'hlt);have hsz2:w.heap.size+2<=(wr.iterAt (w.heap.size+1) (B l) (pos+1)).heap.size:=by rw[Lib.iterAt_size];exact hsz
      obtain⟨W1,hW1⟩:∃W1,W1=wr.iterAt (w.heap.size+1) (B l) (pos+1):=⟨_,rfl⟩
      rw[<-hW1]at hnx hit2 hb2 hown2 hpos2 hsz2;have hsnN:=uB (Zk b) hsn;rw[VD]at hsnN;generalize hnn:Zk b (l.take pos)=n at *;generalize hcc:l[pos]'hlt=c at *;have hvc:=fun w=>zcn (c.toNat:Int) b w hb16
      rw[hdI]at hvc;by_cases hge:b<=vU c
      . have Hf:=zb (hbad hge)
        rw[uw (by omega)]at hvc;have Hv:=zb hvc;clear hbad hsnN hsn hlk hnn hcc hit hpos0 h3 h1 hW1 hvc hdI;go_wp2_with fail;refine(za Hv _).mono ?_;rintro e w1⟨rfl,rfl⟩;go_wp2
        go_ret2
        refine⟨⟨.slice (some ⟨w1.heap.size,0,none⟩) 0 0,by rw[za Hf];rfl,?_⟩,hb2.alloc hb2.size _⟩;unfold qZ;rw[za Hf];exact Zd w1
      . have hd16:vU c<16:=by omega
        have hdu:Y4 (c.toNat:Int)=vU c:=by unfold Y4;rw[hdI,ul (by omega)]
        rw[hdu,uy (by omega)]at hvc;have Hv:=zb hvc;have Hit2:=zb hit2;have Hp0:=zb hpos0;have Hp2:=zb hpos2;have Hn:=zb hsnN;have Hdg2:Hid (∀x∈l.take (pos+1),vU x<b):=by
         intro x hx;rw[hsn]at hx;rcases uA.1 hx with hx|hx
         . exact za hdg x hx
         . simp only[dz]at hx;subst hx;omega
        have e1:=yN (b:Int) (by omega) (by omega);generalize vU c=d at *;clear hbad hsnN hsn hlk hnn hcc hit hit2 hpos0 hpos2 h3 h1 hW1 hvc hdI hdu;go_wp2_with fail;refine(za Hv _).mono ?_;rintro e w1⟨rfl,rfl⟩;go_wp2_with fail;refine(Jt n b d _ _ hown2 (by omega) (by omega) (by omega)).mono ?_;rintro e w2⟨⟨v2,rfl,hv2⟩,hbw⟩;have hlt3:w.heap.size+1<w1.heap.size:=by omega
        have Hit3:Hid (w2.heap[w.heap.size+1]? =some (.stringIter (B l) (pos+1))):=by
         show _=_;rw[hbw.block _ hlt3];exact za Hit2
        have Hp3:=zb (iterPos_of (za Hit3));have hob2:=Ks hv2 hlt3;have hbs:=hbw.size;go_wp2;go_roundw
        case rel=>exact⟨pos+1,by omega,za Hit3,by rw[za Hn];exact hv2.nat,hob2,hb2.trans (hbw.mono hb2.size),by omega,Hdg2⟩
        case measure=>rw[za Hp0,za Hp3];omega
    . have hb2:=Lib.below_iterAt hb (k:=w.heap.size+1) (by omega) (B l) (pos+(Utf8.decode (B l) pos).2)
      have hf:=hbad (by omega);have Hf:=zb hf;generalize Utf8.decode (B l) pos=rw_ at *;have hdI:Ql (rw_.1:Int)=99:=by unfold Ql;rw[ul (by omega),ul (by omega)]
      have hvc:=fun w=>zcn (rw_.1:Int) b w hb16
      rw[hdI,uw (by omega)]at hvc;have Hv:=zb hvc;clear hbad hf h1 h2 hit hpos0 hdI hvc;go_wp2_with fail;refine(za Hv _).mono ?_;rintro e w1⟨rfl,rfl⟩;go_wp2
      go_ret2
      refine⟨⟨.slice (some ⟨(wr.iterAt (w.heap.size+1) (B l) (pos+rw_.2)).heap.size,0,none⟩) 0 0,by rw[za Hf];rfl,?_⟩,hb2.alloc hb2.size _⟩;unfold qZ;rw[za Hf];exact Zd _
  . have hlt2:¬pos<(B l).size:=by rw[zj];exact hlt
    have hnx:=fun ty=>Lib.run_next_end_at (P:=Tryz.prog) wr (w.heap.size+1) (B l) pos ty hit hlt2
    have htk:l.take pos=l:=uz (by omega);rw[htk]at hown;have hall:=za hdg;rw[htk]at hall;have hok:yq b l= !l.isEmpty:=by
     cases l with
     |nil=>rfl
     |cons c r=>rw[Vs (by simp) hall];rfl
    have hnv:qZ b l=Zk b l:=by
     unfold qZ;cases l with
     |nil=>simp[Zk]
     |cons c r=>rw[uj (Vs (by simp) hall)]
    have Hok:=zb hok;have Hnv:=zb hnv;clear hok hnv hall htk;go_wp2
    go_ret2
    refine⟨⟨u6,?_,by rw[za Hnv];exact hown⟩,hb⟩;show Ending.returned (.tuple #[u6,.bool (!(B l).toList.isEmpty)])=_;rw[jg,za Hok]
theorem zaH(p:Nat):gr (10^p)=(List.replicate (p/9+1) 0).set (p/9) (10^(p%9)):=by
 have hpow:10^(p%9)<=100000000:=by
  have:(10:Nat)^(p%9)<=10^8:=UC (by omega) (by omega);exact this
 have hpos:10^(p%9)≠0:=by have:=Nat.pow_pos (n:=p%9) (show 0<10 by omega);omega
 have hset:(List.replicate (p/9+1) 0).set (p/9) (10^(p%9))=List.replicate (p/9) 0++[10^(p%9)]:=by
  rw[List.replicate_succ',List.set_append_right _ _ (by simp)];simp
 rw[hset];have h1:=ki (List.replicate (p/9) 0) (10^(p%9)) hpos;have h2:∀d∈List.replicate (p/9) 0++[10^(p%9)],d<1000000000:=by
  intro d hd;rcases uA.1 hd with h|h
  . have:=List.eq_of_mem_replicate h;omega
  . simp only[dz]at h;omega
 have h3:=Xi h2;rw[h1,qz,qD,Wv,Q5,Uz]at h3;exact h3.symm
theorem XG(p:Nat)(w:World)(hp:p<=10000)(hT:Tens w):
  Calls Tryz.prog 181 #[.int .i64 p] w fun e w'=>(∃v',e=.returned v'/\zy w' v' (10^p))/\Below w.heap.size w w':=by
 obtain⟨i0,hi,hz0,hz1,hz2⟩:=Ue Tryz.infoU64;obtain⟨q,hq⟩:∃q,p/9=q:=⟨_,rfl⟩
 obtain⟨r,hr⟩:∃r,p%9=r:=⟨_,rfl⟩
 have hG:(p:Int)/9+1=((q+1:Nat):Int):=by omega
 have e1:(p:Int).tdiv 9=q:=by rw[Up (by omega)];omega
 have e2:(p:Int).tmod 9=r:=by rw[Uo (by omega)];omega
 have e3:=qX (q:Int) (by omega) (by omega);have hg:=zaH p;rw[hq,hr]at hg;obtain⟨t,ht⟩:∃t,10^r=t:=⟨_,rfl⟩
 rw[ht]at hg;have Hg:=zb hg;have HT:=zb hT;clear hg hT;go_enter Tryz.func181,Tryz.ntmps181;go_wp2_with (refine UY _ rfl (.tmp 6) (.tmp 6) 178 rfl w.heap.size 173 i0 (.int .u64 0) 1 UJ hi hz0 hz1 .i64 .i64 (q+1) (q+1) (q+1) rfl rfl (by go_num) (by go_num) (by rw[hz2];omega) (by unfold maxLen;omega) (ud _) ?_;intro w1 hown1 hg1;have hown0:w1.ownsRow w.heap.size 173 1 (.slice (some ⟨w.heap.size,0,none⟩) (q+1) (q+1)) (q+1) (zO (List.replicate (q+1) 0)):=(by simpa[Value.cells,Ul,jC]using hown1);have hb1:Below w.heap.size w w1:=(ue _ _).grown hg1 (ud _) (fun _ h=>by cases h);have hT2:=((za HT).belowB hb1 (za HT).lt) r (by omega);rw[ht]at hT2;have hcx:w1.cell? ⟨w.heap.size,q,none⟩=some (.int .u64 0):=(by have h:=hown0.cellAt q (by omega);rw[zz _ _ (by simp)]at h;simpa using h);have hfr:=hown0.frozenAt q;have hst2:=hown0.stored q (.int .u64 (t:Int));rw[jU _ _ t _ rfl,<-za Hg]at hst2;have Hst2:=zb hst2;clear hst2 hown1 hg1);go_ret;refine⟨⟨_,rfl,?_⟩,hb1.setCell (by simp) _⟩;have h1:=(za Hst2).1;unfold zy;have hl:(gr (10^p)).length=q+1:=by rw[za Hg];simp
 rw[hl];exact zV h1 (uD _)
def qv(b:Nat)(l:List UInt8):Nat×Nat×Bool:=
 match zZ 47 l with
 |some k=>(qZ b (l.take k),qZ b (l.drop (k+1)),yq b (l.take k)&&yq b (l.drop (k+1)))
 |none=>match zZ 46 l with
  |some k=>if b=10 then(qZ 10 (l.take k++l.drop (k+1)),10^(l.drop (k+1)).length,yq 10 (l.take k++l.drop (k+1)))else(0,0,false)
  |none=>(qZ b l,1,yq b l)
theorem zcL{c:UInt8}:∀ {l:List UInt8}{k:Nat},zZ c l=some k->l[k]? =some c:=by
 intro l
 induction l with
 |nil=>intro k h;simp[zZ]at h
 |cons d r ih=>
  intro k h;simp only[zZ]at h
  split at h
  . rename_i hd;simp at h;subst h;simp[hd]
  . cases hr:zZ c r with
    |none=>rw[hr]at h;simp at h
    |some j=>rw[hr]at h;simp at h;subst h;simpa using ih hr
theorem Zb(neg:Bool)(u:Nat):zB neg u 0=none:=by simp[zB]
theorem ZY(neg:Bool){b:Nat}(hb:b<=16)(l:List UInt8):qT neg b l=if(qv b l).2.2 then zB neg (qv b l).1 (qv b l).2.1 else none:=by
 unfold qT qv;cases h47:zZ 47 l with
 |some k=>
  show kd neg b _ _=if(yq b _&&yq b _)=true then zB neg (qZ b _) (qZ b _)else none
  unfold kd;by_cases h:(yq b (l.take k)&&yq b (l.drop (k+1)))=true
  . rw[uj h,uj h]
    simp only[ux]at h;unfold qZ;rw[uj h.1,uj h.2]
  . rw[ul h,ul h]
 |none=>
  cases h46:zZ 46 l with
  |some k=>
   by_cases h10:b=10
   . simp only[h10,if_true]
     unfold vO qZ;by_cases h:yq 10 (l.take k++l.drop (k+1))=true
     . rw[uj h,uj h,uj h]
     . rw[ul h,ul h]
   . simp only[h10,if_false]
     unfold vN;have hlt:=vf h46;have hg:=zcL h46;rw[uf hlt]at hg;have hc:l[k]=46:=by simpa using hg
     rw[Ko k hlt (by rw[hc];show b<=99;omega)];rfl
  |none=>
   show vN neg b l=if yq b l=true then zB neg (qZ b l) 1 else none
   unfold vN qZ;by_cases h:yq b l=true
   . rw[uj h,uj h,uj h]
   . rw[ul h,ul h]
theorem Zl(l:List UInt8)(b:Nat)(w:World)(hb2:2<=b)(hb16:b<=16)(hs:l.length<=1000)(hT:Tens w):
  Calls Tryz.prog 157 #[.int .i64 b,.string (B l)] w fun e w'=>(∃vu vd,e=.returned (.tuple #[vu,vd,.bool (qv b l).2.2])/\zy w' vu (qv b l).1/\zy w' vd (qv b l).2.1)/\Below w.heap.size w w':=by
 have HT:=zb hT;clear hT;have hc:=fun w=>zgC l 47 w (by omega)
 unfold Y0 at hc;unfold qv;cases h47:zZ 47 l with
 |some k=>
  rw[h47]at hc;dsimp only at hc;have Hc:=zb hc;have hl1:(l.take k).length<=10000:=by rw[uH];omega
  have hl2:(l.drop (k+1)).length<=10000:=by rw[wR];omega
  dsimp only;generalize l.take k=x at *;generalize l.drop (k+1)=y at *;clear hc h47;go_enter Tryz.func157,Tryz.ntmps157;go_wp2_with fail;refine(za Hc _).mono ?_;rintro e w1⟨rfl,hb1⟩;go_wp2_with fail;have h:=Kx x b w1 hb2 hb16 hl1;refine h.mono ?_;clear h;rintro e w2⟨⟨v2,rfl,hv2⟩,hbb2⟩;clear Hc;have hb2w:=hb1.trans (hbb2.mono hb1.size);have Hv2:=zb hv2;clear hv2;go_wp2_with fail;have h:=Kx y b w2 hb2 hb16 hl2;refine h.mono ?_;clear h;rintro e w3⟨⟨v3,rfl,hv3⟩,hbb3⟩;have hb3w:=hb2w.trans (hbb3.mono hb2w.size);have Hv3:=zb hv3;have Hv2':=zb (zt (za Hv2) hbb3);clear hv3;cases hx:yq b x with
  |true=>
   go_wp2;go_ret3;exact⟨⟨v2,v3,by rw[hx];rfl,za Hv2',za Hv3⟩,hb3w⟩
  |false=>
   go_wp2;go_ret3;exact⟨⟨v2,v3,by rw[hx];rfl,za Hv2',za Hv3⟩,hb3w⟩
 |none=>
  rw[h47]at hc;have Hc:=zb hc;have hc2:=fun w=>zgC l 46 w (by omega)
  unfold Y0 at hc2;cases h46:zZ 46 l with
  |some k=>
   rw[h46]at hc2;dsimp only at hc hc2;have Hc2:=zb hc2;by_cases h10:b=10
   . subst h10
     have hl1:(l.take k++l.drop (k+1)).length<=10000:=by rw[uG,uH,wR];omega
     have hly:(l.drop (k+1)).length<=1000:=by rw[wR];omega
     have hlx:(l.take k).length<=1000:=by rw[uH];omega
     dsimp only;rw[uj rfl];generalize l.take k=x at *;generalize l.drop (k+1)=y at *;have hap:=qf x y;have hszx:¬9223372036854775807<(B x).size+(B y).size:=by rw[zj,zj];omega
     have hszy:((B y).size:Int)=(y.length:Int):=by rw[zj]
     clear hc hc2 h47 h46;go_enter Tryz.func157,Tryz.ntmps157;go_wp2_with fail;refine(za Hc _).mono ?_;rintro e w1⟨rfl,hb1⟩;go_wp2_with fail;refine(za Hc2 _).mono ?_;rintro e w2⟨rfl,hbb2⟩;have hb2w:=hb1.trans (hbb2.mono hb1.size);clear Hc Hc2 hbb2;go_wp2_with fail;have h:=Kx (x++y) 10 w2 (by omega) (by omega) hl1;refine h.mono ?_;clear h;rintro e w3⟨⟨v3,rfl,hv3⟩,hbb3⟩;have hb3w:=hb2w.trans (hbb3.mono hb2w.size);have Hv3:=zb hv3;clear hv3;go_wp2_with fail;have h:=XG y.length w3 (by omega) ((za HT).below hb3w);refine h.mono ?_;clear h;rintro e w4⟨⟨v4,rfl,hv4⟩,hbb4⟩;have hb4w:=hb3w.trans (hbb4.mono hb3w.size);have Hv4:=zb hv4;have Hv3':=zb (zt (za Hv3) hbb4);clear hv4;go_wp2;go_ret3;exact⟨⟨v3,v4,rfl,za Hv3',za Hv4⟩,hb4w⟩
   . have hnb:((b:Int)==10)=false:=by rw[ug];omega
     dsimp only;rw[ul h10];generalize l.take k=x at *;generalize l.drop (k+1)=y at *;clear hc hc2 h47 h46;go_enter Tryz.func157,Tryz.ntmps157;go_wp2_with fail;refine(za Hc _).mono ?_;rintro e w1⟨rfl,hb1⟩;go_wp2_with fail;refine(za Hc2 _).mono ?_;rintro e w2⟨rfl,hbb2⟩;have hb2w:=hb1.trans (hbb2.mono hb1.size);clear Hc Hc2 hbb2;go_wp2;go_ret3;refine⟨⟨.slice (some ⟨w2.heap.size,0,none⟩) 0 0,.slice (some ⟨w2.heap.size+1,0,none⟩) 0 0,rfl,?_,?_⟩,?_⟩
     . exact zt (Zd w2) ((ue _ _).alloc (ud _) _)
     . have h:=Zd (w2.alloc (.cells #[] 173))
       simpa using h
     . exact(hb2w.alloc hb2w.size _).alloc (by have:=hb2w.size;simp;omega) _
  |none=>
   rw[h46]at hc2;dsimp only at hc hc2;have Hc2:=zb hc2;have hap:B l++B []=B l:=by rw[qf,du]
   have hszx:¬9223372036854775807<(B l).size+(B []).size:=by rw[zj,zj];simp;omega
   have hszy:((B []).size:Int)=((0:Nat):Int):=rfl;clear hc hc2 h47 h46;go_enter Tryz.func157,Tryz.ntmps157;go_wp2_with fail;refine(za Hc _).mono ?_;rintro e w1⟨rfl,hb1⟩;go_wp2_with fail;refine(za Hc2 _).mono ?_;rintro e w2⟨rfl,hbb2⟩;have hb2w:=hb1.trans (hbb2.mono hb1.size);clear Hc Hc2 hbb2;go_wp2_with fail;have h:=Kx l b w2 (by omega) (by omega) (by omega);refine h.mono ?_;clear h;rintro e w3⟨⟨v3,rfl,hv3⟩,hbb3⟩;have hb3w:=hb2w.trans (hbb3.mono hb2w.size);have Hv3:=zb hv3;clear hv3;go_wp2_with fail;have h:=XG 0 w3 (by omega) ((za HT).below hb3w);refine h.mono ?_;clear h;rintro e w4⟨⟨v4,rfl,hv4⟩,hbb4⟩;have hb4w:=hb3w.trans (hbb4.mono hb3w.size);have Hv4:=zb hv4;have Hv3':=zb (zt (za Hv3) hbb4);clear hv4;go_wp2;go_ret3;exact⟨⟨v3,v4,rfl,za Hv3',za Hv4⟩,hb4w⟩
theorem JN{b:Nat}(hb:b<=16)(l:List UInt8):(gr (qZ b l)).length<=2*l.length+1:=by
 unfold qZ;by_cases h:yq b l=true
 . rw[uj h];exact yE (yC hb h)
 . rw[ul h,vr];simp
theorem VB{b:Nat}(hb:b<=16)(l:List UInt8)(hl:l.length<=240):(gr (qv b l).1).length<=1000/\(gr (qv b l).2.1).length<=1000:=by
 unfold qv;cases h47:zZ 47 l with
 |some k=>
  dsimp only;refine⟨uC (JN hb _) ?_,uC (JN hb _) ?_⟩
  . rw[uH];omega
  . rw[wR];omega
 |none=>
  cases h46:zZ 46 l with
  |some k=>
   dsimp only;by_cases h10:b=10
   . rw[uj h10]
     refine⟨uC (JN (by omega) _) ?_,?_⟩
     . rw[uG,uH,wR];omega
     . rw[zaH,List.length_set,Wv,wR];omega
   . rw[ul h10,vr];simp
  |none=>
   dsimp only;refine⟨uC (JN hb _) (by omega),?_⟩;have:=zaH 0;rw[Nat.pow_zero]at this;rw[this,List.length_set,Wv];omega
theorem kC(l:List UInt8)(b:Nat)(w:World)(hb4:b=2\/b=8\/b=10\/b=16)(hl:l.length<=240)(h45:(l.head?==some 45)=false)(h43:(l.head?==some 43)=false)(hT:Tens w):
  Calls Tryz.prog 128 #[.string (B l),.int .i64 b] w fun e w'=>e=.returned (zg (zw l b))/\Below w.heap.size w w':=by
 have hr:zQ (b:Int)=true:=by rcases hb4 with rfl|rfl|rfl|rfl<;>rfl
 have Hm:Hid (zw l (b:Int)=qT false b l):=by
  show _=_;rw[vZ l b hb4 hl];cases l with
  |nil=>rfl
  |cons c t=>
   show(if c=45 then qT true b t else if c=43 then qT false b t else qT false b (c::t))=_;rw[ul (by simpa using h45),ul (by simpa using h43)]
 have hsz:¬(240:Int)<((B l).size:Int):=by rw[zj];omega
 have h1:=fun w=>kF (b:Int) w
 have h2:=fun w=>Zj l 45 w
 have h3:=fun w=>Zj l 43 w
 rw[hr]at h1;rw[h45]at h2;rw[h43]at h3;have H1:=zb h1;have H2:=zb h2;have H3:=zb h3;have HT:=zb hT;clear h1 h2 h3 hT hr h45 h43;go_enter Tryz.func128,Tryz.ntmps128;go_wp2_with fail;refine(za H1 _).mono ?_;rintro e w1⟨rfl,rfl⟩;go_wp2_with fail;refine(za H2 _).mono ?_;rintro e w1⟨rfl,rfl⟩;go_wp2_with fail;refine(za H3 _).mono ?_;rintro e w1⟨rfl,rfl⟩;clear H1 H2 H3;have Hpb:Hid (zw l (b:Int)=if(qv b l).2.2 then zB false (qv b l).1 (qv b l).2.1 else none):=zb ((za Hm).trans (ZY false (by omega) l));have hgs:=VB (b:=b) (by omega) l (by omega);clear Hm;go_wp2_with fail;have h:=Zl l b (w.alloc (.cells #[.bool false,.string ⟨#[]⟩,.string ⟨#[]⟩] 79)) (by omega) (by omega) (by omega) ((za HT).below ((ue _ _).alloc (ud _) _));refine h.mono ?_;clear h;rintro e w2⟨⟨vu,vd,rfl,hvu,hvd⟩,hb2⟩;have hb0:=zn hb2;have hz0:w.heap.size+1<=w2.heap.size:=by have:=hb2.size;simpa using this
 have HT2:=zb ((za HT).below (zm hb0));generalize (qv b l).1=pu at *;generalize (qv b l).2.1=pd at *;generalize (qv b l).2.2=po at *;obtain⟨pp,cp,hvs⟩:=zq hvd;subst hvs;have Hvu:=zb hvu;have Hvd:=zb hvd;clear hvu hvd hb2;cases po with
 |false=>
  have c0:=ze hb0 0;have c1:=ze hb0 1;have c2:=ze hb0 2;have f0:=zh hb0 0;have f1:=zh hb0 1;have f2:=zh hb0 2;have hbX:=zm hb0;simp at c0 c1 c2;clear hb0;go_wp2;refine um (v:=zg none) (by simp[results,wN,go_sem,zg,qe,qF,zH,c0,c1,c2]) rfl ⟨by rw[za Hpb];rfl,?_⟩;exact zv hbX _ (ud _) _ _ _
 |true=>
  by_cases hd:pd=0
  . have hl0:(((gr pd).length:Int)==0)=true:=by rw[hd,vr];rfl
    have Hf:Hid (zw l (b:Int)=none):=by show _=_;rw[za Hpb,hd,uj rfl,Zb]
    clear hd;have c0:=ze hb0 0;have c1:=ze hb0 1;have c2:=ze hb0 2;have f0:=zh hb0 0;have f1:=zh hb0 1;have f2:=zh hb0 2;have hbX:=zm hb0;simp at c0 c1 c2;clear hb0;go_wp2;refine um (v:=zg none) (by simp[results,wN,go_sem,zg,qe,qF,zH,c0,c1,c2]) rfl ⟨by rw[za Hf],?_⟩;exact zv hbX _ (ud _) _ _ _
  . have hl0:(((gr pd).length:Int)==0)=false:=by rw[ug];have:=mt xA.1 hd;omega
    have Hov2:Hid (zw l (b:Int)=zB false pu pd):=by show _=_;rw[za Hpb,uj rfl]
    have hdp:0<pd:=by omega
    clear hd;go_wp2_with fail;have h:=Ze false pu pd vu _ w2 (za Hvu) (za Hvd) hdp (by omega) (by omega) (za HT2);refine h.mono ?_;clear h;rintro e w3⟨rfl,hb3⟩;have hn3:=zk hb0 hz0 hb3;have c0:=ze hn3.1 0;have c1:=ze hn3.1 1;have c2:=ze hn3.1 2;have f0:=zh hn3.1 0;have f1:=zh hn3.1 1;have f2:=zh hn3.1 2;have hbX:=zm hn3.1;simp at c0 c1 c2;clear hb3 hb0 hn3 hl0 hdp;generalize zB false pu pd=o at *;unfold zg;obtain⟨n3,u3,d3,ho⟩:∃n3 u3 d3,qe o=zH n3 u3 d3:=by
     cases o with
     |none=>exact⟨_,_,_,rfl⟩
     |some p=>exact⟨_,_,_,rfl⟩
    have Ho:=zb ho;rw[ho];unfold zH;clear ho;go_wp2;refine um (v:=zg o) (by simp[results,wN,go_sem,zg,za Ho,zH,c0,c1,c2]) rfl ⟨by rw[za Hov2],?_⟩;exact zv hbX _ (ud _) _ _ _
theorem Z2(t:List UInt8)(b:Nat)(w:World)(hb4:b=2\/b=8\/b=10\/b=16)(hlen:(45::t).length<=240)(hT:Tens w):
  Calls Tryz.prog 128 #[.string (B (45::t)),.int .i64 b] w fun e w'=>e=.returned (zg (zw (45::t) b))/\Below w.heap.size w w':=by
 have hr:zQ (b:Int)=true:=by rcases hb4 with rfl|rfl|rfl|rfl<;>rfl
 obtain⟨l,hl⟩:∃l:List UInt8,l=45::t:=⟨_,rfl⟩
 rw[<-hl];rw[<-hl]at hlen;have Hm:Hid (zw l (b:Int)=qT true b t):=by
  show _=_;rw[vZ l b hb4 hlen,hl];rfl
 have htl:t.length<=240:=by rw[hl]at hlen;simp at hlen;omega
 have hsz:¬(240:Int)<((B l).size:Int):=by rw[zj];omega
 have hcut:(B l).extract 1 (B l).size=B t:=by rw[qp,zj,Uh,hl];rfl
 have hszp:(1:Int)<=((B l).size:Int):=by rw[zj,hl];simp;omega
 have h1:=fun w=>kF (b:Int) w
 have h2:=fun w=>Zj l 45 w
 rw[hr]at h1;rw[show(l.head?==some 45)=true from by rw[hl];rfl]at h2;have H1:=zb h1;have H2:=zb h2;have HT:=zb hT;clear h1 h2 hT hr hl;go_enter Tryz.func128,Tryz.ntmps128;go_wp2_with fail;refine(za H1 _).mono ?_;rintro e w1⟨rfl,rfl⟩;go_wp2_with fail;refine(za H2 _).mono ?_;rintro e w1⟨rfl,rfl⟩;clear H1 H2;have Hpb:Hid (zw l (b:Int)=if(qv b t).2.2 then zB true (qv b t).1 (qv b t).2.1 else none):=zb ((za Hm).trans (ZY true (by omega) t));have hgs:=VB (b:=b) (by omega) t (by omega);clear Hm;go_wp2_with fail;have h:=Zl t b (w.alloc (.cells #[.bool false,.string ⟨#[]⟩,.string ⟨#[]⟩] 79)) (by omega) (by omega) (by omega) ((za HT).below ((ue _ _).alloc (ud _) _));refine h.mono ?_;clear h;rintro e w2⟨⟨vu,vd,rfl,hvu,hvd⟩,hb2⟩;have hb0:=zn hb2;have hz0:w.heap.size+1<=w2.heap.size:=by have:=hb2.size;simpa using this
 have HT2:=zb ((za HT).below (zm hb0));generalize (qv b t).1=pu at *;generalize (qv b t).2.1=pd at *;generalize (qv b t).2.2=po at *;obtain⟨pp,cp,hvs⟩:=zq hvd;subst hvs;have Hvu:=zb hvu;have Hvd:=zb hvd;clear hvu hvd hb2;cases po with
 |false=>
  have c0:=ze hb0 0;have c1:=ze hb0 1;have c2:=ze hb0 2;have f0:=zh hb0 0;have f1:=zh hb0 1;have f2:=zh hb0 2;have hbX:=zm hb0;simp at c0 c1 c2;clear hb0;go_wp2;refine um (v:=zg none) (by simp[results,wN,go_sem,zg,qe,qF,zH,c0,c1,c2]) rfl ⟨by rw[za Hpb];rfl,?_⟩;exact zv hbX _ (ud _) _ _ _
 |true=>
  by_cases hd:pd=0
  . have hl0:(((gr pd).length:Int)==0)=true:=by rw[hd,vr];rfl
    have Hf:Hid (zw l (b:Int)=none):=by show _=_;rw[za Hpb,hd,uj rfl,Zb]
    clear hd;have c0:=ze hb0 0;have c1:=ze hb0 1;have c2:=ze hb0 2;have f0:=zh hb0 0;have f1:=zh hb0 1;have f2:=zh hb0 2;have hbX:=zm hb0;simp at c0 c1 c2;clear hb0;go_wp2;refine um (v:=zg none) (by simp[results,wN,go_sem,zg,qe,qF,zH,c0,c1,c2]) rfl ⟨by rw[za Hf],?_⟩;exact zv hbX _ (ud _) _ _ _
  . have hl0:(((gr pd).length:Int)==0)=false:=by rw[ug];have:=mt xA.1 hd;omega
    have Hov2:Hid (zw l (b:Int)=zB true pu pd):=by show _=_;rw[za Hpb,uj rfl]
    have hdp:0<pd:=by omega
    clear hd;go_wp2_with fail;have h:=Ze true pu pd vu _ w2 (za Hvu) (za Hvd) hdp (by omega) (by omega) (za HT2);refine h.mono ?_;clear h;rintro e w3⟨rfl,hb3⟩;have hn3:=zk hb0 hz0 hb3;have c0:=ze hn3.1 0;have c1:=ze hn3.1 1;have c2:=ze hn3.1 2;have f0:=zh hn3.1 0;have f1:=zh hn3.1 1;have f2:=zh hn3.1 2;have hbX:=zm hn3.1;simp at c0 c1 c2;clear hb3 hb0 hn3 hl0 hdp;generalize zB true pu pd=o at *;unfold zg;obtain⟨n3,u3,d3,ho⟩:∃n3 u3 d3,qe o=zH n3 u3 d3:=by
     cases o with
     |none=>exact⟨_,_,_,rfl⟩
     |some p=>exact⟨_,_,_,rfl⟩
    have Ho:=zb ho;rw[ho];unfold zH;clear ho;go_wp2;refine um (v:=zg o) (by simp[results,wN,go_sem,zg,za Ho,zH,c0,c1,c2]) rfl ⟨by rw[za Hov2],?_⟩;exact zv hbX _ (ud _) _ _ _
theorem Qn(t:List UInt8)(b:Nat)(w:World)(hb4:b=2\/b=8\/b=10\/b=16)(hlen:(43::t).length<=240)(hT:Tens w):
  Calls Tryz.prog 128 #[.string (B (43::t)),.int .i64 b] w fun e w'=>e=.returned (zg (zw (43::t) b))/\Below w.heap.size w w':=by
 have hr:zQ (b:Int)=true:=by rcases hb4 with rfl|rfl|rfl|rfl<;>rfl
 obtain⟨l,hl⟩:∃l:List UInt8,l=43::t:=⟨_,rfl⟩
 rw[<-hl];rw[<-hl]at hlen;have Hm:Hid (zw l (b:Int)=qT false b t):=by
  show _=_;rw[vZ l b hb4 hlen,hl];rfl
 have htl:t.length<=240:=by rw[hl]at hlen;simp at hlen;omega
 have hsz:¬(240:Int)<((B l).size:Int):=by rw[zj];omega
 have hcut:(B l).extract 1 (B l).size=B t:=by rw[qp,zj,Uh,hl];rfl
 have hszp:(1:Int)<=((B l).size:Int):=by rw[zj,hl];simp;omega
 have h1:=fun w=>kF (b:Int) w
 have h2:=fun w=>Zj l 45 w
 have h3:=fun w=>Zj l 43 w
 rw[hr]at h1;rw[show(l.head?==some 45)=false from by rw[hl];rfl]at h2;rw[show(l.head?==some 43)=true from by rw[hl];rfl]at h3;have H1:=zb h1;have H2:=zb h2;have H3:=zb h3;have HT:=zb hT;clear h1 h2 h3 hT hr hl;go_enter Tryz.func128,Tryz.ntmps128;go_wp2_with fail;refine(za H1 _).mono ?_;rintro e w1⟨rfl,rfl⟩;go_wp2_with fail;refine(za H2 _).mono ?_;rintro e w1⟨rfl,rfl⟩;go_wp2_with fail;refine(za H3 _).mono ?_;rintro e w1⟨rfl,rfl⟩;clear H1 H2 H3;have Hpb:Hid (zw l (b:Int)=if(qv b t).2.2 then zB false (qv b t).1 (qv b t).2.1 else none):=zb ((za Hm).trans (ZY false (by omega) t));have hgs:=VB (b:=b) (by omega) t (by omega);clear Hm;go_wp2_with fail;have h:=Zl t b (w.alloc (.cells #[.bool false,.string ⟨#[]⟩,.string ⟨#[]⟩] 79)) (by omega) (by omega) (by omega) ((za HT).below ((ue _ _).alloc (ud _) _));refine h.mono ?_;clear h;rintro e w2⟨⟨vu,vd,rfl,hvu,hvd⟩,hb2⟩;have hb0:=zn hb2;have hz0:w.heap.size+1<=w2.heap.size:=by have:=hb2.size;simpa using this
 have HT2:=zb ((za HT).below (zm hb0));generalize (qv b t).1=pu at *;generalize (qv b t).2.1=pd at *;generalize (qv b t).2.2=po at *;obtain⟨pp,cp,hvs⟩:=zq hvd;subst hvs;have Hvu:=zb hvu;have Hvd:=zb hvd;clear hvu hvd hb2;cases po with
 |false=>
  have c0:=ze hb0 0;have c1:=ze hb0 1;have c2:=ze hb0 2;have f0:=zh hb0 0;have f1:=zh hb0 1;have f2:=zh hb0 2;have hbX:=zm hb0;simp at c0 c1 c2;clear hb0;go_wp2;refine um (v:=zg none) (by simp[results,wN,go_sem,zg,qe,qF,zH,c0,c1,c2]) rfl ⟨by rw[za Hpb];rfl,?_⟩;exact zv hbX _ (ud _) _ _ _
 |true=>
  by_cases hd:pd=0
  . have hl0:(((gr pd).length:Int)==0)=true:=by rw[hd,vr];rfl
    have Hf:Hid (zw l (b:Int)=none):=by show _=_;rw[za Hpb,hd,uj rfl,Zb]
    clear hd;have c0:=ze hb0 0;have c1:=ze hb0 1;have c2:=ze hb0 2;have f0:=zh hb0 0;have f1:=zh hb0 1;have f2:=zh hb0 2;have hbX:=zm hb0;simp at c0 c1 c2;clear hb0;go_wp2;refine um (v:=zg none) (by simp[results,wN,go_sem,zg,qe,qF,zH,c0,c1,c2]) rfl ⟨by rw[za Hf],?_⟩;exact zv hbX _ (ud _) _ _ _
  . have hl0:(((gr pd).length:Int)==0)=false:=by rw[ug];have:=mt xA.1 hd;omega
    have Hov2:Hid (zw l (b:Int)=zB false pu pd):=by show _=_;rw[za Hpb,uj rfl]
    have hdp:0<pd:=by omega
    clear hd;go_wp2_with fail;have h:=Ze false pu pd vu _ w2 (za Hvu) (za Hvd) hdp (by omega) (by omega) (za HT2);refine h.mono ?_;clear h;rintro e w3⟨rfl,hb3⟩;have hn3:=zk hb0 hz0 hb3;have c0:=ze hn3.1 0;have c1:=ze hn3.1 1;have c2:=ze hn3.1 2;have f0:=zh hn3.1 0;have f1:=zh hn3.1 1;have f2:=zh hn3.1 2;have hbX:=zm hn3.1;simp at c0 c1 c2;clear hb3 hb0 hn3 hl0 hdp;generalize zB false pu pd=o at *;unfold zg;obtain⟨n3,u3,d3,ho⟩:∃n3 u3 d3,qe o=zH n3 u3 d3:=by
     cases o with
     |none=>exact⟨_,_,_,rfl⟩
     |some p=>exact⟨_,_,_,rfl⟩
    have Ho:=zb ho;rw[ho];unfold zH;clear ho;go_wp2;refine um (v:=zg o) (by simp[results,wN,go_sem,zg,za Ho,zH,c0,c1,c2]) rfl ⟨by rw[za Hov2],?_⟩;exact zv hbX _ (ud _) _ _ _
theorem JA(l:List UInt8)(r:Int)(w:World)(hs:l.length<=1000000000)(h:zQ r=false\/240<l.length):
  Calls Tryz.prog 128 #[.string (B l),.int .i64 r] w fun e w'=>e=.returned (zg (zw l r))/\Below w.heap.size w w':=by
 rw[YG l r h];have hsz:(B l).size<=1000000000:=by rw[zj];exact hs
 by_cases hr:zQ r=false
 . clear h
   go_enter Tryz.func128,Tryz.ntmps128;go_wp2_with fail;refine(kF r _).mono ?_;rintro e w1⟨rfl,rfl⟩;rw[hr];go_wp2;refine um (v:=zg none) (by simp[results,wN,go_sem,zg,qe,qF,zH]) rfl ⟨rfl,?_⟩;exact(ue _ _).alloc (ud _) _
 . have hr':zQ r=true:=by simpa using hr
   have hl:(240:Int)<((B l).size:Int):=by rw[zj];rcases h with h|h;exact absurd h hr;omega
   clear h hr;go_enter Tryz.func128,Tryz.ntmps128;go_wp2_with fail;refine(kF r _).mono ?_;rintro e w1⟨rfl,rfl⟩;rw[hr'];go_wp2;refine um (v:=zg none) (by simp[results,wN,go_sem,zg,qe,qF,zH]) rfl ⟨rfl,?_⟩;exact(ue _ _).alloc (ud _) _
theorem y4(l:List UInt8)(r:Int)(w:World)(hs:l.length<=1000000000)(hT:Tens w):
  Calls Tryz.prog 128 #[.string (B l),.int .i64 r] w fun e w'=>e=.returned (zg (zw l r))/\Below w.heap.size w w':=by
 by_cases h:zQ r=false\/240<l.length
 . exact JA l r w hs h
 . have hr:zQ r=true:=by
    cases hh:zQ r with
    |true=>rfl
    |false=>exact absurd (.inl hh) h
   have hl:l.length<=240:=by
    apply Decidable.byContradiction;intro hh;exact h (.inr (by omega))
   obtain⟨b,rfl,hb4⟩:=yx hr;cases l with
   |nil=>exact kC [] b w hb4 hl rfl rfl hT
   |cons c t=>
    by_cases h45:c=45
    . subst h45;exact Z2 t b w hb4 hl hT
    . by_cases h43:c=43
      . subst h43;exact Qn t b w hb4 hl hT
      . exact kC (c::t) b w hb4 hl (by simpa using h45) (by simpa using h43) hT
theorem zgZ(d:Nat)(h:d<16):((⟨#[48,49,50,51,52,53,54,55,56,57,97,98,99,100,101,102]⟩:ByteArray)[d]'h).toNat=(sg d).toNat:=by
 rcases d with _|_|_|_|_|_|_|_|_|_|_|_|_|_|_|_|d
 all_goals first|rfl|omega
theorem KQ(x b:Nat)(v:Value)(w:World)(hx:zy w v x)(hs:(gr x).length<=100000)(hb2:2<=b)(hb16:b<=16)(hsd:(dg b x).length<=1000000):
  Calls Tryz.prog 251 #[.int .i64 b,v] w fun e w'=>e=.returned (.string (jB b x))/\Below w.heap.size w w':=by
 obtain⟨i0,hi,hz0,hz1,hz2⟩:=Ue Tryz.infoByte;obtain⟨p,cap,hv⟩:=zq hx;subst hv;by_cases hz:x=0
 . subst hz
   have h0:jB b 0=⟨#[48]⟩:=by unfold jB;rw[qK];rfl
   rw[vr,h0];clear hx hs;go_enter Tryz.func251,Tryz.ntmps251;go_wp2;go_ret;exact⟨rfl,ue _ _⟩
 . have hn0:0<(gr x).length:=by have:=mt xA.1 hz;omega
   have hnI:(((gr x).length:Int)==0)=false:=by rw[ug];omega
   have e1:=yN (b:Int) (by omega) (by omega);have Hx:=zb hx;have Hz:=zb hz;clear hx hz;go_enter Tryz.func251,Tryz.ntmps251;go_wp2
   go_loopw [1,5,6,7] (fun n out _ _ wr=>∃(k:Nat)(ls:List Nat),k<=x/\zy wr n k/\wr.ownsRow w.heap.size 5 1 out ls.length ((ls.map sg).map ZM)/\Below w.heap.size w wr/\Hid (dg b x=ls++dg b k))
    (fun _ out _ _ _=>(dg b x).length-zhB out)
   case atStart=>
    exact⟨x,[],ud _,zu (za Hx) ((ue _ _).alloc (ud _) _),Wt w #[] 0 (ud _) (by decide) (by simp),(ue _ _).alloc (ud _) _,zb (by simp)⟩
   case round=>
    obtain⟨k,ls,hk,hnat,hown,hb,hdg⟩:=hrel;obtain⟨pk,ck,hvk⟩:=zq hnat;subst hvk;obtain⟨po,co,hvo⟩:=zq hown;subst hvo;by_cases hk0:k=0
    . have hl0:¬(0:Int)<((gr k).length:Int):=by rw[hk0,vr];simp
      have hfin:ls=dg b x:=by rw[za hdg,hk0,jH,du]
      have hls:0<ls.length:=by
       rcases ws ls.length with h|h
       . have h':ls=[]:=ur h
         rw[h']at hfin;exact absurd ((Zx hb2).1 hfin.symm) (za Hz)
       . exact h
      have hsl:ls.length<=1000000:=by rw[hfin];exact hsd
      obtain⟨g,cap',hvv,hcc,hbg,hgw⟩:=zY hown hls;simp only[wm,WJ]at hvv;obtain⟨rfl,rfl⟩:=hvv;have Hfin:=zb hfin;have hrv:=YJ (ls.map sg) g co w.heap.size wr (by rw[Ud];omega) (by rw[Ud];exact hown);rw[Ud]at hrv;have Hrv:=zb hrv;clear hrv hown hfin;go_wp2_with fail;refine(za Hrv).mono ?_;rintro e w3⟨rfl,hown3,hg3⟩;have hbX:=hb.grown hg3 hb.size (fun k hk=>by cases hk;omega);have hconv:=qV (dst:=9) Ug Ux Uf hown3;have hfin2:B (ls.map sg).reverse=jB b x:=by unfold jB;rw[jZ (za Hz),<-za Hfin]
      rw[hfin2]at hconv;clear hfin2 hown3 hg3 Hrv;go_wp2;go_ret;exact⟨rfl,hbX⟩
    . have hl0:(0:Int)<((gr k).length:Int):=by have:=mt xA.1 hk0;omega
      have hgk:=jW hk;have hpos:=yF (b:=b) hb2 (show 0<k by omega);have hdl:k%b<16:=uJ (Ua _ (by omega)) hb16;have hqk:k/b<=x:=uC (WR _ _) hk;have hdg2:dg b x=(ls++[k%b])++dg b (k/b):=by rw[za hdg,hpos];simp
      have Hdg2:=zb hdg2;have hll:=uB List.length hdg2;rw[uG,uG]at hll;clear hpos hdg2;go_wp2_with fail;have h:=Jl k b _ wr hnat (by omega) (by omega) (by omega);refine h.mono ?_;clear h;rintro e w2⟨⟨v2,rfl,hv2⟩,hb2'⟩;have hown2:=zu hown hb2';have hbw:=hb.trans (hb2'.mono hb.size);have hhex:=zgZ (k%b) hdl;unfold isNatB at hv2;have hne:v2.ownBlock=none\/v2.ownBlock≠(Value.slice po ls.length co).ownBlock:=by
       by_cases hh:v2.ownBlock=none
       . exact .inl hh
       . refine .inr (fun he=>?_)
         obtain⟨g,hg⟩:=Option.ne_none_iff_exists'.1 hh;have h1:=(hv2.lt g hg).1;have h2:=(hown.lt g (he ▸ hg)).2;omega
      have Hne:=zb hne;clear hne;have Hv2:=zb hv2;generalize k%b=d at *;have hw:=hbw.size;have e8:(sg d).toNat<256:=(sg d).toNat_lt;clear hv2 hnat hown;go_wp2_with (at_builtin;refine wG _ rfl (.tmp 22) (.tmp 25) 22 rfl w.heap.size 5 i0 (.int .u8 0) 1 1 Ug hi hz0 hz1 hz2 rfl (by decide) _ _ _ rfl (hown2.alloc _) ⟨w2.heap.size,0,none⟩ 1 1 [.int .u8 ((sg d).toNat:Int)] rfl rfl (cell_one_new _ _ _) (by intro u hu;simp at hu;subst hu;rfl) (by unfold maxLen;omega) (by omega) (by simp;omega) ?_;intro v3 w3 hown3 hg3 _);have hbX:=qh (hbw.alloc hw _) (hown2.alloc _) hg3 (by simp<;>omega);obtain⟨p3,c3,hv3⟩:=zq hown3;subst hv3;go_roundw
      case rel=>
       refine⟨k/b,ls++[d],hqk,?_,?_,hbX,Hdg2⟩
       . exact zV (((za Hv2).alloc _).kept hg3 (za Hne)) (uD _)
       . rw[uG,UF,UF]
         exact hown3
      case measure=>
       show(dg b x).length-(ls.length+1)<(dg b x).length-ls.length;simp at hll;omega
theorem zec(b x:Nat):(dg b x).length<=(qj b x).length:=by
 unfold qj;by_cases h:x=0
 . rw[uj h,h,jH];simp
 . rw[ul h];simp
theorem JB(neg:Bool)(u d:List UInt8)(r:Int)(w:World)(hsu:u.length<=1000000000)(hsd:d.length<=1000000000)(h:(vC neg u d&&zQ r)=false)(hT:Tens w):
  Calls Tryz.prog 249 #[xD neg u d,.int .i64 r] w fun e w'=>e=.returned (.string (B (qo neg u d r)))/\Below w.heap.size w w':=by
 have Hf:Hid (B (qo neg u d r)=⟨#[]⟩):=by show _=_;unfold qo;rw[h];rfl
 have h1:=fun w hT=>vz neg u d w hsu hsd hT
 have HT:=zb hT;unfold xD at *;clear hT;cases hr:zQ r with
 |false=>
  clear h h1;go_enter Tryz.func249,Tryz.ntmps249;go_wp2_with fail;refine(kF r _).mono ?_;rintro e w2⟨rfl,rfl⟩;rw[hr];go_wp2;go_ret;exact⟨qm (za Hf).symm,(ue _ _).alloc (ud _) _⟩
 |true=>
  rw[hr,Bool.and_true]at h;rw[h]at h1;have H1:=zb h1;clear h h1;go_enter Tryz.func249,Tryz.ntmps249;go_wp2_with fail;refine(kF r _).mono ?_;rintro e w2⟨rfl,rfl⟩;rw[hr];go_wp2_with fail;refine(za H1 _ ((za HT).below ((ue _ _).alloc (ud _) _))).mono ?_;rintro e w1⟨rfl,hb1⟩;have hb0:=zn hb1;go_wp2;go_ret;exact⟨qm (za Hf).symm,zm hb0⟩
theorem QU(neg:Bool)(u d:List UInt8)(b:Nat)(w:World)(hok:vC neg u d=true)(hb4:b=2\/b=8\/b=10\/b=16)(hT:Tens w):
  Calls Tryz.prog 249 #[xD neg u d,.int .i64 b] w fun e w'=>e=.returned (.string (B (qo neg u d b)))/\Below w.heap.size w w':=by
 have hr:zQ (b:Int)=true:=by rcases hb4 with rfl|rfl|rfl|rfl<;>rfl
 obtain⟨h3,h4,hu,hd,hd0,hn0,_⟩:=ju hok;have h1:=fun w hT=>vz neg u d w (by omega) (by omega) hT
 rw[hok]at h1;have Hf:Hid (qo neg u d b=prM neg (zC u) (zC d) b):=by show _=_;unfold qo;rw[hok,hr];simp
 have Bu:B u=zr (zC u):=by unfold zr jB;rw[<-qR h3]
 have Bd:B d=zr (zC d):=by unfold zr jB;rw[<-qR h4]
 have hau:=zj u;have had:=zj d;unfold xD at *;rw[Bu,Bd]at h1;rw[Bu]at hau;rw[Bd]at had;rw[Bu,Bd];generalize zC u=a at *;generalize zC d=q at *;have hau60:(zr a).size<=60:=by omega
 have had60:(zr q).size<=60:=by omega
 have hq1:=Y2 q;have hta:=xh (b:=b) (by omega) hau60;have htq:=xh (b:=b) (by omega) had60;have hta':(qj b a).length<=240:=by unfold jB at hta;rwa[zj]at hta
 have htq':(qj b q).length<=240:=by unfold jB at htq;rwa[zj]at htq
 have hda:=zec b a;have hdq:=zec b q;have hga:=yE hau60;have hgq:=yE had60;have H1:=zb h1;have HT:=zb hT;clear h1 Bu Bd h3 h4 hok hau had hn0 hT;go_enter Tryz.func249,Tryz.ntmps249;go_wp2_with fail;refine(kF b _).mono ?_;rintro e w2⟨rfl,rfl⟩;rw[hr];go_wp2_with fail;refine(za H1 _ ((za HT).below ((ue _ _).alloc (ud _) _))).mono ?_;rintro e w1⟨rfl,hb1⟩;have hb0:=zn hb1;have hz0:w.heap.size+1<=w1.heap.size:=by have:=hb1.size;simpa using this
 have c0:=ze hb0 0;have c1:=ze hb0 1;have c2:=ze hb0 2;simp at c0 c1 c2;go_wp2_with fail;have h:=vW a w1 (by omega) ((za HT).below (zm hb0));refine h.mono ?_;clear h;rintro e w2⟨⟨v2,rfl,hv2⟩,hb2⟩;have hn2:=zk hb0 hz0 hb2;have Hv2:=zb hv2;clear hv2;go_wp2_with fail;have h:=KQ a b v2 w2 (za Hv2) (by omega) (by omega) (by omega) (by omega);refine h.mono ?_;clear h;rintro e w3⟨rfl,hb3⟩;have hn3:=zk hn2.1 hn2.2 hb3;clear c0 c1 c2 hb1 hb0 hz0 hb2 hn2 hb3;have c0:=ze hn3.1 0;have c1:=ze hn3.1 1;have c2:=ze hn3.1 2;simp at c0 c1 c2;have hs47:(⟨#[47]⟩++jB b q:ByteArray).size=1+(jB b q).size:=by rw[ByteArray.size_append];rfl
 by_cases hone:q=1
 . rw[uy hone]at hq1
   cases neg with
   |false=>
    have Hf2:Hid (B (qo false u d b)=jB b a):=by show _=_;rw[za Hf];simp[prM,hone,jB]
    clear hone;go_wp2;go_ret;exact⟨qm (za Hf2).symm,zm hn3.1⟩
   |true=>
    have Hf2:Hid (B (qo true u d b)=⟨#[45]⟩++jB b a):=by
     show _=_;rw[za Hf,show(⟨#[45]⟩:ByteArray)=B [45]from rfl];unfold jB;rw[qf];simp[prM,hone]
    have hns:¬9223372036854775807<1+(jB b a).size:=by omega
    clear hone;go_wp2;go_ret;exact⟨qm (za Hf2).symm,zm hn3.1⟩
 . rw[uw hone]at hq1
   cases neg with
   |false=>
    have Hf2:Hid (B (qo false u d b)=jB b a++(⟨#[47]⟩++jB b q)):=by
     show _=_;rw[za Hf,show(⟨#[47]⟩:ByteArray)=B [47]from rfl];unfold jB;rw[qf,qf];simp[prM,hone]
    clear hone;go_wp2_with fail;have h:=vW q w3 (by omega) ((za HT).below (zm hn3.1));refine h.mono ?_;clear h;rintro e w4⟨⟨v4,rfl,hv4⟩,hb4'⟩;have hn4:=zk hn3.1 hn3.2 hb4';have Hv4:=zb hv4;clear hv4;go_wp2_with fail;have h:=KQ q b v4 w4 (za Hv4) (by omega) (by omega) (by omega) (by omega);refine h.mono ?_;clear h;rintro e w5⟨rfl,hb5⟩;have hn5:=zk hn4.1 hn4.2 hb5;go_wp2;go_ret;exact⟨qm (za Hf2).symm,zm hn5.1⟩
   |true=>
    have Hf2:Hid (B (qo true u d b)=(⟨#[45]⟩++jB b a)++(⟨#[47]⟩++jB b q)):=by
     show _=_;rw[za Hf,show(⟨#[47]⟩:ByteArray)=B [47]from rfl,show(⟨#[45]⟩:ByteArray)=B [45]from rfl];unfold jB;rw[qf,qf,qf];simp[prM,hone]
    have hns:¬9223372036854775807<1+(jB b a).size:=by omega
    clear hone;go_wp2_with fail;have h:=vW q w3 (by omega) ((za HT).below (zm hn3.1));refine h.mono ?_;clear h;rintro e w4⟨⟨v4,rfl,hv4⟩,hb4'⟩;have hn4:=zk hn3.1 hn3.2 hb4';have Hv4:=zb hv4;clear hv4;go_wp2_with fail;have h:=KQ q b v4 w4 (za Hv4) (by omega) (by omega) (by omega) (by omega);refine h.mono ?_;clear h;rintro e w5⟨rfl,hb5⟩;have hn5:=zk hn4.1 hn4.2 hb5;go_wp2;go_ret;exact⟨qm (za Hf2).symm,zm hn5.1⟩
theorem J9(neg:Bool)(u d:List UInt8)(r:Int)(w:World)(hsu:u.length<=1000000000)(hsd:d.length<=1000000000)(hT:Tens w):
  Calls Tryz.prog 249 #[xD neg u d,.int .i64 r] w fun e w'=>e=.returned (.string (B (qo neg u d r)))/\Below w.heap.size w w':=by
 cases h:vC neg u d&&zQ r with
 |false=>exact JB neg u d r w hsu hsd h hT
 |true=>
  simp only[ux]at h;obtain⟨b,rfl,hb4⟩:=yx h.2;exact QU neg u d b w h.1 hb4 hT
def JG(l:List UInt8):(Int×Int×List UInt8)×Bool:=
 if l=[46]then((3,0,[]),true)else match zw l 10 with
  |some p=>((10,1,yd p),true)
  |none=>((10,2,l),j7 l)
theorem zbz(s:Int)(t:List UInt8):vQ s t=((JG (jo t)).2&&decide ((JG (jo t)).1=(10,s,t))):=by
 unfold vQ JG;by_cases h:jo t=[46]
 . rw[uj h,uj h]
   simp
 . rw[ul h,ul h]
   cases zw (jo t) 10 with
   |some p=>
    simp only[wI];rw[UW];simp only[ux,ut,wS,WJ];constructor
    . rintro⟨h1,h2⟩;exact⟨h1.symm,h2⟩
    . rintro⟨h1,h2⟩;exact⟨h1.symm,h2⟩
   |none=>
    rw[UW];simp only[ux,ut,wS,WJ];constructor
    . rintro⟨⟨h1,h2⟩,h3⟩;exact⟨h3,h1.symm,h2⟩
    . rintro⟨h3,h1,h2⟩;exact⟨⟨h1.symm,h2⟩,h3⟩
def Zp(k:Int×Int×List UInt8):Value:=.agg #[.int .i64 k.1,.int .i64 k.2.1,.string (B k.2.2),.int .i64 0]
theorem zdC(W:World)(x y:Operand)(xs ys:Array Value):(eqGuard .eql 192 x y (.agg xs) (.agg ys)).run Tryz.prog W=.ok () W:=run_eqGuard_agg W .eql 192 x y xs ys (by kernel_rfl)
theorem zhh(W:World)(k k':Int×Int×List UInt8):(binOp .eql 192 (Zp k) (Zp k')).run Tryz.prog W=.ok (.bool (decide (k=k'))) W:=by
 obtain⟨a,b,l⟩:=k;obtain⟨a',b',l'⟩:=k';have hp:Tryz.prog.stoodInHeld 192=false:=by kernel_rfl
 unfold Zp;rw[run_eql_struct];rw[show(10000:Nat)=9999+1 from rfl,run_equalIn_agg W 9999 192 _ _ (by kernel_rfl) hp];simp[go_sem,Op.eqFields,Program.fieldsOf,Tryz.underlying192,part,uW,Uf,jg];by_cases h1:a=a'<;>by_cases h2:b=b'<;>by_cases h3:l=l'<;>simp[h1,h2,h3]
theorem Z7(s:Int)(t:List UInt8)(w:World):
  Calls Tryz.prog 166 #[.int .i64 s,.string (B t)] w fun e w'=>e=.returned (Zp (10,s,t))/\Below w.heap.size w w':=by
 have HB:=zb (zf (ue w.heap.size w) (.cells #[.int .i64 10,.int .i64 s,.string (B t),.int .i64 0] 192));go_enter Tryz.func166,Tryz.ntmps166;go_wp2_with fail;refine um (v:=Zp (10,s,t)) (by simp[results,Tryz.results166,go_sem,Zp]) rfl ⟨rfl,?_⟩;exact za HB
theorem zgn(l:List UInt8)(w:World)(hs:l.length<=1048576)(hT:Tabz w)(hN:Tens w)(h2:3<w.heap.size):
  Calls Tryz.prog 248 #[.agg #[.string (B l)]] w fun e w'=>e=.returned (.tuple #[Zp (JG l).1,.bool (JG l).2])/\Below w.heap.size w w':=by
 have hb0:=zf (zf (ue w.heap.size w) (.cells #[.string (B l)] 222)) (.cells #[.int .i64 0,.int .i64 0,.string ⟨#[]⟩,.int .i64 0] 192);have HB0:=zb hb0;have HC0:=zb (AtC.new (w.alloc (.cells #[.string (B l)] 222)) #[.int .i64 0,.int .i64 0,.string ⟨#[]⟩,.int .i64 0] 192);rw[uk]at HC0;by_cases h46:l=[46]
 . have e1:((B l).toList== [46])=true:=by rw[h46];exact(by rw[jg];rfl)
   have HQ:Hid (JG l=((3,0,[]),true)):=zb (by unfold JG;rw[uj h46]);have HBB:=zb (zf (zf (ue w.heap.size w) (.cells #[.string (B l)] 222)) (.cells #[.int .i64 3,.int .i64 0,.string ⟨#[]⟩,.int .i64 0] 192));clear h46 hb0;go_enter Tryz.func248,Tryz.ntmps248;go_wp2_with fail;refine um (v:=.tuple #[Zp (3,0,[]),.bool true]) (by simp[results,Tryz.results248,go_sem,Zp];rfl) rfl ⟨by rw[za HQ],?_⟩;exact za HBB
 . have e1:((B l).toList== [46])=false:=by rw[jg,ug];exact h46
   have HNP:=zb (fun W h=>y4 l 10 W (by omega) h);cases hp:zw l 10 with
   |none=>
    have HQ:Hid (JG l=((10,2,l),j7 l)):=zb (by unfold JG;rw[ul h46,hp]);rw[hp,show zg none=.tuple #[.agg #[.bool false,.string ⟨#[]⟩,.string ⟨#[]⟩],.bool false]from rfl]at HNP;clear h46 hp;go_enter Tryz.func248,Tryz.ntmps248;go_wp2_with fail;obtain⟨W,hW⟩:∃W,(w.alloc (.cells #[.string (B l)] 222)).alloc (.cells #[.int .i64 0,.int .i64 0,.string ⟨#[]⟩,.int .i64 0] 192)=W:=⟨_,rfl⟩
    rw[hW]at hb0 HB0 HC0⊢;clear hW;refine(za HNP W (hN.belowB hb0 (by omega))).mono ?_;rintro e w1⟨rfl,hb1⟩;have hb2:=zf hb1 (.cells #[.bool false,.string ⟨#[]⟩,.string ⟨#[]⟩] 79);have HB2:=zb (zi (za HB0) hb2);have HC2:=zb ((za HC0).below hb2);clear hb1 hb2 HB0 HC0;go_wp2_with fail;refine(Z7 2 l _).mono ?_;rintro e w3⟨rfl,hb3⟩;have HB3:=zb (zi (za HB2) hb3);have HC3:=zb ((za HC2).below hb3);clear hb3 HB2 HC2;go_wp2_with fail;have h:=Z8 l w3 hs (hT.below (by omega) (za HB3));refine h.mono ?_;clear h;rintro e w4⟨rfl,hb4⟩;have HB4:=zb (zi (za HB3) hb4);have HC:=zb ((za HC3).below hb4);clear hb4 HB3 HC3;have c0:(w4).cell? ⟨w.heap.size+1,0,none⟩=some (.int .i64 0):=(za HC).c 0;have c1:(w4).cell? ⟨w.heap.size+1,1,none⟩=some (.int .i64 0):=(za HC).c 1;have c2:(w4).cell? ⟨w.heap.size+1,2,none⟩=some (.string ⟨#[]⟩):=(za HC).c 2;have c3:(w4).cell? ⟨w.heap.size+1,3,none⟩=some (.int .i64 0):=(za HC).c 3;have cf:=(za HC).f;have hlc:=(za HC).lt;unfold Zp;go_wp2_with fail;have hcc:=And.intro c0 (And.intro c1 (And.intro c2 c3));refine um (v:=.tuple #[Zp (10,2,l),.bool (j7 l)]) (by simp[results,Tryz.results248,go_sem,hcc,Zp]) rfl ⟨?_,?_⟩
    . rw[za HQ]
    . exact((((za HB4).setCell (by show w.heap.size<=w.heap.size+1;omega) _).setCell (by show w.heap.size<=w.heap.size+1;omega) _).setCell (by show w.heap.size<=w.heap.size+1;omega) _).setCell (by show w.heap.size<=w.heap.size+1;omega) _
   |some p=>
    obtain⟨n,u,d⟩:=p;have hok:=Qt hp;obtain⟨_,_,hl1,hl2,_⟩:=ju hok;have HQ:Hid (JG l=((10,1,qo n (qj 10 u) (qj 10 d) 10),true)):=zb (by unfold JG;rw[ul h46,hp];rfl);rw[hp,show zg (some (n,u,d))=.tuple #[.agg #[.bool n,.string (B (qj 10 u)),.string (B (qj 10 d))],.bool true]from rfl]at HNP;clear h46 hp hok;go_enter Tryz.func248,Tryz.ntmps248;go_wp2_with fail;obtain⟨W,hW⟩:∃W,(w.alloc (.cells #[.string (B l)] 222)).alloc (.cells #[.int .i64 0,.int .i64 0,.string ⟨#[]⟩,.int .i64 0] 192)=W:=⟨_,rfl⟩
    rw[hW]at hb0 HB0 HC0⊢;clear hW;refine(za HNP W (hN.belowB hb0 (by omega))).mono ?_;rintro e w1⟨rfl,hb1⟩;have hb2:=zf hb1 (.cells #[.bool n,.string (B (qj 10 u)),.string (B (qj 10 d))] 79);have HB2:=zb (zi (za HB0) hb2);have HC2:=zb ((za HC0).below hb2);clear hb1 hb2 HB0 HC0;go_wp2_with fail;have h:=J9 n (qj 10 u) (qj 10 d) 10 (w1.alloc (.cells #[.bool n,.string (B (qj 10 u)),.string (B (qj 10 d))] 79)) (by omega) (by omega) (hN.belowB (za HB2) (by omega));refine h.mono ?_;clear h;rintro e w3⟨rfl,hb3⟩;have HB3:=zb (zi (za HB2) hb3);have HC3:=zb ((za HC2).below hb3);clear hb3 HB2 HC2;obtain⟨P,hP⟩:∃P,qo n (qj 10 u) (qj 10 d) 10=P:=⟨_,rfl⟩
    rw[hP]at HQ⊢;clear hP;go_wp2_with fail;refine(Z7 1 P _).mono ?_;rintro e w4⟨rfl,hb4⟩;have HB4:=zb (zi (za HB3) hb4);have HC:=zb ((za HC3).below hb4);clear hb4 HB3 HC3;have c0:(w4).cell? ⟨w.heap.size+1,0,none⟩=some (.int .i64 0):=(za HC).c 0;have c1:(w4).cell? ⟨w.heap.size+1,1,none⟩=some (.int .i64 0):=(za HC).c 1;have c2:(w4).cell? ⟨w.heap.size+1,2,none⟩=some (.string ⟨#[]⟩):=(za HC).c 2;have c3:(w4).cell? ⟨w.heap.size+1,3,none⟩=some (.int .i64 0):=(za HC).c 3;have cf:=(za HC).f;have hlc:=(za HC).lt;unfold Zp;go_wp2_with fail;have hcc:=And.intro c0 (And.intro c1 (And.intro c2 c3));refine um (v:=.tuple #[Zp (10,1,P),.bool true]) (by simp[results,Tryz.results248,go_sem,hcc,Zp]) rfl ⟨?_,?_⟩
    . rw[za HQ]
    . exact((((za HB4).setCell (by show w.heap.size<=w.heap.size+1;omega) _).setCell (by show w.heap.size<=w.heap.size+1;omega) _).setCell (by show w.heap.size<=w.heap.size+1;omega) _).setCell (by show w.heap.size<=w.heap.size+1;omega) _
theorem Qz(s:Int)(t:List UInt8)(w:World)(hs:t.length<=1048576)(hT:Tabz w)(hN:Tens w)(h2:3<w.heap.size):
  Calls Tryz.prog 135 #[.int .i64 s,.string (B t)] w fun e w'=>e=.returned (.bool (vQ s t))/\Below w.heap.size w w':=by
 have hle:(jo t).length<=1048576:=by
  have:(jo t).length<=t.length:=(List.takeWhile_prefix _).length_le;omega
 have HQ:=zb (zbz s t);have HW:=zb (Kw t w hs);have HTK:=zb (fun W hT hN h=>zgn (jo t) W hle hT hN h);obtain⟨K,hK⟩:∃K,JG (jo t)=K:=⟨_,rfl⟩
 rw[hK]at HQ HTK;obtain⟨⟨k1,k2,k3⟩,ok⟩:=K;simp only at HQ HTK;have hte:=fun W=>zhh W (k1,k2,k3) (10,s,t)
 obtain⟨D,hD⟩:∃D,decide ((k1,k2,k3)=(10,s,t))=D:=⟨_,rfl⟩
 rw[hD]at HQ hte;unfold Zp at hte HTK;simp only at hte HTK;have htg:=zdC;clear hK hle hD;have HAT:=zb (fun W=>Z7 s t W);unfold Zp at HAT;simp only at HAT;go_enter Tryz.func135,Tryz.ntmps135;go_wp2_with fail;refine(za HW).mono ?_;rintro e w1⟨rfl,hb1⟩;have HB1:=zb hb1;have hsz1:=hb1.size;clear hb1;go_wp2_with fail;refine(za HTK w1 (hT.below (by omega) (za HB1)) (hN.belowB (za HB1) (by omega)) (by omega)).mono ?_;rintro e w2⟨rfl,hb2⟩;have HB2:=zb (zf (zi (za HB1) hb2) (.cells #[.int .i64 k1,.int .i64 k2,.string (B k3),.int .i64 0] 192));have HC:=zb (AtC.new w2 #[.int .i64 k1,.int .i64 k2,.string (B k3),.int .i64 0] 192);clear hb2;go_wp2_with fail;obtain⟨W,hW⟩:∃W,w2.alloc (.cells #[.int .i64 k1,.int .i64 k2,.string (B k3),.int .i64 0] 192)=W:=⟨_,rfl⟩
 rw[hW]at HB2 HC⊢;clear hW;have c0:W.cell? ⟨w2.heap.size,0,none⟩=some (.int .i64 k1):=(za HC).c 0;have c1:W.cell? ⟨w2.heap.size,1,none⟩=some (.int .i64 k2):=(za HC).c 1;have c2:W.cell? ⟨w2.heap.size,2,none⟩=some (.string (B k3)):=(za HC).c 2;have c3:W.cell? ⟨w2.heap.size,3,none⟩=some (.int .i64 0):=(za HC).c 3;cases ok with
 |false=>
  have HQ2:Hid (vQ s t=false):=zb (by rw[za HQ];rfl)
  go_region
  all_goals
   go_wp2_with fail;go_ret;exact⟨by rw[za HQ2];rfl,by first|exact jI (za HB2) _|exact(za HB2).drew|exact za HB2⟩
 |true=>
  have HQ2:Hid (vQ s t=D):=zb (by rw[za HQ];rfl)
  go_region_with ((go_at_call 166;refine(za HAT W.drew).mono ?_;rintro e w3⟨rfl,hb3⟩;have HB3:Hid (Below W.heap.size W w3):=(ue _ _).drew.trans hb3;have HC3:=zb ((za HC).below (za HB3));have d0:w3.cell? ⟨w2.heap.size,0,none⟩=some (.int .i64 k1):=(za HC3).c 0;have d1:w3.cell? ⟨w2.heap.size,1,none⟩=some (.int .i64 k2):=(za HC3).c 1;have d2:w3.cell? ⟨w2.heap.size,2,none⟩=some (.string (B k3)):=(za HC3).c 2;have d3:w3.cell? ⟨w2.heap.size,3,none⟩=some (.int .i64 0):=(za HC3).c 3;clear hb3))
  all_goals
   go_wp2_with fail;go_ret;exact⟨by rw[za HQ2];rfl,zi (za HB2) (za HB3)⟩
def Qm(s:Int)(t:List UInt8):Bool:=(decide (1<=s)&&decide (s<=9))&&kL s t
theorem xz{s:Int}{t:List UInt8}(h1:1<=s)(h2:s<=9):Qm s t=kL s t:=by unfold Qm;rw[uy h1,uy h2];rfl
theorem zbB(s:Int)(t:List UInt8)(ka:Option Addr)(kn kc:Nat)(w:World)(hs:t.length<=1048576)(hT:Tabz w)(hN:Tens w)(h2:3<w.heap.size):
  Calls Tryz.prog 111 #[.agg #[.int .i64 s,.string (B t),.slice ka kn kc]] w fun e w'=>e=.returned (.bool (Qm s t))/\Below w.heap.size w w':=by
 have HB:=zb (zf (ue w.heap.size w) (.cells #[.int .i64 s,.string (B t),.slice ka kn kc] 56));obtain⟨R,hR⟩:∃R,Qm s t=R:=⟨_,rfl⟩
 rw[hR];have HR:=zb hR;clear hR;by_cases h1:s=1
 . subst h1
   have HQ:Hid (vQ 1 t=R):=zb (by rw[<-za HR,xz (by omega) (by omega)];exact(zbx t));go_enter Wg,wZ;go_wp2_with fail;have h:=Qz 1 t (w.alloc (.cells #[.int .i64 1,.string (B t),.slice ka kn kc] 56)) hs (hT.below (by omega) (za HB)) (hN.belowB (za HB) (by omega)) (by simp;omega);refine h.mono ?_;clear h;rintro e w1⟨rfl,hb1⟩;have HB1:=zb (zi (za HB) hb1);rw[za HQ];clear hb1;go_wp2_with fail;go_ret;exact⟨rfl,za HB1⟩
 . have e1:(s==1)=false:=ug.2 h1
   by_cases h2':s=2
   . subst h2'
     have HQ:Hid (vQ 2 t=R):=zb (by rw[<-za HR,xz (by omega) (by omega)];exact(zby t));go_enter Wg,wZ;go_wp2_with fail;have h:=Qz 2 t (w.alloc (.cells #[.int .i64 2,.string (B t),.slice ka kn kc] 56)) hs (hT.below (by omega) (za HB)) (hN.belowB (za HB) (by omega)) (by simp;omega);refine h.mono ?_;clear h;rintro e w1⟨rfl,hb1⟩;have HB1:=zb (zi (za HB) hb1);rw[za HQ];clear hb1;go_wp2_with fail;go_ret;exact⟨rfl,za HB1⟩
   . have e2:(s==2)=false:=ug.2 h2'
     by_cases h3:s=3
     . subst h3
       have HQ:Hid ((decide (t.length<=200)&&Lib.validD t)=R):=zb (by rw[<-za HR,xz (by omega) (by omega)];rfl);go_enter Wg,wZ;go_wp2_with fail;have h:=Qy t (w.alloc (.cells #[.int .i64 3,.string (B t),.slice ka kn kc] 56)) hs (hT.below (by omega) (za HB));refine h.mono ?_;clear h;rintro e w1⟨rfl,hb1⟩;have HB1:=zb (zi (za HB) hb1);rw[za HQ];clear hb1;go_wp2_with fail;go_ret;exact⟨rfl,za HB1⟩
     . have e3:(s==3)=false:=ug.2 h3
       by_cases h4:s=4
       . subst h4
         have HQ:Hid (V7 t=R):=zb (by rw[<-za HR,xz (by omega) (by omega)];rfl);go_enter Wg,wZ;go_wp2_with fail;have h:=Qx t (w.alloc (.cells #[.int .i64 4,.string (B t),.slice ka kn kc] 56)) hs (hT.below (by omega) (za HB));refine h.mono ?_;clear h;rintro e w1⟨rfl,hb1⟩;have HB1:=zb (zi (za HB) hb1);rw[za HQ];clear hb1;go_wp2_with fail;go_ret;exact⟨rfl,za HB1⟩
       . have e4:(s==4)=false:=ug.2 h4
         by_cases h5:s=5
         . subst h5
           have HQ:Hid ((decide (t=[116])||decide (t=[102]))=R):=zb (by rw[<-za HR,xz (by omega) (by omega)];rfl);by_cases ht:t=[116]
           . have f0:((B t).toList== [116])=true:=by rw[ht,jg];rfl
             have HQ2:Hid (R=true):=zb (by rw[<-za HQ,uy ht,Bool.true_or]);clear ht;go_enter Wg,wZ;go_wp2_with fail;go_ret;exact⟨by rw[za HQ2];rfl,za HB⟩
           . have f0:((B t).toList== [116])=false:=by rw[jg,ug];exact ht
             have HQ2:Hid (((B t).toList== [102])=R):=zb (by
              rw[<-za HQ,uw ht,Bool.false_or,jg];by_cases h:t=[102]
              . subst h;rfl
              . rw[uw h,ug.2 h])
             clear ht;go_enter Wg,wZ;go_wp2_with fail;go_ret;exact⟨by rw[<-za HQ2];rfl,za HB⟩
         . have e5:(s==5)=false:=ug.2 h5
           by_cases h6:s=6
           . subst h6
             have HQ:Hid ((B t).toList.isEmpty=R):=zb (by
              rw[<-za HR,xz (by omega) (by omega),jg];show _=decide (t=[]);cases t<;>rfl)
             go_enter Wg,wZ;go_wp2_with fail;go_ret;exact⟨by rw[<-za HQ];rfl,za HB⟩
           . have e6:(s==6)=false:=ug.2 h6
             by_cases h7:s=7
             . subst h7
               have HQ:Hid ((B t).toList.isEmpty=R):=zb (by
                rw[<-za HR,xz (by omega) (by omega),jg];show _=decide (t=[]);cases t<;>rfl)
               go_enter Wg,wZ;go_wp2_with fail;go_ret;exact⟨by rw[<-za HQ];rfl,za HB⟩
             . have e7:(s==7)=false:=ug.2 h7
               by_cases h8:s=8
               . subst h8
                 have HQ:Hid ((B t).toList.isEmpty=R):=zb (by
                  rw[<-za HR,xz (by omega) (by omega),jg];show _=decide (t=[]);cases t<;>rfl)
                 go_enter Wg,wZ;go_wp2_with fail;go_ret;exact⟨by rw[<-za HQ];rfl,za HB⟩
               . have e8:(s==8)=false:=ug.2 h8
                 by_cases h9:s=9
                 . subst h9
                   have HQ:Hid (decide (((B t).size:Int)<=200)=R):=zb (by
                    rw[<-za HR,xz (by omega) (by omega),zj];show _=decide (t.length<=200)
                    congr 1;rw[eq_iff_iff];omega)
                   go_enter Wg,wZ;go_wp2_with fail;go_ret;exact⟨by rw[<-za HQ];rfl,za HB⟩
                 . have e9:(s==9)=false:=ug.2 h9
                   have HQ:Hid (R=false):=zb (by
                    rw[<-za HR];unfold Qm;by_cases a:1<=s
                    . rw[uw (show ¬s<=9 by omega),wo,UR]
                    . rw[uw a,UR,UR])
                   go_enter Wg,wZ;go_wp2_with fail;go_ret;exact⟨by rw[za HQ];rfl,za HB⟩
def xJ(d:Dt):Bool:=d.1.all fun nd=>Qm nd.1 nd.2.1
theorem Vr(d:Dt):vD d=(jG d&&ZQ d&&Z1 d&&xJ d):=by
 have h:∀ns:List Nd,ns.all (zT d.1.length)=(ns.all (y5 d.1.length)&&(ns.all fun nd=>qJ nd.1 nd.2.2.length)&&ns.all fun nd=>Qm nd.1 nd.2.1):=by
  intro ns
  induction ns with
  |nil=>rfl
  |cons x r ih=>
   simp only[List.all_cons,ih];have hx:zT d.1.length x=(y5 d.1.length x&&qJ x.1 x.2.2.length&&Qm x.1 x.2.1):=by
    unfold zT jN y5 Qm;cases decide (1<=x.1)&&decide (x.1<=9)<;>cases kL x.1 x.2.1<;>cases qJ x.1 x.2.2.length<;>cases x.2.2.all (kW · d.1.length)<;>rfl
   rw[hx];cases y5 d.1.length x<;>cases qJ x.1 x.2.2.length<;>cases Qm x.1 x.2.1<;>simp
 unfold vD ZQ Z1 xJ;rw[h];cases jG d<;>cases d.1.all (y5 d.1.length)<;>cases(d.1.all fun nd=>qJ nd.1 nd.2.2.length)<;>cases(d.1.all fun nd=>Qm nd.1 nd.2.1)<;>cases d.2.all (kW · d.1.length)<;>rfl
theorem VF(nv rv:Value)(d:Dt)(w:World)(h:DataAt w (.agg #[nv,rv]) d)(hs:d.1.length<=1048576/\d.2.length<=1048576/\qr d.1)(hT:Tabz w)(hN:Tens w)(h3:3<w.heap.size):
  Calls Tryz.prog 72 #[.agg #[nv,rv]] w fun e w'=>e=.returned (.bool (xJ d))/\Below w.heap.size w w':=by
 obtain⟨nv',rv',e,hn0,hr0⟩:=h;simp only[WO,Ws,ww,and_true]at e;obtain⟨rfl,rfl⟩:=e;have HN:=zb hn0;obtain⟨na,nc,rfl,hn1,hn2,_⟩:=hn0;obtain⟨ra,rc,rfl,hr1,hr2,_⟩:=hr0;obtain⟨s1,s2,s3⟩:=hs;have HS3:=zb s3;clear s3;unfold maxLen at hn2 hr2;have HB:=zb (zf (ue w.heap.size w) (.cells #[.slice na d.1.length nc,.slice ra d.2.length rc] 26));have HD:=zb (AtC2.new w (.slice na d.1.length nc) (.slice ra d.2.length rc) 26);go_enter Tryz.func72,Tryz.ntmps72;go_wp2_with fail
 go_loopw [8] (fun i wr=>∃k:Nat,k<=d.1.length/\i=.int .i64 k/\((d.1.take k).all fun nd=>Qm nd.1 nd.2.1)=true/\Below w.heap.size w wr)
  (fun i _=>d.1.length-(intOf i).toNat)
 case atStart=>exact⟨0,by omega,rfl,by simp,za HB⟩
 case round=>
  obtain⟨k,hk,rfl,hall,hbl⟩:=hrel;by_cases hlt:k<d.1.length
  . obtain⟨nd,hnd⟩:∃nd,d.1[k]? =some nd:=⟨_,uf hlt⟩
    obtain⟨b,off,cap,e1,_,_,hb⟩:=((za HN).below hbl).form (by omega);injection e1 with e2 e3 e4;subst e2;obtain⟨kv,c0,c1,c2,htl,hki⟩:=((za HN).below hbl).node hnd;obtain⟨ka,kc,rfl,hk1,hk2,_⟩:=hki;have hks:=(za HS3) nd (un hnd);have HT:=zb (Js (p:=fun nd=>Qm nd.1 nd.2.1) hnd);have HL:=zb hall;clear e4 hall;go_wp2_with fail;have hbx:=zf hbl (.cells #[.int .i64 nd.1,.string (B nd.2.1),.slice ka nd.2.2.length kc] 56);have h:=zbB nd.1 nd.2.1 ka nd.2.2.length kc (wr.alloc (.cells #[.int .i64 nd.1,.string (B nd.2.1),.slice ka nd.2.2.length kc] 56)) hks.1 (hT.below (by omega) hbx) (hN.belowB hbx (by omega)) (by have:=hbx.size;omega);refine h.mono ?_;clear h;rintro e w1⟨rfl,hb1⟩;have HB1:=zb (zi (zf hbl (.cells #[.int .i64 nd.1,.string (B nd.2.1),.slice ka nd.2.2.length kc] 56)) hb1);cases hr:Qm nd.1 nd.2.1 with
    |true=>
     go_wp2_with fail;go_roundw
     case rel=>exact⟨k+1,by omega,by go_num,by rw[za HT,za HL,hr];rfl,za HB1⟩
     case measure=>simp[intOf];omega
    |false=>
     have HP:Hid (xJ d=false):=zb (by unfold xJ;exact Qi hnd hr);go_wp2_with fail;go_ret;exact⟨by rw[za HP];rfl,za HB1⟩
  . obtain rfl:k=d.1.length:=by omega
    rw[uz (ud _)]at hall;have HP:Hid (xJ d=true):=zb hall;clear hall;go_wp2_with fail;go_ret;exact⟨by rw[za HP];rfl,hbl⟩
theorem Ya(nv rv:Value)(d:Dt)(w:World)(h:DataAt w (.agg #[nv,rv]) d):
  Calls Tryz.prog 69 #[.agg #[nv,rv]] w fun e w'=>e=.returned (.bool (jG d))/\Below w.heap.size w w':=by
 obtain⟨nv',rv',e,hn0,hr0⟩:=h;simp only[WO,Ws,ww,and_true]at e;obtain⟨rfl,rfl⟩:=e;obtain⟨na,nc,rfl,hn1,hn2,_⟩:=hn0;obtain⟨ra,rc,rfl,hr1,hr2,_⟩:=hr0;unfold maxLen at hn2 hr2;have HB:=zb (zf (ue w.heap.size w) (.cells #[.slice na d.1.length nc,.slice ra d.2.length rc] 26));by_cases h8:d.1.length<=80
 . have h8':(d.1.length:Int)<=80:=by omega
   have HQ:Hid (decide ((d.2.length:Int)<=12)=jG d):=zb (by unfold jG;rw[uy h8,wI];congr 1;rw[eq_iff_iff];omega);clear h8;go_enter Tryz.func69,Tryz.ntmps69;go_wp2_with fail;go_ret;exact⟨by rw[<-za HQ];rfl,za HB⟩
 . have h8':¬(d.1.length:Int)<=80:=by omega
   have HQ:Hid (jG d=false):=zb (by unfold jG;rw[uw h8,UR]);clear h8;go_enter Tryz.func69,Tryz.ntmps69;go_wp2_with fail;go_ret;exact⟨by rw[za HQ];rfl,za HB⟩
def YX:Array Value:=#[.func (.func 69) #[] #[],.func (.func 70) #[] #[],.func (.func 71) #[] #[],.func (.func 72) #[] #[]]
theorem Kv(nv rv:Value)(d:Dt)(g:Nat)(T:TypeId)(w:World)(h:DataAt w (.agg #[nv,rv]) d)(hs:d.1.length<=1048576/\d.2.length<=1048576/\qr d.1)
  (hg:AtC w g YX T)(hT:Tabz w)(hN:Tens w)(h3:3<w.heap.size):
  Calls Tryz.prog 68 #[.agg #[nv,rv],.slice (some ⟨g,0,none⟩) 4 4] w fun e w'=>e=.returned (.bool (vD d))/\Below w.heap.size w w':=by
 have HDT:=zb h;obtain⟨nv',rv',e,hn0,hr0⟩:=h;simp only[WO,Ws,ww,and_true]at e;obtain⟨rfl,rfl⟩:=e;obtain⟨na,nc,rfl,hn1,hn2,_⟩:=hn0;obtain⟨ra,rc,rfl,hr1,hr2,_⟩:=hr0;have HS:=zb hs;unfold maxLen at hn2 hr2;have HB0:=zb (zf (ue w.heap.size w) (.cells #[.slice na d.1.length nc,.slice ra d.2.length rc] 26));have HD0:=zb (AtC2.new w (.slice na d.1.length nc) (.slice ra d.2.length rc) 26);have HG0:=zb (hg.alloc (.cells #[.slice na d.1.length nc,.slice ra d.2.length rc] 26));clear hs hg;go_enter Tryz.func68,Tryz.ntmps68;go_wp2_with fail;obtain⟨wk0,hwk⟩:∃wk0,w.alloc (.cells #[.slice na d.1.length nc,.slice ra d.2.length rc] 26)=wk0:=⟨_,rfl⟩
 rw[hwk]at HB0 HD0 HG0⊢;clear hwk;refine wp_loop_rounds 5 ?_;rw[W9];have g0:wk0.cell? ⟨g,0,none⟩=some (.func (.func 69) #[] #[]):=(za HG0).c 0;have d0:=(za HD0).n0;have d1:=(za HD0).n1;go_wp2_with fail;have h:=Ya _ _ d wk0 ((za HDT).below (za HB0));refine h.mono ?_;clear h;rintro e wk1⟨rfl,hbn⟩;have HB1:=zb (zi (za HB0) hbn);have HG1:=zb ((za HG0).below hbn);have HD1:=zb ((za HD0).below hbn);clear hbn g0 d0 d1 HB0 HG0 HD0;rcases uN (jG d)with hv|hv
 rotate_left
 . have HP:Hid (vD d=false):=zb (by rw[Vr,hv];simp)
   rw[hv];clear hv;go_wp2_with fail;go_ret;exact⟨by rw[za HP];rfl,za HB1⟩
 rw[hv];have HV0:=zb hv;clear hv;go_wp2_with fail;rw[W9];have g0:wk1.cell? ⟨g,1,none⟩=some (.func (.func 70) #[] #[]):=(za HG1).c 1;have d0:=(za HD1).n0;have d1:=(za HD1).n1;go_wp2_with fail;have h:=VG _ _ d wk1 ((za HDT).below (za HB1)) (za HS);refine h.mono ?_;clear h;rintro e wk2⟨rfl,hbn⟩;have HB2:=zb (zi (za HB1) hbn);have HG2:=zb ((za HG1).below hbn);have HD2:=zb ((za HD1).below hbn);clear hbn g0 d0 d1 HB1 HG1 HD1;rcases uN (ZQ d)with hv|hv
 rotate_left
 . have HP:Hid (vD d=false):=zb (by rw[Vr,hv];simp)
   rw[hv];clear hv;go_wp2_with fail;go_ret;exact⟨by rw[za HP];rfl,za HB2⟩
 rw[hv];have HV1:=zb hv;clear hv;go_wp2_with fail;rw[W9];have g0:wk2.cell? ⟨g,2,none⟩=some (.func (.func 71) #[] #[]):=(za HG2).c 2;have d0:=(za HD2).n0;have d1:=(za HD2).n1;go_wp2_with fail;have h:=V9 _ _ d wk2 ((za HDT).below (za HB2)) (za HS);refine h.mono ?_;clear h;rintro e wk3⟨rfl,hbn⟩;have HB3:=zb (zi (za HB2) hbn);have HG3:=zb ((za HG2).below hbn);have HD3:=zb ((za HD2).below hbn);clear hbn g0 d0 d1 HB2 HG2 HD2;rcases uN (Z1 d)with hv|hv
 rotate_left
 . have HP:Hid (vD d=false):=zb (by rw[Vr,hv];simp)
   rw[hv];clear hv;go_wp2_with fail;go_ret;exact⟨by rw[za HP];rfl,za HB3⟩
 rw[hv];have HV2:=zb hv;clear hv;go_wp2_with fail;rw[W9];have g0:wk3.cell? ⟨g,3,none⟩=some (.func (.func 72) #[] #[]):=(za HG3).c 3;have d0:=(za HD3).n0;have d1:=(za HD3).n1;go_wp2_with fail;have h:=VF _ _ d wk3 ((za HDT).below (za HB3)) (za HS) (hT.below (by omega) (za HB3)) (hN.belowB (za HB3) (by omega)) (by have:=(za HB3).size;omega);refine h.mono ?_;clear h;rintro e wk4⟨rfl,hbn⟩;have HB4:=zb (zi (za HB3) hbn);have HG4:=zb ((za HG3).below hbn);have HD4:=zb ((za HD3).below hbn);clear hbn g0 d0 d1 HB3 HG3 HD3;rcases uN (xJ d)with hv|hv
 rotate_left
 . have HP:Hid (vD d=false):=zb (by rw[Vr,hv];simp)
   rw[hv];clear hv;go_wp2_with fail;go_ret;exact⟨by rw[za HP];rfl,za HB4⟩
 rw[hv];have HV3:=zb hv;clear hv;go_wp2_with fail;rw[W9];have HP:Hid (vD d=true):=zb (by rw[Vr,za HV0,za HV1,za HV2,za HV3];rfl);go_wp2_with fail;go_ret;exact⟨by rw[za HP];rfl,za HB4⟩
theorem xB(nv rv:Value)(d:Dt)(w:World)(h:DataAt w (.agg #[nv,rv]) d)(hs:d.1.length<=1048576/\d.2.length<=1048576/\qr d.1)(hT:Tabz w)(hN:Tens w)(h3:3<w.heap.size):
  Calls Tryz.prog 37 #[.agg #[nv,rv]] w fun e w'=>e=.returned (.bool (vD d))/\Below w.heap.size w w':=by
 have HDT:=zb h;obtain⟨nv',rv',e,hn0,hr0⟩:=h;simp only[WO,Ws,ww,and_true]at e;obtain⟨rfl,rfl⟩:=e;obtain⟨na,nc,rfl,hn1,hn2,_⟩:=hn0;obtain⟨ra,rc,rfl,hr1,hr2,_⟩:=hr0;have HS:=zb hs;have hb0:=zf (zf (ue w.heap.size w) (.cells #[.slice na d.1.length nc,.slice ra d.2.length rc] 26)) (.cells YX 30);have HB:=zb hb0;go_enter Tryz.func37,Tryz.ntmps37;go_wp2_with fail;have h:=Kv _ _ d (w.heap.size+1) 30 _ ((za HDT).below (za HB)) (za HS) (by have:=AtC.new (w.alloc (.cells #[.slice na d.1.length nc,.slice ra d.2.length rc] 26)) YX 30;rw[uk]at this;exact this) (hT.below (by omega) (za HB)) (hN.belowB (za HB) (by omega)) (by simp;omega);refine h.mono ?_;clear h;rintro e w1⟨rfl,hb1⟩;have HB1:=zb (zi (za HB) hb1);clear hb1;go_wp2_with fail;go_ret;exact⟨rfl,za HB1⟩
theorem zdn(w:World)(a b:Int)(T:TypeId):RowP (w.alloc (.cells #[.int .i64 a,.int .i64 b] T)) w.heap.size T (.slice (some ⟨w.heap.size,0,none⟩) 1 1) [(a,b)]:=
 ⟨rfl,.inr ⟨w.heap.size,1,_,rfl,ud _,Un w _,ud _,by unfold maxLen;omega,rfl,rfl⟩⟩
theorem xf{w:World}{base size:Nat}{T:TypeId}{v:Value}{n:Nat}{xs:List Value}(h:w.ownsRow base T size v n xs):∃p cap,v=.slice p n cap:=by
 rcases h.2 with⟨rfl,h1⟩|⟨g,cap,cur,rfl,_⟩
 . exact⟨none,0,by rw[h1]⟩
 . exact⟨_,_,rfl⟩
theorem zd{w w':World}(k:Below w.heap.size w w'){a:Addr}{v:Value}(h:w.cell? a=some v):w'.cell? a=some v:=(k.cell (uo _ _ h)).trans h
theorem X7{ns:List Nd}(hs:qr ns){x:Int}{nd:Nd}(h:ns[x.toNat]? =some nd):nd.2.1.length<=1048576/\nd.2.2.length<=1048576:=hs nd (un h)
theorem zet(ns ms:List Nd)(a b:Int)(xv yv:Value)(w:World)(hx:NodesAt w xv ns)(hy:NodesAt w yv ms)(okn:ns.all (zT ns.length)=true)(okm:ms.all (zT ms.length)=true)
  (hab:vT ns.length ms.length (a,b))(hsn:qr ns)(hsm:qr ms)(hl1:ns.length<=80)(hl2:ms.length<=80):
  Calls Tryz.prog 33 #[xv,.int .i64 a,yv,.int .i64 b] w fun e w'=>e=.returned (.int .i64 (jf ns ms a b))/\Below w.heap.size w w':=by
 obtain⟨i0,hi,hz0,hz1,hz2⟩:=Ue Tryz.infoPair;have hF:=From.start okn okm hab;obtain⟨R,hR⟩:∃R,jf ns ms a b=R:=⟨_,rfl⟩
 rw[hR]at hF⊢;have HF:=zb hF;have HX:=zb hx;have HY:=zb hy;obtain⟨xa,xo,xc,rfl,hx1,hx2,_⟩:=hx.form (by have:=hab.1;omega);obtain⟨ya,yo,yc,rfl,hy1,hy2,_⟩:=hy.form (by have:=hab.2;omega);unfold maxLen at hx2 hy2;have hnm:ns.length*ms.length<=6400:=WH hl1 hl2;have HNM:=zb hnm;have HOK:=zb (And.intro okn okm);have HSN:=zb hsn;have HSM:=zb hsm;have HL0:Hid ([(a,b)].Nodup/\∀x∈[(a,b)],vT ns.length ms.length x):=zb ⟨by simp,by
  intro x hx;have:x=(a,b):=by simpa using hx
  rw[this];exact hab⟩
 have HRW:=zb (zdn w a b 87);have HB:=zb (zf (ue w.heap.size w) (.cells #[.int .i64 a,.int .i64 b] 87));clear hF hR hx hy okn okm hsn hsm hab hnm;go_enter Tryz.func33,Tryz.ntmps33;go_wp2_with fail
 go_loopw [9,10] (fun lv iv' wr=>∃(l:List (Int×Int))(i:Nat),i<=l.length/\iv'=.int .i64 i/\Hid (RowP wr w.heap.size 87 lv l)/\Hid (Below w.heap.size w wr)/\Hid (l.Nodup/\∀x∈l,vT ns.length ms.length x)/\Hid (From ns ms R i l))
  (fun _ iv' _=>6400-(intOf iv').toNat)
 case atStart=>exact⟨[(a,b)],0,by simp,rfl,HRW,HB,HL0,HF⟩
 case round=>
  clear HRW HB HF HL0;obtain⟨l,i,hil,rfl,HRW,HB,HL,HF⟩:=hrel;obtain⟨Wi,hWi⟩:∃Wi,Wi=wr:=⟨_,rfl⟩
  subst hWi;have hll:l.length<=6400:=uC (jz (za HL).1 (za HL).2) (za HNM);by_cases hlt:i<l.length
  . obtain⟨g,cap,rfl,hc1,hc2,hgb,hcell⟩:=(za HRW).form (by omega)
    obtain⟨⟨pa,pb⟩,hp⟩:∃p,l[i]? =some p:=⟨_,uf hlt⟩
    obtain⟨g0,g1⟩:=hcell i _ hp;simp only at g0 g1;have hpin:=(za HL).2 _ (un hp);obtain⟨⟨pa0,pa1⟩,pb0,pb1⟩:=zbS.1 hpin;obtain⟨na,hna⟩:∃nd,ns[pa.toNat]? =some nd:=⟨_,uf (by omega)⟩
    obtain⟨nb,hnb⟩:∃nd,ms[pb.toNat]? =some nd:=⟨_,uf (by omega)⟩
    obtain⟨kva,x0,x1,x2,_,hka⟩:=(za HX).node hna;obtain⟨kvb,y0,y1,y2,_,hkb⟩:=(za HY).node hnb;have x0:=zd (za HB) x0;have x1:=zd (za HB) x1;have x2:=zd (za HB) x2;have y0:=zd (za HB) y0;have y1:=zd (za HB) y1;have y2:=zd (za HB) y2;have sa:=X7 (za HSN) hna;have sb:=X7 (za HSM) hnb;have HPI:=zb hp;have HPA:Hid (kp ns pa=na):=zb (vt hna);have HPB:Hid (kp ms pb=nb):=zb (vt hnb);have HKA:=zb hka;have HKB:=zb hkb;obtain⟨aka,akc,rfl,ak1,ak2⟩:=hka.form;obtain⟨bka,bkc,rfl,bk1,bk2⟩:=hkb.form;unfold maxLen at ak2 bk2 hc2;have HOA:Hid (zT ns.length na=true):=zb (uI.1 (za HOK).1 _ (un hna));have HOB:Hid (zT ms.length nb=true):=zb (uI.1 (za HOK).2 _ (un hnb));obtain⟨sa1,ta,ka⟩:=na;obtain⟨sb1,tb,kb⟩:=nb;simp only at x0 x1 x2 y0 y1 y2 sa sb HKA HKB ak1 bk1;have ei:((i:Int)).toNat=i:=by omega
    have pan:(pa.toNat:Int)=pa:=by omega
    have pbn:(pb.toNat:Int)=pb:=by omega
    clear hp hna hnb hka hkb hcell hpin;have hb1:=zf (ue Wi.heap.size Wi) (.cells #[.int .i64 sa1,.string (B ta),.slice aka ka.length akc] 56);have hb2:=zf hb1 (.cells #[.int .i64 sb1,.string (B tb),.slice bka kb.length bkc] 56);have g1':=zd hb1 g1;have y0':=zd hb1 y0;have y1':=zd hb1 y1;have y2':=zd hb1 y2;have HBB:=zb hb2;have HN1:=zb ((AtC3.new Wi (.int .i64 sa1) (.string (B ta)) (.slice aka ka.length akc) 56).below (zf (ue _ _) (.cells #[.int .i64 sb1,.string (B tb),.slice bka kb.length bkc] 56)));have HN2:=zb (AtC3.new (Wi.alloc (.cells #[.int .i64 sa1,.string (B ta),.slice aka ka.length akc] 56)) (.int .i64 sb1) (.string (B tb)) (.slice bka kb.length bkc) 56);rw[uk]at HN2;clear g1 y0 y1 y2 hb1 hb2;go_wp2_with fail;obtain⟨W2,hW⟩:∃W2,(Wi.alloc (.cells #[.int .i64 sa1,.string (B ta),.slice aka ka.length akc] 56)).alloc (.cells #[.int .i64 sb1,.string (B tb),.slice bka kb.length bkc] 56)=W2:=⟨_,rfl⟩
    rw[hW]at HBB HN1 HN2⊢;clear hW g0 g1' x0 x1 x2 y0' y1' y2';have h:=zc1 (sa1,ta,ka) (sb1,tb,kb) aka bka akc bkc W2 sa.1 sb.1 sa.2 sb.2;refine h.mono ?_;clear h;rintro e W3⟨rfl,hb3⟩;have HB3:=zb (zi (za HB) ((za HBB).trans (hb3.mono (za HBB).size)));have HRW3:=zb (zu (za HRW) ((za HBB).trans (hb3.mono (za HBB).size)));have HM1:=zb ((za HN1).below hb3);have HM2:=zb ((za HN2).below hb3);have HLAB:Hid (kZ ns ms pa pb=zU (sa1,ta,ka) (sb1,tb,kb)):=zb (by unfold kZ;rw[za HPA,za HPB]);have HKID:Hid (vh ns ms pa pb=ka.zip kb):=zb (by unfold vh;rw[za HPA,za HPB]);clear hb3 HBB HN1 HN2 HB HRW;obtain⟨c,hc⟩:∃c,zU (sa1,ta,ka) (sb1,tb,kb)=c:=⟨_,rfl⟩
    rw[hc]at HLAB⊢;have HC:=zb hc;clear hc;by_cases hc0:c=0
    . subst hc0
      have hlen:ka.length=kb.length:=zaT (za HOA) (za HOB) (za HC);have HLEN:=zb hlen;have HST:Hid (l=qG l ((ka.zip kb).take 0)):=zb rfl;have HBx:=HB3;clear hlen;go_wp2_with fail
      go_loopw [9,14] (fun lv kv wr=>∃(k:Nat)(l':List (Int×Int)),k<=ka.length/\kv=.int .i64 k/\Hid (l'=qG l ((ka.zip kb).take k))/\Hid (RowP wr w.heap.size 87 lv l')/\Hid (Below w.heap.size w wr)/\
        Hid (AtC3 wr Wi.heap.size (.int .i64 sa1) (.string (B ta)) (.slice aka ka.length akc) 56)/\Hid (AtC3 wr (Wi.heap.size+1) (.int .i64 sb1) (.string (B tb)) (.slice bka kb.length bkc) 56))
       (fun _ kv _=>ka.length-(intOf kv).toNat)
      case atStart=>exact⟨0,l,by omega,rfl,HST,HRW3,HB3,HM1,HM2⟩
      case round=>
       clear HST HRW3 HB3 HM1 HM2;obtain⟨k,l',hkl,rfl,HLK,HRW,HB,HM1,HM2⟩:=hrel;have m12:=(za HM1).n2;have m22:=(za HM2).n2;obtain⟨Wk,hWk⟩:∃Wk,Wk=wr:=⟨_,rfl⟩
       subst hWk;by_cases hlt2:k<ka.length
       . have hlb:k<kb.length:=by have:=za HLEN;omega
         obtain⟨x,hx⟩:∃x,ka[k]? =some x:=⟨_,uf hlt2⟩
         obtain⟨y,hy⟩:∃y,kb[k]? =some y:=⟨_,uf hlb⟩
         have HZ:Hid ((ka.zip kb)[k]? =some (x,y)):=zb (by rw[Wy];exact⟨hx,hy⟩);obtain⟨ga,oa,rfl,_,u0⟩:=((za HKA).below (za HB)).cell hx;obtain⟨gb,ob,rfl,_,u1⟩:=((za HKB).below (za HB)).cell hy;have k0:(0:Int)<=(k:Int):=by omega
         have k1:(k:Int)<(ka.length:Int):=by omega
         have k2:(k:Int)<(kb.length:Int):=by omega
         have k3:((k:Int)).toNat=k:=by omega
         have hal:=zf (ue Wk.heap.size Wk) (.cells #[.int .i64 0,.int .i64 0] 87);have n12:=zd hal m12;have n22:=zd hal m22;have v0:=zd hal u0;have v1:=zd hal u1;have HAL:=zb hal;clear hx hy hal;go_wp2_with fail
         go_region
         obtain⟨W4,hW4⟩:∃W4,(Wk.alloc (.cells #[.int .i64 x,.int .i64 y] 87)).drew=W4:=⟨_,rfl⟩
         have hbk:Below Wk.heap.size Wk (Wk.alloc (.cells #[.int .i64 x,.int .i64 y] 87)).drew:=(zf (ue _ _) _).drew;have HBX:Hid (AtC2 (Wk.alloc (.cells #[.int .i64 x,.int .i64 y] 87)).drew Wk.heap.size (.int .i64 x) (.int .i64 y) 87):=zb ((AtC2.new Wk _ _ _).below (ue _ _).drew);rw[hW4]at hbk HBX⊢;have HB4:=zb (zi (za HB) hbk);have HRW4:=zb (zu (za HRW) hbk);have HM14:=zb ((za HM1).below hbk);have HM24:=zb ((za HM2).below hbk);have hl0:0<l'.length:=by
          obtain⟨r,hr⟩:=y6 (ks:=(ka.zip kb).take k) (l:=l);rw[za HLK,hr,uG];omega
         obtain⟨g2,cap2,rfl,hd1,hd2,hgb2,hcell2⟩:=RowP.form (za HRW4) hl0;unfold maxLen at hd2;have HCELL:=zb hcell2;have hll2:l'.length<=6400:=by
          have:=yi (za HL).1 (za HL).2 (ks:=(ka.zip kb).take k) (fun z hz=>jO (za HOK).1 (za HOK).2 pa pb ((za HL).2 _ (un (za HPI))) z (by rw[za HKID];exact UV hz));rw[za HLK];exact uC (jz this.1 this.2.1) (za HNM)
         clear hW4 hbk HAL n12 n22 v0 v1 u0 u1 m12 m22 HM1 HM2 HRW HB hcell2 hl0;have hbase:Hid (Below W4.heap.size W4 W4):=zb (ue _ _);go_wp2_with fail
         go_loopw [16,17] (fun sv jv wr=>∃j:Nat,j<=l'.length/\jv=.int .i64 j/\sv=.bool (decide ((x,y)∈l'.take j))/\Hid (Below W4.heap.size W4 wr))
          (fun _ jv _=>l'.length-(intOf jv).toNat)
         case atStart=>exact⟨0,by omega,rfl,by simp,hbase⟩
         case round=>
          clear hbase;obtain⟨j,hjl,rfl,rfl,HBJ⟩:=hrel;by_cases hjlt:j<l'.length
          . obtain⟨⟨p,q⟩,hpq⟩:∃z,l'[j]? =some z:=⟨_,uf hjlt⟩
            obtain⟨z0,z1⟩:=za HCELL j _ hpq;simp only at z0 z1;have z0:=zd (za HBJ) z0;have z1:=zd (za HBJ) z1;have e0:=((za HBX).below (za HBJ)).n0;have e1:=((za HBX).below (za HBJ)).n1;have HMT:=zb (zeB (x:=(x,y)) hpq);have j0:(0:Int)<=(j:Int):=by omega
            have j1:(j:Int)<(l'.length:Int):=by omega
            have j3:((j:Int)).toNat=j:=by omega
            clear hpq;go_wp2_with fail;rcases uN (decide ((x,y)∈l'.take j))with hm|hm
            . rw[hm]
              have HX:Hid (true=decide ((x,y)∈l'.take (j+1))):=zb (by rw[za HMT,hm];rfl);clear hm
              go_region
              go_wp2_with fail;go_roundw
              case rel=>exact⟨j+1,by omega,by go_num,uB Value.bool (za HX),zb ((za HBJ).trans ((ue _ _).drew))⟩
              case measure=>simp[intOf];omega
            . rw[hm]
              have HX:Hid ((decide (p=x)&&decide (q=y))=decide ((x,y)∈l'.take (j+1))):=zb (by rw[za HMT,hm,Bool.false_or,UW];simp);have HDN:=zb (jI (za HBJ));have hpg:=zbc;have hpe:=fun W=>zgc W p q x y
              clear hm
              go_quiet (fail)
              clear hpg hpe;go_wp2_with fail;go_roundw
              case rel=>exact⟨j+1,by omega,by go_num,uB Value.bool (za HX),zb (za HDN _)⟩
              case measure=>simp[intOf];omega
          . obtain rfl:j=l'.length:=by omega
            rw[uz (ud _)];have HN:=zb (XJ (l:=l) (za HZ));have HRW5:=zb (zu (za HRW4) (za HBJ));have HB5:=zb (zi (za HB4) (za HBJ));have HM15:=zb ((za HM14).below (za HBJ));have HM25:=zb ((za HM24).below (za HBJ));have e0:=((za HBX).below (za HBJ)).n0;have e1:=((za HBX).below (za HBJ)).n1;clear HBX HRW4 HB4 HM14 HM24 HBJ;by_cases hm:(x,y)∈l'
            . rw[uy hm]
              have HLK2:Hid (l'=qG l ((ka.zip kb).take (k+1))):=zb (by rw[za HN,<-za HLK,uj hm]);clear hm;go_wp2_with fail;go_roundw
              case rel=>exact⟨k+1,l',by omega,by go_num,HLK2,HRW5,HB5,HM15,HM25⟩
              case measure=>simp[intOf];omega
            . rw[uw hm]
              have HLK2:Hid (l'++[(x,y)]=qG l ((ka.zip kb).take (k+1))):=zb (by rw[za HN,<-za HLK,ul hm]);have hal:=zf (ue wr.heap.size wr) (.cells #[.int .i64 x,.int .i64 y] 87);have HRW6:=zb (zu (za HRW5) hal);have HB6:=zb (zi (za HB5) hal);have HM16:=zb ((za HM15).below hal);have HM26:=zb ((za HM25).below hal);clear hm hal HRW5 HM15 HM25;go_wp2_with (at_builtin;refine wG _ rfl (.tmp 85) (.tmp 87) 88 rfl w.heap.size 87 i0 (.agg #[.int .i64 0,.int .i64 0]) 2 16 Tryz.underlying88 hi hz0 hz1 hz2 rfl (by decide) _ l'.length (pv l') rfl (za HRW6) ⟨wr.heap.size,0,none⟩ 1 1 [.int .i64 x,.int .i64 y] rfl rfl (World.news_of_block (cs:=#[.int .i64 x,.int .i64 y]) (t:=87) (fr:=(0,0)) (Un wr _)) (by intro u hu;simp at hu;rcases hu with rfl|rfl<;>rfl) (by unfold maxLen;omega) (by omega) (by have:=(za HB5).size;simp;omega) ?_;intro v' w7 hown7 hg7 hnil7;clear hnil7);have HRW7:Hid (RowP w7 w.heap.size 87 v' (l'++[(x,y)])):=zb (by unfold RowP;rw[zca,uG];exact hown7);have HB7:=zb (qh (za HB6) (za HRW6) hg7 (za HB6).size);have HM17:=zb ((za HM16).grown hg7 (vv (za HM16) (za HRW6) (by decide)));have HM27:=zb ((za HM26).grown hg7 (vv (za HM26) (za HRW6) (by decide)));obtain⟨p7,c7,rfl⟩:=xf hown7;clear hown7 hg7 HB6 HRW6 HM16 HM26;go_wp2_with fail;go_roundw
              case rel=>exact⟨k+1,_,by omega,by go_num,HLK2,HRW7,HB7,HM17,HM27⟩
              case measure=>simp[intOf];omega
       . obtain rfl:k=ka.length:=by omega
         have HK:Hid (l'=qG l (vh ns ms pa pb)):=zb (by rw[za HLK,za HKID,uz (by rw[List.length_zip];omega)]);have hok:=yi (za HL).1 (za HL).2 (ks:=vh ns ms pa pb) (fun z hz=>jO (za HOK).1 (za HOK).2 pa pb ((za HL).2 _ (un (za HPI))) z hz);have hF2:=(za HF).next (za HPI) (za HLAB)
         rw[<-za HK]at hok hF2;have hpre:i+1<=l'.length:=by
          obtain⟨r,hr⟩:=y6 (ks:=vh ns ms pa pb) (l:=l);rw[za HK,hr,uG];omega
         have HL2:Hid (l'.Nodup/\∀z∈l',vT ns.length ms.length z):=zb ⟨hok.1,hok.2.1⟩;have HF2:=zb hF2;obtain⟨p8,c8,rfl⟩:=xf (za HRW);clear hok hF2;go_wp2_with fail;go_roundw
         case rel=>exact⟨l',i+1,hpre,by go_num,HRW,HB,HL2,HF2⟩
         case measure=>simp[intOf];omega
    . have hcz:(c==0)=false:=ug.2 hc0
      have HQ:=zb ((za HF).stop (za HPI) (by rw[za HLAB];exact hc0));clear hc0;go_wp2_with fail;go_ret;exact⟨zK (by rw[za HQ,za HLAB]),za HB3⟩
  . obtain rfl:i=l.length:=by omega
    have HQ:=zb (za HF).done;obtain⟨p9,c9,rfl⟩:=xf (za HRW);go_wp2_with fail;go_ret;exact⟨zK (za HQ).symm,za HB⟩
theorem zdc(o:Option (Bool×Nat×Nat)):∃b u d,qe o=.agg #[.bool b,.string u,.string d]:=by
 cases o with
 |none=>exact⟨_,_,_,rfl⟩
 |some p=>obtain⟨a,b,c⟩:=p;exact⟨_,_,_,rfl⟩
theorem zfp(l m:List UInt8)(h:l≠m):((B l).toList==m)=false:=by
 rw[jg,ug];exact h
theorem zdL(l:List UInt8):((B l).toList==l)=true:=by
 rw[jg];simp
theorem zgJ(c:UInt8)(r:List UInt8)(h:0<(B (c::r)).size):(B (c::r))[0]'h=c:=by rw[j4];rfl
theorem zft{l:List UInt8}{k:Nat}(h:k<l.length)(hb:jD (l[k]'h).toNat=true):(l.all fun c=> !jD c.toNat)=false:=by
 rw[wW];exact⟨l[k]'h,uF h,by simp[hb]⟩
theorem zdQ{l:List UInt8}(h:∀i(hi:i<l.length),jD (l[i]'hi).toNat=false):(l.all fun c=> !jD c.toNat)=true:=by
 rw[uI];intro c hc;obtain⟨i,hi,rfl⟩:=List.mem_iff_getElem.1 hc;simp[h i hi]
theorem neI{a:Nat}{b:Nat}(h:a≠b):((a:Int)==(b:Int))=false:=by rw[ug];omega
theorem zcv{n:Nat}(h:jD n=true):js n=true\/(js n=false/\n<33)\/(js n=false/\¬n<33/\(n=127\/n=92\/n=124)):=by
 unfold jD at h;cases he:js n with
 |true=>exact .inl rfl
 |false=>
  rw[he]at h;simp only[Bool.false_or,Ur,ut,Um]at h;by_cases h3:n<33
  . exact .inr (.inl ⟨rfl,h3⟩)
  . exact .inr (.inr ⟨rfl,h3,by omega⟩)
theorem zaG{n:Nat}(h:jD n=false):js n=false/\¬n<33/\n≠127/\n≠92/\n≠124:=by
 unfold jD at h;simp only[WZ,wn,ug]at h;obtain⟨⟨⟨⟨a,b⟩,c⟩,d⟩,e⟩:=h;exact⟨a,b,c,d,e⟩
theorem V6(t:List UInt8)(w:World)(hs:t.length<=1048576):
  Calls Tryz.prog 65 #[.string (B t)] w fun e w'=>e=.returned (.bool (kq t))/\Below w.heap.size w w':=by
 obtain⟨nb,nu,nd,hN⟩:=zdc (zw t 10);have h1:=jT t 10 w (by omega);unfold zg at h1;rw[hN]at h1;obtain⟨K,hK⟩:∃K,(zw t 10).isSome=K:=⟨_,rfl⟩
 rw[hK]at h1;have H1:=zb h1;have hnone:(zw t 10).isNone= !K:=by rw[<-hK];cases zw t 10<;>rfl
 have HNO:=zb hnone;have HA:=zb (fun(W:World)=>zf (ue W.heap.size W) (.cells #[.bool nb,.string nu,.string nd] 79));clear h1 hN hK hnone;by_cases hne:t=[]
 . subst hne
   have HR:Hid (kq []=false):=zb (by unfold kq j7;simp);have e0:((B []).toList== [])=true:=zdL [];go_enter dE,de;go_wp2_with fail;refine(za H1).mono ?_;rintro e w1⟨rfl,hb1⟩;have HB:=zb (hb1.trans ((za HA w1).mono hb1.size));clear hb1;go_wp2_with fail;go_ret;exact⟨by rw[za HR];rfl,za HB⟩
 . obtain⟨c,r,hcr⟩:∃c r,t=c::r:=by cases t with|nil=>exact absurd rfl hne|cons c r=>exact⟨c,r,rfl⟩
   have HW:Hid (j7 t=(!kB c.toNat&&decide (t.length<=200)&&Lib.validD t&&t.all fun c=> !jD c.toNat)):=zb (by rw[hcr];rfl);have hz:0<(B t).size:=by rw[zj,hcr];simp
   have hc:(B t)[0]'hz=c:=by subst hcr;exact zgJ c r hz
   clear hcr;have e0:((B t).toList== [])=false:=zfp _ _ hne;clear hne;by_cases h46:t=[46]
   . have HR:Hid (kq t=false):=zb (by unfold kq;simp[h46])
     have e1:((B t).toList== [46])=true:=by rw[h46];exact zdL _
     clear h46;go_enter dE,de;go_wp2_with fail;refine(za H1).mono ?_;rintro e w1⟨rfl,hb1⟩;have HB:=zb (hb1.trans ((za HA w1).mono hb1.size));clear hb1;go_wp2_with fail;go_ret;exact⟨by rw[za HR];rfl,za HB⟩
   . have e1:((B t).toList== [46])=false:=zfp _ _ h46
     cases K with
     |true=>
      have HR:Hid (kq t=false):=zb (by unfold kq;rw[za HNO];rfl);clear h46;go_enter dE,de;go_wp2_with fail;refine(za H1).mono ?_;rintro e w1⟨rfl,hb1⟩;have HB:=zb (hb1.trans ((za HA w1).mono hb1.size));clear hb1;go_wp2_with fail;go_ret;exact⟨by rw[za HR];rfl,za HB⟩
     |false=>
      have HS:Hid (kq t=j7 t):=zb (by unfold kq;rw[za HNO];simp[h46]);obtain⟨n,hn⟩:∃n,c.toNat=n:=⟨_,rfl⟩
      have hn256:n<256:=by rw[<-hn];exact c.toNat_lt
      have hw:wrap64 (n:Int)=n:=by unfold wrap64;omega
      clear hn256;have HHEAD:Hid (kB n=true->kq t=false):=zb (fun h=>by rw[za HS,za HW,hn,h];rfl);clear h46;by_cases h3:n=35\/n=44\/n=96
      . have HR:Hid (kq t=false):=zb (za HHEAD (by rcases h3 with rfl|rfl|rfl<;>rfl))
        rcases h3 with rfl|rfl|rfl
        all_goals
         go_enter dE,de;go_wp2_with fail;refine(za H1).mono ?_;rintro e w1⟨rfl,hb1⟩;have HB:=zb (hb1.trans ((za HA w1).mono hb1.size));clear hb1;go_wp2_with fail;go_ret;exact⟨by rw[za HR];rfl,za HB⟩
      . have n1:((n:Int)==35)=false:=neI (b:=35) (by omega)
        have n2:((n:Int)==44)=false:=neI (b:=44) (by omega);have n3:((n:Int)==96)=false:=neI (b:=96) (by omega);by_cases hd:(decide ((48:Int)<=n)&&decide ((n:Int)<=57))=true
        . have HR:Hid (kq t=false):=zb (za HHEAD (by
           unfold kB;simp only[ux,ut]at hd;have:(decide (48<=n)&&decide (n<=57))=true:=by simp only[ux,ut];omega
           rw[this,Bool.or_true]))
          have HD:=zb hd;clear h3 hd;go_enter dE,de;go_wp2_with fail;refine(za H1).mono ?_;rintro e w1⟨rfl,hb1⟩;have HB:=zb (hb1.trans ((za HA w1).mono hb1.size));clear hb1;go_wp2_with fail;refine(Vh n 48 57 _).mono ?_;rintro e w2⟨rfl,rfl⟩;rw[za HD];go_wp2_with fail;go_ret;exact⟨by rw[za HR];rfl,za HB⟩
        . have hd:(decide ((48:Int)<=n)&&decide ((n:Int)<=57))=false:=by simpa using hd
          have HH:Hid (kB n=false):=zb (by
           have:(decide (48<=n)&&decide (n<=57))=false:=by
            simp only[Ww,wn]at hd⊢;omega
           unfold kB;rw[this,Bool.or_false];simp only[WZ,ug];omega)
          have HD:=zb hd;clear h3 hd;by_cases hl:t.length<=200
          . have hl':¬(200:Int)<((B t).size:Int):=by rw[zj];omega
            have HV:=zb (Vf t);cases hv:Lib.validD t with
            |false=>
             have HR:Hid (kq t=false):=zb (by rw[za HS,za HW,hv,wo];rfl);rw[hv]at HV;clear hl hv;go_enter dE,de;go_wp2_with fail;refine(za H1).mono ?_;rintro e w1⟨rfl,hb1⟩;have HB:=zb (hb1.trans ((za HA w1).mono hb1.size));clear hb1;go_wp2_with fail;refine(Vh n 48 57 _).mono ?_;rintro e w2⟨rfl,rfl⟩;rw[za HD];go_wp2_with fail;refine(za HV _ hs).mono ?_;rintro e w2⟨rfl,hb2⟩;have HB2:=zb (zi (za HB) hb2);clear hb2;go_wp2_with fail;go_ret;exact⟨by rw[za HR];rfl,za HB2⟩
            |true=>
             have HALL:Hid (kq t=(t.all fun c=> !jD c.toNat)):=zb (by rw[za HS,za HW,hv,hn,za HH,uy hl];rfl);rw[hv]at HV;clear hl hv;go_enter dE,de;go_wp2_with fail;refine(za H1).mono ?_;rintro e w1⟨rfl,hb1⟩;have HB:=zb (hb1.trans ((za HA w1).mono hb1.size));clear hb1;go_wp2_with fail;refine(Vh n 48 57 _).mono ?_;rintro e w2⟨rfl,rfl⟩;rw[za HD];go_wp2_with fail;refine(za HV _ hs).mono ?_;rintro e w2⟨rfl,hb2⟩;have HB2:=zb (zi (za HB) hb2);clear hb2;go_wp2_with fail;clear e0 e1 hc hn hw n1 n2 n3 hl' HD HH HHEAD HB;have HSZ:=zb (zj t)
             go_loopw [5] (fun i wr=>∃k:Nat,k<=t.length/\i=.int .i64 k/\Hid (∀j(hj:j<t.length),j<k->jD (t[j]'hj).toNat=false)/\Hid (Below w.heap.size w wr)) (fun i _=>t.length-(intOf i).toNat)
             case atStart=>exact⟨0,uD _,rfl,zb (fun j _ h=>by omega),HB2⟩
             case round=>
              clear HB2;obtain⟨k,hk,rfl,HG,HB2⟩:=hrel;by_cases hlt:k<t.length
              . have hlt':k<(B t).size:=by rw[za HSZ];exact hlt
                obtain⟨d,hd⟩:∃d,t[k]'hlt=d:=⟨_,rfl⟩
                have hg:(B t)[k]'hlt'=d:=(j4 t k hlt').trans hd;have HD:=zb hd;clear hd;obtain⟨n,hn⟩:∃n,d.toNat=n:=⟨_,rfl⟩
                have HE:=zb (zcW n wr);rcases uN (jD n)with hb|hb
                .
                 have hbk:jD (t[k]'hlt).toNat=true:=by rw[za HD,hn];exact hb
                 have HR:Hid (kq t=false):=zb ((za HALL).trans (zft hlt hbk));clear hbk;rcases zcv hb with he|⟨he,h3⟩|⟨he,h3,h4⟩
                 . rw[he]at HE
                   clear hb he;go_wp2_with fail;refine(za HE).mono ?_;rintro e w3⟨rfl,rfl⟩;go_wp2_with fail;go_ret;exact⟨by rw[za HR];rfl,za HB2⟩
                 . rw[he]at HE
                   have h3':(n:Int)<33:=by omega
                   clear hb he h3;go_wp2_with fail;refine(za HE).mono ?_;rintro e w3⟨rfl,rfl⟩;go_wp2_with fail;go_ret;exact⟨by rw[za HR];rfl,za HB2⟩
                 . rw[he]at HE
                   clear hb he;rcases h4 with h4|h4|h4
                   all_goals
                    rw[h4]at HE hn;clear h4 h3;go_wp2_with fail;refine(za HE).mono ?_;rintro e w3⟨rfl,rfl⟩;go_wp2_with fail;go_ret;exact⟨by rw[za HR];rfl,za HB2⟩
                .
                 obtain⟨he,h3,h127,h92,h124⟩:=zaG hb;have HG2:Hid (∀j(hj:j<t.length),j<k+1->jD (t[j]'hj).toNat=false):=zb (fun j hj h=>by
                  by_cases hjk:j=k
                  . subst hjk;rw[za HD,hn];exact hb
                  . exact za HG j hj (by omega))
                 rw[he]at HE;have h3':¬(n:Int)<33:=by omega
                 have n1:((n:Int)==127)=false:=neI (b:=127) h127;have n2:((n:Int)==92)=false:=neI (b:=92) h92;have n3:((n:Int)==124)=false:=neI (b:=124) h124;clear hb he h3 h127 h92 h124;go_wp2_with fail;refine(za HE).mono ?_;rintro e w3⟨rfl,rfl⟩;go_wp2_with fail;go_roundw
                 case rel=>exact⟨k+1,by omega,by go_num,HG2,HB2⟩
                 case measure=>simp[intOf];omega
              . have hnl:¬(k:Int)<((B t).size:Int):=by rw[za HSZ];omega
                obtain rfl:k=t.length:=by omega
                have HR:Hid (kq t=true):=zb (by rw[za HALL];exact zdQ (fun i hi=>za HG i hi hi));go_wp2_with fail;go_ret;exact⟨by rw[za HR];rfl,za HB2⟩
          . have hl':(200:Int)<((B t).size:Int):=by rw[zj];omega
            have HR:Hid (kq t=false):=zb (by rw[za HS,za HW,uw hl,wo];rfl);clear hl;go_enter dE,de;go_wp2_with fail;refine(za H1).mono ?_;rintro e w1⟨rfl,hb1⟩;have HB:=zb (hb1.trans ((za HA w1).mono hb1.size));clear hb1;go_wp2_with fail;refine(Vh n 48 57 _).mono ?_;rintro e w2⟨rfl,rfl⟩;rw[za HD];go_wp2_with fail;go_ret;exact⟨by rw[za HR];rfl,za HB⟩
theorem Xv(s:Int)(t:List UInt8)(kv:Value)(w:World)(hs:t.length<=1048576):
  Calls Tryz.prog 35 #[.agg #[.int .i64 s,.string (B t),kv]] w fun e w'=>e=.returned (.bool (kL s t))/\Below w.heap.size w w':=by
 have HB:=zb (zf (ue w.heap.size w) (.cells #[.int .i64 s,.string (B t),kv] 56));have HC:=zb (AtC3.new w (.int .i64 s) (.string (B t)) kv 56);obtain⟨R,hR⟩:∃R,kL s t=R:=⟨_,rfl⟩
 rw[hR];have HR:=zb hR;clear hR;by_cases h1:s=1
 . subst h1
   have HQ:Hid (vI t=R):=zb (by rw[<-za HR];rfl);cases hp:zw t 10 with
   |none=>
    have HQ2:Hid (R=false):=zb (by rw[<-za HQ];unfold vI;rw[hp]);go_enter WK,WC;go_wp2_with fail;have h:=jT t 10 (w.alloc (.cells #[.int .i64 1,.string (B t),kv] 56)) (by omega);rw[hp,show zg none=.tuple #[.agg #[.bool false,.string ⟨#[]⟩,.string ⟨#[]⟩],.bool false]from rfl]at h;refine h.mono ?_;clear h hp;rintro e w1⟨rfl,hb1⟩;have HB1:=zb (zf (zi (za HB) hb1) (.cells #[.bool false,.string ⟨#[]⟩,.string ⟨#[]⟩] 79));have HD:=zb (qq (w1.alloc (.cells #[.bool false,.string ⟨#[]⟩,.string ⟨#[]⟩] 79)));clear hb1;go_wp2_with fail
    go_region
    all_goals
     go_wp2_with fail;go_ret;exact⟨by rw[za HQ2];rfl,by first|exact zi (za HB1) (za HD _)|exact zi (za HB1) (za HD 1)|exact za HB1⟩
   |some p=>
    obtain⟨n,u,d⟩:=p;have hok:=Qt hp;obtain⟨_,_,hl1,hl2,_⟩:=ju hok;have HQ2:Hid (((B (qo n (qj 10 u) (qj 10 d) 10)).toList==(B t).toList)=R):=zb (by
     rw[<-za HQ];unfold vI;rw[hp,jg,jg];show _=decide (yd (n,u,d)=t);show(yd (n,u,d)==t)=_;by_cases e:yd (n,u,d)=t
     . rw[e];simp
     . rw[uw e,ug.2 e])
    go_enter WK,WC;go_wp2_with fail;have h:=jT t 10 (w.alloc (.cells #[.int .i64 1,.string (B t),kv] 56)) (by omega);rw[hp,show zg (some (n,u,d))=.tuple #[.agg #[.bool n,.string (B (qj 10 u)),.string (B (qj 10 d))],.bool true]from rfl]at h;refine h.mono ?_;clear h hp hok;rintro e w1⟨rfl,hb1⟩;have HC1:=zb ((za HC).below hb1);have HB1:=zb (zi (za HB) hb1);clear hb1 HB HC;go_wp2_with fail;obtain⟨W,hW⟩:∃W,w1.alloc (.cells #[.bool n,.string (B (qj 10 u)),.string (B (qj 10 d))] 79)=W:=⟨_,rfl⟩
    have HN:=zb (AtC3.new w1 (.bool n) (.string (B (qj 10 u))) (.string (B (qj 10 d))) 79);have HC2:=zb ((za HC1).below (zf (ue w1.heap.size w1) (.cells #[.bool n,.string (B (qj 10 u)),.string (B (qj 10 d))] 79)));have HB2:=zb (zf (za HB1) (.cells #[.bool n,.string (B (qj 10 u)),.string (B (qj 10 d))] 79));rw[hW]at HN HC2 HB2⊢;clear hW;have a0:=(za HN).n0;have a1:=(za HN).n1;have a2:=(za HN).n2;have c1:=(za HC2).n1
    go_region_with ((go_at_call 57;refine(kh n (qj 10 u) (qj 10 d) 10 _ (by omega) (by omega)).mono ?_;rintro e w2⟨rfl,hb2⟩;have HB3:Hid (Below W.heap.size W w2):=(ue _ _).drew.trans hb2;have d1:=((za HC2).below (za HB3)).n1;clear hb2))
    all_goals
     go_wp2_with fail;go_ret;exact⟨by rw[<-za HQ2];rfl,zi (za HB2) (za HB3)⟩
 . have e1:(s==1)=false:=ug.2 h1
   by_cases h2:s=2
   . subst h2
     have HQ:Hid (kq t=R):=zb (by rw[<-za HR];rfl);go_enter WK,WC;go_wp2_with fail;have h:=V6 t (w.alloc (.cells #[.int .i64 2,.string (B t),kv] 56)) hs;refine h.mono ?_;clear h;rintro e w1⟨rfl,hb1⟩;have HB1:=zb (zi (za HB) hb1);rw[za HQ];clear hb1;go_wp2_with fail;go_ret;exact⟨rfl,za HB1⟩
   . have e2:(s==2)=false:=ug.2 h2
     by_cases h3:s=3
     . subst h3
       have HQ:Hid ((decide (t.length<=200)&&Lib.validD t)=R):=zb (by rw[<-za HR];rfl);by_cases hl:t.length<=200
       . have hl':((B t).size:Int)<=200:=by rw[zj];omega
         go_enter WK,WC;go_wp2_with fail;have h:=Vf t (w.alloc (.cells #[.int .i64 3,.string (B t),kv] 56)) hs;refine h.mono ?_;clear h;rintro e w1⟨rfl,hb1⟩;have HB1:=zb (zi (za HB) hb1);have HQ2:Hid (Lib.validD t=R):=zb (by rw[<-za HQ,uy hl,wI]);rw[za HQ2];clear hb1;go_wp2_with fail;go_ret;exact⟨rfl,za HB1⟩
       . have hl':¬((B t).size:Int)<=200:=by rw[zj];omega
         have HQ2:Hid (R=false):=zb (by rw[<-za HQ,uw hl,UR]);go_enter WK,WC;go_wp2_with fail;go_ret;exact⟨by rw[za HQ2];rfl,za HB⟩
     . have e3:(s==3)=false:=ug.2 h3
       by_cases h4:s=4
       . subst h4
         have HQ:Hid (V7 t=R):=zb (by rw[<-za HR];rfl);go_enter WK,WC;go_wp2_with fail;have HS:=zb (fun W=>VM t W hs);obtain⟨m,hm⟩:∃m,qt (B t)=m:=⟨_,rfl⟩
         rw[hm]at HS;have hQ:=za HQ;unfold V7 at hQ;rw[hm]at hQ;have HQ:=zb hQ;clear hQ hm;obtain⟨W,hW⟩:∃W,w.alloc (.cells #[.int .i64 4,.string (B t),kv] 56)=W:=⟨_,rfl⟩
         rw[hW]at HB HC⊢;clear hW;have c1:=(za HC).n1;by_cases h0:0<m
         . have h0':decide (0<m)=true:=uy h0
           have HQ2:Hid (((m:Int)==((B t).size:Int))=R):=zb (by
            rw[<-za HQ,uy h0,wI,zj,UW];simp;omega)
           go_wp2_with fail
           go_region_with (first|(go_at_call 67;refine(za HS W.drew).mono ?_;rintro e w2⟨rfl,hb2⟩;have HB3:Hid (Below W.heap.size W w2):=(ue _ _).drew.trans hb2;have d1:=((za HC).below (za HB3)).n1;clear hb2)|(go_at_call 67;refine(za HS w2).mono ?_;rintro e w3⟨rfl,hb3⟩;have HB4:=zb (zi (za HB3) hb3);have e1:=((za HC).below (za HB4)).n1;clear hb3))
           all_goals
            go_wp2_with fail;go_ret;exact⟨by rw[<-za HQ2];rfl,zi (za HB) (za HB4)⟩
         . have h0':decide (0<m)=false:=uw h0
           have HQ2:Hid (R=false):=zb (by rw[<-za HQ,uw h0,UR]);go_wp2_with fail
           first|(go_region_with ((go_at_call 67;refine(za HS W.drew).mono ?_;rintro e w2⟨rfl,hb2⟩;have HB3:Hid (Below W.heap.size W w2):=(ue _ _).drew.trans hb2;have d1:=((za HC).below (za HB3)).n1;clear hb2)))|fail
           all_goals
            go_wp2_with fail;go_ret;exact⟨by rw[za HQ2];rfl,zi (za HB) (za HB3)⟩
       . have e4:(s==4)=false:=ug.2 h4
         by_cases h5:s=5
         . subst h5
           have HQ:Hid ((decide (t=[116])||decide (t=[102]))=R):=zb (by rw[<-za HR];rfl);by_cases ht:t=[116]
           . have f0:((B t).toList== [116])=true:=by rw[ht];exact zdL _
             have HQ2:Hid (R=true):=zb (by rw[<-za HQ,uy ht,Bool.true_or]);clear ht;go_enter WK,WC;go_wp2_with fail;go_ret;exact⟨by rw[za HQ2];rfl,za HB⟩
           . have f0:((B t).toList== [116])=false:=zfp _ _ ht
             have HQ2:Hid (((B t).toList== [102])=R):=zb (by
              rw[<-za HQ,uw ht,Bool.false_or,jg];by_cases h:t=[102]
              . subst h;rfl
              . rw[uw h,ug.2 h])
             clear ht;go_enter WK,WC;go_wp2_with fail;go_ret;exact⟨by rw[<-za HQ2];rfl,za HB⟩
         . have e5:(s==5)=false:=ug.2 h5
           by_cases h9:s=9
           . subst h9
             have HQ:Hid (decide (((B t).size:Int)<=200)=R):=zb (by
              rw[<-za HR,zj];show _=decide (t.length<=200)
              congr 1;rw[eq_iff_iff];omega)
             go_enter WK,WC;go_wp2_with fail;go_ret;exact⟨by rw[<-za HQ];rfl,za HB⟩
           . have e9:(s==9)=false:=ug.2 h9
             have HQ:Hid ((B t).toList.isEmpty=R):=zb (by
              rw[<-za HR,jg];unfold kL;rw[ul h1,ul h2,ul h3,ul h4,ul h5,ul h9];cases t<;>rfl)
             go_enter WK,WC;go_wp2_with fail;go_ret;exact⟨by rw[<-za HQ];rfl,za HB⟩
theorem KY{ns:List Nd}{p:Nd->Bool}{j:Nat}{x:Nd}(h:ns[j]? =some x):(ns.take (j+1)).all p=((ns.take j).all p&&p x):=by
 rw[uY,h];simp
theorem zb2{d:Dt}(h:jG d=false):vD d=false:=by unfold vD;rw[h];rfl
theorem zf2{d:Dt}{nd:Nd}(hm:nd∈d.1)(h:zT d.1.length nd=false):vD d=false:=by
 unfold vD;have:d.1.all (zT d.1.length)=false:=by rw[wW];exact⟨nd,hm,by simp[h]⟩
 rw[this,wo,UR]
theorem zf3{d:Dt}{r:Int}(hm:r∈d.2)(h:kW r d.1.length=false):vD d=false:=by
 unfold vD;have:d.2.all (kW · d.1.length)=false:=by rw[wW];exact⟨r,hm,by simp[h]⟩
 rw[this,wo]
theorem zf4{d:Dt}(h1:jG d=true)(h2:d.1.all (zT d.1.length)=true)(h3:d.2.all (kW · d.1.length)=true):vD d=true:=by
 unfold vD;rw[h1,h2,h3];rfl
theorem jX(d:Dt)(u:Value)(w:World)(h:DataAt w u d)(hsm:d.1.length<=1048576/\d.2.length<=1048576/\qr d.1):
  Calls Tryz.prog 10 #[u] w fun e W'=>e=.returned (.bool (vD d))/\Below w.heap.size w W':=by
 obtain⟨ns,rs⟩:=d;obtain⟨nv,rv,rfl,hn,hr⟩:=h;simp only at hn hr hsm;obtain⟨an,cn,rfl,hn1,hn2⟩:=hn.form0;obtain⟨ar,cr,rfl,hr1,hr2⟩:=hr.form;unfold maxLen at hn2 hr2;obtain⟨hs1,hs2,hs3⟩:=hsm;have HN:=zb hn;have HR:=zb hr;have HB:=zb (zf (ue w.heap.size w) (.cells #[.slice an ns.length cn,.slice ar rs.length cr] 26));have HP:=zb (AtC2.new w (.slice an ns.length cn) (.slice ar rs.length cr) 26);have HS3:=zb hs3;clear hn hr hs3;by_cases h80:ns.length<=80
 . have h80':¬(80<(ns.length:Int)):=by omega
   by_cases h12:rs.length<=12
   . have h12':¬(12<(rs.length:Int)):=by omega
     have HSM:Hid (jG (ns,rs)=true):=zb (by unfold jG;simp[h80,h12]);go_enter Tryz.func10,Tryz.ntmps10;go_wp2_with fail
     go_loopw [3] (fun iv' wr=>∃i:Nat,i<=ns.length/\iv'=.int .i64 i/\Hid ((ns.take i).all (zT ns.length)=true)/\Hid (Below w.heap.size w wr)/\Hid (AtC2 wr w.heap.size (.slice an ns.length cn) (.slice ar rs.length cr) 26))
      (fun iv' _=>ns.length-(intOf iv').toNat)
     case atStart=>exact⟨0,by omega,rfl,zb (by simp),HB,HP⟩
     case round=>
      clear HB HP;obtain⟨i,hile,rfl,hall,HB,HP⟩:=hrel;have p0:=(za HP).n0;have p1:=(za HP).n1;by_cases hil:i<ns.length
      . obtain⟨nd,hnd⟩:∃nd,ns[i]? =some nd:=⟨_,uf hil⟩
        obtain⟨b,off,rfl,hba⟩:=(za HN).addr (by omega);obtain⟨kv,c0,c1,c2,htl,hk⟩:=((za HN).below (za HB)).node hnd;have hNd:=(za HS3) nd (un hnd);have HST:=zb (KY (p:=zT ns.length) hnd);have HNO:=zb (fun h=>zf2 (d:=(ns,rs)) (un hnd) h);have HNB:Hid (zT ns.length nd=((decide (1<=nd.1)&&decide (nd.1<=9))&&kL nd.1 nd.2.1&&jN nd ns.length)):=zb rfl;obtain⟨s,t,ks⟩:=nd;simp only at htl hk hNd c0 c1 c2;have HK:=zb hk;obtain⟨ka,kc,rfl,_,_⟩:=hk.form;clear hk hnd;have hbs:=zf (ue wr.heap.size wr) (.cells #[.int .i64 s,.string (B t),.slice ka ks.length kc] 56);have HB1:=zb (zi (za HB) hbs);have HP1:=zb ((za HP).below hbs);have HQ1:=zb (AtC3.new wr (.int .i64 s) (.string (B t)) (.slice ka ks.length kc) 56);have HK1:=zb ((za HK).below hbs);have HTL:=zb htl;clear hbs HP HK htl;go_wp2_with fail;obtain⟨W,hW⟩:∃W,wr.alloc (.cells #[.int .i64 s,.string (B t),.slice ka ks.length kc] 56)=W:=⟨_,rfl⟩
        rw[hW]at HB1 HP1 HQ1 HK1⊢;clear hW c0 c1 c2 p0 p1;have q0:=(za HQ1).n0;have q1:=(za HQ1).n1;have q2:=(za HQ1).n2;refine(Vh s 1 9 W).mono ?_;rintro e w2⟨rfl,rfl⟩;rcases uN (decide (1<=s)&&decide (s<=9))with hz|hz
        . rw[hz]
          have HZ:=zb hz;clear hz;go_wp2_with fail;refine(Xv s t _ w2 hNd.1).mono ?_;rintro e w3⟨rfl,hb3⟩;have HB3:=zb (zi (za HB1) hb3);have HP3:=zb ((za HP1).below hb3);have HQ3:=zb ((za HQ1).below hb3);have HK3:=zb ((za HK1).below hb3);clear hb3 HB1 HP1 HQ1 HK1 q0 q1 q2;rcases uN (kL s t)with hy|hy
          . rw[hy]
            have HY:=zb hy;have q0:=(za HQ3).n0;have q1:=(za HQ3).n1;have q2:=(za HQ3).n2;have p0:=(za HP3).n0;have p1:=(za HP3).n1;clear hy;go_wp2_with fail;refine(Xu _ (s,t,ks) ns.length w3 ⟨_,rfl,za HTL,za HK3⟩ hs1).mono ?_;rintro e w4⟨rfl,hb4⟩;have HB4:=zb (zi (za HB3) hb4);have HP4:=zb ((za HP3).below hb4);clear hb4 HB3 HP3 HQ3 HK3 q0 q1 q2 p0 p1;have HV:Hid (zT ns.length (s,t,ks)=jN (s,t,ks) ns.length):=zb (by rw[za HNB];simp only[za HZ,za HY,wI]);rcases uN (jN (s,t,ks) ns.length)with hx|hx
            . rw[hx]
              have HX:Hid ((ns.take (i+1)).all (zT ns.length)=true):=zb (by rw[za HST,za hall,za HV,hx];rfl);clear hx;go_wp2_with fail;go_roundw
              case rel=>exact⟨i+1,by omega,by go_num,HX,HB4,HP4⟩
              case measure=>simp[intOf];omega
            . rw[hx]
              have HX:=zb (za HNO (by rw[<-hx];exact za HV));clear hx;go_wp2_with fail;go_ret;exact⟨by rw[za HX];rfl,za HB4⟩
          . rw[hy]
            have HX:=zb (za HNO (by show zT ns.length (s,t,ks)=false;rw[za HNB];simp only[hy,wo,UR]));clear hy;go_wp2_with fail;go_ret;exact⟨by rw[za HX];rfl,za HB3⟩
        . rw[hz]
          have HX:=zb (za HNO (by show zT ns.length (s,t,ks)=false;rw[za HNB];simp only[hz,UR]));clear hz;go_wp2_with fail;go_ret;exact⟨by rw[za HX];rfl,za HB1⟩
      . have hie:i=ns.length:=by omega
        subst hie;have hall':=za hall;rw[uz (ud _)]at hall';have HALL:=zb hall';clear hall hall';go_wp2_with fail
        go_loopw [5] (fun jv wr=>∃j:Nat,j<=rs.length/\jv=.int .i64 j/\Hid ((rs.take j).all (kW · ns.length)=true)/\Hid (Below w.heap.size w wr)/\Hid (AtC2 wr w.heap.size (.slice an ns.length cn) (.slice ar rs.length cr) 26))
         (fun jv _=>rs.length-(intOf jv).toNat)
        case atStart=>exact⟨0,by omega,rfl,zb (by simp),HB,HP⟩
        case round=>
         clear HB HP p0 p1;obtain⟨j,hjle,rfl,hrall,HB,HP⟩:=hrel;have p0:=(za HP).n0;have p1:=(za HP).n1;by_cases hjl:j<rs.length
         . obtain⟨x,hx⟩:∃x,rs[j]? =some x:=⟨_,uf hjl⟩
           obtain⟨b,off,rfl,hb,hc⟩:=((za HR).below (za HB)).cell hx;have HST:=zb (yh (p:=(kW · ns.length)) hx);have HNO:=zb (fun h=>zf3 (d:=(ns,rs)) (un hx) h);have q0:(0:Int)<=(j:Int):=by omega
           have q1:(j:Int)<(rs.length:Int):=by omega
           have q2:((j:Int)).toNat=j:=by omega
           have q5:IntKind.i64.wrap ((ns.length:Int)-1)=(ns.length:Int)-1:=by rw[qX]<;>omega
           clear hx;go_wp2_with fail
           go_quiet ((go_at_call 34;exact Calls.quiet_of_same (zaR x ns.length _)))
           have HB1:=zb (zi (za HB) (qq wr nq));have HP1:=zb ((za HP).below (qq wr nq));clear HB HP p0 p1;rcases uN (kW x ns.length)with hz|hz
           . rw[hz]
             have HX:Hid ((rs.take (j+1)).all (kW · ns.length)=true):=zb (by rw[za HST,za hrall,hz];rfl);clear hz;go_wp2_with fail;go_roundw
             case rel=>exact⟨j+1,by omega,by go_num,HX,HB1,HP1⟩
             case measure=>simp[intOf];omega
           . rw[hz]
             have HX:=zb (za HNO hz);clear hz;go_wp2_with fail;go_ret;exact⟨by rw[za HX];rfl,za HB1⟩
         . have hje:j=rs.length:=by omega
           subst hje;have hrall':=za hrall;rw[uz (ud _)]at hrall';have HX:=zb (zf4 (d:=(ns,rs)) (za HSM) (za HALL) hrall');clear hrall hrall';go_wp2_with fail;go_ret;exact⟨by rw[za HX];rfl,za HB⟩
   . have h12':(12<(rs.length:Int)):=by omega
     have HR:Hid (vD (ns,rs)=false):=zb (zb2 (by unfold jG;simp[h12]));go_enter Tryz.func10,Tryz.ntmps10;go_wp2_with fail;go_ret;exact⟨by rw[za HR];rfl,za HB⟩
 . have h80':(80<(ns.length:Int)):=by omega
   have HR:Hid (vD (ns,rs)=false):=zb (zb2 (by unfold jG;simp[h80]));go_enter Tryz.func10,Tryz.ntmps10;go_wp2_with fail;go_ret;exact⟨by rw[za HR];rfl,za HB⟩
end Go.Proofs.YtpbnmhnbkfnaeaaGreatDoor
