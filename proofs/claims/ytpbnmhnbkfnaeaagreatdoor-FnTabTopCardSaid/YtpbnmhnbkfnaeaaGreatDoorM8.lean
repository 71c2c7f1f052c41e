/- A part of the proof, put together out of smaller texts. -/
import Derived.Test.YtpbnmhnbkfnaeaaGreatDoorM0
import Derived.Test.YtpbnmhnbkfnaeaaGreatDoorM3
import Derived.Test.YtpbnmhnbkfnaeaaGreatDoorM7
import Derived.Shelf.LaysM
import Derived.Shelf.Sort.Plain
import Derived.Shelf.Strconv.AppendUint10
import Derived.Shelf.Strconv.AppendInt10
import Derived.Shelf.Strconv.AppendIntPublic10
import Derived.Ground.Names2Prog
import Derived.Shelf.Slices.CompactI
import Derived.Test.YtpbnmhnbkfnaeaaGreatDoorProg
import Derived.Lib.ItoaLen
import Derived.Lib.ItoaMem
import Derived.RegionIn
import Derived.Stop.RegionWithIn
import Derived.Deep.AppendLies
import Derived.Maps.OwnSet
import Derived.DeepKeys4
import Derived.Deep.Cut
import Derived.Deep.RegionHeld
import Derived.Deep.CutRange
import Derived.Deep.RegionLaw
import Derived.Deep.RegionHeldLaw
import Derived.Deep.QuietTactic
set_option linter.all false
set_option maxRecDepth 100000
set_option maxHeartbeats 32000000
namespace Go.Proofs.YtpbnmhnbkfnaeaaGreatDoor
open Go.Shelf
def Tryz.lays189_ren:Go.Shelf.Ren:=⟨fun|189=>77|125=>115|257=>114|128=>148|129=>149|294=>139|295=>140|296=>141|297=>142|298=>143|299=>144|216=>145|300=>146|301=>147|328=>171|329=>172|330=>173|331=>174|332=>175|215=>126|343=>194|n=>n,fun|28=>24|3=>3|46=>150|0=>0|51=>171|53=>173|4=>4|183=>164|182=>163|131=>147|5=>5|9=>9|218=>201|222=>205|228=>228|229=>229|n=>n,fun|n=>n⟩
theorem Tryz.lays189:Go.Proofs.Lays.n189 Tryz.prog Tryz.lays189_ren:={
 mixed:=by kernel_rfl
 f125:=Tryz.func115.trans (uB some (by kernel_rfl))
 f128:=Tryz.func148.trans (uB some (by kernel_rfl))
 f129:=Tryz.func149.trans (uB some (by kernel_rfl))
 f189:=Tryz.func77.trans (uB some (by kernel_rfl))
 f215:=Tryz.func126.trans (uB some (by kernel_rfl))
 f216:=Tryz.func145.trans (uB some (by kernel_rfl))
 f257:=Tryz.func114.trans (uB some (by kernel_rfl))
 f294:=Tryz.func139.trans (uB some (by kernel_rfl))
 f295:=Tryz.func140.trans (uB some (by kernel_rfl))
 f296:=Tryz.func141.trans (uB some (by kernel_rfl))
 f297:=Tryz.func142.trans (uB some (by kernel_rfl))
 f298:=Tryz.func143.trans (uB some (by kernel_rfl))
 f299:=Tryz.func144.trans (uB some (by kernel_rfl))
 f300:=Tryz.func146.trans (uB some (by kernel_rfl))
 f301:=Tryz.func147.trans (uB some (by kernel_rfl))
 f328:=Tryz.func171.trans (uB some (by kernel_rfl))
 f329:=Tryz.func172.trans (uB some (by kernel_rfl))
 f330:=Tryz.func173.trans (uB some (by kernel_rfl))
 f331:=Tryz.func174.trans (uB some (by kernel_rfl))
 f332:=Tryz.func175.trans (uB some (by kernel_rfl))
 f343:=Tryz.func194.trans (uB some (by kernel_rfl))
 t0:=dj
 a0:=Tryz.isAgg0
 z0:=Tryz.sizeOf0
 v0:=dt
 t3:=uW
 a3:=dC
 z3:=dc
 v3:=Wz
 t4:=Wp
 a4:=Tryz.isAgg4
 z4:=Tryz.sizeOf4
 v4:=WQ
 t5:=Ux
 a5:=Tryz.isAgg5
 z5:=Tryz.sizeOf5
 v5:=Tryz.zeroValue5
 t9:=Uf
 a9:=Tryz.isAgg9
 z9:=Tryz.sizeOf9
 v9:=WP
 t28:=uV
 a28:=Tryz.isAgg24
 z28:=Tryz.sizeOf24
 v28:=Tryz.zeroValue24
 t46:=Tryz.underlying150
 a46:=Tryz.isAgg150
 z46:=Tryz.sizeOf150
 v46:=Tryz.zeroValue150
 t51:=Tryz.underlying171
 a51:=Tryz.isAgg171
 z51:=Tryz.sizeOf171
 v51:=Tryz.zeroValue171
 t53:=dx
 a53:=Tryz.isAgg173
 z53:=Tryz.sizeOf173
 v53:=Tryz.zeroValue173
 t131:=Tryz.underlying147
 a131:=Tryz.isAgg147
 z131:=Tryz.sizeOf147
 v131:=Tryz.zeroValue147
 t182:=Tryz.underlying163
 a182:=Tryz.isAgg163
 z182:=Tryz.sizeOf163
 v182:=Tryz.zeroValue163
 t183:=Tryz.underlying164
 a183:=Tryz.isAgg164
 z183:=Tryz.sizeOf164
 v183:=Tryz.zeroValue164
 t218:=Tryz.underlying201
 a218:=Tryz.isAgg201
 z218:=Tryz.sizeOf201
 v218:=Tryz.zeroValue201
 t222:=Tryz.underlying205
 a222:=Tryz.isAgg205
 z222:=Tryz.sizeOf205
 v222:=Tryz.zeroValue205
 t228:=Tryz.underlying228
 a228:=Tryz.isAgg228
 z228:=Tryz.sizeOf228
 v228:=Tryz.zeroValue228
 t229:=Tryz.underlying229
 a229:=Tryz.isAgg229
 z229:=Tryz.sizeOf229
 v229:=Tryz.zeroValue229}
open Go.Sort Go.RowKit in
theorem Tryz.slices_Sort_int(blk off cap:Nat)(zs:List Int)(w:World)(hH:Holds (Value.int .i64) w blk off zs.toArray)(hblk:blk<w.heap.size)(hsz:zs.length<4611686018427387904):
  Calls Tryz.prog 77 #[.slice (some ⟨blk,off,none⟩) zs.length cap] w fun e w'=>
   e=.returned (.tuple #[])/\∃n os,w'=grow (putRow (Value.int .i64) (Sort.ahead w n) blk off (zs.mergeSort fun x y=>decide (x<=y)).toArray) os:=Any.slices_Sort_int Tryz.lays189 blk off cap zs w hH hblk hsz
def Tryz.laysM176_ren:Go.Shelf.Ren:=⟨fun|176=>116|249=>150|288=>176|283=>195|284=>196|285=>197|286=>198|129=>149|317=>213|318=>214|319=>215|320=>216|337=>219|338=>220|n=>n,fun|37=>22|2=>2|3=>3|53=>173|4=>4|9=>9|171=>231|0=>0|173=>233|212=>248|51=>171|5=>5|20=>20|213=>249|46=>150|232=>252|233=>253|n=>n,fun|17=>4|18=>5|19=>6|n=>n⟩
theorem Tryz.laysM176:Go.Proofs.LaysM.n176 Tryz.prog Tryz.laysM176_ren:={
 mixed:=by kernel_rfl
 f129:=Tryz.func149.trans (uB some (by kernel_rfl))
 f176:=Tryz.func116.trans (uB some (by kernel_rfl))
 f249:=Tryz.func150.trans (uB some (by kernel_rfl))
 f283:=Tryz.func195.trans (uB some (by kernel_rfl))
 f284:=Tryz.func196.trans (uB some (by kernel_rfl))
 f285:=Tryz.func197.trans (uB some (by kernel_rfl))
 f286:=Tryz.func198.trans (uB some (by kernel_rfl))
 f288:=Tryz.func176.trans (uB some (by kernel_rfl))
 f317:=Tryz.func213.trans (uB some (by kernel_rfl))
 f318:=Tryz.func214.trans (uB some (by kernel_rfl))
 f319:=Tryz.func215.trans (uB some (by kernel_rfl))
 f320:=Tryz.func216.trans (uB some (by kernel_rfl))
 f337:=Tryz.func219.trans (uB some (by kernel_rfl))
 f338:=Tryz.func220.trans (uB some (by kernel_rfl))
 t0:=dj
 a0:=Tryz.isAgg0
 z0:=Tryz.sizeOf0
 v0:=dt
 t2:=Tryz.underlying2
 a2:=Tryz.isAgg2
 z2:=Tryz.sizeOf2
 v2:=Tryz.zeroValue2
 t3:=uW
 a3:=dC
 z3:=dc
 v3:=Wz
 t4:=Wp
 a4:=Tryz.isAgg4
 z4:=Tryz.sizeOf4
 v4:=WQ
 t5:=Ux
 a5:=Tryz.isAgg5
 z5:=Tryz.sizeOf5
 v5:=Tryz.zeroValue5
 t9:=Uf
 a9:=Tryz.isAgg9
 z9:=Tryz.sizeOf9
 v9:=WP
 t20:=Tryz.underlying20
 a20:=Tryz.isAgg20
 z20:=Tryz.sizeOf20
 v20:=Tryz.zeroValue20
 t37:=Ug
 a37:=Tryz.isAgg22
 z37:=Tryz.sizeOf22
 v37:=Tryz.zeroValue22
 t46:=Tryz.underlying150
 a46:=Tryz.isAgg150
 z46:=Tryz.sizeOf150
 v46:=Tryz.zeroValue150
 t51:=Tryz.underlying171
 a51:=Tryz.isAgg171
 z51:=Tryz.sizeOf171
 v51:=Tryz.zeroValue171
 t53:=dx
 a53:=Tryz.isAgg173
 z53:=Tryz.sizeOf173
 v53:=Tryz.zeroValue173
 t171:=Tryz.underlying231
 a171:=Tryz.isAgg231
 z171:=Tryz.sizeOf231
 v171:=Tryz.zeroValue231
 t173:=Tryz.underlying233
 a173:=Tryz.isAgg233
 z173:=Tryz.sizeOf233
 v173:=Tryz.zeroValue233
 t212:=Tryz.underlying248
 a212:=Tryz.isAgg248
 z212:=Tryz.sizeOf248
 v212:=Tryz.zeroValue248
 t213:=Tryz.underlying249
 a213:=Tryz.isAgg249
 z213:=Tryz.sizeOf249
 t232:=Tryz.underlying252
 a232:=Tryz.isAgg252
 z232:=Tryz.sizeOf252
 v232:=Tryz.zeroValue252
 t233:=Tryz.underlying253
 a233:=Tryz.isAgg253
 z233:=Tryz.sizeOf253
 v233:=Tryz.zeroValue253
 g17:=by kernel_rfl
 g18:=by kernel_rfl
 g19:=by kernel_rfl
 i0:=by kernel_rfl
 i2:=by kernel_rfl
 i3:=by kernel_rfl
 i4:=by kernel_rfl
 i5:=by kernel_rfl
 i9:=by kernel_rfl
 i20:=by kernel_rfl
 i37:=by kernel_rfl
 i46:=by kernel_rfl
 i51:=by kernel_rfl
 i53:=by kernel_rfl
 i171:=by kernel_rfl
 i173:=by kernel_rfl
 i212:=by kernel_rfl
 i232:=by kernel_rfl
 i233:=by kernel_rfl
 m17:=by kernel_rfl
 m18:=by kernel_rfl
 m19:=by kernel_rfl}
open Go.RowKit Go.Sort Go.Lib in
theorem Tryz.strconv_AppendInt_10(B n:Nat)(i:Int)(h0: -9223372036854775808<=i)(h1:i<=9223372036854775807)(sv:Value)(xs:List Value)(w:World)(hown:w.ownsRow B 5 1 sv n xs)(hBw:B<=w.heap.size)(hlim:n+21<=140737488355328)(htab:Lib.TabBelow Tryz.prog B w "internal/strconv.uint64pow10" .u64 Lib.pow10Tab):
  Calls Tryz.prog 116 #[sv,.int .i64 i,.int .i64 10] w fun e w'=>∃v',e=.returned v'/\w'.ownsRow B 5 1 v' (n+(Lib.itoa i).length) (xs++Lib.byteCells (Lib.itoa i))/\Below B w w'/\Lib.OthersKept 5 none w w':=Any.strconv_AppendInt_10 Tryz.laysM176 B n i h0 h1 sv xs w hown hBw hlim htab
def Tryz.laysNm220_ren:Go.Shelf.Ren:=⟨fun|20=>79|n=>n,fun|22=>24|3=>3|4=>4|0=>0|n=>n,fun|n=>n⟩
theorem Tryz.laysNm220:Go.Proofs.Lays2.n20 Tryz.prog Tryz.laysNm220_ren:={
 mixed:=by kernel_rfl
 f20:=Tryz.func79.trans (uB some (by kernel_rfl))
 t0:=dj
 a0:=Tryz.isAgg0
 z0:=Tryz.sizeOf0
 v0:=dt
 t3:=uW
 a3:=dC
 z3:=dc
 v3:=Wz
 t4:=Wp
 a4:=Tryz.isAgg4
 z4:=Tryz.sizeOf4
 v4:=WQ
 t22:=uV
 a22:=Tryz.isAgg24
 z22:=Tryz.sizeOf24
 v22:=Tryz.zeroValue24
 i3:=by kernel_rfl}
open Go.RowKit Go.Lib Go.Sort in
theorem Tryz.slices_Compact_int(blk off cap:Nat)(zs:List Int)(w:World)(hH:Holds (Value.int .i64) w blk off zs.toArray)(hsz:zs.length<=9223372036854775807)(hcap:zs.length<=cap):
  Calls Tryz.prog 79 #[.slice (some ⟨blk,off,none⟩) zs.length cap] w fun e w'=>e=.returned (.slice (some ⟨blk,off,none⟩) (Lib.compact zs).length cap)/\∃q,w'=putRow (Value.int .i64) (Sort.ahead w q) blk off (Lib.compact zs++List.replicate (zs.length-(Lib.compact zs).length) 0).toArray:=Any.slices_Compact_int Tryz.laysNm220 blk off cap zs w hH hsz hcap
end Go.Proofs.YtpbnmhnbkfnaeaaGreatDoor
namespace Go.Proofs.YtpbnmhnbkfnaeaaGreatDoor
open Go.RowKit Go.Shelf Nt
attribute [local go_sem] wO
theorem ZJ{w:World}{base n size b:Nat}{v:Value}{e T:TypeId}{xs:List Value}{cs:Array Value}(ho:w.ownsRow base e size v n xs)(h:w.heap[b]? =some (.cells cs T (0,0)))(hT:e≠T):v.ownBlock≠some b:=by
 rcases ho.2 with⟨rfl,_⟩|⟨g1,c1,k1,rfl,_,hg1,_⟩
 . intro e';simp[Value.ownBlock]at e'
 . intro e'
   simp[Value.ownBlock]at e';subst e';rw[hg1]at h;cases h;exact hT rfl
theorem KR:∀gs:List Int,(∀g∈gs,0<=g/\g<=9223372036854775807)->(QH gs).length<=22*gs.length
 | [],_=>by simp[QH]
 |g::gs,h=>by
  have h0:=h g (by simp);have ih:=KR gs (fun x hx=>h x (by simp[hx]));obtain⟨n,rfl⟩:∃n:Nat,g=n:=⟨g.toNat,by omega⟩
  have h1:=Go.Lib.itoa_length_le (n:Int) (by omega) h0.2;rw[Go.Lib.itoa_nonneg]at h1;simp only[QH,List.flatMap_cons,uG,wr1,UI,Uv,UG]at ih⊢;omega
theorem zbH(a b:List Int):QH (a++b)=QH a++QH b:=by simp[QH]
theorem zhj(g x:Nat)(nv ov sv:Value)(ns:List Nd)(of:List Int)(nd:Nd)(w:World)(hg:AtC3 w g nv ov sv 96)(hn:NodesAt w nv ns)(ho:IntsAt w ov of)(hx:ns[x]? =some nd)(hof:of.length=ns.length)
  (hk:∀k∈nd.2.2,0<=k/\k<ns.length)(hk40:nd.2.2.length<=40)(hr:∀k:Int,0<=k->k<ns.length->0<=zD of k/\zD of k<1000000000)
  (htab:Lib.TabBelow Tryz.prog w.heap.size w "internal/strconv.uint64pow10" .u64 Lib.pow10Tab):
  Calls Tryz.prog 80 #[.pointer (some ⟨g,0,none⟩),.int .i64 x] w fun e w'=>e=.returned (.agg #[.int .i64 (zD of x),.string (B (QH (nd.2.2.map (zD of))))])/\Below w.heap.size w w':=by
 obtain⟨i0,hi,hz0,hz1,hz2⟩:=Ue Tryz.infoByte;have hxl:=(ui.1 hx).1;have HN:=zb hn;have HOF:=zb ho;have HG:=zb hg;obtain⟨nb,no,nc,rfl,_,hn2,_⟩:=hn.form (by omega);obtain⟨kv,m0,m1,m2,_,hki⟩:=hn.node hx;have HKI:=zb hki;obtain⟨ka,kc,rfl,hk1,hk2, -⟩:=hki;unfold maxLen at hn2 hk2;have g0:=hg.n0;have hgl:=hg.lt;have b0:=uo _ _ m0
 have up4:∀ {a:Addr}{u:Value},w.cell? a=some u->∀o1 o2 o3 o4,((((w.alloc o1).alloc o2).alloc o3).alloc o4).cell? a=some u:=fun h o1 o2 o3 o4=>
  ((zf (zf (zf (zf (ue w.heap.size w) o1) o2) o3) o4).cell (uo _ _ h)).trans h
 have g4:=up4 g0;have n0:=up4 m0;have n1:=up4 m1;have n2:=up4 m2;clear up4;obtain⟨oa,oc,rfl,_,ho2, -⟩:=ho;unfold maxLen at ho2;rw[hof]at HOF HG;have HK:=zb hk;have HR:=zb hr;have HT:=zb htab;have HX:=zb hx;clear hg hn hx hk hr htab;refine(UH (n:=3)).1 ?_;refine callsIn_of_wp_marks Tryz.func80 rfl trivial ?_ rfl;simp only[Tryz.ntmps80,UZ,Uv,UG,Nat.reduceAdd,Nat.reduceSub,wu,wt,wV,wF,UE,UD]
 gi_wp2_with fail
 refine⟨trivial,(UH.2 (xS _ _ _ _)).mono ?_⟩;rintro e w1⟨rfl,rfl⟩
 gi_wp2_with fail
 have hB0:=zf (zf (zf (zf (zf (ue w.heap.size w) (.cells #[.pointer (some ⟨g,0,none⟩)] 142)) (.cells #[.int .i64 0,.string ⟨#[]⟩] 107)) (.cells #[] 5)) (.cells #[.slice (some ⟨w.heap.size+1+1,0,none⟩) 0 0] 22)) (.cells #[.int .i64 nd.1,.string (B nd.2.1),.slice ka nd.2.2.length kc] 56);have hgx:=((((Boxed.new w 142 (.pointer (some ⟨g,0,none⟩))).alloc (.cells #[.int .i64 0,.string ⟨#[]⟩] 107)).alloc (.cells #[] 5)).alloc (.cells #[.slice (some ⟨w.heap.size+1+1,0,none⟩) 0 0] 22)).alloc (.cells #[.int .i64 nd.1,.string (B nd.2.1),.slice ka nd.2.2.length kc] 56);have hres:=(((AtC2.new (w.alloc (.cells #[.pointer (some ⟨g,0,none⟩)] 142)) (.int .i64 0) (.string ⟨#[]⟩) 107).alloc (.cells #[] 5)).alloc (.cells #[.slice (some ⟨w.heap.size+1+1,0,none⟩) 0 0] 22)).alloc (.cells #[.int .i64 nd.1,.string (B nd.2.1),.slice ka nd.2.2.length kc] 56);have hrow:=((wh (base:=w.heap.size+2) (e:=5) (size:=1) ((w.alloc (.cells #[.pointer (some ⟨g,0,none⟩)] 142)).alloc (.cells #[.int .i64 0,.string ⟨#[]⟩] 107)) #[] 0 (by simp) (by unfold maxLen;omega) rfl).alloc (.cells #[.slice (some ⟨w.heap.size+1+1,0,none⟩) 0 0] 22)).alloc (.cells #[.int .i64 nd.1,.string (B nd.2.1),.slice ka nd.2.2.length kc] 56);have hbx:=(Boxed.new (((w.alloc (.cells #[.pointer (some ⟨g,0,none⟩)] 142)).alloc (.cells #[.int .i64 0,.string ⟨#[]⟩] 107)).alloc (.cells #[] 5)) 22 (.slice (some ⟨w.heap.size+1+1,0,none⟩) 0 0)).alloc (.cells #[.int .i64 nd.1,.string (B nd.2.1),.slice ka nd.2.2.length kc] 56);have hnb:(((((w.alloc (.cells #[.pointer (some ⟨g,0,none⟩)] 142)).alloc (.cells #[.int .i64 0,.string ⟨#[]⟩] 107)).alloc (.cells #[] 5)).alloc (.cells #[.slice (some ⟨w.heap.size+1+1,0,none⟩) 0 0] 22)).alloc (.cells #[.int .i64 nd.1,.string (B nd.2.1),.slice ka nd.2.2.length kc] 56)).heap[w.heap.size+4]? =some (.cells #[.int .i64 nd.1,.string (B nd.2.1),.slice ka nd.2.2.length kc] 56 (0,0)):=by
  have h:=World.alloc_heap_new ((((w.alloc (.cells #[.pointer (some ⟨g,0,none⟩)] 142)).alloc (.cells #[.int .i64 0,.string ⟨#[]⟩] 107)).alloc (.cells #[] 5)).alloc (.cells #[.slice (some ⟨w.heap.size+1+1,0,none⟩) 0 0] 22)) (.cells #[.int .i64 nd.1,.string (B nd.2.1),.slice ka nd.2.2.length kc] 56);simpa using h
 have hsz:(((((w.alloc (.cells #[.pointer (some ⟨g,0,none⟩)] 142)).alloc (.cells #[.int .i64 0,.string ⟨#[]⟩] 107)).alloc (.cells #[] 5)).alloc (.cells #[.slice (some ⟨w.heap.size+1+1,0,none⟩) 0 0] 22)).alloc (.cells #[.int .i64 nd.1,.string (B nd.2.1),.slice ka nd.2.2.length kc] 56)).heap.size=w.heap.size+5:=by simp
 obtain⟨W0,hW0⟩:∃W0,((((w.alloc (.cells #[.pointer (some ⟨g,0,none⟩)] 142)).alloc (.cells #[.int .i64 0,.string ⟨#[]⟩] 107)).alloc (.cells #[] 5)).alloc (.cells #[.slice (some ⟨w.heap.size+1+1,0,none⟩) 0 0] 22)).alloc (.cells #[.int .i64 nd.1,.string (B nd.2.1),.slice ka nd.2.2.length kc] 56)=W0:=⟨_,rfl⟩
 simp only[uk]at hres hrow hbx;rw[hW0]at hB0 hgx hres hrow hbx hnb hsz⊢;clear hW0 n0 n1 n2 g4 m0 m1 m2;obtain⟨S,hSd⟩:∃S:Nat->Prop,∀b,S b↔(b=w.heap.size+2\/b=w.heap.size+3\/w.heap.size+5<=b):=⟨_,fun _=>Iff.rfl⟩
 have HSD:=zb hSd;have HB0:=zb hB0;have HGX:=zb hgx;have HRES:=zb hres;have HNB:=zb hnb;have hbox:W0.cell? ⟨w.heap.size+4,2,none⟩=some (.slice ka nd.2.2.length kc):=by simp[World.cell?,hnb]
 have hSold:∀b,b<w.heap.size->¬S b:=fun b hb hs=>by have:=(hSd b).1 hs;omega
 refine wpIn_rangeFunc_ownG rfl (by decide) (gf:=117) (lb:=#[.pointer (some ⟨w.heap.size+4,0,none⟩)]) rfl trivial (enters_of Tryz.func117 (by kernel_rfl) rfl)
  (kt Fence.wide 2 trivial rfl (by decide) (w.heap.size+4) S (.slice ka nd.2.2.length kc) nd.2.2 (fun z=>0<=z/\z<ns.length) (za HK) (by omega) W0 (by omega) hbox (((za HKI).outS hSold).kept (Kept.of_below hB0)))
  (fun h k=>h.trans k) (fun W l o o' hl _ _ _=>Kept.put ((hSd l).2 (.inr (.inr (by omega))))) (ue _ _) (fun _=>rfl)
  (fun pre W=>(∃v,Boxed W (w.heap.size+3) 22 v/\W.ownsRow (w.heap.size+2) 5 1 v (QH (pre.map fun z=>zD of z.1)).length ((QH (pre.map fun z=>zD of z.1)).map ZM)/\(∀b,v.ownBlock=some b->S b))/\Kept S W0 W)
  (fun _ _ _=>False)
  (OwnFrom.and (Own.from (holdsRow_own (w.heap.size+2) (w.heap.size+3) 22 5 1 (fun pre:List {z:Int//0<=z/\z<ns.length}=>(QH (pre.map fun z=>zD of z.1)).length) (fun pre=>(QH (pre.map fun z=>zD of z.1)).map ZM) (fun _ v=>∀b,v.ownBlock=some b->S b)) _) (vK (ud _)))
  (fun c=>ownFrom_pure _ _)
  ⟨⟨_,hbx,hrow,fun b hb=>(hSd b).2 (.inl (by simpa[Value.ownBlock]using hb.symm))⟩,Kept.refl _ _⟩
  (fun y=>⟨#[.pointer (some ⟨g,0,none⟩),.int .i64 x,.pointer (some ⟨w.heap.size,0,none⟩),undef,.pointer (some ⟨w.heap.size+1,0,none⟩),.pointer (some ⟨w.heap.size+3,0,none⟩),.int .i64 y.1,.slice (some ⟨w.heap.size+2,0,none⟩) 0 0,.pointer (some ⟨g,0,none⟩),.pointer (some ⟨g,0,none⟩),.pointer (some ⟨g,0,none⟩),.slice (some ⟨nb,no,none⟩) ns.length nc,.int .i64 x,.pointer (some ⟨nb,no+x*3,none⟩),.agg #[.int .i64 nd.1,.string (B nd.2.1),.slice ka nd.2.2.length kc],.func (.func 117) #[] #[.pointer (some ⟨w.heap.size+4,0,none⟩)],.int .i64 y.1,undef,undef,undef,undef,undef,undef,undef,undef,undef,undef,undef,undef,undef,undef,undef,undef,undef,undef,undef,undef,undef,undef],[]⟩) ?assign ?body ?done ?stop
 case assign=>
  intro l y W K hK
  gi_wp2
  exact hK
 case stop=>
  rintro D c pre W _ _ h _;exact h.elim
 case body=>
  rintro l pre⟨y,y0,y1⟩ W⟨⟨v,hbv,hov,hsv⟩,hkv⟩ hpre;obtain⟨yn,rfl⟩:∃yn:Nat,y=yn:=⟨y.toNat,by omega⟩
  have hyl:yn<ns.length:=by omega
  obtain⟨r0,r1⟩:=za HR yn y0 y1;obtain⟨gy,hgy⟩:∃gy,zD of yn=gy:=⟨_,rfl⟩
  have hofy:of[yn]? =some gy:=by
   have hl:yn<of.length:=by omega
   have:=vn (uf hl);rw[uf hl,<-this,hgy]
  rw[hgy]at r0 r1;have hbw:Below w.heap.size w W:=(za HB0).trans (hkv.below (za HB0).size (fun b hb=>by have:=(hSd b).1 hb;omega));obtain⟨a,cap,e1,_,_,h3⟩:=kX ((za HOF).below hbw);injection e1 with e2 e3 e4;obtain⟨ob,oo,rfl,hob,hoy⟩:=h3 yn gy hofy;subst e2;have cg:=(Boxed.keptS (za HGX) hkv (fun hs=>by have:=(hSd _).1 hs;omega)).cell;have cg1:=(hbw.cell (p:=⟨g,1,none⟩) hgl).trans (za HG).n1;have cb:=hbv.cell;have cf:=hbv.frozen;have HBV:=zb hbv;have HSV:=zb hsv;have HKV:=zb hkv;have hsz2:=hkv.size;obtain⟨L,hL⟩:∃L,QH (pre.map fun z=>zD of z.1)=L:=⟨_,rfl⟩
  rw[hL]at hov;have hlen:L.length<=1000000:=by
   rw[<-hL];have h:=KR (pre.map fun z=>zD of z.1) (fun g hg=>by
    obtain⟨z,_,rfl⟩:=UB.1 hg;have:=za HR z.1 z.2.1 z.2.2;omega)
   rw[Ud]at h;omega
  have HL:=zb hL;have HOV:=zb hov;clear hL;have HTB:Hid (Lib.TabBelow Tryz.prog (w.heap.size+2) W "internal/strconv.uint64pow10" .u64 Lib.pow10Tab):=zb (fun w' hb=>((za HT).on hbw) w' (hb.mono (by omega)));have HBW:=zb hbw;have HGY:=zb hgy;clear hbv hov hsv hkv e3 e4 h3 hofy hof hSd hSold hnb hres hrow hbx hgx hB0 hbox hgy hbw
  gi_wp2_with fail
  gi_region_with ((refine⟨trivial,(CallsIn.inRound l (UH.2 (Tryz.strconv_AppendInt_10 (w.heap.size+2) L.length gy (by omega) (by omega) v (L.map ZM) W.drew (za HOV).drew (by show w.heap.size+2<=W.heap.size;omega) (by omega) (fun w' hb=>za HTB w' (jx hb))))).mono ?_⟩;rintro e w2⟨v2,rfl,ho2,hb2,hk2⟩;obtain⟨M,hM⟩:∃M,L++Lib.itoa gy=M:=⟨_,rfl⟩;have ho2':w2.ownsRow (w.heap.size+2) 5 1 v2 M.length (M.map ZM):=(by have h:=ho2;rw[show L.length+(Lib.itoa gy).length=M.length by rw[<-hM];simp,show L.map ZM++Lib.byteCells (Lib.itoa gy)=M.map ZM by rw[<-hM,UF];rfl]at h;exact h);clear ho2;have ho2:=ho2';clear ho2';have HMD:=zb hM;clear hM;obtain⟨pa,pc,rfl⟩:=zq ho2;have hbv2:Boxed w2 (w.heap.size+3) 22 v:=hk2 _ _ (show W.drew.heap[w.heap.size+3]? =_ from za HBV) (by simp) (fun c fz e=>by cases e);have cb2:=hbv2.cell;have cf2:=hbv2.frozen;have HBV2:=zb hbv2;have HO2:=zb ho2;have HB2:=zb (jx hb2);have HK2:=zb hk2;clear ho2 hb2 hk2 hbv2))
  all_goals
   have HBS:=zb ((za HBV2).set (.slice pa M.length pc));have HOS:=zb (Kt (i:=0) (u:=.slice pa M.length pc) (za HO2) (Zv (za HBV2) (za HO2) (by decide)));have cb3:=(za HBS).cell;have hM2:M.length<=1000100:=by
    have h:=Go.Lib.itoa_length_le gy (by omega) (by omega);rw[<-za HMD,uG];omega
   have hs23:=(za HB2).size
   gi_wp2_with (gi_at_builtin;refine wpListIn_append_own_at _ rfl _ _ 22 rfl (w.heap.size+2) 5 i0 (.int .u8 0) 1 1 Ug hi hz0 hz1 hz2 rfl (by decide) _ _ _ rfl ((za HOS).alloc _) ⟨w2.heap.size,0,none⟩ 1 1 [.int .u8 32] rfl rfl (by have h:=cell_one_new (w2.setCell ⟨w.heap.size+3,0,none⟩ (.slice pa M.length pc)) (.int .u8 32) 5;rwa[World.size_setCell]at h) (by intro u hu;simp at hu;subst hu;rfl) (by unfold maxLen;omega) (by omega) (by simp;omega) ?_;intro v3 w3 hown hgrow hnil hloc;obtain⟨qa,qc,rfl⟩:=zq hown;have hap:=(za HBS).appended (n₀:=w.heap.size+2) (by decide) (za HOS) (by simp;omega) (by omega) hown hgrow;have HAP:=zb hap;have b0:=hap.1.cell;have b1:=hap.1.frozen;have HGR:Hid (((w2.setCell ⟨w.heap.size+3,0,none⟩ (.slice pa M.length pc)).alloc (.cells #[.int .u8 32] 5)).grownBy w3 (Value.slice pa M.length pc).ownBlock):=hgrow;have HLO:Hid ((Value.slice qa (M.length+1) qc).ownBlock=(Value.slice pa M.length pc).ownBlock\/(Value.slice qa (M.length+1) qc).ownBlock=some ((w2.setCell ⟨w.heap.size+3,0,none⟩ (.slice pa M.length pc)).alloc (.cells #[.int .u8 32] 5)).heap.size):=hloc;clear hap hown hgrow hnil hloc)
  all_goals
   have h40:W.heap[w.heap.size+4]? =some (.cells #[.int .i64 nd.1,.string (B nd.2.1),.slice ka nd.2.2.length kc] 56 (0,0)):=((za HKV).block _ (by omega) (fun hs=>by have:=(za HSD _).1 hs;omega)).trans (za HNB);have h42:w2.heap[w.heap.size+4]? =some (.cells #[.int .i64 nd.1,.string (B nd.2.1),.slice ka nd.2.2.length kc] 56 (0,0)):=za HK2 _ _ h40 (by simp) (fun c fz e=>by cases e);have h43:(w2.setCell ⟨w.heap.size+3,0,none⟩ (.slice pa M.length pc)).heap[w.heap.size+4]? =some (.cells #[.int .i64 nd.1,.string (B nd.2.1),.slice ka nd.2.2.length kc] 56 (0,0)):=(WM w2 ⟨w.heap.size+3,0,none⟩ _ _ (by simp)).trans h42;have hlt4:w.heap.size+4<(w2.setCell ⟨w.heap.size+3,0,none⟩ (.slice pa M.length pc)).heap.size:=(uu.1 h43).1;have h44:((w2.setCell ⟨w.heap.size+3,0,none⟩ (.slice pa M.length pc)).alloc (.cells #[.int .u8 32] 5)).heap[w.heap.size+4]? =some (.cells #[.int .i64 nd.1,.string (B nd.2.1),.slice ka nd.2.2.length kc] 56 (0,0)):=(((ue _ _).alloc (ud _) _).block _ hlt4).trans h43;have h45:w3.heap[w.heap.size+4]? =some (.cells #[.int .i64 nd.1,.string (B nd.2.1),.slice ka nd.2.2.length kc] 56 (0,0)):=((za HGR).block _ (by simp at hlt4⊢;omega) (ZJ (za HOS) h43 (by decide)).symm).trans h44;have h4f:(w3.setCell ⟨w.heap.size+3,0,none⟩ (.slice qa (M.length+1) qc)).heap[w.heap.size+4]? =some (.cells #[.int .i64 nd.1,.string (B nd.2.1),.slice ka nd.2.2.length kc] 56 (0,0)):=(WM w3 ⟨w.heap.size+3,0,none⟩ _ _ (by simp)).trans h45;have hBf:Below (w.heap.size+2) W (w3.setCell ⟨w.heap.size+3,0,none⟩ (.slice qa (M.length+1) qc)):=((za HB2).setCell (p:=⟨w.heap.size+3,0,none⟩) (by simp) _).trans (za HAP).2.2.2.2;have hKS:Kept S W (w3.setCell ⟨w.heap.size+3,0,none⟩ (.slice qa (M.length+1) qc)):=⟨hBf.os,hBf.tape,hBf.output,hBf.size,fun b hb hns=>by
    by_cases h1:b<w.heap.size+2
    . exact hBf.block b h1
    . have h2:b=w.heap.size+4:=by
       have h3:¬(b=w.heap.size+2\/b=w.heap.size+3\/w.heap.size+5<=b):=fun h=>hns ((za HSD b).2 h)
       omega
      rw[h2,h4f,h40]⟩
   have hKO:KeepsOthers W (w3.setCell ⟨w.heap.size+3,0,none⟩ (.slice qa (M.length+1) qc)):=⟨hBf.size,fun k o hk ho=>by
    have h1:w2.heap[k]? =some o:=za HK2 k o hk (by simp) (fun c fz e=>by subst e;cases ho);have h2:k≠w.heap.size+3:=fun e=>by
     subst e;rw[show w2.heap[w.heap.size+3]? =_ from za HBV2]at h1;cases h1;cases ho
    exact(za HAP).2.2.2.1.2 k o ((WM w2 ⟨w.heap.size+3,0,none⟩ k _ h2).trans h1) ho⟩
   have hLM:QH ((pre++[(⟨(yn:Int),y0,y1⟩:{z:Int//0<=z/\z<(ns.length:Int)})]).map fun z=>zD of z.1)=M++[32]:=by
    rw[UF,zbH,za HL,<-za HMD,U4];show L++QH [zD of yn]=_;rw[za HGY];obtain⟨gn,rfl⟩:∃gn:Nat,gy=gn:=⟨gy.toNat,by omega⟩
    simp[QH,wr1,Go.Lib.itoa_nonneg]
   have hrow:=(za HAP).2.2.1;refine⟨hKO.from _,hKS,⟨_,(za HAP).2.1,?_,fun b hb=>?_⟩,(za HKV).trans hKS⟩
   . rw[hLM,uG,UF]
     exact hrow
   . have h1:=(zX hrow hb).1
     have h2:b≠w.heap.size+4:=fun e=>ZJ hrow h4f (by decide) (by rw[hb,e])
     exact(za HSD b).2 (by omega)
 case done=>
  rintro D ys W hD hys⟨⟨v,hbv,hov,hsv⟩,hkv⟩ hKd;have hwl:(ys.map fun z=>zD of z.1)=nd.2.2.map (zD of):=by rw[<-hys,List.map_map];rfl
  rw[hwl]at hov;have hbw:Below w.heap.size w W:=(za HB0).trans (hkv.below (za HB0).size (fun b hb=>by have:=(hSd b).1 hb;omega));obtain⟨gx,hgx'⟩:∃gx,zD of x=gx:=⟨_,rfl⟩
  have hofx:of[x]? =some gx:=by
   have hl:x<of.length:=by omega
   have:=vn (uf hl);rw[uf hl,<-this,hgx']
  obtain⟨a,cap,e1,_,_,h3⟩:=kX ((za HOF).below hbw);injection e1 with e2 e3 e4;obtain⟨ob,oo,rfl,hob,hox⟩:=h3 x gx hofx;subst e2;have cg:=(Boxed.keptS (za HGX) hkv (fun hs=>by have:=(hSd _).1 hs;omega)).cell;have cg1:=(hbw.cell (p:=⟨g,1,none⟩) hgl).trans (za HG).n1;have cb:=hbv.cell;have HRW:=zb ((za HRES).kept hkv (by intro hs;have:=(hSd _).1 hs;omega));have q0:=AtC2.f (za HRW) 0;have q1:=AtC2.f (za HRW) 1;have q2:=AtC2.n0 (za HRW);have q3:=AtC2.n1 (za HRW)
  have hcv:∀W':World,W'.ownsRow (w.heap.size+2) 5 1 v (QH (nd.2.2.map (zD of))).length ((QH (nd.2.2.map (zD of))).map ZM)->(convert 22 9 v).run Tryz.prog W'=.ok (.string (B (QH (nd.2.2.map (zD of))))) W':=fun W' h=>
   qV Ug Ux Uf h
  have hc1:=hcv W hov;have hc2:=hcv W.drew hov.drew;have HBW:=zb hbw;have HM:=zb (((Marks.nil w.heap.size W).cons (D:=D) (by omega) hKd (by simp)));have HGX':=zb hgx';obtain⟨tx,htx⟩:∃tx,B (QH (nd.2.2.map (zD of)))=tx:=⟨_,rfl⟩
  rw[htx]at hc1 hc2;have HTX:=zb htx;clear hbv hov hsv hkv e3 e4 h3 hofx hof hSd hSold hnb hres hrow hbx hgx hB0 hbox hgx' hbw hcv htx hys hwl hKd
  gi_wp2_with fail
  gi_region
  all_goals
   have HF:Hid (AtC2 (((W.setCell ⟨w.heap.size+1,0,none⟩ (.int .i64 gx)).setCell ⟨w.heap.size+1,1,none⟩ (.string tx)).drew) (w.heap.size+1) (.int .i64 gx) (.string tx) 107):=zb (((za HRW).st0 (.int .i64 gx)).st1 (.string tx));have HBF:Hid (Below w.heap.size w (((W.setCell ⟨w.heap.size+1,0,none⟩ (.int .i64 gx)).setCell ⟨w.heap.size+1,1,none⟩ (.string tx)).drew)):=zb ((((za HBW).setCell (p:=⟨w.heap.size+1,0,none⟩) (Uc _) _).setCell (p:=⟨w.heap.size+1,1,none⟩) (Uc _) _).drew);have HMF:Hid (Marks w.heap.size (((W.setCell ⟨w.heap.size+1,0,none⟩ (.int .i64 gx)).setCell ⟨w.heap.size+1,1,none⟩ (.string tx)).drew) [D]):=zb (by
    have k:Kept (· =w.heap.size+1) W ((W.setCell ⟨w.heap.size+1,0,none⟩ (.int .i64 gx)).setCell ⟨w.heap.size+1,1,none⟩ (.string tx)):=(Kept.set (S:=(· =w.heap.size+1)) (a:=⟨w.heap.size+1,0,none⟩) rfl _).trans (Kept.set (S:=(· =w.heap.size+1)) (a:=⟨w.heap.size+1,1,none⟩) rfl _);have h:=(za HM).kept k (fun D' hD' e=>by
     have h1:=((za HM).at' _ hD').2;rw[e,show W.heap[w.heap.size+1]? =_ from za HRW]at h1;cases h1)
    exact⟨h.nodup,h.at'⟩)
   gi_wp2_with fail
   refine qL w.heap.size [D] _ (za HMF) (fun w' hst=>?_);have HW:AtC2 w' (w.heap.size+1) (.int .i64 gx) (.string tx) 107:=hst.cells _ _ (za HF) rfl;have s0:=HW.n0;have s1:=HW.n1;refine⟨.agg #[.int .i64 gx,.string tx],by simp[results,Tryz.f80,go_sem,s0,s1],by rw[za HTX,za HGX'],(za HBF).trans hst.below⟩
end Go.Proofs.YtpbnmhnbkfnaeaaGreatDoor
namespace Go.Proofs.YtpbnmhnbkfnaeaaGreatDoor
open Go.RowKit Go.Shelf Nt
attribute [local go_sem] wO
theorem zbk(nv mv:Value)(ns ms:List Nd)(w:World)(h1:NodesAt w nv ns)(h2:NodesAt w mv ms)(hl1:ns.length<=80)(hl2:ms.length<=80)(hk:∀nd∈ms,∀x∈nd.2.2,0<=x/\x<ms.length)(h40:∀nd∈ms,nd.2.2.length<=40):
  Calls Tryz.prog 39 #[nv,mv] w fun e w'=>(∃v,e=.returned v/\NodesAt w' v (jJ ns ms))/\Below w.heap.size w w':=by
 obtain⟨i0,hi,hz0,hz1,hz2⟩:=Ue Tryz.infoInt;obtain⟨j0,hj,hy0,hy1,hy2⟩:=Ue Tryz.infoNode;have HN1:=zb h1;have HN2:=zb h2;obtain⟨na,nc,rfl,hn1,hn2, -⟩:=h1;obtain⟨ma,mc,rfl,hm1,hm2, -⟩:=h2;unfold maxLen at hn2 hm2;have HK:=zb hk;have H40:=zb h40;clear hk h40;refine(UH (n:=3)).1 ?_;refine callsIn_of_wp_marks Tryz.func39 rfl trivial ?_ rfl;simp only[Tryz.ntmps39,UZ,Uv,UG,Nat.reduceAdd,Nat.reduceSub,wu,wt,wV,wF,UE,UD]
 gi_wp2_with fail
 have hbx0:=Boxed.new w 23 (.slice na ns.length nc);have hst0:=zf (ue w.heap.size w) (.cells #[.slice na ns.length nc] 23);have HN1':=zb ((za HN1).below hst0);have HX0:=zb hbx0;have HS0:=zb hst0;obtain⟨W0,hW0⟩:∃W,w.alloc (.cells #[.slice na ns.length nc] 23)=W:=⟨_,rfl⟩
 have hsz0:W0.heap.size=w.heap.size+1:=by rw[<-hW0];simp
 rw[hW0]at HN1' HX0 HS0⊢;clear hbx0 hst0 hW0;refine⟨trivial,(UH.2 (ze0 _ ns W0 (za HN1') (by omega))).mono ?_⟩;rintro e w1⟨⟨v,kvs,rfl,hr⟩,hb1⟩;obtain⟨va,vc,rfl⟩:=hr.form;have HRB:=zb hr;have HB1:=zb hb1;have HN2':=zb ((za HN2).below (za HS0));have HX1:=zb (zL (za HX0) hb1);clear hr hb1
 gi_wp2_with fail
 refine wpIn_loop (fun a' W=>∃(Ds:List Nat)(i:Nat)(bv:Value)(kvs:List Value)(u7 u8 u9 u15 u16 u17 u18 u19 u20 u21 u22 u23 u24 u25 u26 u27 u28 u29 u30 u31 u32 u33 u34 u35 u36 u37 u38:Value),a'=⟨#[.slice na ns.length nc,.slice ma ms.length mc,.pointer (some ⟨w.heap.size,0,none⟩),undef,.slice none 0 0,bv,undef,u7,u8,u9,.slice na ns.length nc,.slice va ns.length vc,.slice ma ms.length mc,.int .i64 ↑ms.length,.int .i64 ↑i,u15,u16,u17,u18,u19,u20,u21,u22,u23,u24,u25,u26,u27,u28,u29,u30,u31,u32,u33,u34,u35,u36,u37,u38,undef],Ds.map Vo⟩/\i<=ms.length/\Hid (Below W0.heap.size W0 W)/\Hid (Boxed W w.heap.size 23 (.slice na ns.length nc))/\Hid (RowB W0 W W0.heap.size bv (ns++(ms.take i).map (upN ns.length)) kvs)/\Hid (Marks W0.heap.size W Ds)) (fun a' _=>ms.length-(intOf (a'.tmps.getD 14 undef)).toNat) ?_ ?_
 . exact⟨[],0,_,kvs,_,_,_,_,_,_,_,_,_,_,_,_,_,_,_,_,_,_,_,_,_,_,_,_,_,_,_,rfl,by omega,HB1,HX1,zb (by have h:=za HRB;simpa using h),zb (Marks.nil _ _)⟩
 . clear HB1 HX1 HRB
   rintro _ wr⟨Ds,i,bv,kvs',u7,u8,u9,u15,u16,u17,u18,u19,u20,u21,u22,u23,u24,u25,u26,u27,u28,u29,u30,u31,u32,u33,u34,u35,u36,u37,u38,rfl,hi',HB,HX,HR,HM⟩;by_cases hlt:i<ms.length
   . obtain⟨nd,hnd⟩:∃nd,ms[i]? =some nd:=⟨_,uf hlt⟩
     obtain⟨mb,mo,cap,e1,_,_,hb⟩:=(za HN2').form (by omega);injection e1 with e2 e3 e4;subst e2;obtain⟨kv,c0,c1,c2,htl,hki⟩:=(za HN2').node hnd;replace c0:=((za HB).cell (p:=⟨mb,mo+i*3,none⟩) hb).trans c0;replace c1:=((za HB).cell (p:=⟨mb,mo+i*3+1,none⟩) hb).trans c1;replace c2:=((za HB).cell (p:=⟨mb,mo+i*3+2,none⟩) hb).trans c2;have HKI:=zb hki;obtain⟨ka,kc,rfl,hk1,hk2,_⟩:=hki;unfold maxLen at hk2;have hk40:=(za H40) nd (un hnd);have hkd:=(za HK) nd (un hnd);have HKD:=zb hkd;obtain⟨bva,bvc,rfl⟩:=(za HR).form;have hlc:(ns++(ms.take i).map (upN ns.length)).length=ns.length+i:=by rw[uG,Ud,uH];omega
     rw[hlc]at HR⊢;have HLC:=zb hlc;have HHB:=zb hb;clear e3 e4 hkd hb hlc
     gi_wp2_with fail
     refine⟨trivial,(UH.2 (xS _ _ _ _)).mono ?_⟩;rintro e w2⟨rfl,rfl⟩
     gi_wp2_with fail
     obtain⟨X,hX⟩:∃X,Obj.cells #[.int .i64 nd.1,.string (B nd.2.1),.slice ka nd.2.2.length kc] 56=X:=⟨_,rfl⟩
     have hbx7:AtC3 ((((wr.alloc X).alloc (.cells #[] 3)).alloc (.cells #[.slice (some ⟨wr.heap.size+1,0,none⟩) 0 0] 24)).alloc X) wr.heap.size (.int .i64 nd.1) (.string (B nd.2.1)) (.slice ka nd.2.2.length kc) 56:=by
      rw[<-hX];exact((((AtC3.new wr _ _ _ _).below (zf (ue _ _) _)).below (zf (ue _ _) _)).below (zf (ue _ _) _))
     have hrow:=((wh (base:=wr.heap.size+1) (e:=3) (size:=1) (wr.alloc X) #[] 0 (by simp) (by unfold maxLen;omega) rfl).alloc (.cells #[.slice (some ⟨wr.heap.size+1,0,none⟩) 0 0] 24)).alloc X;have hbx8:=(Boxed.new ((wr.alloc X).alloc (.cells #[] 3)) 24 (.slice (some ⟨wr.heap.size+1,0,none⟩) 0 0)).alloc X;have hbox:((((wr.alloc X).alloc (.cells #[] 3)).alloc (.cells #[.slice (some ⟨wr.heap.size+1,0,none⟩) 0 0] 24)).alloc X).heap[wr.heap.size+3]? =some (.cells #[.int .i64 nd.1,.string (B nd.2.1),.slice ka nd.2.2.length kc] 56 (0,0)):=by
      have h:=World.alloc_heap_new (((wr.alloc X).alloc (.cells #[] 3)).alloc (.cells #[.slice (some ⟨wr.heap.size+1,0,none⟩) 0 0] 24)) X;rw[<-hX]at h⊢;simpa using h
     have hB0:=zf (zf (zf (zf (ue wr.heap.size wr) X) (.cells #[] 3)) (.cells #[.slice (some ⟨wr.heap.size+1,0,none⟩) 0 0] 24)) X;have hsz:((((wr.alloc X).alloc (.cells #[] 3)).alloc (.cells #[.slice (some ⟨wr.heap.size+1,0,none⟩) 0 0] 24)).alloc X).heap.size=wr.heap.size+4:=by simp
     obtain⟨V,hV⟩:∃V,(((wr.alloc X).alloc (.cells #[] 3)).alloc (.cells #[.slice (some ⟨wr.heap.size+1,0,none⟩) 0 0] 24)).alloc X=V:=⟨_,rfl⟩
     simp only[uk]at hbx8 hrow;rw[hX,hV];rw[show wr.heap.size+1+1+1=wr.heap.size+3 from rfl,show wr.heap.size+1+1=wr.heap.size+2 from rfl];rw[hV]at hbx7 hrow hbx8 hbox hB0 hsz;clear hV hX c0 c1 c2;have hwr:=(za HB).size;have HX0:=zb (zL (za HX) hB0);have HR0:=zb ((za HR).below hB0);have HM0:=zb ((za HM).below hB0);have HB0':=zb ((za HB).trans (hB0.mono hwr));have hxl:=(za HX).lt;obtain⟨S,hSd⟩:∃S:Nat->Prop,∀b,S b↔(b=wr.heap.size+1\/b=wr.heap.size+2\/wr.heap.size+4<=b):=⟨_,fun _=>Iff.rfl⟩
     have HSD:=zb hSd;have hSold:∀b,b<=wr.heap.size->¬S b:=fun b hb hs=>by have:=(hSd b).1 hs;omega
     have hcl:V.cell? ⟨wr.heap.size+3,2,none⟩=some (.slice ka nd.2.2.length kc):=by simp[World.cell?,hbox]
     have HBX7:=zb hbx7;have HNB:=zb hbox
     refine wpIn_rangeFunc_ownG rfl (by decide) (gf:=117) (lb:=#[.pointer (some ⟨wr.heap.size+3,0,none⟩)]) rfl trivial (enters_of Tryz.func117 (by kernel_rfl) rfl)
      (kt Fence.wide 2 trivial rfl (by decide) (wr.heap.size+3) S (.slice ka nd.2.2.length kc) nd.2.2 (fun z=>0<=z/\z<ms.length) (za HKD) (by omega) V (by omega) hcl (((za HKI).outS (fun b hb=>hSold b (by omega))).kept (Kept.of_below (za HB0'))))
      (fun h k=>h.trans k) (fun W l o o' hl _ _ _=>Kept.put ((hSd l).2 (.inr (.inr (by omega))))) (ue _ _) (fun _=>rfl)
      (fun pre W=>(∃v,Boxed W (wr.heap.size+2) 24 v/\W.ownsRow (wr.heap.size+1) 3 1 v pre.length (iv (pre.map fun z=>(ns.length:Int)+z.1))/\(∀b,v.ownBlock=some b->S b))/\Kept S V W)
      (fun _ _ _=>False)
      (OwnFrom.and (Own.from (holdsRow_own (wr.heap.size+1) (wr.heap.size+2) 24 3 1 (fun pre:List {z:Int//0<=z/\z<ms.length}=>pre.length) (fun pre=>iv (pre.map fun z=>(ns.length:Int)+z.1)) (fun _ v=>∀b,v.ownBlock=some b->S b)) _) (vK (ud _)))
      (fun c=>ownFrom_pure _ _)
      ⟨⟨_,hbx8,hrow,fun b hb=>(hSd b).2 (.inl (by simpa[Value.ownBlock]using hb.symm))⟩,Kept.refl _ _⟩
      (fun y=>⟨#[.slice na ns.length nc,.slice (some ⟨mb,mo,none⟩) ms.length mc,.pointer (some ⟨w.heap.size,0,none⟩),undef,.slice none 0 0,.slice bva (ns.length+i) bvc,undef,.pointer (some ⟨wr.heap.size,0,none⟩),.pointer (some ⟨wr.heap.size+2,0,none⟩),.int .i64 y.1,.slice na ns.length nc,.slice va ns.length vc,.slice (some ⟨mb,mo,none⟩) ms.length mc,.int .i64 ↑ms.length,.int .i64 ↑i,.bool true,.pointer (some ⟨mb,mo+i*3,none⟩),.agg #[.int .i64 nd.1,.string (B nd.2.1),.slice ka nd.2.2.length kc],.slice (some ⟨wr.heap.size+1,0,none⟩) 0 0,.agg #[.int .i64 nd.1,.string (B nd.2.1),.slice ka nd.2.2.length kc],.func (.func 117) #[] #[.pointer (some ⟨wr.heap.size+3,0,none⟩)],.int .i64 y.1,u22,u23,u24,u25,u26,u27,u28,u29,u30,u31,u32,u33,u34,u35,u36,u37,u38,undef],[]⟩) ?assign ?body ?done ?stop
     case assign=>
      intro l y W K hK
      gi_wp2
      exact hK
     case stop=>
      rintro D c pre W _ _ h _;exact h.elim
     case body=>
      rintro l pre⟨y,y0,y1⟩ W⟨⟨v,hbv,hov,hsv⟩,hkv⟩ hpre;have x0:=(Boxed.keptS (za HX0) hkv (hSold _ (by omega))).cell;have cb:=hbv.cell;have cf:=hbv.frozen;obtain⟨pa,pc,rfl⟩:=zq hov;have w1':IntKind.i64.wrap ((ns.length:Int)+y)=(ns.length:Int)+y:=by rw[qX _ (by omega) (by omega)]
      have h40:W.heap[wr.heap.size+3]? =some (.cells #[.int .i64 nd.1,.string (B nd.2.1),.slice ka nd.2.2.length kc] 56 (0,0)):=(hkv.block _ (by omega) (fun hs=>by have:=(hSd _).1 hs;omega)).trans (za HNB);have HBV:=zb hbv;have HOV:=zb hov;have HKV:=zb hkv;have H4:=zb h40;have hVW:=hkv.size;clear hbv hov hsv hkv h40 hbx7 hrow hbx8 hbox hB0 hcl
      gi_wp2_with (gi_at_builtin;refine wpListIn_append_own_at _ rfl _ _ 24 rfl (wr.heap.size+1) 3 i0 (.int .i64 0) 1 8 uV hi hz0 hz1 hz2 rfl (by decide) _ _ _ rfl ((za HOV).alloc _) ⟨W.heap.size,0,none⟩ 1 1 [.int .i64 ((ns.length:Int)+y)] rfl rfl (cell_one_new W _ _) (by intro u hu;simp at hu;subst hu;rfl) (by unfold maxLen;omega) (by omega) (by simp;omega) ?_;intro v3 w3 hown hgrow hnil hloc;obtain⟨qa,qc,rfl⟩:=zq hown;have hap:=(za HBV).appended (n₀:=wr.heap.size+1) (by decide) (za HOV) (by omega) (by omega) hown hgrow;have HAP:=zb hap;have b0:=hap.1.cell;have b1:=hap.1.frozen;have HGR:Hid ((W.alloc (.cells #[.int .i64 ((ns.length:Int)+y)] 3)).grownBy w3 (Value.slice pa pre.length pc).ownBlock):=hgrow;clear hap hown hgrow hnil hloc)
      have h4a:(W.alloc (.cells #[.int .i64 ((ns.length:Int)+y)] 3)).heap[wr.heap.size+3]? =some (.cells #[.int .i64 nd.1,.string (B nd.2.1),.slice ka nd.2.2.length kc] 56 (0,0)):=(((ue _ _).alloc (ud _) _).block _ (by omega)).trans (za H4);have h45:w3.heap[wr.heap.size+3]? =some (.cells #[.int .i64 nd.1,.string (B nd.2.1),.slice ka nd.2.2.length kc] 56 (0,0)):=((za HGR).block _ (by simp;omega) (ZJ (za HOV) (za H4) (by decide)).symm).trans h4a;have h4f:(w3.setCell ⟨wr.heap.size+2,0,none⟩ (.slice qa (pre.length+1) qc)).heap[wr.heap.size+3]? =some (.cells #[.int .i64 nd.1,.string (B nd.2.1),.slice ka nd.2.2.length kc] 56 (0,0)):=(WM w3 ⟨wr.heap.size+2,0,none⟩ _ _ (by simp)).trans h45;have hBf:Below (wr.heap.size+1) W (w3.setCell ⟨wr.heap.size+2,0,none⟩ (.slice qa (pre.length+1) qc)):=(za HAP).2.2.2.2;have hKS:Kept S W (w3.setCell ⟨wr.heap.size+2,0,none⟩ (.slice qa (pre.length+1) qc)):=⟨hBf.os,hBf.tape,hBf.output,hBf.size,fun b hb hns=>by
       by_cases h1:b<wr.heap.size+1
       . exact hBf.block b h1
       . have h2:b=wr.heap.size+3:=by
          have h3:¬(b=wr.heap.size+1\/b=wr.heap.size+2\/wr.heap.size+4<=b):=fun h=>hns ((za HSD b).2 h)
          omega
         rw[h2,h4f,za H4]⟩
      have hrw:=(za HAP).2.2.1;refine⟨(za HAP).2.2.2.1.from _,hKS,⟨_,(za HAP).2.1,?_,fun b hb=>?_⟩,(za HKV).trans hKS⟩
      . rw[uG,UF]
        simpa[iv]using hrw
      . have h1:=(zX hrw hb).1
        have h2:b≠wr.heap.size+3:=fun e=>ZJ hrw h4f (by decide) (by rw[hb,e])
        exact(za HSD b).2 (by omega)
     case done=>
      rintro D ys W hD hys⟨⟨v,hbv,hov,hsv⟩,hkv⟩ hKd;have hyl:ys.length=nd.2.2.length:=by rw[<-hys,Ud]
      have hym:(ys.map fun z=>(ns.length:Int)+z.1)=nd.2.2.map fun k=>(ns.length:Int)+k:=by rw[<-hys,List.map_map];rfl
      rw[hyl,hym]at hov;obtain⟨pa,pc,rfl⟩:=zq hov;have kSW:Kept S wr W:=(Kept.of_below hB0).trans hkv;have hR2:=(za HR).kept kSW (fun b _ hb=>hSold b (by omega));have hx2:=Boxed.keptS (za HX0) hkv (hSold _ (by omega));have hb2:=(za HB0').trans (hkv.below (base:=W0.heap.size) (by omega) (fun c hc=>by have:=(hSd c).1 hc;omega));have hm2:Marks W0.heap.size W (D::Ds):=((za HM0).kept hkv (fun D' hD' hs=>hSold D' (dh ((za HM).lt hD')) hs)).cons (by omega) hKd ((za HM0).fresh hD);have h7:AtC3 W wr.heap.size (.int .i64 nd.1) (.string (B nd.2.1)) (.slice ka nd.2.2.length kc) 56:=(hkv.block _ (by omega) (hSold _ (ud _))).trans (za HBX7);have c0:=h7.n0;have c1:=h7.n1;have cb:=hbv.cell;have hVW:=hkv.size;have HOV:=zb hov;have HR2:=zb hR2;have HX2:=zb hx2;have HB2:=zb hb2;have HM2:=zb hm2;have HLEN:=zb (Zz hR2.1.symm);have hRw:=hR2.2.1;rw[za HLC]at hRw;have HRW:=zb hRw;clear hbv hov hsv hkv hbx7 hrow hbx8 hbox hB0 hcl hR2 hx2 hb2 hm2 h7 kSW hKd hys hyl hym hRw
      gi_wp2_with (gi_at_builtin;refine wpListIn_append_own_at _ rfl _ _ 23 rfl W0.heap.size 56 j0 (.agg #[.int .i64 0,.string ⟨#[]⟩,.slice none 0 0]) 3 48 WW hj hy0 hy1 hy2 rfl (by decide) _ _ _ rfl ((za HRW).alloc _) ⟨W.heap.size,0,none⟩ 1 1 [.int .i64 nd.1,.string (B nd.2.1),.slice pa nd.2.2.length pc] rfl rfl (fun j u h=>World.news_of_block (Un W _) j u h) (by intro u hu;simp at hu;rcases hu with rfl|rfl|rfl<;>rfl) (by unfold maxLen;omega) (by omega) (by simp;omega) ?_;intro v3 w3 hown hgrow hnil hloc;have HOWN:=zb hown;have HGR:Hid ((W.alloc (.cells #[.int .i64 nd.1,.string (B nd.2.1),.slice pa nd.2.2.length pc] 56)).grownBy w3 (Value.slice bva (ns.length+i) bvc).ownBlock):=hgrow;clear hown hgrow hnil hloc)
      have hBW:W0.heap.size<=W.heap.size:=(za HB2).size;have k0:Kept (fun b=>(Value.slice bva (ns.length+i) bvc).ownBlock=some b) W w3:=(Kept.of_below ((ue W.heap.size W).alloc (ud _) _)).trans (Kept.of_grown (za HGR) (fun _ e=>e));have HM3:=zb ((za HM2).kept k0 (fun D' hD' e=>(za HM2).not_row (za HRW) hD' e));have HX3:=zb (Boxed.keptS (za HX2) k0 (fun e=>by have:=(zX (za HRW) e).1;omega));have HB3:=zb (qh ((za HB2).alloc hBW _) ((za HRW).alloc _) (za HGR) (by simp;omega));have hta:ns++(ms.take (i+1)).map (upN ns.length)=(ns++(ms.take i).map (upN ns.length))++[upN ns.length nd]:=by rw[uY,hnd,UF,<-U4];rfl
      have HR3:Hid (RowB W0 w3 W0.heap.size v3 (ns++(ms.take (i+1)).map (upN ns.length)) (kvs'++[.slice pa nd.2.2.length pc])):=zb (by
       rw[hta];refine RowB.push ((za HR2).below (zf (ue _ _) (.cells #[.int .i64 nd.1,.string (B nd.2.1),.slice pa nd.2.2.length pc] 56))) htl ?_ ?_ (za HGR)
       . have h:=zV ((za HOV).alloc (.cells #[.int .i64 nd.1,.string (B nd.2.1),.slice pa nd.2.2.length pc] 56)) (show W0.heap.size<=wr.heap.size+1 by omega)
         show World.ownsRow _ _ _ _ _ (nd.2.2.map fun k=>(ns.length:Int)+k).length _;rw[Ud];exact h
       . have h:=za HOWN
         rw[za HLC];exact h)
      clear k0 hta;exact⟨⟨D::Ds,i+1,v3,_,_,_,_,_,_,_,_,_,_,_,_,_,_,_,_,_,_,_,_,_,_,_,_,_,_,_,_,rfl,by omega,HB3,HX3,HR3,HM3⟩,by simp[intOf];omega⟩
   . obtain rfl:i=ms.length:=by omega
     gi_wp2_with fail
     refine qL W0.heap.size Ds _ (za HM) (fun w' hst=>?_);have hbw:=(za HB).trans hst.below;have hat:=((za HR).still hst).at hbw;rw[Uh]at hat;refine⟨bv,by simp[results,Tryz.f39,go_sem],⟨bv,rfl,hat⟩,(za HS0).trans (hbw.mono (by omega))⟩
end Go.Proofs.YtpbnmhnbkfnaeaaGreatDoor
namespace Go.Proofs.YtpbnmhnbkfnaeaaGreatDoor
open Go.RowKit Go.Shelf Nt
theorem Tryz.infoIntS:(Tryz.prog.info? 24).map (fun i=>(i.zero,i.size,i.bytes))=some (some (.slice none 0 0),1,24):=by kernel_rfl
structure RoR(W:World)(base:Nat)(v:Value)(ps:List (List Int))(vs:List Value):Prop where
 len:vs.length=ps.length
 row:W.ownsRow base 24 1 v ps.length vs
 each:∀(i:Nat)(x:Value)(p:List Int),vs[i]? =some x->ps[i]? =some p->W.ownsRow base 3 1 x p.length (iv p)
 apart:∀(i j:Nat)(x y:Value),i≠j->vs[i]? =some x->vs[j]? =some y->ApartV x y
theorem RoR.keptAll{W W':World}{base:Nat}{v:Value}{ps:List (List Int)}{vs:List Value}{S:Nat->Prop}(h:RoR W base v ps vs)(k:Kept S W W')(h1:∀b,v.ownBlock=some b->¬S b)
  (h2:∀x∈vs,∀b,x.ownBlock=some b->¬S b):RoR W' base v ps vs:=
 ⟨h.len,zS h.row k h1,fun i x p e1 e2=>zS (h.each i x p e1 e2) k (h2 x (un e1)),h.apart⟩
theorem RoR.up{W W':World}{base:Nat}{v:Value}{ps:List (List Int)}{vs:List Value}(h:RoR W base v ps vs)(k:Below W.heap.size W W'):RoR W' base v ps vs:=
 h.keptAll (Kept.of_below (S:=fun _=>False) k) (fun _ _ e=>e) (fun _ _ _ _ e=>e)
theorem RoR.still{B:Nat}{W W':World}{base:Nat}{v:Value}{ps:List (List Int)}{vs:List Value}(h:RoR W base v ps vs)(k:Still B W W'):RoR W' base v ps vs:=
 ⟨h.len,Q4 k h.row,fun i x p e1 e2=>Q4 k (h.each i x p e1 e2),h.apart⟩
theorem kf{X Y:World}{row:Option Nat}{base size n:Nat}{e:TypeId}{v:Value}{xs:List Value}(h:X.ownsRow base e size v n xs)(hg:X.grownBy Y row)(hr:∀b,row=some b->∃o,X.heap[b]? =some o/\o.isCells=false):Y.ownsRow base e size v n xs:=by
 refine h.kept hg ?_;rcases h.2 with⟨rfl,_⟩|⟨g,cap,cur,rfl,_,hgb,_⟩
 . exact .inl rfl
 . refine .inr fun e'=>?_
   obtain⟨o,ho,hc⟩:=hr g (by simpa[Value.ownBlock]using e'.symm);rw[hgb]at ho;cases ho;cases hc
theorem RoR.grownC{X Y:World}{row:Option Nat}{base:Nat}{v:Value}{ps:List (List Int)}{vs:List Value}(h:RoR X base v ps vs)(hg:X.grownBy Y row)(hr:∀b,row=some b->∃o,X.heap[b]? =some o/\o.isCells=false):RoR Y base v ps vs:=
 ⟨h.len,kf h.row hg hr,fun i x p e1 e2=>kf (h.each i x p e1 e2) hg hr,h.apart⟩
theorem RoR.outer{W:World}{base:Nat}{v:Value}{ps:List (List Int)}{vs:List Value}(h:RoR W base v ps vs){x:Value}(hx:x∈vs){b:Nat}(hb:x.ownBlock=some b):v.ownBlock≠some b:=by
 obtain⟨i,hi⟩:=uT hx;have hl:=(ui.1 hi).1;have e2:ps[i]? =some (ps[i]'(by rw[<-h.len];exact hl)):=uf _;rcases Z5 (h.each i x _ hi e2) h.row (by decide)with e|e
 . rw[e]at hb;cases hb
 . intro e';exact e (hb.trans e'.symm)
theorem RoR.grow{W w1:World}{base g n cap i:Nat}{ps:List (List Int)}{vs:List Value}{x x':Value}{p:List Int}{z:Int}{o:Obj}(h:RoR W base (.slice (some ⟨g,0,none⟩) n cap) ps vs)
  (hx:vs[i]? =some x)(hp:ps[i]? =some p)(ho:w1.ownsRow base 3 1 x' (p.length+1) (iv p++[.int .i64 z]))(hg:(W.alloc o).grownBy w1 x.ownBlock)(hl:zfq W x x'):
  RoR (w1.setCell ⟨g,i,none⟩ x') base (.slice (some ⟨g,0,none⟩) n cap) (ps.set i (p++[z])) (vs.set i x')/\Kept (fun b=>b=g\/x.ownBlock=some b) W (w1.setCell ⟨g,i,none⟩ x'):=by
 have hnl:n=ps.length:=by
  rcases h.row.2 with⟨e,_⟩|⟨g',c',cur,e,_⟩
  . cases e
  . cases e;rfl
 subst hnl;have hxm:=un hx;have k0:Kept (fun b=>x.ownBlock=some b) W w1:=(Kept.of_below ((ue _ _).alloc (ud _) o)).trans (Kept.of_grown hg (fun _ e=>e));have k1:Kept (· =g) w1 (w1.setCell ⟨g,i,none⟩ x'):=Kept.set (S:=(· =g)) (a:=⟨g,i,none⟩) rfl _;have hrow:=zS h.row k0 (fun b hb hc=>h.outer hxm hc hb);have hxl:=(ui.1 hx).1;have hne:∀(j:Nat)(y:Value),j≠i->vs[j]? =some y->ApartV y x':=fun j y hj hy=>by
  have hpl:ps[j]? =some (ps[j]'(by rw[<-h.len];exact(ui.1 hy).1)):=uf _;exact ApartV.lies (h.apart j i y x hj hy hx) (h.each j y _ hy hpl) hl
 have hx'g:x'.ownBlock≠some g:=by
  rcases Z5 ho hrow (by decide)with e|e
  . rw[e];simp
  . exact e
 refine⟨⟨by simp[h.len],?_,fun j y q e1 e2=>?_,fun j k y y' hjk e1 e2=>?_⟩,(k0.mono (fun b e=>.inr e)).trans (k1.mono (fun b e=>.inl e))⟩
 . have:=(hrow.stored i x').1
   simpa using this
 . by_cases hj:j=i
   . subst hj
     rw[Wh (by exact hxl)]at e1;rw[Wh (by rw[<-h.len];exact hxl)]at e2;cases e1;cases e2;have:=Kt (i:=j) (u:=x') ho (by exact hx'g);simpa[iv]using this
   . rw[Wb (by omega)]at e1 e2
     have hy:=h.each j y q e1 e2;have h2:=zS hy k0 (fun b hb hc=>(h.apart j i y x hj e1 hx) b hb hc);refine Kt h2 (fun e=>?_);exact h.outer (un e1) e rfl
 . by_cases hj:j=i
   . subst hj
     rw[Wh hxl]at e1;rw[Wb hjk]at e2;cases e1;exact(hne k y' (U8 hjk) e2).symm
   . rw[Wb (by omega)]at e1
     by_cases hk:k=i
     . subst hk
       rw[Wh hxl]at e2;cases e2;exact hne j y hj e1
     . rw[Wb (by omega)]at e2
       exact h.apart j k y y' hjk e1 e2
theorem RoR.push{W w1:World}{base:Nat}{v v':Value}{ps:List (List Int)}{vs:List Value}{o:Obj}(h:RoR W base v ps vs)(ho:w1.ownsRow base 24 1 v' (ps.length+1) (vs++[.slice none 0 0]))(hg:(W.alloc o).grownBy w1 v.ownBlock):
  RoR w1 base v' (ps++[[]]) (vs++[.slice none 0 0]):=by
 have k0:Kept (fun b=>v.ownBlock=some b) W w1:=(Kept.of_below ((ue _ _).alloc (ud _) o)).trans (Kept.of_grown hg (fun _ e=>e));have hap:∀(j:Nat)(y:Value),(vs++[Value.slice none 0 0])[j]? =some y->j<vs.length/\vs[j]? =some y\/j=vs.length/\y=.slice none 0 0:=fun j y e=>by
  by_cases hj:j<vs.length
  . rw[uL hj]at e;exact .inl ⟨hj,e⟩
  . have hj2:j=vs.length:=by
     have:=(ui.1 e).1;simp at this;omega
    subst hj2;rw[uO (ud _)]at e;simp at e;exact .inr ⟨rfl,e.symm⟩
 refine⟨by simp[h.len],by simpa using ho,fun j y q e1 e2=>?_,fun j k y y' hjk e1 e2=>?_⟩
 . rcases hap j y e1 with⟨hj,e⟩|⟨rfl,rfl⟩
   . rw[uL (by rw[<-h.len];exact hj)]at e2
     exact zS (h.each j y q e e2) k0 (fun b hb hc=>h.outer (un e) hb hc)
   . rw[h.len,uO (ud _)]at e2
     simp at e2;subst e2;exact Wd _ _ _ _
 . rcases hap j y e1 with⟨hj,e⟩|⟨rfl,rfl⟩
   . rcases hap k y' e2 with⟨hk,f⟩|⟨rfl,rfl⟩
     . exact h.apart j k y y' hjk e f
     . intro b _ hb;simp[Value.ownBlock]at hb
   . intro b hb;simp[Value.ownBlock]at hb
theorem RoR.made{w:World}{base n:Nat}(hb:base<=w.heap.size)(hn:n<=maxLen):RoR (w.alloc (.cells (madeCells #[.slice none 0 0] n) 24)) base (.slice (some ⟨w.heap.size,0,none⟩) n n) (List.replicate n []) (List.replicate n (.slice none 0 0)):=by
 refine⟨by simp,by simpa using Vm (base:=base) (e:=24) (z:=.slice none 0 0) (n:=n) (w:=w) hb hn,fun i x p e1 e2=>?_,fun i j x y _ e1 _=>?_⟩
 . have h1:=un e1
   have h2:=un e2;rw[List.mem_replicate]at h1 h2;rw[h1.2,h2.2];exact Wd _ _ _ _
 . have h1:=un e1
   rw[List.mem_replicate]at h1;rw[h1.2];intro b hb;simp[Value.ownBlock]at hb
def rAt(us:List (List Int))(k:Int):List Int:=us.getD k.toNat []
structure UsersOk(ns:List Nd)(i:Nat)(pre:List Int)(us:List (List Int)):Prop where
 len:us.length=ns.length
 mem:∀k:Int,0<=k->k<ns.length->∀x:Int,x∈rAt us k↔((0<=x/\x<i)/\k∈(je ns x.toNat).2.2)\/(x=i/\k∈pre)
 sum:(us.map List.length).sum<=40*i+pre.length
theorem JP{us:List (List Int)}{k:Nat}{p:List Int}(h:us[k]? =some p):rAt us k=p:=by
 unfold rAt;rw[uq,show((k:Nat):Int).toNat=k by omega,h];rfl
theorem UsersOk.start(ns:List Nd):UsersOk ns 0 [] (List.replicate ns.length []) where
 len:=by simp
 mem:=fun k h0 h1 x=>by
  have:rAt (List.replicate ns.length []) k=[]:=by
   unfold rAt;rw[uq,Wc];split<;>rfl
  rw[this];simp;omega
 sum:=by simp
theorem zgi(l:List (List Int))(k:Nat)(p q:List Int)(h:l[k]? =some p):((l.set k q).map List.length).sum+p.length=(l.map List.length).sum+q.length:=by
 induction l generalizing k with
 |nil=>simp at h
 |cons a r ih=>
  cases k with
  |zero=>simp at h;subst h;simp;omega
  |succ k=>rw[Us]at h;have:=ih k h;simp only[List.set_cons_succ,UU,List.sum_cons];omega
theorem UsersOk.one{ns:List Nd}{i k:Nat}{pre:List Int}{us:List (List Int)}{p:List Int}(h:UsersOk ns i pre us)(hp:us[k]? =some p):UsersOk ns i (pre++[(k:Int)]) (us.set k (p++[(i:Int)])) where
 len:=by simpa using h.len
 mem:=fun j h0 h1 x=>by
  have hkl:=(ui.1 hp).1;obtain⟨jn,rfl⟩:∃jn:Nat,j=jn:=⟨j.toNat,by omega⟩
  have hm:=h.mem jn h0 h1 x;by_cases hjk:jn=k
  . subst hjk
    rw[JP hp]at hm;rw[JP (Wh hkl),uA,hm];rw[uA];constructor
    . rintro((h|⟨h1,h2⟩)|h)
      . exact .inl h
      . exact .inr ⟨h1,.inl h2⟩
      . exact .inr ⟨by simpa using h,.inr (by simp)⟩
    . rintro(h|⟨h1,_⟩)
      . exact .inl (.inl h)
      . exact .inr (by simp[h1])
  . have:rAt (us.set k (p++[(i:Int)])) jn=rAt us jn:=by
     unfold rAt;rw[uq,uq,Wb (by omega)]
    rw[this,hm,uA];have hne:¬((jn:Int)=(k:Int)):=by omega
    simp[hne]
 sum:=by
  have:=zgi us k p (p++[(i:Int)]) hp;have h2:=h.sum;simp at this⊢;omega
theorem UsersOk.next{ns:List Nd}{i:Nat}{nd:Nd}{us:List (List Int)}(h:UsersOk ns i nd.2.2 us)(hn:ns[i]? =some nd)(hk:nd.2.2.length<=40):UsersOk ns (i+1) [] us where
 len:=h.len
 mem:=fun k h0 h1 x=>by
  rw[h.mem k h0 h1 x];constructor
  . rintro(⟨⟨a,b⟩,c⟩|⟨rfl,c⟩)
    . exact .inl ⟨⟨a,by omega⟩,c⟩
    . exact .inl ⟨⟨by omega,by omega⟩,by rw[qx,yy hn];exact c⟩
  . rintro(⟨⟨a,b⟩,c⟩|⟨_,c⟩)
    . by_cases hx:x=i
      . subst hx
        rw[qx,yy hn]at c;exact .inr ⟨rfl,c⟩
      . exact .inl ⟨⟨a,by omega⟩,c⟩
    . simp at c
 sum:=by have:=h.sum;simp;omega
theorem Xy:laidOutB Tryz.prog=true:=by kernel_rfl
theorem zcd:(102:TypeId)<Tryz.prog.types.size:=wU (by kernel_rfl)
theorem zgd:(107:TypeId)<Tryz.prog.types.size:=wU (by kernel_rfl)
theorem zfk:(match Tryz.prog.underlying 102 with|some (.array _ _)|some (.struct _)=>true|_=>false)=true:=by rw[Tryz.underlying102]
theorem zfl:(match Tryz.prog.underlying 107 with|some (.array _ _)|some (.struct _)=>true|_=>false)=true:=by rw[Tryz.underlying107]
theorem zgq:Tryz.prog.keyTypeAt 2 102=true:=by kernel_rfl
theorem zgr:Tryz.prog.keyTypeAt 2 107=true:=by kernel_rfl
theorem JK:Maps.Keyed Tryz.prog 102:=Maps.Keyed.of_law (deep_law_laid Xy (m:=2) (by omega) zcd zgq zfk)
theorem JL:Maps.Keyed Tryz.prog 107:=Maps.Keyed.of_law (deep_law_laid Xy (m:=2) (by omega) zgd zgr zfl)
theorem zgF:∃m,Tryz.prog.types.size=m+2:=⟨Tryz.prog.types.size-2,by have h:(2:Nat)<=Tryz.prog.types.size:=uC (by decide) (dh zcd);omega⟩
theorem zfN(s n:Int)(t:ByteArray)(hs:(Lit.int .i64 s).wf=true)(hn:(Lit.int .i64 n).wf=true)(ht:t.size<=maxLen):∃l,keyOf Tryz.prog 102 (.agg #[.int .i64 s,.string t,.int .i64 n])=some l:=by
 obtain⟨m,hm⟩:=zgF;have hk:Tryz.prog.keyType 102=true:=by kernel_rfl
 have h1:Tryz.prog.cellsOf 102=3:=by kernel_rfl
 have h2:Tryz.prog.cellsOf 3=1:=by kernel_rfl
 have h3:Tryz.prog.cellsOf 9=1:=by kernel_rfl
 have hf:(Value.agg #[.int .i64 s,.string t,.int .i64 n]).formed Tryz.prog 102=true:=by simp[Value.formed,Tryz.underlying102,h1]
 refine⟨.string (keyBytes [.int .i64 s,.string t.data.toList,.int .i64 n]),?_⟩;unfold keyOf;rw[Tryz.underlying102];simp only[hk,hf,Bool.and_self,if_true,Value.cells];rw[hm];simp[Program.keyLits,Tryz.underlying102,uW,Uf,h1,h2,h3,hs,hn,ht]
theorem zfO(n:Int)(t:ByteArray)(hn:(Lit.int .i64 n).wf=true)(ht:t.size<=maxLen):∃l,keyOf Tryz.prog 107 (.agg #[.int .i64 n,.string t])=some l:=by
 obtain⟨m,hm⟩:=zgF;have hk:Tryz.prog.keyType 107=true:=by kernel_rfl
 have h1:Tryz.prog.cellsOf 107=2:=by kernel_rfl
 have h2:Tryz.prog.cellsOf 3=1:=by kernel_rfl
 have h3:Tryz.prog.cellsOf 9=1:=by kernel_rfl
 have hf:(Value.agg #[.int .i64 n,.string t]).formed Tryz.prog 107=true:=by simp[Value.formed,Tryz.underlying107,h1]
 refine⟨.string (keyBytes [.int .i64 n,.string t.data.toList]),?_⟩;unfold keyOf;rw[Tryz.underlying107];simp only[hk,hf,Bool.and_self,if_true,Value.cells];rw[hm];simp[Program.keyLits,Tryz.underlying107,uW,Uf,h1,h2,h3,hn,ht]
theorem QG(w:World):(zeroValue 3).run Tryz.prog w=.ok (.int .i64 0) w:=by kernel_rfl
abbrev I64(n:Int):DataW Unit:=.lit (.int .i64 n)
structure Known{K:Type}(W:World)(k:TypeId)(enc:K->Value)(b:Nat)(ks:List K)(D:DataW Unit):Prop where
 own:W.ownsMap Tryz.prog k (plainElem Tryz.prog 3) b ks.length D
 map:Maps.IsMap D
 yes:∀(t:Nat)(y:K)(l:Lit),ks[t]? =some y->keyOf Tryz.prog k (enc y)=some l->Maps.has D l=true/\D.atKey l (I64 0)=I64 t
 no:∀(y:K)(l:Lit),y∉ks->keyOf Tryz.prog k (enc y)=some l->Maps.has D l=false
theorem Known.nil{K:Type}(W:World)(k:TypeId)(enc:K->Value):Known (K:=K) (W.alloc (.map #[] 0)) k enc W.heap.size [] (.map []):=
 ⟨World.ownsMap_made _ _ _ _,Maps.isMap_empty,fun t y l h=>by simp at h,fun y l _ _=>rfl⟩
theorem Known.put{K:Type}{W W':World}{k:TypeId}{enc:K->Value}{b:Nat}{ks:List K}{D:DataW Unit}{y:K}{l:Lit}(law:Maps.Keyed Tryz.prog k)(hinj:∀x y:K,enc x=enc y->x=y)(h:Known W k enc b ks D)(hy:y∉ks)(hl:keyOf Tryz.prog k (enc y)=some l)
  (ho:W'.ownsMap Tryz.prog k (plainElem Tryz.prog 3) b (ks.length+1) (D.put l (I64 ks.length))):Known W' k enc b (ks++[y]) (D.put l (I64 ks.length)):=by
 have hne:∀(z:K)(m:Lit),keyOf Tryz.prog k (enc z)=some m->z≠y->m≠l:=fun z m hm hz e=>hz (hinj z y (law.inj hm (by rw[e];exact hl)))
 refine⟨by simpa using ho,h.map.put _ _,fun t z m hz hm=>?_,fun z m hz hm=>?_⟩
 . by_cases ht:t<ks.length
   . rw[uL ht]at hz
     have hzy:z≠y:=fun e=>hy (e ▸ un hz)
     have:=h.yes t z m hz hm;exact⟨by rw[Maps.has_put_other (hne z m hm hzy)];exact this.1,by rw[Maps.atKey_put_other (hne z m hm hzy)];exact this.2⟩
   . have ht2:t=ks.length:=by
      have:=(ui.1 hz).1;simp at this;omega
     subst ht2;rw[uO (ud _)]at hz;simp at hz;subst hz;rw[hl]at hm;cases hm;exact⟨Maps.has_put_same h.map (law.key hl) _,Maps.atKey_put_same h.map (law.key hl) _ _⟩
 . have hzy:z≠y:=fun e=>hz (by simp[e])
   rw[Maps.has_put_other (hne z m hm hzy)];exact h.no z m (fun hm2=>hz (by simp[hm2])) hm
theorem Known.keeps{K:Type}{W W':World}{k:TypeId}{enc:K->Value}{b:Nat}{ks:List K}{D:DataW Unit}(h:Known W k enc b ks D)(hk:KeepsOthers W W'):Known W' k enc b ks D:=by
 obtain⟨⟨es,clock,hb,r⟩,h2,h3,h4⟩:=h;exact⟨⟨es,clock,hk.same b _ hb rfl,r⟩,h2,h3,h4⟩
theorem Known.isMap{K:Type}{W:World}{k:TypeId}{enc:K->Value}{b:Nat}{ks:List K}{D:DataW Unit}(h:Known W k enc b ks D):∃o,W.heap[b]? =some o/\o.isCells=false:=by
 obtain⟨⟨es,clock,hb,r⟩,_⟩:=h;exact⟨_,hb,rfl⟩
theorem kI{K:Type}[DecidableEq K](look:Int->K)(ps:List Int):(zR look ps).length=(qn look ps).length:=by simp[zR]
theorem ZB{K:Type}[DecidableEq K](look:Int->K)(ps:List Int):(qn look ps).length<=ps.length:=by
 induction ps using X8 with
 |h0=>simp[qn]
 |h1 l x ih=>rw[kE];split<;>simp<;>omega
theorem zao(n:Int)(h0: -9223372036854775808<=n)(h1:n<=9223372036854775807):(Lit.int .i64 n).wf=true:=by
 have e1:IntKind.i64.min= -9223372036854775808:=by decide
 have e2:IntKind.i64.max=9223372036854775807:=by decide
 simp[Lit.wf,e1,e2];omega
theorem Xf:∀x y:Int×List UInt8×Nat,Value.agg #[.int .i64 x.1,.string (B x.2.1),.int .i64 x.2.2]=Value.agg #[.int .i64 y.1,.string (B y.2.1),.int .i64 y.2.2]->x=y:=by
 rintro⟨a,b,c⟩⟨a',b',c'⟩ h;simp[B]at h;obtain⟨rfl,rfl,h3⟩:=h;rw[show c=c' by omega]
theorem Xg:∀x y:Int×List UInt8,Value.agg #[.int .i64 x.1,.string (B x.2)]=Value.agg #[.int .i64 y.1,.string (B y.2)]->x=y:=by
 rintro⟨a,b⟩⟨a',b'⟩ h;simp[B]at h;obtain⟨rfl,rfl⟩:=h;rfl
theorem X3{α:Type}(l:List α)(a b:α):(l++[a]).set l.length b=l++[b]:=by simp
theorem KV(gv pv:Value)(ps:List Int)(look:Int->Int×List UInt8×Nat)(w:World)(hp:IntsAt w pv ps)(hn:ps.length<=1048576)
  (hkey:∀x∈ps,∃l,keyOf Tryz.prog 102 (.agg #[.int .i64 (look x).1,.string (B (look x).2.1),.int .i64 (look x).2.2])=some l)
  (hlook:∀x∈ps,∀W,Below w.heap.size w W->Calls Tryz.prog 76 #[gv,.int .i64 x] W fun e w'=>e=.returned (.agg #[.int .i64 (look x).1,.string (B (look x).2.1),.int .i64 (look x).2.2])/\Below W.heap.size W w'):
  Calls Tryz.prog 75 #[pv,.func (.func 76) #[gv] #[]] w fun e w'=>(∃ga vc vs,e=.returned (.slice (some ⟨ga,0,none⟩) (zR look ps).length vc)/\RoR w' w.heap.size (.slice (some ⟨ga,0,none⟩) (zR look ps).length vc) (zR look ps) vs)/\Below w.heap.size w w':=by
 obtain⟨i0,hi,hz0,hz1,hz2⟩:=Ue Tryz.infoInt;obtain⟨j0,hj,hy0,hy1,hy2⟩:=Ue Tryz.infoIntS;have HP:=zb hp;obtain⟨pa,pc,rfl,hp1,hp2, -⟩:=hp;unfold maxLen at hp2;have HK:=zb hkey;have HL:=zb hlook;clear hkey hlook;have HK0:=zb ((Known.nil w 102 (fun y:Int×List UInt8×Nat=>.agg #[.int .i64 y.1,.string (B y.2.1),.int .i64 y.2.2])).keeps (zE (zf (ue _ _) (.cells #[] 24))));have HB0:=zb (zf (zf (ue w.heap.size w) (.map #[] 0)) (.cells #[] 24));have HR0:Hid (RoR ((w.alloc (.map #[] 0)).alloc (.cells #[] 24)) w.heap.size (.slice (some ⟨w.heap.size+1,0,none⟩) 0 0) [] []):=zb ⟨rfl,by have h:=wh (base:=w.heap.size) (e:=24) (size:=1) (w.alloc (.map #[] 0)) #[] 0 (by simp) (by unfold maxLen;omega) rfl;simpa using h,fun i x p h=>by simp at h,fun i j x y _ h=>by simp at h⟩;have hmm:Sem.run Tryz.prog (Instr.makeMap 146 none) w=.ok (.map (some w.heap.size)) (w.alloc (.map #[] 0)):=by kernel_rfl
 go_enter Tryz.func75,Tryz.ntmps75;go_wp2_with fail
 go_loopw [6,16] (fun v u wr=>∃(k:Nat)(D:DataW Unit)(vs:List Value)(ga vc:Nat),k<=ps.length/\u=.int .i64 k/\v=.slice (some ⟨ga,0,none⟩) (zR look (ps.take k)).length vc/\Hid (Known wr 102 (fun y:Int×List UInt8×Nat=>.agg #[.int .i64 y.1,.string (B y.2.1),.int .i64 y.2.2]) w.heap.size (qn look (ps.take k)) D)/\Hid (RoR wr w.heap.size (.slice (some ⟨ga,0,none⟩) (zR look (ps.take k)).length vc) (zR look (ps.take k)) vs)/\Hid (Below w.heap.size w wr))
  (fun _ u _=>ps.length-(intOf u).toNat)
 case atStart=>exact⟨0,_,_,w.heap.size+1,0,by omega,rfl,rfl,HK0,HR0,HB0⟩
 case round=>
  clear HK0 HB0 HR0 hmm;obtain⟨k,D,vs,ga,vc,hk,rfl,rfl,HKN,HR,HB⟩:=hrel;have hpl:=kI look (ps.take k);have hkl:=ZB look (ps.take k);rw[uH]at hkl;obtain⟨K0,hK0⟩:∃K0,qn look (ps.take k)=K0:=⟨_,rfl⟩
  obtain⟨P0,hP0⟩:∃P0,zR look (ps.take k)=P0:=⟨_,rfl⟩
  have HKE:=zb hK0;have HPE:=zb hP0;rw[hK0,hP0]at hpl;rw[hK0]at hkl HKN;rw[hP0]at HR⊢;have hm:P0.length<=1048576:=by omega
  have HPL:=zb hpl;clear hpl hK0 hP0 hkl;by_cases hlt:k<ps.length
  . obtain⟨x,hx⟩:∃x,ps[k]? =some x:=⟨_,uf hlt⟩
    have hxm:=un hx;obtain⟨a,cap,e1,_,_,h3⟩:=kX ((za HP).below (za HB));injection e1 with e2 e3 e4;obtain⟨fb,fo,rfl,hfb,hfx⟩:=h3 k x hx;subst e2;clear e4 h3;have htk:ps.take (k+1)=ps.take k++[x]:=by rw[uY,hx];rfl
    have HTK:=zb htk;obtain⟨l,hl⟩:=za HK x hxm;have HLX:=zb ((za HL) x hxm wr (za HB));obtain⟨y,hy⟩:∃y,look x=y:=⟨_,rfl⟩
    rw[hy]at hl HLX;have HY:=zb hy;obtain⟨y1,y2,y3⟩:=y;simp only at hl HLX;have HLl:=zb hl;clear hy htk hx hl;go_wp2_with fail;have h:=za HLX;refine h.mono ?_;clear h HLX;rintro e w1⟨rfl,hb1⟩;have hB2:=zf hb1 (.cells #[.int .i64 y1,.string (B y2),.int .i64 y3] 102);have HK2:=zb ((za HKN).keeps (zE hB2));have HR2:=zb ((za HR).up hB2);have HB2:=zb (zi (za HB) hB2);clear HKN HR HB hb1 hB2 hfx;by_cases hin:(y1,y2,y3)∈K0
    . obtain⟨t,ht⟩:=uT hin
      have hKK:=(za HK2).yes t _ l ht (za HLl);have htl:t<P0.length:=by rw[za HPL];exact(ui.1 ht).1
      have hold:=Jn (look:=look) (ps:=ps.take k) (x:=x) (t:=t) (by rw[za HKE,za HY];exact ht);rw[za HPE,za HKE,<-za HTK]at hold;obtain⟨p,hp⟩:∃p,(ps.take k).filter (fun y=>decide (look y=look x))=p:=⟨_,rfl⟩
      rw[hp]at hold;have hpp:P0[t]? =some p:=by
       rw[<-za HPE];unfold zR;rw[WX,za HKE,ht,Option.map_some,<-za HY,hp]
      have hpn:p.length<=1048576:=by
       rw[<-hp];have:=List.length_filter_le (fun y=>decide (look y=look x)) (ps.take k);rw[uH]at this;omega
      obtain⟨xv,hxv⟩:∃xv,vs[t]? =some xv:=⟨_,uf (by rw[(za HR2).len];exact htl)⟩
      have hxr:=(za HR2).each t xv p hxv hpp;obtain⟨ra,rc,hxs⟩:=zq hxr;subst hxs;obtain⟨g,hg⟩:∃g,g=ga:=⟨_,rfl⟩
      subst hg;have c0:(w1.alloc (.cells #[.int .i64 y1,.string (B y2),.int .i64 y3] 102)).cell? ⟨g,t,none⟩=some (.slice ra p.length rc):=by
       rw[(za HR2).row.cellAt t (by omega)];exact hxv
      have HXR:=zb hxr;have HOL:=zb hold;have HPP:=zb hpp;have HXV:=zb hxv;have HKK:=zb hKK;clear hp hpp hxv hxr hold ht hin hKK
      go_wp2_with (first
       |(at_lookup;refine wpList_lookup_own_ok_int _ rfl _ _ 146 rfl 102 3 .i64 JK Tryz.underlying146 uW (QG _) w.heap.size _ D rfl (za HK2).own _ _ rfl (za HLl) ?_;intro c hat hwc;rw[(za HKK).1];obtain rfl:c=(t:Int):=(by have h:=(za HKK).2;rw[hat]at h;injection h with h;injection h);clear hat hwc)
       |(at_builtin;refine wpList_append_own_at _ rfl _ _ 24 rfl w.heap.size 3 i0 (.int .i64 0) 1 8 uV hi hz0 hz1 hz2 rfl (by decide) _ _ _ rfl ((za HXR).alloc _) ⟨w1.heap.size+1,0,none⟩ 1 1 [.int .i64 x] rfl rfl (by have h:=cell_one_new (w1.alloc (.cells #[.int .i64 y1,.string (B y2),.int .i64 y3] 102)) (.int .i64 x) 3;rwa[uk]at h) (by intro u hu;simp at hu;subst hu;rfl) (by unfold maxLen;omega) (by omega) (by have:=(za HB2).size;simp at this⊢;omega) ?_;intro x' w3 hown hgrow hnil hloc;obtain⟨qa,qc,rfl⟩:=zq hown;have HG:=zb ((za HR2).grow (za HXV) (za HPP) hown hgrow (hloc.imp id (fun h=>⟨_,h,by simp⟩)));have r3:=zS (za HR2).row ((Kept.of_below ((ue _ _).alloc (ud _) _)).trans (Kept.of_grown hgrow (fun _ e=>e))) (fun b hb hc=>(za HR2).outer (un (za HXV)) hc hb);have f3:=r3.frozenAt t;have c3:w3.cell? ⟨g,t,none⟩=some (.slice ra p.length rc):=(by rw[r3.cellAt t (by omega)];exact za HXV);clear hown hgrow hnil hloc r3))
      go_roundw
      case rel=>
       have hG:=za HG;have hKO:=z6 hG.2 (fun b hb o ho=>by
        rcases hb with rfl|hb
        . exact jb (za HR2).row rfl ho
        . exact jb (za HXR) hb ho)
       have hBL:=hG.2.below (base:=w.heap.size) (za HB2).size (fun b hb=>by
        rcases hb with rfl|hb
        . exact(zX (za HR2).row rfl).1
        . exact(zX (za HXR) hb).1)
       refine⟨k+1,D,vs.set t (.slice qa (p.length+1) qc),g,vc,by omega,by go_num,by rw[(za HOL).1];simp,?_,?_,zb ((za HB2).trans hBL)⟩
       . exact zb (by rw[(za HOL).2];exact(za HK2).keeps hKO)
       . exact zb (by rw[(za HOL).1];have h:=hG.1;rw[show(P0.set t (p++[x])).length=P0.length by simp];exact h)
      case measure=>simp[intOf];omega
    . have hno:=(za HK2).no _ l hin (za HLl)
      have hnew:=Jm (look:=look) (ps:=ps.take k) (x:=x) (by rw[za HKE,za HY];exact hin);rw[za HPE,za HKE,<-za HTK,za HY]at hnew;have hmap:=(za HK2).isMap;have hwf:=zao (P0.length:Int) (by omega) (by omega);have hk0:K0.length<maxLen:=by rw[<-za HPL];unfold maxLen;omega
      have HNO:=zb hno;have HNW:=zb hnew;have HIN:=zb hin;have HMP:=zb hmap;have HWF:=zb hwf;have HK00:=zb hk0;clear hno hnew hin hmap hwf hk0
      go_wp2_with (first
       |(at_lookup;refine wpList_lookup_own_ok_int _ rfl _ _ 146 rfl 102 3 .i64 JK Tryz.underlying146 uW (QG _) w.heap.size _ D rfl (za HK2).own _ _ rfl (za HLl) ?_;intro c hat hwc;rw[za HNO];clear hat hwc)
       |(at_mapUpdate;refine wpList_mapUpdate_own _ rfl _ _ _ 146 rfl 102 3 JK Tryz.underlying146 _ w.heap.size _ D rfl (za HK2).own (za HK00) _ _ _ rfl rfl (za HLl) _ [] (plainElem_int uW (za HWF)) ?_;intro w3 hown3 hgrow3;rw[show(P0.length:Int)=(K0.length:Int) by rw[za HPL]]at hown3;have HK3:=zb ((za HK2).put JK Xf (za HIN) (za HLl) hown3);have HR3:=zb ((za HR2).grownC hgrow3 (fun b e=>by cases e;exact za HMP));have HB3:=zb ((za HB2).grown hgrow3 (za HB2).size (fun k hk=>by cases hk;exact ud _));clear hown3 hgrow3)
       |(at_builtin;refine wpList_append_own_at _ rfl _ _ 97 rfl w.heap.size 24 j0 (.slice none 0 0) 1 24 Tryz.underlying97 hj hy0 hy1 hy2 rfl (by decide) _ _ _ rfl ((za HR3).row.alloc _) ⟨w3.heap.size,0,none⟩ 1 1 [.slice none 0 0] rfl rfl (cell_one_new w3 (.slice none 0 0) 24) (by intro u hu;simp at hu;subst hu;rfl) (by unfold maxLen;omega) (by omega) (by have:=(za HB3).size;simp at this⊢;omega) ?_;intro v4 w4 hown4 hgrow4 hnil4 hloc4;obtain⟨g,cap',rfl,_,hgb,_⟩:=zY hown4 (by omega);have HR4:=zb ((za HR3).push hown4 hgrow4);have HKP:Hid (Kept (fun b=>(Value.slice (some ⟨ga,0,none⟩) P0.length vc).ownBlock=some b) w3 w4):=zb ((Kept.of_below ((ue w3.heap.size w3).alloc (ud _) (.cells #[.slice none 0 0] 24))).trans (Kept.of_grown hgrow4 (fun _ e=>e)));have hl4:vs.length=P0.length:=(za HR3).len;have HX4:Hid ((vs++[Value.slice none 0 0])[P0.length]? =some (.slice none 0 0)):=zb (by rw[<-hl4];simp);have c4:w4.cell? ⟨g,P0.length,none⟩=some (.slice none 0 0):=(by rw[hown4.cellAt P0.length (by omega)];exact za HX4);have HGB:=zb hgb;have HOW:=zb hown4;clear hown4 hgrow4 hnil4 hloc4 hl4 hgb)
       |(at_builtin;refine wpList_append_own_at _ rfl _ _ 24 rfl w.heap.size 3 i0 (.int .i64 0) 1 8 uV hi hz0 hz1 hz2 rfl (by decide) _ _ _ rfl (Wd _ _ _ _) ⟨w4.heap.size,0,none⟩ 1 1 [.int .i64 x] rfl rfl (cell_one_new w4 (.int .i64 x) 3) (by intro u hu;simp at hu;subst hu;rfl) (by unfold maxLen;omega) (by omega) (by have h1:=(za HB3).size;have h2:=(za HKP).size;simp;omega) ?_;intro x' w5 hown hgrow hnil hloc;obtain⟨qa,qc,rfl⟩:=zq hown;have hpl5:(P0++[([]:List Int)])[P0.length]? =some []:=(by simp);have HG:=zb ((za HR4).grow (za HX4) hpl5 hown hgrow (hloc.imp id (fun h=>⟨_,h,by simp⟩)));have k5:Kept (fun b=>(Value.slice none 0 0).ownBlock=some b) w4 w5:=(Kept.of_below ((ue w4.heap.size w4).alloc (ud _) (.cells #[.int .i64 x] 3))).trans (Kept.of_grown hgrow (fun _ e=>e));have r5:=zS (za HOW) k5 (fun b hb hc=>by simp[Value.ownBlock]at hc);have f5:=r5.frozenAt P0.length;have c5:w5.cell? ⟨g,P0.length,none⟩=some (.slice none 0 0):=(by rw[r5.cellAt P0.length (by omega)];exact za HX4);clear hown hgrow hnil hloc k5 r5 hpl5))
      go_roundw
      case rel=>
       have hG:=za HG;have hS4:∀b,(Value.slice (some ⟨ga,0,none⟩) P0.length vc).ownBlock=some b->w.heap.size<=b:=fun b hb=>(zX (za HR3).row hb).1
       have hKO:=(z6 (za HKP) (fun b hb o ho=>jb (za HR3).row hb ho)).trans (z6 hG.2 (fun b hb o ho=>by
        rcases hb with rfl|hb
        . exact jb (za HOW) rfl ho
        . simp[Value.ownBlock]at hb))
       have hBL:=((za HKP).below (base:=w.heap.size) (za HB3).size hS4).trans (hG.2.below (base:=w.heap.size) (uC (za HB3).size (za HKP).size) (fun b hb=>by
        rcases hb with rfl|hb
        . exact(zX (za HOW) rfl).1
        . simp[Value.ownBlock]at hb))
       refine⟨k+1,D.put l (I64 K0.length),(vs++[Value.slice none 0 0]).set P0.length (.slice qa 1 qc),g,cap',by omega,by go_num,by rw[(za HNW).1];simp,?_,?_,zb ((za HB3).trans hBL)⟩
       . exact zb (by rw[(za HNW).2];exact(za HK3).keeps hKO)
       . exact zb (by rw[(za HNW).1,<-X3 P0 [] [x]];have h:=hG.1;rw[show((P0++[([]:List Int)]).set P0.length [x]).length=P0.length+1 by simp];exact h)
      case measure=>simp[intOf];omega
  . obtain rfl:k=ps.length:=by omega
    have HPF:Hid (zR look ps=P0):=zb (by have h:=za HPE;rwa[uz (ud _)]at h);go_wp2_with fail;go_ret;exact⟨⟨ga,vc,vs,by rw[za HPF];rfl,by rw[za HPF];exact za HR⟩,za HB⟩
end Go.Proofs.YtpbnmhnbkfnaeaaGreatDoor
namespace Go.Proofs.YtpbnmhnbkfnaeaaGreatDoor
open Go.RowKit Nt
theorem AtC3.st2{w:World}{b:Nat}{x y z:Value}{T:TypeId}(h:AtC3 w b x y z T)(u:Value):AtC3 (w.setCell ⟨b,2,none⟩ u) b x y u T:=by
 show(w.heap.modify b _)[b]? =_;rw[UN,uj rfl,show w.heap[b]? =_ from h];rfl
theorem vv{w:World}{b base n size:Nat}{x y z kv:Value}{T e:TypeId}{xs:List Value}(h:AtC3 w b x y z T)(ho:w.ownsRow base e size kv n xs)(hne:e≠T):kv.ownBlock≠some b:=by
 unfold AtC3 at h;rcases ho.2 with⟨rfl,_⟩|⟨g1,c1,k1,rfl,_,hg1,_⟩
 . intro e;simp[Value.ownBlock]at e
 . intro e
   simp[Value.ownBlock]at e;subst e;rw[hg1]at h;simp at h;exact hne h.2
theorem AtC3.grown{w w':World}{b:Nat}{x y z:Value}{T:TypeId}{row:Option Nat}(h:AtC3 w b x y z T)(hg:w.grownBy w' row)(hne:row≠some b):AtC3 w' b x y z T:=
 (hg.block b h.lt (U8 hne)).trans h
def zhF(v:Value):Prop:=∃a k c,v=.slice a k c/\k<=1099511627776
structure SR(w W:World)(g cap n:Nat)(vs0 vs:List Value):Prop where
 row:W.ownsRow g 24 1 (.slice (some ⟨g,0,none⟩) n cap) n vs
 perm:vs.Perm vs0
 sl:∀x∈vs0,zhF x
 kept:Kept (· =g) w W
theorem SR.len{w W:World}{g cap n:Nat}{vs0 vs:List Value}(h:SR w W g cap n vs0 vs):vs.length=n:=by simpa using h.row.1
theorem SR.cap{w W:World}{g cap n:Nat}{vs0 vs:List Value}(h:SR w W g cap n vs0 vs):n<=cap/\cap<=9223372036854775807:=by
 rcases h.row.2 with⟨e,_⟩|⟨g',c',cur,e,_,_,h1,h2,_⟩
 . cases e
 . cases e;unfold maxLen at h2;exact⟨h1,h2⟩
theorem SR.drew{w W:World}{g cap n:Nat}{vs0 vs:List Value}(h:SR w W g cap n vs0 vs):SR w W.drew g cap n vs0 vs:=
 ⟨h.row.drew,h.perm,h.sl,h.kept.trans (Kept.of_below (ue _ _).drew)⟩
theorem SR.drewN{w W:World}{g cap n:Nat}{vs0 vs:List Value}(h:SR w W g cap n vs0 vs)(k:Nat):SR w (W.drewN k) g cap n vs0 vs:=
 ⟨zu h.row (qq W k),h.perm,h.sl,h.kept.trans (Kept.of_below (qq W k))⟩
theorem SR.at{w W:World}{g cap n:Nat}{vs0 vs:List Value}(h:SR w W g cap n vs0 vs)(i:Nat)(hi:i<n):∃a k c,vs[i]? =some (.slice a k c)/\W.cell? ⟨g,i,none⟩=some (.slice a k c)/\k<=1099511627776:=by
 have hl:=h.len;have e:vs[i]? =some (vs[i]'(by omega)):=uf _;obtain⟨a,k,c,e2,hk⟩:=h.sl _ (h.perm.mem_iff.1 (un e));refine⟨a,k,c,by rw[e,e2],?_,hk⟩;rw[h.row.cellAt i (by omega),e,e2]
theorem SR.mid{w W:World}{g cap n:Nat}{vs0 vs:List Value}(h:SR w W g cap n vs0 vs)(i j:Nat)(hj:j<n)(y:Value):
  (∃z,(W.setCell ⟨g,i,none⟩ y).cell? ⟨g,j,none⟩=some z)/\(W.setCell ⟨g,i,none⟩ y).frozen? ⟨g,j,none⟩=false:=by
 have hl:=h.len;have h1:=(h.row.stored i y).1;refine⟨⟨(vs.set i y)[j]'(by simp;omega),?_⟩,h1.frozenAt j⟩;rw[h1.cellAt j (by omega),uf]
theorem zdx(l:List Value)(i j:Nat)(x y:Value)(hi:l[i]? =some x)(hj:l[j]? =some y):((l.set i y).set j x).Perm l:=by
 obtain⟨h1,rfl⟩:=ui.1 hi;obtain⟨h2,rfl⟩:=ui.1 hj;exact List.set_set_perm h1 h2
theorem SR.swap{w W:World}{g cap n:Nat}{vs0 vs:List Value}(h:SR w W g cap n vs0 vs){i j:Nat}{x y:Value}(hi:vs[i]? =some x)(hj:vs[j]? =some y):
  SR w ((W.setCell ⟨g,i,none⟩ y).setCell ⟨g,j,none⟩ x) g cap n vs0 ((vs.set i y).set j x):=
 ⟨(((h.row.stored i y).1).stored j x).1,(zdx vs i j x y hi hj).trans h.perm,h.sl,(h.kept.trans (Kept.set (S:=(· =g)) (a:=⟨g,i,none⟩) rfl y)).trans (Kept.set (S:=(· =g)) (a:=⟨g,j,none⟩) rfl x)⟩
theorem Zo(g cap n a b k:Nat)(vs0 vs:List Value)(w W:World)(h:SR w W g cap n vs0 vs)(hn:n<=1073741824)(ha:a+k<=n)(hb:b+k<=n)(cv:Value):
  Calls Tryz.prog 212 #[.slice (some ⟨g,0,none⟩) n cap,.int .i64 a,.int .i64 b,.int .i64 k,cv] W fun e w'=>(∃u,e=.returned u)/\∃vs',SR w w' g cap n vs0 vs':=by
 have HS0:=zb h;have hcap:=h.cap;clear h;go_enter Tryz.func212,Tryz.ntmps212;go_wp2
 go_loopw [10] (fun i wr=>∃m:Nat,m<=k/\i=.int .i64 m/\∃us,Hid (SR w wr g cap n vs0 us))
  (fun i _=>k-(intOf i).toNat)
 case atStart=>exact⟨0,by omega,rfl,_,HS0⟩
 case round=>
  clear HS0;obtain⟨m,hm,rfl,us,HS⟩:=hrel;by_cases hlt:m<k
  . obtain⟨xa,xn,xc,e1,c1,_⟩:=(za HS).at (a+m) (by omega)
    obtain⟨ya,yn,yc,e2,c2,_⟩:=(za HS).at (b+m) (by omega);have f1:=(za HS).row.frozenAt (a+m);have f2:=(za HS).row.frozenAt (b+m);have i1:IntKind.i64.wrap ((a:Int)+m)=((a+m:Nat):Int):=by rw[qX]<;>omega
    have i2:IntKind.i64.wrap ((b:Int)+m)=((b+m:Nat):Int):=by rw[qX]<;>omega
    have HSW:=zb ((za HS).swap e1 e2);obtain⟨⟨z,m1⟩,m2⟩:=(za HS).mid (a+m) (b+m) (by omega) (.slice ya yn yc);clear e1 e2;go_wp2_with fail
    go_region
    all_goals
     go_wp2_with fail;go_roundw
     case rel=>exact⟨m+1,by omega,by go_num,_,zb (by first|exact(za HSW).drew|exact za HSW)⟩
     case measure=>simp[intOf];omega
  . go_wp2_with fail
    go_end0
    exact⟨⟨_,rfl⟩,_,za HS⟩
theorem XU(g cap n a m b:Nat)(vs0 vs:List Value)(w W:World)(h:SR w W g cap n vs0 vs)(hn:n<=1073741824)(ha:a<m)(hm:m<b)(hb:b<=n)(cv:Value):
  Calls Tryz.prog 193 #[.slice (some ⟨g,0,none⟩) n cap,.int .i64 a,.int .i64 m,.int .i64 b,cv] W fun e w'=>(∃u,e=.returned u)/\∃vs',SR w w' g cap n vs0 vs':=by
 have HS0:=zb h;clear h;have i1:IntKind.i64.wrap ((m:Int)-a)=((m-a:Nat):Int):=by rw[qX]<;>omega
 have i2:IntKind.i64.wrap ((b:Int)-m)=((b-m:Nat):Int):=by rw[qX]<;>omega
 go_enter Tryz.func193,Tryz.ntmps193;go_wp2_with fail
 go_loopw [10,11] (fun u v wr=>∃i j:Nat,1<=i/\i<=m-a/\1<=j/\j<=b-m/\u=.int .i64 i/\v=.int .i64 j/\∃us,Hid (SR w wr g cap n vs0 us))
  (fun u v _=>(intOf u).toNat+(intOf v).toNat)
 case atStart=>exact⟨m-a,b-m,by omega,by omega,by omega,by omega,by go_num,by go_num,_,HS0⟩
 case round=>
  clear HS0 i1 i2;obtain⟨i,j,hi1,hi2,hj1,hj2,rfl,rfl,us,HS⟩:=hrel;have k1:IntKind.i64.wrap ((m:Int)-i)=((m-i:Nat):Int):=by rw[qX]<;>omega
  by_cases hne:i=j
  . subst hne
    go_wp2_with fail;refine(Zo g cap n (m-i) m i vs0 us w wr (za HS) hn (by omega) (by omega) cv).mono ?_;rintro e w2⟨⟨u,rfl⟩,vs2,h2⟩;go_wp2_with fail
    go_end0
    exact⟨⟨_,rfl⟩,_,h2⟩
  . have hne':¬((i:Int)=j):=by omega
    by_cases hgt:j<i
    . have k2:IntKind.i64.wrap ((i:Int)-j)=((i-j:Nat):Int):=by rw[qX]<;>omega
      go_wp2_with fail;refine(Zo g cap n (m-i) m j vs0 us w wr (za HS) hn (by omega) (by omega) cv).mono ?_;rintro e w2⟨⟨u,rfl⟩,vs2,h2⟩;have HS2:=zb h2;clear h2;go_wp2_with fail;go_roundw
      case rel=>exact⟨i-j,j,by omega,by omega,by omega,by omega,by go_num,rfl,_,HS2⟩
      case measure=>simp[intOf];omega
    . have k2:IntKind.i64.wrap ((j:Int)-i)=((j-i:Nat):Int):=by rw[qX]<;>omega
      have h:=Zo g cap n (m-i) (m+j-i) i vs0 us w wr (za HS) hn (by omega) (by omega) cv;rw[show((m+j-i:Nat):Int)=(m:Int)+j-i by omega]at h;have H:=zb h;clear h;go_wp2_with fail;have h:=za H;refine h.mono ?_;clear h;rintro e w2⟨⟨u,rfl⟩,vs2,h2⟩;have HS2:=zb h2;clear h2;go_wp2_with fail;go_roundw
      case rel=>exact⟨i,j-i,by omega,by omega,by omega,by omega,rfl,by go_num,_,HS2⟩
      case measure=>simp[intOf];omega
theorem Xa(a1 a2:Option Addr)(k1 k2 c1 c2:Nat)(w:World)(h1:k1<=1099511627776)(h2:k2<=1099511627776):
  Calls Tryz.prog 113 #[.slice a1 k1 c1,.slice a2 k2 c2] w fun e w'=>e=.returned (.int .i64 ((k2:Int)-k1))/\w'=w:=by
 go_enter Tryz.func113,Tryz.ntmps113;go_wp2;go_ret;exact⟨rfl,rfl⟩
theorem Yv(g cap n a b:Nat)(vs0 vs:List Value)(w W:World)(h:SR w W g cap n vs0 vs)(hn:n<=1073741824)(hb:b<=n)(ha:a<=n):
  Calls Tryz.prog 169 #[.slice (some ⟨g,0,none⟩) n cap,.int .i64 a,.int .i64 b,.func (.func 113) #[] #[]] W fun e w'=>(∃u,e=.returned u)/\∃vs',SR w w' g cap n vs0 vs':=by
 have HS0:=zb h;have hcap:=h.cap;clear h;go_enter Tryz.func169,Tryz.ntmps169;go_wp2_with fail
 go_loopw [8] (fun u wr=>∃i:Nat,a+1<=i/\u=.int .i64 i/\i<=n+1/\∃us,Hid (SR w wr g cap n vs0 us))
  (fun u _=>b+1-(intOf u).toNat)
 case atStart=>exact⟨a+1,by omega,by go_num,by omega,_,HS0⟩
 case round=>
  clear HS0;obtain⟨i,hi1,rfl,hi2,us,HS⟩:=hrel;by_cases hlt:i<b
  . obtain⟨Wo,hWo⟩:∃Wo,wr=Wo:=⟨_,rfl⟩
    subst hWo;go_wp2_with fail
    go_loopw [9] (fun u wj=>∃j:Nat,a<=j/\j<n/\u=.int .i64 j/\∃us,Hid (SR w wj g cap n vs0 us))
     (fun u _=>(intOf u).toNat)
    case atStart=>exact⟨i,by omega,by omega,rfl,_,HS⟩
    case round=>
     clear HS;obtain⟨j,hj1,hj2,rfl,us,HS⟩:=hrel;by_cases hja:a<j
     . obtain⟨k,rfl⟩:∃k,j=k+1:=⟨j-1,by omega⟩
       obtain⟨xa,xn,xc,e1,c1,hx⟩:=(za HS).at (k+1) (by omega);obtain⟨ya,yn,yc,e2,c2,hy⟩:=(za HS).at k (by omega);have hja':(a:Int)<(k:Int)+1:=by omega
       have q1:(0:Int)<=(k:Int)+1:=by omega
       have q2:(k:Int)+1<n:=by omega
       have q3:((k:Int)+1).toNat=k+1:=by omega
       have q4:(k:Int)<n:=by omega
       have q5:IntKind.i64.wrap (k:Int)=(k:Int):=by rw[qX]<;>omega
       go_wp2_with fail
       go_quiet ((go_at_call 113;exact Calls.quiet_of_same (Xa xa ya xn yn xc yc _ hx hy)))
       have HS2:=zb ((za HS).drewN nq);obtain⟨W2,hW2⟩:∃W2,wr.drewN nq=W2:=⟨_,rfl⟩
       rw[hW2]at HS2⊢;clear hW2 c1 c2 HS;generalize decide ((yn:Int)-xn<0)=d;cases d with
       |true=>
        obtain⟨xa',xn',xc',e1',c1,_⟩:=(za HS2).at (k+1) (by omega);obtain⟨ya',yn',yc',e2',c2,_⟩:=(za HS2).at k (by omega);have f1:=(za HS2).row.frozenAt (k+1);have f2:=(za HS2).row.frozenAt k;obtain⟨⟨z,m1⟩,m2⟩:=(za HS2).mid (k+1) k (by omega) (.slice ya' yn' yc');have HSW:=zb ((za HS2).swap e1' e2');clear e1 e2 e1' e2' HS2;go_wp2_with fail
        go_region
        all_goals
         go_wp2_with fail;go_roundw
         case rel=>exact⟨k,by omega,by omega,by go_num,_,zb (by first|exact(za HSW).drew|exact za HSW)⟩
         case measure=>simp[intOf];try omega
       |false=>
        clear e1 e2;go_wp2_with fail;go_roundw
        case rel=>exact⟨i+1,by omega,by go_num,by omega,_,HS2⟩
        case measure=>simp[intOf];omega
     . obtain rfl:j=a:=by omega
       have hjj:decide ((j:Int)<(j:Int))=false:=by simp
       go_wp2_with fail
       go_region
       all_goals
        go_wp2_with fail;go_roundw
        case rel=>exact⟨i+1,by omega,by go_num,by omega,_,zb (za HS).drew⟩
        case measure=>simp[intOf];omega
  . go_wp2_with fail
    go_end0
    exact⟨⟨_,rfl⟩,_,za HS⟩
theorem zae(g cap n a b:Nat)(vs0 vs:List Value)(w W:World)(h:SR w W g cap n vs0 vs)(hn:n<=1073741824)(ha:a+1<b)(hb:b<=n):
  Calls Tryz.prog 170 #[.slice (some ⟨g,0,none⟩) n cap,.int .i64 a,.int .i64 (a+1),.int .i64 b,.func (.func 113) #[] #[]] W fun e w'=>(∃u,e=.returned u)/\∃vs',SR w w' g cap n vs0 vs':=by
 have HS0:=zb h;have hcap:=h.cap;clear h;have hone:((a:Int)+1-a==1)=true:=by simp;omega
 go_enter Tryz.func170,Tryz.ntmps170;go_wp2_with fail
 go_loopw [10,11] (fun u v wr=>∃i j:Nat,a+1<=i/\i<=j/\j<=b/\u=.int .i64 i/\v=.int .i64 j/\∃us,Hid (SR w wr g cap n vs0 us))
  (fun u v _=>(intOf v).toNat-(intOf u).toNat)
 case atStart=>exact⟨a+1,b,by omega,by omega,by omega,by go_num,rfl,_,HS0⟩
 case round=>
  clear HS0;obtain⟨i,j,hi1,hi2,hi3,rfl,rfl,us,HS⟩:=hrel;by_cases hlt:i<j
  . obtain⟨k,hk0,hk1,Q0⟩:∃k:Nat,i<=k/\k<j/\Hid (((i:Int)+j)/2=(k:Int)):=⟨(i+j)/2,by omega,by omega,zb (by omega)⟩
    obtain⟨xa,xn,xc,e1,c1,hx⟩:=(za HS).at k (by omega);obtain⟨ya,yn,yc,e2,c2,hy⟩:=(za HS).at a (by omega);have q1:(k:Int)<n:=by omega
    have q2:(a:Int)<n:=by omega
    go_wp2_with fail;rw[za Q0]
    go_quiet ((go_at_call 113;exact Calls.quiet_of_same (Xa xa ya xn yn xc yc _ hx hy)))
    have HS2:=zb ((za HS).drewN nq);generalize decide ((yn:Int)-xn<0)=d;clear e1 e2 c1 c2 HS;cases d with
    |true=>
     go_wp2_with fail;go_roundw
     case rel=>exact⟨k+1,j,by omega,by omega,by omega,by go_num,rfl,_,HS2⟩
     case measure=>simp[intOf];omega
    |false=>
     go_wp2_with fail;go_roundw
     case rel=>exact⟨i,k,by omega,by omega,by omega,rfl,rfl,_,HS2⟩
     case measure=>simp[intOf];omega
  . obtain rfl:j=i:=by omega
    go_wp2_with fail
    go_loopw [13] (fun u wr=>∃k:Nat,a<=k/\k+1<=j/\u=.int .i64 k/\∃us,Hid (SR w wr g cap n vs0 us))
     (fun u _=>j-(intOf u).toNat)
    case atStart=>exact⟨a,by omega,by omega,rfl,_,HS⟩
    case round=>
     clear HS;obtain⟨k,hk1,hk2,rfl,us,HS⟩:=hrel;by_cases hkj:k+1<j
     . obtain⟨xa,xn,xc,e1,c1,hx⟩:=(za HS).at k (by omega)
       obtain⟨ya,yn,yc,e2,c2,hy⟩:=(za HS).at (k+1) (by omega);have f1:=(za HS).row.frozenAt (k+1);have f2:=(za HS).row.frozenAt k;obtain⟨⟨z,m1⟩,m2⟩:=(za HS).mid k (k+1) (by omega) (.slice ya yn yc);have HSW:=zb ((za HS).swap e1 e2);clear e1 e2;go_wp2_with fail
       go_region
       all_goals
        go_wp2_with fail;go_roundw
        case rel=>exact⟨k+1,by omega,by omega,by go_num,_,zb (by first|exact(za HSW).drew|exact za HSW)⟩
        case measure=>simp[intOf];try omega
     . go_wp2_with fail
       refine um (results_none rfl _ _ _) rfl ?_;exact⟨⟨_,rfl⟩,_,za HS⟩
theorem zaf(g cap n a m:Nat)(vs0 vs:List Value)(w W:World)(h:SR w W g cap n vs0 vs)(hn:n<=1073741824)(ha:a+1<m)(hb:m+1<=n):
  Calls Tryz.prog 170 #[.slice (some ⟨g,0,none⟩) n cap,.int .i64 a,.int .i64 m,.int .i64 (m+1),.func (.func 113) #[] #[]] W fun e w'=>(∃u,e=.returned u)/\∃vs',SR w w' g cap n vs0 vs':=by
 have HS0:=zb h;have hcap:=h.cap;clear h;have hone:((m:Int)+1-m==1)=true:=by simp;omega
 have hno:((m:Int)-a==1)=false:=by simp;omega
 go_enter Tryz.func170,Tryz.ntmps170;go_wp2_with fail
 go_loopw [14,15] (fun u v wr=>∃i j:Nat,a<=i/\i<=j/\j<=m/\u=.int .i64 i/\v=.int .i64 j/\∃us,Hid (SR w wr g cap n vs0 us))
  (fun u v _=>(intOf v).toNat-(intOf u).toNat)
 case atStart=>exact⟨a,m,by omega,by omega,by omega,rfl,rfl,_,HS0⟩
 case round=>
  clear HS0;obtain⟨i,j,hi1,hi2,hi3,rfl,rfl,us,HS⟩:=hrel;by_cases hlt:i<j
  . obtain⟨k,hk0,hk1,Q0⟩:∃k:Nat,i<=k/\k<j/\Hid (((i:Int)+j)/2=(k:Int)):=⟨(i+j)/2,by omega,by omega,zb (by omega)⟩
    obtain⟨xa,xn,xc,e1,c1,hx⟩:=(za HS).at k (by omega);obtain⟨ya,yn,yc,e2,c2,hy⟩:=(za HS).at m (by omega);have q1:(k:Int)<n:=by omega
    have q2:(m:Int)<n:=by omega
    go_wp2_with fail;rw[za Q0]
    go_quiet ((go_at_call 113;exact Calls.quiet_of_same (Xa ya xa yn xn yc xc _ hy hx)))
    have HS2:=zb ((za HS).drewN nq);generalize decide ((xn:Int)-yn<0)=d;clear e1 e2 c1 c2 HS;cases d with
    |false=>
     go_wp2_with fail;go_roundw
     case rel=>exact⟨k+1,j,by omega,by omega,by omega,by go_num,rfl,_,HS2⟩
     case measure=>simp[intOf];omega
    |true=>
     go_wp2_with fail;go_roundw
     case rel=>exact⟨i,k,by omega,by omega,by omega,rfl,rfl,_,HS2⟩
     case measure=>simp[intOf];omega
  . obtain rfl:j=i:=by omega
    go_wp2_with fail
    go_loopw [17] (fun u wr=>∃k:Nat,j<=k/\k<=m/\u=.int .i64 k/\∃us,Hid (SR w wr g cap n vs0 us))
     (fun u _=>(intOf u).toNat)
    case atStart=>exact⟨m,by omega,by omega,rfl,_,HS⟩
    case round=>
     clear HS;obtain⟨k,hk1,hk2,rfl,us,HS⟩:=hrel;by_cases hkj:j<k
     . obtain⟨k,rfl⟩:∃k',k=k'+1:=⟨k-1,by omega⟩
       obtain⟨xa,xn,xc,e1,c1,hx⟩:=(za HS).at (k+1) (by omega);obtain⟨ya,yn,yc,e2,c2,hy⟩:=(za HS).at k (by omega);have f1:=(za HS).row.frozenAt (k+1);have f2:=(za HS).row.frozenAt k;obtain⟨⟨z,m1⟩,m2⟩:=(za HS).mid (k+1) k (by omega) (.slice ya yn yc);have HSW:=zb ((za HS).swap e1 e2);clear e1 e2;go_wp2_with fail
       go_region
       all_goals
        go_wp2_with fail;go_roundw
        case rel=>exact⟨k,by omega,by omega,by go_num,_,zb (by first|exact(za HSW).drew|exact za HSW)⟩
        case measure=>simp[intOf];try omega
     . obtain rfl:k=j:=by omega
       go_wp2_with fail;refine um (results_none rfl _ _ _) rfl ?_;exact⟨⟨_,rfl⟩,_,za HS⟩
def zbJ(w:World)(g cap n:Nat)(vs0:List Value)(a m b:Nat):Prop:=
 ∀(vs:List Value)(W:World),SR w W g cap n vs0 vs->Calls Tryz.prog 170 #[.slice (some ⟨g,0,none⟩) n cap,.int .i64 a,.int .i64 m,.int .i64 b,.func (.func 113) #[] #[]] W fun e w'=>(∃u,e=.returned u)/\∃vs',SR w w' g cap n vs0 vs'
theorem zag(g cap n a m b:Nat)(vs0 vs:List Value)(w W:World)(h:SR w W g cap n vs0 vs)(hn:n<=1073741824)(ha:a+1<m)(hm:m+1<b)(hb:b<=n)
  (ih:∀a' m' b':Nat,a'<m'->m'<b'->b'<=n->b'-a'<b-a->zbJ w g cap n vs0 a' m' b'):
  Calls Tryz.prog 170 #[.slice (some ⟨g,0,none⟩) n cap,.int .i64 a,.int .i64 m,.int .i64 b,.func (.func 113) #[] #[]] W fun e w'=>(∃u,e=.returned u)/\∃vs',SR w w' g cap n vs0 vs':=by
 have HS0:=zb h;have HI:=zb ih;have hcap:=h.cap;clear h ih;have hone:((m:Int)-a==1)=false:=by simp;omega
 have htwo:((b:Int)-m==1)=false:=by simp;omega
 obtain⟨mid,hd0,hd1,hd2,Q0⟩:∃mid:Nat,2*mid<=a+b/\a+b<=2*mid+1/\a<mid/\Hid (((a:Int)+b)/2=(mid:Int)):=⟨(a+b)/2,by omega,by omega,by omega,zb (by omega)⟩
 go_enter Tryz.func170,Tryz.ntmps170;by_cases hgt:mid<m
 . have hgt':((a:Int)+b)/2<m:=by rw[za Q0];omega
   go_wp2_with fail;rw[za Q0];obtain⟨N,hN0,hN1⟩:∃N:Nat,N<=mid+m/\mid+m<=N:=⟨mid+m,by omega,by omega⟩
   obtain⟨P,hP0,hP1⟩:∃P:Nat,P+1<=N/\N<=P+1:=⟨N-1,by omega,by omega⟩
   rw[show(mid:Int)+m=(N:Int) by omega,show(N:Int)-1=(P:Int) by omega];obtain⟨S0,hS0,hS1⟩:∃S0:Nat,S0+b<=N/\N<=S0+b:=⟨N-b,by omega,by omega⟩
   rw[show(N:Int)-b=(S0:Int) by omega];clear hgt'
   go_loopw [20,21] (fun u v wr=>∃s r:Nat,S0<=s/\s<=r/\r<=mid/\u=.int .i64 s/\v=.int .i64 r/\∃us,Hid (SR w wr g cap n vs0 us))
    (fun u v _=>(intOf v).toNat-(intOf u).toNat)
   case atStart=>exact⟨S0,mid,by omega,by omega,by omega,rfl,rfl,_,HS0⟩
   case round=>
    clear HS0;obtain⟨s,r,hi1,hi2,hi3,rfl,rfl,us,HS⟩:=hrel;by_cases hlt:s<r
    . obtain⟨k,hk0,hk1,Q1⟩:∃k:Nat,s<=k/\k<r/\Hid (((s:Int)+r)/2=(k:Int)):=⟨(s+r)/2,by omega,by omega,zb (by omega)⟩
      obtain⟨pc,hpc0,hpc1⟩:∃pc:Nat,pc+k<=P/\P<=pc+k:=⟨P-k,by omega,by omega⟩
      obtain⟨xa,xn,xc,e1,d1,hx⟩:=(za HS).at pc (by omega);obtain⟨ya,yn,yc,e2,d2,hy⟩:=(za HS).at k (by omega);have q1:(k:Int)<n:=by omega
      have q2:(pc:Int)<n:=by omega
      have q3:IntKind.i64.wrap ((P:Int)-k)=(pc:Int):=by rw[qX]<;>omega
      go_wp2_with fail;rw[za Q1]
      go_quiet ((go_at_call 113;exact Calls.quiet_of_same (Xa xa ya xn yn xc yc _ hx hy)))
      have HS2:=zb ((za HS).drewN nq);generalize decide ((yn:Int)-xn<0)=d;clear e1 e2 d1 d2 HS;cases d with
      |false=>
       go_wp2_with fail;go_roundw
       case rel=>exact⟨k+1,r,by omega,by omega,by omega,by go_num,rfl,_,HS2⟩
       case measure=>simp[intOf];omega
      |true=>
       go_wp2_with fail;go_roundw
       case rel=>exact⟨s,k,by omega,by omega,by omega,rfl,rfl,_,HS2⟩
       case measure=>simp[intOf];omega
    . obtain rfl:r=s:=by omega
      obtain⟨E,hE0,hE1⟩:∃E:Nat,E+r<=N/\N<=E+r:=⟨N-r,by omega,by omega⟩
      have q4:IntKind.i64.wrap ((N:Int)-r)=(E:Int):=by rw[qX]<;>omega
      clear Q0;by_cases c1:r<m
      . by_cases c2:m<E
        . go_wp2_with fail
          have h:=XU g cap n r m E vs0 _ w _ (za HS) hn c1 c2 (by omega) (.func (.func 113) #[] #[]);refine h.mono ?_;clear h HS;rintro e w4⟨⟨u,rfl⟩,us4,h4⟩;have HS:=zb h4;clear h4;by_cases c3:a<r
          . by_cases c4:r<mid
            . go_wp2_with fail
              have h:=(za HI) a r mid c3 c4 (by omega) (by omega) _ _ (za HS);refine h.mono ?_;clear h HS;rintro e w5⟨⟨u,rfl⟩,us5,h5⟩;have HS:=zb h5;clear h5;by_cases c5:mid<E
              . by_cases c6:E<b
                . go_wp2_with fail
                  have h:=(za HI) mid E b c5 c6 hb (by omega) _ _ (za HS);refine h.mono ?_;clear h;rintro e w6⟨⟨u,rfl⟩,us6,h6⟩;go_wp2_with fail
                  go_end0
                  exact⟨⟨_,rfl⟩,_,h6⟩
                . go_wp2_with fail
                  go_end0
                  exact⟨⟨_,rfl⟩,_,za HS⟩
              . go_wp2_with fail
                go_end0
                exact⟨⟨_,rfl⟩,_,za HS⟩
            . skip
              by_cases c5:mid<E
              . by_cases c6:E<b
                . go_wp2_with fail
                  have h:=(za HI) mid E b c5 c6 hb (by omega) _ _ (za HS);refine h.mono ?_;clear h;rintro e w6⟨⟨u,rfl⟩,us6,h6⟩;go_wp2_with fail
                  go_end0
                  exact⟨⟨_,rfl⟩,_,h6⟩
                . go_wp2_with fail
                  go_end0
                  exact⟨⟨_,rfl⟩,_,za HS⟩
              . go_wp2_with fail
                go_end0
                exact⟨⟨_,rfl⟩,_,za HS⟩
          . skip
            by_cases c5:mid<E
            . by_cases c6:E<b
              . go_wp2_with fail
                have h:=(za HI) mid E b c5 c6 hb (by omega) _ _ (za HS);refine h.mono ?_;clear h;rintro e w6⟨⟨u,rfl⟩,us6,h6⟩;go_wp2_with fail
                go_end0
                exact⟨⟨_,rfl⟩,_,h6⟩
              . go_wp2_with fail
                go_end0
                exact⟨⟨_,rfl⟩,_,za HS⟩
            . go_wp2_with fail
              go_end0
              exact⟨⟨_,rfl⟩,_,za HS⟩
        . skip
          by_cases c3:a<r
          . by_cases c4:r<mid
            . go_wp2_with fail
              have h:=(za HI) a r mid c3 c4 (by omega) (by omega) _ _ (za HS);refine h.mono ?_;clear h HS;rintro e w5⟨⟨u,rfl⟩,us5,h5⟩;have HS:=zb h5;clear h5;by_cases c5:mid<E
              . by_cases c6:E<b
                . go_wp2_with fail
                  have h:=(za HI) mid E b c5 c6 hb (by omega) _ _ (za HS);refine h.mono ?_;clear h;rintro e w6⟨⟨u,rfl⟩,us6,h6⟩;go_wp2_with fail
                  go_end0
                  exact⟨⟨_,rfl⟩,_,h6⟩
                . go_wp2_with fail
                  go_end0
                  exact⟨⟨_,rfl⟩,_,za HS⟩
              . go_wp2_with fail
                go_end0
                exact⟨⟨_,rfl⟩,_,za HS⟩
            . skip
              by_cases c5:mid<E
              . by_cases c6:E<b
                . go_wp2_with fail
                  have h:=(za HI) mid E b c5 c6 hb (by omega) _ _ (za HS);refine h.mono ?_;clear h;rintro e w6⟨⟨u,rfl⟩,us6,h6⟩;go_wp2_with fail
                  go_end0
                  exact⟨⟨_,rfl⟩,_,h6⟩
                . go_wp2_with fail
                  go_end0
                  exact⟨⟨_,rfl⟩,_,za HS⟩
              . go_wp2_with fail
                go_end0
                exact⟨⟨_,rfl⟩,_,za HS⟩
          . skip
            by_cases c5:mid<E
            . by_cases c6:E<b
              . go_wp2_with fail
                have h:=(za HI) mid E b c5 c6 hb (by omega) _ _ (za HS);refine h.mono ?_;clear h;rintro e w6⟨⟨u,rfl⟩,us6,h6⟩;go_wp2_with fail
                go_end0
                exact⟨⟨_,rfl⟩,_,h6⟩
              . go_wp2_with fail
                go_end0
                exact⟨⟨_,rfl⟩,_,za HS⟩
            . go_wp2_with fail
              go_end0
              exact⟨⟨_,rfl⟩,_,za HS⟩
      . skip
        by_cases c3:a<r
        . by_cases c4:r<mid
          . go_wp2_with fail
            have h:=(za HI) a r mid c3 c4 (by omega) (by omega) _ _ (za HS);refine h.mono ?_;clear h HS;rintro e w5⟨⟨u,rfl⟩,us5,h5⟩;have HS:=zb h5;clear h5;by_cases c5:mid<E
            . by_cases c6:E<b
              . go_wp2_with fail
                have h:=(za HI) mid E b c5 c6 hb (by omega) _ _ (za HS);refine h.mono ?_;clear h;rintro e w6⟨⟨u,rfl⟩,us6,h6⟩;go_wp2_with fail
                go_end0
                exact⟨⟨_,rfl⟩,_,h6⟩
              . go_wp2_with fail
                go_end0
                exact⟨⟨_,rfl⟩,_,za HS⟩
            . go_wp2_with fail
              go_end0
              exact⟨⟨_,rfl⟩,_,za HS⟩
          . skip
            by_cases c5:mid<E
            . by_cases c6:E<b
              . go_wp2_with fail
                have h:=(za HI) mid E b c5 c6 hb (by omega) _ _ (za HS);refine h.mono ?_;clear h;rintro e w6⟨⟨u,rfl⟩,us6,h6⟩;go_wp2_with fail
                go_end0
                exact⟨⟨_,rfl⟩,_,h6⟩
              . go_wp2_with fail
                go_end0
                exact⟨⟨_,rfl⟩,_,za HS⟩
            . go_wp2_with fail
              go_end0
              exact⟨⟨_,rfl⟩,_,za HS⟩
        . skip
          by_cases c5:mid<E
          . by_cases c6:E<b
            . go_wp2_with fail
              have h:=(za HI) mid E b c5 c6 hb (by omega) _ _ (za HS);refine h.mono ?_;clear h;rintro e w6⟨⟨u,rfl⟩,us6,h6⟩;go_wp2_with fail
              go_end0
              exact⟨⟨_,rfl⟩,_,h6⟩
            . go_wp2_with fail
              go_end0
              exact⟨⟨_,rfl⟩,_,za HS⟩
          . go_wp2_with fail
            go_end0
            exact⟨⟨_,rfl⟩,_,za HS⟩
 . have hgt':¬(((a:Int)+b)/2<m):=by rw[za Q0];omega
   go_wp2_with fail;rw[za Q0];obtain⟨N,hN0,hN1⟩:∃N:Nat,N<=mid+m/\mid+m<=N:=⟨mid+m,by omega,by omega⟩
   obtain⟨P,hP0,hP1⟩:∃P:Nat,P+1<=N/\N<=P+1:=⟨N-1,by omega,by omega⟩
   rw[show(mid:Int)+m=(N:Int) by omega,show(N:Int)-1=(P:Int) by omega];clear hgt'
   go_loopw [20,21] (fun u v wr=>∃s r:Nat,a<=s/\s<=r/\r<=m/\u=.int .i64 s/\v=.int .i64 r/\∃us,Hid (SR w wr g cap n vs0 us))
    (fun u v _=>(intOf v).toNat-(intOf u).toNat)
   case atStart=>exact⟨a,m,by omega,by omega,by omega,rfl,rfl,_,HS0⟩
   case round=>
    clear HS0;obtain⟨s,r,hi1,hi2,hi3,rfl,rfl,us,HS⟩:=hrel;by_cases hlt:s<r
    . obtain⟨k,hk0,hk1,Q1⟩:∃k:Nat,s<=k/\k<r/\Hid (((s:Int)+r)/2=(k:Int)):=⟨(s+r)/2,by omega,by omega,zb (by omega)⟩
      obtain⟨pc,hpc0,hpc1⟩:∃pc:Nat,pc+k<=P/\P<=pc+k:=⟨P-k,by omega,by omega⟩
      obtain⟨xa,xn,xc,e1,d1,hx⟩:=(za HS).at pc (by omega);obtain⟨ya,yn,yc,e2,d2,hy⟩:=(za HS).at k (by omega);have q1:(k:Int)<n:=by omega
      have q2:(pc:Int)<n:=by omega
      have q3:IntKind.i64.wrap ((P:Int)-k)=(pc:Int):=by rw[qX]<;>omega
      go_wp2_with fail;rw[za Q1]
      go_quiet ((go_at_call 113;exact Calls.quiet_of_same (Xa xa ya xn yn xc yc _ hx hy)))
      have HS2:=zb ((za HS).drewN nq);generalize decide ((yn:Int)-xn<0)=d;clear e1 e2 d1 d2 HS;cases d with
      |false=>
       go_wp2_with fail;go_roundw
       case rel=>exact⟨k+1,r,by omega,by omega,by omega,by go_num,rfl,_,HS2⟩
       case measure=>simp[intOf];omega
      |true=>
       go_wp2_with fail;go_roundw
       case rel=>exact⟨s,k,by omega,by omega,by omega,rfl,rfl,_,HS2⟩
       case measure=>simp[intOf];omega
    . obtain rfl:r=s:=by omega
      obtain⟨E,hE0,hE1⟩:∃E:Nat,E+r<=N/\N<=E+r:=⟨N-r,by omega,by omega⟩
      have q4:IntKind.i64.wrap ((N:Int)-r)=(E:Int):=by rw[qX]<;>omega
      clear Q0;by_cases c1:r<m
      . by_cases c2:m<E
        . go_wp2_with fail
          have h:=XU g cap n r m E vs0 _ w _ (za HS) hn c1 c2 (by omega) (.func (.func 113) #[] #[]);refine h.mono ?_;clear h HS;rintro e w4⟨⟨u,rfl⟩,us4,h4⟩;have HS:=zb h4;clear h4;by_cases c3:a<r
          . by_cases c4:r<mid
            . go_wp2_with fail
              have h:=(za HI) a r mid c3 c4 (by omega) (by omega) _ _ (za HS);refine h.mono ?_;clear h HS;rintro e w5⟨⟨u,rfl⟩,us5,h5⟩;have HS:=zb h5;clear h5;by_cases c5:mid<E
              . by_cases c6:E<b
                . go_wp2_with fail
                  have h:=(za HI) mid E b c5 c6 hb (by omega) _ _ (za HS);refine h.mono ?_;clear h;rintro e w6⟨⟨u,rfl⟩,us6,h6⟩;go_wp2_with fail
                  go_end0
                  exact⟨⟨_,rfl⟩,_,h6⟩
                . go_wp2_with fail
                  go_end0
                  exact⟨⟨_,rfl⟩,_,za HS⟩
              . go_wp2_with fail
                go_end0
                exact⟨⟨_,rfl⟩,_,za HS⟩
            . skip
              by_cases c5:mid<E
              . by_cases c6:E<b
                . go_wp2_with fail
                  have h:=(za HI) mid E b c5 c6 hb (by omega) _ _ (za HS);refine h.mono ?_;clear h;rintro e w6⟨⟨u,rfl⟩,us6,h6⟩;go_wp2_with fail
                  go_end0
                  exact⟨⟨_,rfl⟩,_,h6⟩
                . go_wp2_with fail
                  go_end0
                  exact⟨⟨_,rfl⟩,_,za HS⟩
              . go_wp2_with fail
                go_end0
                exact⟨⟨_,rfl⟩,_,za HS⟩
          . skip
            by_cases c5:mid<E
            . by_cases c6:E<b
              . go_wp2_with fail
                have h:=(za HI) mid E b c5 c6 hb (by omega) _ _ (za HS);refine h.mono ?_;clear h;rintro e w6⟨⟨u,rfl⟩,us6,h6⟩;go_wp2_with fail
                go_end0
                exact⟨⟨_,rfl⟩,_,h6⟩
              . go_wp2_with fail
                go_end0
                exact⟨⟨_,rfl⟩,_,za HS⟩
            . go_wp2_with fail
              go_end0
              exact⟨⟨_,rfl⟩,_,za HS⟩
        . skip
          by_cases c3:a<r
          . by_cases c4:r<mid
            . go_wp2_with fail
              have h:=(za HI) a r mid c3 c4 (by omega) (by omega) _ _ (za HS);refine h.mono ?_;clear h HS;rintro e w5⟨⟨u,rfl⟩,us5,h5⟩;have HS:=zb h5;clear h5;by_cases c5:mid<E
              . by_cases c6:E<b
                . go_wp2_with fail
                  have h:=(za HI) mid E b c5 c6 hb (by omega) _ _ (za HS);refine h.mono ?_;clear h;rintro e w6⟨⟨u,rfl⟩,us6,h6⟩;go_wp2_with fail
                  go_end0
                  exact⟨⟨_,rfl⟩,_,h6⟩
                . go_wp2_with fail
                  go_end0
                  exact⟨⟨_,rfl⟩,_,za HS⟩
              . go_wp2_with fail
                go_end0
                exact⟨⟨_,rfl⟩,_,za HS⟩
            . skip
              by_cases c5:mid<E
              . by_cases c6:E<b
                . go_wp2_with fail
                  have h:=(za HI) mid E b c5 c6 hb (by omega) _ _ (za HS);refine h.mono ?_;clear h;rintro e w6⟨⟨u,rfl⟩,us6,h6⟩;go_wp2_with fail
                  go_end0
                  exact⟨⟨_,rfl⟩,_,h6⟩
                . go_wp2_with fail
                  go_end0
                  exact⟨⟨_,rfl⟩,_,za HS⟩
              . go_wp2_with fail
                go_end0
                exact⟨⟨_,rfl⟩,_,za HS⟩
          . skip
            by_cases c5:mid<E
            . by_cases c6:E<b
              . go_wp2_with fail
                have h:=(za HI) mid E b c5 c6 hb (by omega) _ _ (za HS);refine h.mono ?_;clear h;rintro e w6⟨⟨u,rfl⟩,us6,h6⟩;go_wp2_with fail
                go_end0
                exact⟨⟨_,rfl⟩,_,h6⟩
              . go_wp2_with fail
                go_end0
                exact⟨⟨_,rfl⟩,_,za HS⟩
            . go_wp2_with fail
              go_end0
              exact⟨⟨_,rfl⟩,_,za HS⟩
      . skip
        by_cases c3:a<r
        . by_cases c4:r<mid
          . go_wp2_with fail
            have h:=(za HI) a r mid c3 c4 (by omega) (by omega) _ _ (za HS);refine h.mono ?_;clear h HS;rintro e w5⟨⟨u,rfl⟩,us5,h5⟩;have HS:=zb h5;clear h5;by_cases c5:mid<E
            . by_cases c6:E<b
              . go_wp2_with fail
                have h:=(za HI) mid E b c5 c6 hb (by omega) _ _ (za HS);refine h.mono ?_;clear h;rintro e w6⟨⟨u,rfl⟩,us6,h6⟩;go_wp2_with fail
                go_end0
                exact⟨⟨_,rfl⟩,_,h6⟩
              . go_wp2_with fail
                go_end0
                exact⟨⟨_,rfl⟩,_,za HS⟩
            . go_wp2_with fail
              go_end0
              exact⟨⟨_,rfl⟩,_,za HS⟩
          . skip
            by_cases c5:mid<E
            . by_cases c6:E<b
              . go_wp2_with fail
                have h:=(za HI) mid E b c5 c6 hb (by omega) _ _ (za HS);refine h.mono ?_;clear h;rintro e w6⟨⟨u,rfl⟩,us6,h6⟩;go_wp2_with fail
                go_end0
                exact⟨⟨_,rfl⟩,_,h6⟩
              . go_wp2_with fail
                go_end0
                exact⟨⟨_,rfl⟩,_,za HS⟩
            . go_wp2_with fail
              go_end0
              exact⟨⟨_,rfl⟩,_,za HS⟩
        . skip
          by_cases c5:mid<E
          . by_cases c6:E<b
            . go_wp2_with fail
              have h:=(za HI) mid E b c5 c6 hb (by omega) _ _ (za HS);refine h.mono ?_;clear h;rintro e w6⟨⟨u,rfl⟩,us6,h6⟩;go_wp2_with fail
              go_end0
              exact⟨⟨_,rfl⟩,_,h6⟩
            . go_wp2_with fail
              go_end0
              exact⟨⟨_,rfl⟩,_,za HS⟩
          . go_wp2_with fail
            go_end0
            exact⟨⟨_,rfl⟩,_,za HS⟩
theorem Qd(w:World)(g cap n:Nat)(vs0:List Value)(hn:n<=1073741824):∀d a m b:Nat,b-a<=d->a<m->m<b->b<=n->zbJ w g cap n vs0 a m b
 |0,a,m,b,h,h1,h2,_=>by omega
 |d+1,a,m,b,h,h1,h2,h3=>by
  intro vs W hS;by_cases e1:m=a+1
  . subst e1
    exact zae g cap n a b vs0 vs w W hS hn h2 h3
  . by_cases e2:b=m+1
    . subst e2
      exact zaf g cap n a m vs0 vs w W hS hn (by omega) h3
    . exact zag g cap n a m b vs0 vs w W hS hn (by omega) (by omega) h3 (fun a' m' b' k1 k2 k3 k4=>Qd w g cap n vs0 hn d a' m' b' (by omega) k1 k2 k3)
theorem ze6(g cap n:Nat)(vs0 vs:List Value)(w W:World)(h:SR w W g cap n vs0 vs)(hn:n<=1073741824):
  Calls Tryz.prog 138 #[.slice (some ⟨g,0,none⟩) n cap,.int .i64 n,.func (.func 113) #[] #[]] W fun e w'=>(∃u,e=.returned u)/\∃vs',SR w w' g cap n vs0 vs':=by
 have HS0:=zb h;clear h;go_enter Tryz.func138,Tryz.ntmps138;go_wp2_with fail
 go_loopw [7,8] (fun u v wr=>∃a:Nat,a<=n/\u=.int .i64 a/\v=.int .i64 (a+20)/\∃us,Hid (SR w wr g cap n vs0 us))
  (fun u _ _=>n+20-(intOf u).toNat)
 case atStart=>exact⟨0,by omega,rfl,rfl,_,HS0⟩
 case round=>
  clear HS0;obtain⟨a,ha,rfl,rfl,us,HS⟩:=hrel;by_cases hle:a+20<=n
  . go_wp2_with fail
    have h:=Yv g cap n a (a+20) vs0 us w wr (za HS) hn hle ha;rw[show((a+20:Nat):Int)=(a:Int)+20 by omega]at h;refine h.mono ?_;clear h HS;rintro e w2⟨⟨u,rfl⟩,us2,h2⟩;have HS:=zb h2;clear h2;go_wp2_with fail;go_roundw
    case rel=>exact⟨a+20,by omega,by go_num,by go_num,_,HS⟩
    case measure=>simp[intOf];omega
  . go_wp2_with fail
    have h:=Yv g cap n a n vs0 us w wr (za HS) hn (ud _) ha;refine h.mono ?_;clear h HS;rintro e w2⟨⟨u,rfl⟩,us2,h2⟩;have HS:=zb h2;clear h2 hle;go_wp2_with fail
    go_loopw [6] (fun u wb=>∃bs:Nat,1<=bs/\bs<=2147483700/\u=.int .i64 bs/\∃us,Hid (SR w wb g cap n vs0 us))
     (fun u _=>n-(intOf u).toNat)
    case atStart=>exact⟨20,by omega,by omega,rfl,_,HS⟩
    case round=>
     clear HS;obtain⟨bs,hb1,hb2,rfl,us,HS⟩:=hrel;by_cases hlt:bs<n
     . obtain⟨d,hd1,hd2⟩:∃d:Nat,d<=2*bs/\2*bs<=d:=⟨2*bs,by omega,by omega⟩
       go_wp2_with fail;rw[show(2:Int)*bs=(d:Int) by omega]
       go_loopw [7,8] (fun u v wc=>∃a:Nat,a<=n/\u=.int .i64 a/\v=.int .i64 (a+d)/\∃us,Hid (SR w wc g cap n vs0 us))
        (fun u _ _=>n+20-(intOf u).toNat)
       case atStart=>exact⟨0,by omega,rfl,by simp,_,HS⟩
       case round=>
        clear HS;obtain⟨a,ha,rfl,rfl,us,HS⟩:=hrel;by_cases hle:a+d<=n
        . go_wp2_with fail
          have h:=Qd w g cap n vs0 hn n a (a+bs) (a+d) (by omega) (by omega) (by omega) hle us _ (za HS);rw[show((a+bs:Nat):Int)=(a:Int)+bs by omega,show((a+d:Nat):Int)=(a:Int)+d by omega]at h;refine h.mono ?_;clear h HS;rintro e w3⟨⟨u,rfl⟩,us3,h3⟩;have HS:=zb h3;clear h3;go_wp2_with fail;go_roundw
          case rel=>exact⟨a+d,by omega,by go_num,by go_num,_,HS⟩
          case measure=>simp[intOf];omega
        . by_cases hm:a+bs<n
          . go_wp2_with fail
            have h:=Qd w g cap n vs0 hn n a (a+bs) n (by omega) (by omega) hm (ud _) us _ (za HS);rw[show((a+bs:Nat):Int)=(a:Int)+bs by omega]at h;refine h.mono ?_;clear h HS;rintro e w3⟨⟨u,rfl⟩,us3,h3⟩;have HS:=zb h3;clear h3;go_wp2_with fail;go_roundw
            case rel=>exact⟨d,by omega,by omega,by go_num,_,HS⟩
            case measure=>simp[intOf];omega
          . go_wp2_with fail
            go_roundw
            case rel=>exact⟨d,by omega,by omega,by go_num,_,HS⟩
            case measure=>simp[intOf];omega
     . go_wp2_with fail
       go_end0
       exact⟨⟨_,rfl⟩,_,za HS⟩
theorem KE(g cap n:Nat)(vs0 vs:List Value)(w W:World)(h:SR w W g cap n vs0 vs)(hn:n<=1073741824):
  Calls Tryz.prog 112 #[.slice (some ⟨g,0,none⟩) n cap,.func (.func 113) #[] #[]] W fun e w'=>(∃u,e=.returned u)/\∃vs',SR w w' g cap n vs0 vs':=by
 have HS0:=zb h;clear h;go_enter Tryz.func112,Tryz.ntmps112;go_wp2_with fail;have h:=ze6 g cap n vs0 vs w W (za HS0) hn;refine h.mono ?_;clear h HS0;rintro e w2⟨⟨u,rfl⟩,us2,h2⟩;go_wp2_with fail
 go_end0
 exact⟨⟨_,rfl⟩,_,h2⟩
end Go.Proofs.YtpbnmhnbkfnaeaaGreatDoor
namespace Go.Proofs.YtpbnmhnbkfnaeaaGreatDoor
open Go.RowKit Go.Shelf Nt
structure Cnt(W:World)(b:Nat)(m:Nat)(D:DataW Unit)(f:Int->Int):Prop where
 own:W.ownsMap Tryz.prog 3 (plainElem Tryz.prog 3) b m D
 map:Maps.IsMap D
 at':∀x:Int,D.atKey (.int .i64 x) (I64 0)=I64 (f x)
theorem zaU:Maps.Keyed Tryz.prog 3:=Maps.int_keyed uW
theorem Cnt.made(W:World):Cnt (W.alloc (.map #[] 0)) W.heap.size 0 (.map []) (fun _=>0):=⟨World.ownsMap_made _ _ _ _,Maps.isMap_empty,fun _=>rfl⟩
theorem Cnt.keeps{W W':World}{b m:Nat}{D:DataW Unit}{f:Int->Int}(h:Cnt W b m D f)(hk:KeepsOthers W W'):Cnt W' b m D f:=by
 obtain⟨⟨es,clock,hb,r⟩,h2,h3⟩:=h;exact⟨⟨es,clock,hk.same b _ hb rfl,r⟩,h2,h3⟩
theorem Cnt.isMap{W:World}{b m:Nat}{D:DataW Unit}{f:Int->Int}(h:Cnt W b m D f):∃o,W.heap[b]? =some o/\o.isCells=false:=by
 obtain⟨⟨es,clock,hb,r⟩,_⟩:=h;exact⟨_,hb,rfl⟩
theorem Cnt.look{W:World}{b m:Nat}{D:DataW Unit}{f:Int->Int}(h:Cnt W b m D f)(x:Int)(h0: -9223372036854775808<=x)(h1:x<=9223372036854775807):
  (Instr.lookup 145 (.map (some b)) (.int .i64 x) false).run Tryz.prog W=.ok (.int .i64 (f x)) W:=by
 obtain⟨c,hr,hc,_⟩:=World.ownsMap.lookup_int h.own zaU Tryz.underlying145 uW (QG W) (Maps.keyOf_int_mk uW (zao x h0 h1));have h3:I64 c=I64 (f x):=hc.symm.trans (h.at' x);simp only[DataW.lit.injEq,Lit.int.injEq,WJ]at h3;rw[hr,h3]
theorem Cnt.store{W:World}{b m:Nat}{D:DataW Unit}{f:Int->Int}(h:Cnt W b m D f)(hm:m<maxLen)(x y:Int)(h0: -9223372036854775808<=x)(h1:x<=9223372036854775807)(h2: -9223372036854775808<=y)(h3:y<=9223372036854775807):
  ∃W' D',(Instr.mapUpdate 145 (.map (some b)) (.int .i64 x) (.int .i64 y)).run Tryz.prog W=.ok () W'/\Cnt W' b (m+1) D' (fun z=>if z=x then y else f z)/\W.grownBy W' (some b):=by
 obtain⟨W',hr,ho,hg⟩:=World.ownsMap.update h.own zaU Tryz.underlying145 hm (Maps.keyOf_int_mk uW (zao x h0 h1)) (plainElem_int (H:=Unit) uW (zao y h2 h3));refine⟨W',_,hr,⟨ho,h.map.put _ _,fun z=>?_⟩,hg⟩;have hk:WideAt.IsKeyLit (.int .i64 x):=zaU.key (Maps.keyOf_int_mk uW (zao x h0 h1));by_cases hz:z=x
 . subst hz;rw[uj rfl];exact Maps.atKey_put_same h.map hk _ _
 . rw[ul hz];rw[Maps.atKey_put_other (fun e=>hz (by injection e))];exact h.at' z
structure SpS(w W:World)(N B g:Nat)(nv ov sv0 sv gv pv:Value)(of sz gone:List Int)(ps:List (List Int))(vs:List Value):Prop where
 box:AtC3 W g nv ov sv 96
 ofr:W.ownsRow N 3 1 ov of.length (iv of)
 szr:W.ownsRow N 3 1 sv sz.length (iv sz)
 gor:W.ownsRow w.heap.size 3 1 gv gone.length (iv gone)
 par:RoR W B pv ps vs
 os:ApartV ov sv
 olt:∀b,ov.ownBlock=some b->b<B
 plt:∀x∈vs,∀b,x.ownBlock=some b->B<=b/\b<w.heap.size
 sok:∀b,sv.ownBlock=some b->b<B\/w.heap.size<=b
 s0:sv.ownBlock=sv0.ownBlock\/∀b,sv.ownBlock=some b->w.heap.size<=b
 sg:ApartV sv gv
 bw:B<=w.heap.size
 kept:Kept (fun b=>b=g\/ov.ownBlock=some b\/sv0.ownBlock=some b\/pv.ownBlock=some b) w W
section
variable {w W W':World} {N B g:Nat} {nv ov sv0 sv gv pv:Value} {of sz gone:List Int} {ps:List (List Int)} {vs:List Value}
theorem Kept.new{S S':Nat->Prop}{w W W':World}(h:Kept S w W)(k:Kept S' W W')(hs:∀b,S' b->b<w.heap.size->S b):Kept S w W':=
 ⟨k.os.trans h.os,k.tape.trans h.tape,k.output.trans h.output,uC h.size k.size,fun b hb hn=>(k.block b (uJ hb h.size) (fun e=>hn (hs b e hb))).trans (h.block b hb hn)⟩
theorem AtC3.kept'{S:Nat->Prop}{w w':World}{b:Nat}{x y z:Value}{T:TypeId}(h:AtC3 w b x y z T)(k:Kept S w w')(hb:¬S b):AtC3 w' b x y z T:=(k.block b h.lt hb).trans h
theorem SpS.up(h:SpS w W N B g nv ov sv0 sv gv pv of sz gone ps vs)(k:Below W.heap.size W W'):SpS w W' N B g nv ov sv0 sv gv pv of sz gone ps vs:=
 {h with box:=h.box.below k,ofr:=zu h.ofr k,szr:=zu h.szr k,gor:=zu h.gor k,par:=h.par.up k,kept:=h.kept.trans (Kept.of_below k)}
theorem SpS.map(h:SpS w W N B g nv ov sv0 sv gv pv of sz gone ps vs){b:Nat}(k:W.grownBy W' (some b))(hb:∃o,W.heap[b]? =some o/\o.isCells=false)(hbw:w.heap.size<=b):SpS w W' N B g nv ov sv0 sv gv pv of sz gone ps vs:=
 have hr:∀c,some b=some c->∃o,W.heap[c]? =some o/\o.isCells=false:=fun c e=>by cases e;exact hb
 {h with
  box:=by
   refine AtC3.grown h.box k (fun e=>?_);cases e;obtain⟨o,ho,hc⟩:=hb;rw[show W.heap[g]? =_ from h.box]at ho;cases ho;cases hc
  ofr:=kf h.ofr k hr,szr:=kf h.szr k hr,gor:=kf h.gor k hr,par:=h.par.grownC k hr,kept:=h.kept.new (Kept.of_grown (S:=fun c=>c=b) k (fun i e=>by cases e;rfl)) (fun c e hc=>by omega)}
theorem SpS.pv_ne(h:SpS w W N B g nv ov sv0 sv gv pv of sz gone ps vs){v:Value}{base n:Nat}{xs:List Value}(ho:W.ownsRow base 3 1 v n xs){b:Nat}(hb:pv.ownBlock=some b):v.ownBlock≠some b:=by
 rcases Z5 ho h.par.row (by decide)with e|e
 . rw[e];simp
 . intro e';exact e (e'.trans hb.symm)
theorem SpS.setOf{cap i o:Nat}{x:Int}(h:SpS w W N B g nv (.slice (some ⟨o,0,none⟩) of.length cap) sv0 sv gv pv of sz gone ps vs):
  SpS w (W.setCell ⟨o,i,none⟩ (.int .i64 x)) N B g nv (.slice (some ⟨o,0,none⟩) of.length cap) sv0 sv gv pv (of.set i x) sz gone ps vs:=by
 have k:Kept (· =o) W (W.setCell ⟨o,i,none⟩ (.int .i64 x)):=Kept.set (S:=(· =o)) (a:=⟨o,i,none⟩) rfl _;have hoB:=h.olt o rfl;refine {h with box:=?_,ofr:=?_,szr:=?_,gor:=?_,par:=?_,kept:=?_}
 . exact h.box.kept' k (fun e=>vv h.box h.ofr (by decide) (by rw[e];rfl))
 . have:=(h.ofr.stored i (.int .i64 x)).1
   rw[zaN]at this;simpa using this
 . exact zS h.szr k (fun b hb e=>h.os o rfl (by rw[<-e];exact hb))
 . exact zS h.gor k (fun b hb e=>by have:=(zX h.gor hb).1;have:=h.bw;omega)
 . exact h.par.keptAll k (fun b hb e=>h.pv_ne h.ofr hb (by rw[e];rfl)) (fun y hy b hb e=>by have:=(h.plt y hy b hb).1;omega)
 . exact h.kept.new k (fun b e _=>.inr (.inl (by rw[e];rfl)))
theorem SpS.setSz{cap i o:Nat}{x:Int}(h:SpS w W N B g nv ov sv0 (.slice (some ⟨o,0,none⟩) sz.length cap) gv pv of sz gone ps vs):
  SpS w (W.setCell ⟨o,i,none⟩ (.int .i64 x)) N B g nv ov sv0 (.slice (some ⟨o,0,none⟩) sz.length cap) gv pv of (sz.set i x) gone ps vs:=by
 have k:Kept (· =o) W (W.setCell ⟨o,i,none⟩ (.int .i64 x)):=Kept.set (S:=(· =o)) (a:=⟨o,i,none⟩) rfl _;have hso:=h.sok o rfl;refine {h with box:=?_,ofr:=?_,szr:=?_,gor:=?_,par:=?_,kept:=?_}
 . exact h.box.kept' k (fun e=>vv h.box h.szr (by decide) (by rw[e];rfl))
 . exact zS h.ofr k (fun b hb e=>h.os b hb (by rw[e];rfl))
 . have:=(h.szr.stored i (.int .i64 x)).1
   rw[zaN]at this;simpa using this
 . exact zS h.gor k (fun b hb e=>h.sg o rfl (by rw[<-e];exact hb))
 . exact h.par.keptAll k (fun b hb e=>h.pv_ne h.szr hb (by rw[e];rfl)) (fun y hy b hb e=>by have:=h.plt y hy b hb;omega)
 . refine h.kept.new k (fun b e hb=>?_)
   rcases h.s0 with e'|e'
   . exact .inr (.inr (.inl (by rw[<-e',e];rfl)))
   . have:=e' o rfl;omega
theorem SpS.appSz{w1:World}{ob:Obj}{sv':Value}{z:Int}(h:SpS w W N B g nv ov sv0 sv gv pv of sz gone ps vs)(ho:w1.ownsRow N 3 1 sv' (sz.length+1) (iv sz++[.int .i64 z]))(hg:(W.alloc ob).grownBy w1 sv.ownBlock)(hl:zfq W sv sv'):
  SpS w (w1.setCell ⟨g,2,none⟩ sv') N B g nv ov sv0 sv' gv pv of (sz++[z]) gone ps vs:=by
 have k0:Kept (fun b=>sv.ownBlock=some b) W w1:=(Kept.of_below ((ue _ _).alloc (ud _) ob)).trans (Kept.of_grown hg (fun _ e=>e));have k1:Kept (· =g) w1 (w1.setCell ⟨g,2,none⟩ sv'):=Kept.set (S:=(· =g)) (a:=⟨g,2,none⟩) rfl _;have hbx:=h.box.kept' k0 (vv h.box h.szr (by decide));have hW:=h.kept.size;have keep:∀ {base n:Nat}{v:Value}{xs:List Value},W.ownsRow base 3 1 v n xs->ApartV v sv->(w1.setCell ⟨g,2,none⟩ sv').ownsRow base 3 1 v n xs:=fun hv ha=>by
  have h1:=zS hv k0 (fun b hb e=>ha b hb e);exact zS h1 k1 (fun b hb e=>vv hbx h1 (by decide) (by rw[<-e];exact hb))
 have hnew:∀b,sv'.ownBlock=some b->sv.ownBlock=some b\/W.heap.size<=b:=fun b hb=>by
  rcases hl with e|⟨c,e,hc⟩
  . exact .inl (by rw[<-e];exact hb)
  . rw[e]at hb;cases hb;exact .inr hc
 refine {h with box:=?_,ofr:=?_,szr:=?_,gor:=?_,par:=?_,os:=?_,sok:=?_,s0:=?_,sg:=?_,kept:=?_}
 . exact AtC3.st2 hbx _
 . exact keep h.ofr h.os
 . have:=Kt (i:=2) (u:=sv') ho (by exact vv hbx ho (by decide))
   simpa[iv]using this
 . exact keep h.gor h.sg.symm
 . have h1:=h.par.keptAll k0 (fun b hb e=>h.pv_ne h.szr hb e) (fun y hy b hb e=>by have:=h.plt y hy b hb;have:=h.sok b e;omega)
   refine h1.keptAll k1 (fun b hb e=>?_) (fun y hy b hb e=>?_)
   . exact vv hbx h1.row (by decide) (by rw[<-e];exact hb)
   . obtain⟨j,hj⟩:=uT hy
     have hjl:=(ui.1 hj).1;exact vv hbx (h1.each j y _ hj (uf (by rw[<-h1.len];exact hjl))) (by decide) (by rw[<-e];exact hb)
 . exact ApartV.lies h.os h.ofr hl
 . intro b hb
   rcases hnew b hb with e|e
   . exact h.sok b e
   . exact .inr (by omega)
 . rcases hl with e|⟨c,e,hc⟩
   . rw[e];exact h.s0
   . exact .inr (fun b hb=>by rw[e]at hb;cases hb;omega)
 . exact(ApartV.lies h.sg.symm h.gor hl).symm
 . refine(h.kept.new k0 (fun b e hb=>?_)).new k1 (fun b e _=>.inl e)
   rcases h.s0 with e'|e'
   . exact .inr (.inr (.inl (by rw[<-e'];exact e)))
   . have:=e' b e;omega
theorem SpS.appGone{w1:World}{gv':Value}{p:List Int}(h:SpS w W N B g nv ov sv0 sv gv pv of sz gone ps vs)(ho:w1.ownsRow w.heap.size 3 1 gv' (gone.length+p.length) (iv gone++iv p))(hg:W.grownBy w1 gv.ownBlock)(hl:zfq W gv gv'):
  SpS w w1 N B g nv ov sv0 sv gv' pv of sz (gone++p) ps vs:=by
 have k0:Kept (fun b=>gv.ownBlock=some b) W w1:=Kept.of_grown hg (fun _ e=>e);have hlo:=fun b e=>(zX h.gor (b:=b) e).1
 have hbw:=h.bw;refine {h with box:=?_,ofr:=?_,szr:=?_,gor:=?_,par:=?_,sg:=?_,kept:=?_}
 . exact h.box.kept' k0 (vv h.box h.gor (by decide))
 . exact zS h.ofr k0 (fun b hb e=>by have:=h.olt b hb;have:=hlo b e;omega)
 . exact zS h.szr k0 (fun b hb e=>h.sg b hb e)
 . simpa[iv]using ho
 . exact h.par.keptAll k0 (fun b hb e=>h.pv_ne h.gor hb e) (fun y hy b hb e=>by have:=h.plt y hy b hb;have:=hlo b e;omega)
 . exact ApartV.lies h.sg h.szr hl
 . exact h.kept.new k0 (fun b e hb=>by have:=hlo b e;omega)
end
end Go.Proofs.YtpbnmhnbkfnaeaaGreatDoor
namespace Go.Proofs.YtpbnmhnbkfnaeaaGreatDoor
open Go.RowKit Go.Shelf Nt
theorem zdh{vs' vs:List Value}(hp:vs'.Perm vs):∀ps:List (List Int),ps.length=vs.length->∃ps':List (List Int),ps'.Perm ps/\ps'.length=vs'.length/\∀(i:Nat)(x:Value)(p:List Int),vs'[i]? =some x->ps'[i]? =some p->∃j:Nat,vs[j]? =some x/\ps[j]? =some p:=by
 induction hp with
 |nil=>intro ps h;exact⟨[],by rw[ur h],rfl,fun i x p e=>by simp at e⟩
 |cons x hp ih=>
  intro ps h;cases ps with
  |nil=>simp at h
  |cons q r=>
   obtain⟨r',a,b,c⟩:=ih r (by simpa using h);refine⟨q::r',a.cons q,by simp[b],fun i y p e1 e2=>?_⟩;cases i with
   |zero=>exact⟨0,e1,e2⟩
   |succ i=>obtain⟨j,j1,j2⟩:=c i y p (by simpa using e1) (by simpa using e2);exact⟨j+1,by simpa using j1,by simpa using j2⟩
 |swap x y l=>
  intro ps h
  match ps,h with
  |q::r::t,h=>
   refine⟨r::q::t,List.Perm.swap q r t,by simpa using h,fun i z p e1 e2=>?_⟩
   match i,e1,e2 with
   |0,e1,e2=>exact⟨1,e1,e2⟩
   |1,e1,e2=>exact⟨0,e1,e2⟩
   |i+2,e1,e2=>exact⟨i+2,by simpa using e1,by simpa using e2⟩
 |trans h1 h2 ih1 ih2=>
  intro ps h;obtain⟨p2,a2,b2,c2⟩:=ih2 ps h;obtain⟨p1,a1,b1,c1⟩:=ih1 p2 b2;refine⟨p1,a1.trans a2,b1,fun i x p e1 e2=>?_⟩;obtain⟨j,j1,j2⟩:=c1 i x p e1 e2;exact c2 j x p j1 j2
theorem RoR.pairwise{W:World}{base:Nat}{v:Value}{ps:List (List Int)}{vs:List Value}(h:RoR W base v ps vs):vs.Pairwise ApartV:=by
 rw[Wx];intro i j hi hj hij;exact h.apart i j _ _ (by omega) (uf hi) (uf hj)
theorem RoR.toSR{w:World}{B pg cap:Nat}{ps:List (List Int)}{vs:List Value}(h:RoR w B (.slice (some ⟨pg,0,none⟩) ps.length cap) ps vs)(hl:∀p∈ps,p.length<=1048576):SR w w pg cap ps.length vs vs:=by
 refine⟨?_,List.Perm.refl _,fun x hx=>?_,Kept.refl _ _⟩
 . refine⟨h.row.1,?_⟩
   rcases h.row.2 with⟨e,_⟩|⟨g',c',cur,e,hb,r⟩
   . cases e
   . cases e;exact .inr ⟨pg,cap,cur,rfl,ud _,r⟩
 . obtain⟨j,hj⟩:=uT hx
   have hjl:=(ui.1 hj).1;have e2:ps[j]? =some (ps[j]'(by rw[<-h.len];exact hjl)):=uf _;obtain⟨a,c,rfl⟩:=zq (h.each j x _ hj e2);exact⟨a,_,c,rfl,by have:=hl _ (un e2);omega⟩
theorem RoR.sorted{w W:World}{B pg cap:Nat}{ps:List (List Int)}{vs vs':List Value}(h:RoR w B (.slice (some ⟨pg,0,none⟩) ps.length cap) ps vs)(hs:SR w W pg cap ps.length vs vs'):
  ∃ps':List (List Int),ps'.Perm ps/\RoR W B (.slice (some ⟨pg,0,none⟩) ps.length cap) ps' vs':=by
 obtain⟨ps',a,b,c⟩:=zdh hs.perm ps h.len.symm;have hB:B<=pg:=(zX h.row rfl).1;refine⟨ps',a,b.symm,?_,fun i x p e1 e2=>?_,fun i j x y hij e1 e2=>?_⟩
 . rw[a.length_eq];exact zV hs.row hB
 . obtain⟨j,j1,j2⟩:=c i x p e1 e2
   exact zS (h.each j x p j1 j2) hs.kept (fun b hb e=>h.outer (un j1) hb (by rw[e];rfl))
 . have hp:=(hs.perm.pairwise_iff (fun{a b}(k:ApartV a b)=>k.symm)).2 h.pairwise
   rw[Wx]at hp;obtain⟨hi,rfl⟩:=ui.1 e1;obtain⟨hj,rfl⟩:=ui.1 e2;rcases Nat.lt_or_gt_of_ne hij with h1|h1
   . exact hp i j hi hj h1
   . exact(hp j i hj hi h1).symm
theorem QA(of:List Int)(p:List Int)(ps:List (List Int))(x:Int):qE of (p::ps) x=(if zD of (p.headD 0)=x then p.length else 0)+qE of ps x:=by
 unfold qE;rw[List.filter_cons];by_cases h:zD of (p.headD 0)=x
 . rw[uj (by simpa using h),uj h];simp
 . rw[ul (by simpa using h),ul h];simp
theorem zbl(of:List Int)(ps qs:List (List Int))(x:Int):qE of (ps++qs) x=qE of ps x+qE of qs x:=by
 unfold qE;simp
theorem Parts.take{n:Nat}{of:List Int}{ps:List (List Int)}(h:Parts n of ps)(k:Nat):Parts n of (ps.take k) where
 nd:=by
  have h1:=h.nd;rw[<-WV k ps,UX,U2]at h1;exact h1.1
 rng:=fun p hp=>h.rng p (UV hp)
 ne:=fun p hp=>h.ne p (UV hp)
 one:=fun p hp=>h.one p (UV hp)
theorem zhd{n:Nat}{of:List Int}{ps:List (List Int)}(hl:of.length=n)(h:Parts n of ps)(k:Nat)(x:Int):qE of (ps.take k) x<=n:=by
 have:=(Ky hl (h.take k) x).1;have h2:=List.count_le_length (a:=x) (l:=of);omega
theorem VA{n:Nat}{of:List Int}{ps:List (List Int)}(h:Parts n of ps){p:List Int}(hp:p∈ps):p.length<=n:=by
 have h1:p.Nodup:=by
  obtain⟨a,b,rfl⟩:=List.append_of_mem hp;have:=h.nd;rw[UX,U2]at this;have h2:=this.2.1;rw[U3,U2]at h2;exact h2.1
 have h3:=jk h1 (m:=(List.range n).map fun(i:Nat)=>(i:Int)) (fun x hx=>by
  have:=h.rng p hp x hx;exact UB.2 ⟨x.toNat,by simp;omega,by omega⟩)
 simpa using h3
theorem Jk{p:List Int}{j:Nat}{x:Int}(h:p[j]? =some x):(iv p)[j]? =some (.int .i64 x):=by simp[iv,h]
end Go.Proofs.YtpbnmhnbkfnaeaaGreatDoor
