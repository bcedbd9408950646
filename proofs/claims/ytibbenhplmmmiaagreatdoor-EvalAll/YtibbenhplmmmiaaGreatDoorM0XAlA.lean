/-
  EvalAll for all nodes, scopes, rows and names: which column a name is, what an expression comes to, and whether it holds: as the document has it.
  The contract of the document's Eval, whole.
  EvalAll's walk.
  EvalAll: the row's frame.
-/
import Derived.Test.YtibbenhplmmmiaaGreatDoorXREval
import Derived.Test.YtibbenhplmmmiaaGreatDoorMHXScope
import Derived.Test.YtibbenhplmmmiaaGreatDoorMyXROp
import Derived.Test.YtibbenhplmmmiaaGreatDoorMzXAlB
import Derived.Test.YtibbenhplmmmiaaGreatDoorQR8
import Derived.Test.YtibbenhplmmmiaaGreatDoorMXQRF8
import Derived.Test.YtibbenhplmmmiaaGreatDoorMDQFun2
import Derived.Test.YtibbenhplmmmiaaGreatDoorMvVOrd1
import Derived.Test.YtibbenhplmmmiaaGreatDoorMFXApp
import Derived.ChangeMaps5
import Derived.SizedLaws
import Derived.Carry
set_option maxHeartbeats 8000000
set_option maxRecDepth 100000
namespace Go.Proofs.YtibbenhplmmmiaaGreatDoor
open Go.RowKit Go.Shelf
attribute [local go_sem] z0e z0b z0c z0f z0m z0k z0h z0d z0g
theorem rev_bad1 (lo ta na ro:Option Addr) (lc tc nc rc n p q m:Nat) (w:World)
  (RI:z0n 64 #[.slice lo n lc] w (.bool false)) :
  Calls Tryz.prog 25 #[.slice lo n lc,scv ta na p q tc nc,.slice ro m rc] w fun e w'=>e=.returned (rs (nul,1))∧Below w.heap.size w w':=by
 have h1:=Cbox.new w #[.slice ta p tc,.slice na q nc] 47
 have h2:=Box.new (w.alloc (.cells #[.slice ta p tc,.slice na q nc] 47)) 0 0 0 []
 have B00:Below w.heap.size w ((w.alloc (.cells #[.slice ta p tc,.slice na q nc] 47)).alloc (.cells #[.int .i64 0,.int .i64 0,.int .i64 0,.string ⟨#[]⟩] 23)):=((Below.refl _ w).alloc (Nat.le_refl _) _).alloc (by simp) _
 simp only [World.size_alloc] at h2
 have h1':=h1.later ((Below.refl _ _).alloc (Nat.le_refl _) (.cells #[.int .i64 0,.int .i64 0,.int .i64 0,.string ⟨#[]⟩] 23))
 generalize hw0:((w.alloc (.cells #[.slice ta p tc,.slice na q nc] 47)).alloc (.cells #[.int .i64 0,.int .i64 0,.int .i64 0,.string ⟨#[]⟩] 23))=w0 at h1' h2 B00
 clear h1
 have HX:Hid (Box w0 (w.heap.size+1) nul):=h2
 have HS:Hid (Cbox w0 w.heap.size #[.slice ta p tc,.slice na q nc] 47):=h1'
 clear h1' h2
 go_enter Tryz.func25,Tryz.ntmps25
 go_upto_region 1 with fail
 try rw [hw0]
 clear hw0
 have R1:=RI w0 B00
 go_wp2_with fail
 refine R1.mono ?_
 rintro e wa ⟨rfl,ba⟩
 have Ba:=z0a B00 ba
 have HSa:Hid (Cbox wa w.heap.size #[.slice ta p tc,.slice na q nc] 47):=HS.out.later ba
 have c0:=HSa.out.at 0
 have c1:=HSa.out.at 1
 have cl:=HSa.out.lt
 have bra:=HX.out.later ba
 clear R1 RI
 have br:=bra
 have lt1:=br.lt
 obtain ⟨r0,r1,r2,r3⟩:=br.at4
 dsimp only [nul] at r0 r1 r2 r3
 simp only [Nat.zero_add] at r1 r2 r3
 have f0:=br.free 0
 have f1:=br.free 1
 have f2:=br.free 2
 have f3:=br.free 3
 go_wp2
 refine bodyPost_ret_by (v:=.tuple #[va 0 0 0 ⟨#[]⟩,.int .i64 1]) ?_ rfl ⟨rfl,z1h Ba (by omega) _ _ _ _⟩
 simp [results,Tryz.results25,go_sem,r0,r1,r2,r3]
theorem rev_bad2 (lo ta na ro:Option Addr) (lc tc nc rc n p q m:Nat) (w:World) (h:¬ p=m)
  (RI:z0n 64 #[.slice lo n lc] w (.bool true)) :
  Calls Tryz.prog 25 #[.slice lo n lc,scv ta na p q tc nc,.slice ro m rc] w fun e w'=>e=.returned (rs (nul,1))∧Below w.heap.size w w':=by
 have h1:=Cbox.new w #[.slice ta p tc,.slice na q nc] 47
 have h2:=Box.new (w.alloc (.cells #[.slice ta p tc,.slice na q nc] 47)) 0 0 0 []
 have B00:Below w.heap.size w ((w.alloc (.cells #[.slice ta p tc,.slice na q nc] 47)).alloc (.cells #[.int .i64 0,.int .i64 0,.int .i64 0,.string ⟨#[]⟩] 23)):=((Below.refl _ w).alloc (Nat.le_refl _) _).alloc (by simp) _
 simp only [World.size_alloc] at h2
 have h1':=h1.later ((Below.refl _ _).alloc (Nat.le_refl _) (.cells #[.int .i64 0,.int .i64 0,.int .i64 0,.string ⟨#[]⟩] 23))
 generalize hw0:((w.alloc (.cells #[.slice ta p tc,.slice na q nc] 47)).alloc (.cells #[.int .i64 0,.int .i64 0,.int .i64 0,.string ⟨#[]⟩] 23))=w0 at h1' h2 B00
 clear h1
 have HX:Hid (Box w0 (w.heap.size+1) nul):=h2
 have HS:Hid (Cbox w0 w.heap.size #[.slice ta p tc,.slice na q nc] 47):=h1'
 clear h1' h2
 have h':¬ (p:Int)=(m:Int):=by omega
 clear h
 go_enter Tryz.func25,Tryz.ntmps25
 go_upto_region 1 with fail
 try rw [hw0]
 clear hw0
 have R1:=RI w0 B00
 go_wp2_with fail
 refine R1.mono ?_
 rintro e wa ⟨rfl,ba⟩
 have Ba:=z0a B00 ba
 have HSa:Hid (Cbox wa w.heap.size #[.slice ta p tc,.slice na q nc] 47):=HS.out.later ba
 have c0:=HSa.out.at 0
 have c1:=HSa.out.at 1
 have cl:=HSa.out.lt
 have bra:=HX.out.later ba
 clear R1 RI
 have br:=bra
 have lt1:=br.lt
 obtain ⟨r0,r1,r2,r3⟩:=br.at4
 dsimp only [nul] at r0 r1 r2 r3
 simp only [Nat.zero_add] at r1 r2 r3
 have f0:=br.free 0
 have f1:=br.free 1
 have f2:=br.free 2
 have f3:=br.free 3
 go_wp2
 refine bodyPost_ret_by (v:=.tuple #[va 0 0 0 ⟨#[]⟩,.int .i64 1]) ?_ rfl ⟨rfl,z1h Ba (by omega) _ _ _ _⟩
 simp [results,Tryz.results25,go_sem,r0,r1,r2,r3]
theorem rev_bad3 (lo ta na ro:Option Addr) (lc tc nc rc n q m:Nat) (w:World) (h:¬ q=m)
  (RI:z0n 64 #[.slice lo n lc] w (.bool true)) :
  Calls Tryz.prog 25 #[.slice lo n lc,scv ta na m q tc nc,.slice ro m rc] w fun e w'=>e=.returned (rs (nul,1))∧Below w.heap.size w w':=by
 have h1:=Cbox.new w #[.slice ta m tc,.slice na q nc] 47
 have h2:=Box.new (w.alloc (.cells #[.slice ta m tc,.slice na q nc] 47)) 0 0 0 []
 have B00:Below w.heap.size w ((w.alloc (.cells #[.slice ta m tc,.slice na q nc] 47)).alloc (.cells #[.int .i64 0,.int .i64 0,.int .i64 0,.string ⟨#[]⟩] 23)):=((Below.refl _ w).alloc (Nat.le_refl _) _).alloc (by simp) _
 simp only [World.size_alloc] at h2
 have h1':=h1.later ((Below.refl _ _).alloc (Nat.le_refl _) (.cells #[.int .i64 0,.int .i64 0,.int .i64 0,.string ⟨#[]⟩] 23))
 generalize hw0:((w.alloc (.cells #[.slice ta m tc,.slice na q nc] 47)).alloc (.cells #[.int .i64 0,.int .i64 0,.int .i64 0,.string ⟨#[]⟩] 23))=w0 at h1' h2 B00
 clear h1
 have HX:Hid (Box w0 (w.heap.size+1) nul):=h2
 have HS:Hid (Cbox w0 w.heap.size #[.slice ta m tc,.slice na q nc] 47):=h1'
 clear h1' h2
 have h':¬ (q:Int)=(m:Int):=by omega
 clear h
 go_enter Tryz.func25,Tryz.ntmps25
 go_upto_region 1 with fail
 try rw [hw0]
 clear hw0
 have R1:=RI w0 B00
 go_wp2_with fail
 refine R1.mono ?_
 rintro e wa ⟨rfl,ba⟩
 have Ba:=z0a B00 ba
 have HSa:Hid (Cbox wa w.heap.size #[.slice ta m tc,.slice na q nc] 47):=HS.out.later ba
 have c0:=HSa.out.at 0
 have c1:=HSa.out.at 1
 have cl:=HSa.out.lt
 have bra:=HX.out.later ba
 clear R1 RI
 have br:=bra
 have lt1:=br.lt
 obtain ⟨r0,r1,r2,r3⟩:=br.at4
 dsimp only [nul] at r0 r1 r2 r3
 simp only [Nat.zero_add] at r1 r2 r3
 have f0:=br.free 0
 have f1:=br.free 1
 have f2:=br.free 2
 have f3:=br.free 3
 go_wp2
 refine bodyPost_ret_by (v:=.tuple #[va 0 0 0 ⟨#[]⟩,.int .i64 1]) ?_ rfl ⟨rfl,z1h Ba (by omega) _ _ _ _⟩
 simp [results,Tryz.results25,go_sem,r0,r1,r2,r3]
theorem rev_bad4 (lo ta na ro:Option Addr) (lc tc nc rc n m:Nat) (w:World) (AR:z0n 65 #[.slice ro m rc] w (.bool false))
  (RI:z0n 64 #[.slice lo n lc] w (.bool true)) :
  Calls Tryz.prog 25 #[.slice lo n lc,scv ta na m m tc nc,.slice ro m rc] w fun e w'=>e=.returned (rs (nul,1))∧Below w.heap.size w w':=by
 have h1:=Cbox.new w #[.slice ta m tc,.slice na m nc] 47
 have h2:=Box.new (w.alloc (.cells #[.slice ta m tc,.slice na m nc] 47)) 0 0 0 []
 have B00:Below w.heap.size w ((w.alloc (.cells #[.slice ta m tc,.slice na m nc] 47)).alloc (.cells #[.int .i64 0,.int .i64 0,.int .i64 0,.string ⟨#[]⟩] 23)):=((Below.refl _ w).alloc (Nat.le_refl _) _).alloc (by simp) _
 simp only [World.size_alloc] at h2
 have h1':=h1.later ((Below.refl _ _).alloc (Nat.le_refl _) (.cells #[.int .i64 0,.int .i64 0,.int .i64 0,.string ⟨#[]⟩] 23))
 generalize hw0:((w.alloc (.cells #[.slice ta m tc,.slice na m nc] 47)).alloc (.cells #[.int .i64 0,.int .i64 0,.int .i64 0,.string ⟨#[]⟩] 23))=w0 at h1' h2 B00
 clear h1
 have HX:Hid (Box w0 (w.heap.size+1) nul):=h2
 have HS:Hid (Cbox w0 w.heap.size #[.slice ta m tc,.slice na m nc] 47):=h1'
 clear h1' h2
 go_enter Tryz.func25,Tryz.ntmps25
 go_upto_region 1 with fail
 try rw [hw0]
 clear hw0
 have R1:=RI w0 B00
 go_wp2_with fail
 refine R1.mono ?_
 rintro e wa ⟨rfl,ba⟩
 have Ba:=z0a B00 ba
 have HSa:Hid (Cbox wa w.heap.size #[.slice ta m tc,.slice na m nc] 47):=HS.out.later ba
 have c0:=HSa.out.at 0
 have c1:=HSa.out.at 1
 have cl:=HSa.out.lt
 have bra:=HX.out.later ba
 clear R1 RI
 have A2:=AR wa Ba
 go_wp2_with fail
 refine A2.mono ?_
 rintro e wb ⟨rfl,bb⟩
 have Bb:=z0a Ba bb
 have brb:=bra.later bb
 clear c0 c1 cl A2 AR
 have br:=brb
 have lt1:=br.lt
 obtain ⟨r0,r1,r2,r3⟩:=br.at4
 dsimp only [nul] at r0 r1 r2 r3
 simp only [Nat.zero_add] at r1 r2 r3
 have f0:=br.free 0
 have f1:=br.free 1
 have f2:=br.free 2
 have f3:=br.free 3
 go_wp2
 refine bodyPost_ret_by (v:=.tuple #[va 0 0 0 ⟨#[]⟩,.int .i64 1]) ?_ rfl ⟨rfl,z1h Bb (by omega) _ _ _ _⟩
 simp [results,Tryz.results25,go_sem,r0,r1,r2,r3]
theorem rops_of (l:List Nd) (w:World) (hs:shN l):∀ x∈l,∀ W,Below w.heap.size w W→Calls Tryz.prog 187 #[ndv x] W fun e w'=>e=.returned (.int .i64 (if mayN x=true then opsN x else -1))∧Below W.heap.size W w':=fun x hx W _ =>
 rops_any x W (fun W=>rfree_any x.n W (fun W=>rword_any x.n W (hs x hx).2)) (fun W=>rfree_any x.t W (fun W=>rword_any x.t W (hs x hx).1))
theorem rright6_of (lo:Option Addr) (lc:Nat) (l:List Nd) (w:World) (hv:Nw w lo l) (hln:l.length≤140737488351232) (hs:shN l) :
  Calls Tryz.prog 64 #[.slice lo l.length lc] w fun e w'=>e=.returned (.bool (decide (0<depN mayN l)))∧Below w.heap.size w w':=rright6_any lo lc l w hv hln (rops_of l w hs)
theorem reval_any (lo ta na ro:Option Addr) (lc tc nc rc:Nat) (l:List Nd) (ts ns:List (List UInt8)) (row:List Va) (w:World) (hv:Nw w lo l) (hln:l.length≤140737488351232) (hs:shN l) (ht:Sl w ta ts) (hn:Sl w na ns) (hr:Vs w ro row)
  (hl:row.length≤140737488351232) (hi6:∀ x∈l,vin x.v) (hir:∀ v∈row,vin v) :
  Calls Tryz.prog 25 #[.slice lo l.length lc,scv ta na ts.length ns.length tc nc,.slice ro row.length rc] w fun e w'=>e=.returned (rs (evR l ts ns row))∧Below w.heap.size w w':=by
 have RI:∀ W,Below w.heap.size w W→Calls Tryz.prog 64 #[.slice lo l.length lc] W fun e w'=>e=.returned (.bool (decide (0<depN mayN l)))∧Below W.heap.size W w':=fun W h=>rright6_of lo lc l W (hv.later h) hln hs
 unfold evR
 by_cases hd:0<depN mayN l
 case neg =>
  rw [if_neg (fun h=>hd h.1)]
  rw [decide_eq_false hd] at RI
  exact rev_bad1 lo ta na ro lc tc nc rc l.length ts.length ns.length row.length w RI
 by_cases het:ts.length=row.length
 case neg =>
  rw [if_neg (fun h=>het h.2.1)]
  rw [decide_eq_true hd] at RI
  exact rev_bad2 lo ta na ro lc tc nc rc l.length ts.length ns.length row.length w het RI
 by_cases hen:ns.length=row.length
 case neg =>
  rw [if_neg (fun h=>hen h.2.2.1),het]
  rw [decide_eq_true hd] at RI
  exact rev_bad3 lo ta na ro lc tc nc rc l.length ns.length row.length w hen RI
 have AR0:∀ W,Below w.heap.size w W→Calls Tryz.prog 65 #[.slice ro row.length rc] W fun e w'=>e=.returned (.bool (row.all vr))∧Below W.heap.size W w':=fun W h=>rall7_any ro rc row W (hr.later h) hl
 by_cases har:row.all vr=true
 case neg =>
  rw [if_neg (fun h=>har h.2.2.2),het,hen]
  rw [decide_eq_true hd] at RI
  rw [show row.all vr=false by simpa using har] at AR0
  exact rev_bad4 lo ta na ro lc tc nc rc l.length row.length w AR0 RI
 rw [if_pos ⟨hd,het,hen,har⟩]
 rw [decide_eq_true hd] at RI
 rw [har] at AR0
 exact reval_good lo ta na ro lc tc nc rc l ts ns row w hv ht hn hr hd het hen har hl hi6 hir RI AR0 (fun nm ao cap l W h1 h2 h3=>rfunction_any nm ao cap l W h1 h2 h3) (fun op a W h=>runary_any op a W h) (fun op a b W h1 h2=>rbinary_any op a b W h1 h2)
theorem same_self (v:Va) (W:World):Calls Tryz.prog 10 #[va v.k v.n v.m ⟨v.b.toArray⟩,va v.k v.n v.m ⟨v.b.toArray⟩] W fun e w'=>e=.returned (.bool true)∧Below W.heap.size W w':=by
 refine (z7m v.k v.n v.m ⟨v.b.toArray⟩ v.k v.n v.m ⟨v.b.toArray⟩ W).mono ?_
 rintro e w' ⟨rfl,h⟩
 exact ⟨by simp,h.below⟩
theorem all_long (lo ta na ro:Option Addr) (lc tc nc rc n p q m:Nat) (T N:ByteArray) (w:World) (KN:z0n 19 #[] w (.bool true)) (h:600<n) :
  Calls Tryz.prog 5 #[.slice lo n lc,scv ta na p q tc nc,.slice ro m rc,.string T,.string N] w fun e w'=>e=.returned (.bool true)∧Below w.heap.size w w':=by
 have B00:Below w.heap.size w (w.alloc (.cells #[.slice ta p tc,.slice na q nc] 47)):=(Below.refl _ w).alloc (Nat.le_refl _) _
 have K1:=KN _ B00
 have h':(600:Int)<(n:Int):=by omega
 clear h
 go_enter Tryz.func5,Tryz.ntmps5
 go_upto_region 1 with fail
 generalize w.alloc (.cells #[.slice ta p tc,.slice na q nc] 47)=w0 at *
 go_wp2_with fail
 refine K1.mono ?_
 rintro e w1 ⟨rfl,b1⟩
 go_wp2
 go_ret
 exact ⟨rfl,z0a B00 b1⟩
theorem all_all (lo ta na ro:Option Addr) (lc tc nc rc:Nat) (l:List Nd) (ts ns:List (List UInt8)) (row:List Va) (t nm:List UInt8) (w:World) (hv:Nw w lo l) (hln:l.length*88≤140737488351232) (hs:shN l) (hi6:∀ x∈l,vin x.v) (ht:Sl w ta ts) (hn:Sl w na ns) (ht0:ta=none→ts=[]) (hn0:na=none→ns=[]) (hlt:ts.length*16≤140737488351232) (hlnn:ns.length*16≤140737488351232)
  (hr:Vs w ro row) (hr0:ro=none→row=[]) (hlr:row.length*40≤140737488351232) (hir:∀ v∈row,vin v) (hT:Tabs w) (hPw:Pw w) :
  Calls Tryz.prog 5 #[.slice lo l.length lc,scv ta na ts.length ns.length tc nc,.slice ro row.length rc,.string ⟨t.toArray⟩,.string ⟨nm.toArray⟩] w fun e w'=>e=.returned (.bool true)∧Below w.heap.size w w':=by
 have KN:Hid (z0n 19 #[] w (.bool true)):=fun W h=>knows7_any W (hT.later h) (hPw.below h)
 by_cases h600:l.length≤600
 case neg=>exact all_long lo ta na ro lc tc nc rc l.length ts.length ns.length row.length _ _ w KN.out (by omega)
 obtain ⟨p,hp⟩:∃ p,ts.length=p:=⟨_,rfl⟩
 obtain ⟨q,hq⟩:∃ q,ns.length=q:=⟨_,rfl⟩
 obtain ⟨n,hnn⟩:∃ n,l.length=n:=⟨_,rfl⟩
 obtain ⟨m,hm⟩:∃ m,row.length=m:=⟨_,rfl⟩
 have SCP:Hid (∀ W,Below w.heap.size w W→Calls Tryz.prog 21 #[scv ta na p q tc nc] W fun e w'=>(∃ ta' na' tc' nc',e=.returned (scv ta' na' p q tc' nc')∧Sl w' ta' ts∧Sl w' na' ns)∧Below W.heap.size W w'):=fun W h=>by
  have:=scope_any ta na tc nc ts ns W (ht.later h) (hn.later h) ht0 hn0 hlt hlnn
  rw [hp,hq] at this
  exact this
 have FND:Hid (∀ W ta' na' tc' nc',Sl W ta' ts→Sl W na' ns→Calls Tryz.prog 20 #[scv ta' na' p q tc' nc',.string ⟨t.toArray⟩,.string ⟨nm.toArray⟩] W fun e w'=>e=.returned (.tuple #[.int .i64 ((z4z ts ns t nm).1:Int),.int .i64 (z4z ts ns t nm).2])∧Below W.heap.size W w'):=fun W ta' na' tc' nc' h1 h2=>by
  have:=find_any ta' na' tc' nc' ts ns t nm W h1 h2 (by omega)
  rw [hp,hq] at this
  exact this
 have RFN:Hid (∀ W,Below w.heap.size w W→Calls Tryz.prog 22 #[scv ta na p q tc nc,.string ⟨t.toArray⟩,.string ⟨nm.toArray⟩] W fun e w'=>e=.returned (.tuple #[.int .i64 ((z4z ts ns t nm).1:Int),.int .i64 (z4z ts ns t nm).2])∧Below W.heap.size W w'):=fun W h=>by
  have:=rfind_any ta na tc nc ts ns t nm W (ht.later h) (hn.later h) (by omega)
  rw [hp,hq] at this
  exact this
 have OW6:Hid (∀ W,Below w.heap.size w W→Calls Tryz.prog 23 #[.slice lo n lc] W fun e w'=>(∃ ao' cap',e=.returned (.slice ao' n cap')∧Nw w' ao' l)∧Below W.heap.size W w'):=fun W h=>by
  have:=own6_any lo lc l W (hv.later h) hln
  rw [hnn] at this
  refine this.mono ?_
  rintro e w' ⟨⟨ao',cap',h1,h2,_⟩,h4⟩
  exact ⟨⟨ao',cap',h1,h2⟩,h4⟩
 have OW4:Hid (∀ W,Below w.heap.size w W→Calls Tryz.prog 15 #[.slice ro m rc] W fun e w'=>∃ ao' cap',e=.returned (.slice ao' m cap')∧Vs w' ao' row∧Below W.heap.size W w'):=fun W h=>by
  have:=vown_any ro rc row W (hr.later h) hr0 hlr
  rw [hm] at this
  exact this
 have EVA:Hid (∀ W lo' lc' ta' na' tc' nc' ro' rc',Below w.heap.size w W→Nw W lo' l→Sl W ta' ts→Sl W na' ns→Vs W ro' row→Calls Tryz.prog 24 #[.slice lo' n lc',scv ta' na' p q tc' nc',.slice ro' m rc'] W fun e w'=>e=.returned (rs (evR l ts ns row))∧Below W.heap.size W w'):=fun W lo' lc' ta' na' tc' nc' ro' rc' h h1 h2 h3 h4=>by
  have:=eval_any lo' ta' na' ro' lc' tc' nc' rc' l ts ns row W h1 (by omega) hs (hT.later h) (hPw.below h) h2 h3 h4 (by omega) hi6 hir
  rw [hp,hq,hnn,hm] at this
  exact this
 have REV:Hid (∀ W,Below w.heap.size w W→Calls Tryz.prog 25 #[.slice lo n lc,scv ta na p q tc nc,.slice ro m rc] W fun e w'=>e=.returned (rs (evR l ts ns row))∧Below W.heap.size W w'):=fun W h=>by
  have:=reval_any lo ta na ro lc tc nc rc l ts ns row W (hv.later h) (by omega) hs (ht.later h) (hn.later h) (hr.later h) (by omega) hi6 hir
  rw [hp,hq,hnn,hm] at this
  exact this
 have HLD:Hid (∀ W lo' lc' ta' na' tc' nc' ro' rc',Below w.heap.size w W→Nw W lo' l→Sl W ta' ts→Sl W na' ns→Vs W ro' row→Calls Tryz.prog 26 #[.slice lo' n lc',scv ta' na' p q tc' nc',.slice ro' m rc'] W fun e w'=>e=.returned (.tuple #[.bool (hldR (evR l ts ns row)).1,.int .i64 (hldR (evR l ts ns row)).2])∧Below W.heap.size W w'):=fun W lo' lc' ta' na' tc' nc' ro' rc' h h1 h2 h3 h4 =>
  hold_any lo' ta' na' ro' lc' tc' nc' rc' n p q m W _ (fun W2 b=>EVA.out W2 lo' lc' ta' na' tc' nc' ro' rc' (z0a h b) (h1.later b) (h2.later b) (h3.later b) (h4.later b))
 have RHL:Hid (∀ W,Below w.heap.size w W→Calls Tryz.prog 27 #[.slice lo n lc,scv ta na p q tc nc,.slice ro m rc] W fun e w'=>e=.returned (.tuple #[.bool (hldR (evR l ts ns row)).1,.int .i64 (hldR (evR l ts ns row)).2])∧Below W.heap.size W w'):=fun W h =>
  rhold_any lo ta na ro lc tc nc rc n p q m W _ (fun W2 b=>REV.out W2 (z0a h b))
 have SM6:Hid (∀ W lo' lc',Below w.heap.size w W→Nw W lo' l→Calls Tryz.prog 29 #[.slice lo' n lc',.slice lo n lc] W fun e w'=>e=.returned (.bool true)∧Below W.heap.size W w'):=fun W lo' lc' h h1=>by
  have:=same6_any lo' lo lc' lc l W h1 (hv.later h) (by omega)
  rw [hnn] at this
  exact this
 have SM4:Hid (∀ W ro' rc',Below w.heap.size w W→Vs W ro' row→Calls Tryz.prog 18 #[.slice ro' m rc',.slice ro m rc] W fun e w'=>e=.returned (.bool true)∧Below W.heap.size W w'):=fun W ro' rc' h h1=>by
  have:=vsame_any ro' ro rc' rc row row W h1 (hr.later h) (by omega) (by omega)
  rw [hm,decide_eq_true rfl] at this
  exact this
 have NM:=fun n W=>qnum7_any n W
 rw [hp,hq,hnn,hm]
 rw [hnn] at h600
 have h600':¬ (600:Int)<(n:Int):=by omega
 have B00:Below w.heap.size w (w.alloc (.cells #[.slice ta p tc,.slice na q nc] 47)):=(Below.refl _ w).alloc (Nat.le_refl _) _
 have BS0:=Cbox.new w #[.slice ta p tc,.slice na q nc] 47
 generalize z4z ts ns t nm=FR at *
 obtain ⟨fp,fe⟩:=FR
 generalize evR l ts ns row=ER at *
 generalize hldR ER=HR at *
 obtain ⟨hb,he⟩:=HR
 obtain ⟨⟨rk,rn,rm,rb⟩,re⟩:=ER
 have SMV:=fun W=>same_self ⟨rk,rn,rm,rb⟩ W
 dsimp only at FND RFN HLD RHL SMV
 generalize (ByteArray.mk t.toArray)=TB at *
 generalize (ByteArray.mk nm.toArray)=NB at *
 clear hv hln hs hi6 ht hn ht0 hn0 hlt hlnn hr hr0 hlr hir hT hPw hp hq hnn hm h600
 go_enter Tryz.func5,Tryz.ntmps5
 go_upto_region 1 with fail
 generalize w.alloc (.cells #[.slice ta p tc,.slice na q nc] 47)=w0 at *
 have BS:Hid (Cbox w0 w.heap.size #[.slice ta p tc,.slice na q nc] 47):=BS0
 clear BS0
 have sx0:=(BS.out.later (Below.refl _ w0)).at 0
 have sx1:=(BS.out.later (Below.refl _ w0)).at 1
 have sxl:=(BS.out.later (Below.refl _ w0)).lt
 go_wp2_with fail
 refine (SCP.out _ B00).mono ?_
 rintro e w1 ⟨⟨ta1,na1,tc1,nc1,rfl,st1,sn1⟩,b1⟩
 have B1:=z0a B00 b1
 have b01:=b1
 clear sx0 sx1 sxl
 go_wp2_with fail
 refine (FND.out _ ta1 na1 tc1 nc1 st1 sn1).mono ?_
 rintro e w2 ⟨rfl,b2⟩
 have B2:=z0a B1 b2
 have b02:=z0a b01 b2
 clear st1 sn1
 have sx0:=(BS.out.later b02).at 0
 have sx1:=(BS.out.later b02).at 1
 have sxl:=(BS.out.later b02).lt
 go_wp2_with fail
 refine (RFN.out _ B2).mono ?_
 rintro e w3 ⟨rfl,b3⟩
 have B3:=z0a B2 b3
 have b03:=z0a b02 b3
 clear sx0 sx1 sxl
 go_wp2_with fail
 refine (OW6.out _ B3).mono ?_
 rintro e w4 ⟨⟨lo',lc',rfl,hv4⟩,b4⟩
 have B4:=z0a B3 b4
 have b04:=z0a b03 b4
 go_wp2_with fail
 refine (OW4.out _ B4).mono ?_
 rintro e w5 ⟨ro',rc',rfl,hr5,b5⟩
 have B5:=z0a B4 b5
 have b05:=z0a b04 b5
 have HV5:Hid (Nw w5 lo' l):=hv4.later b5
 have HR5:Hid (Vs w5 ro' row):=hr5
 clear hv4 hr5
 have sx0:=(BS.out.later b05).at 0
 have sx1:=(BS.out.later b05).at 1
 have sxl:=(BS.out.later b05).lt
 go_wp2_with fail
 refine (SCP.out _ B5).mono ?_
 rintro e w6 ⟨⟨ta6,na6,tc6,nc6,rfl,st6,sn6⟩,b6⟩
 have B6:=z0a B5 b6
 have b06:=z0a b05 b6
 clear sx0 sx1 sxl
 go_wp2_with fail
 refine (EVA.out _ lo' lc' ta6 na6 tc6 nc6 ro' rc' B6 (HV5.out.later b6) st6 sn6 (HR5.out.later b6)).mono ?_
 rintro e w7 ⟨rfl,b7⟩
 have A7:Below w7.heap.size w7 (w7.alloc (.cells #[.int .i64 rk,.int .i64 rn,.int .i64 rm,.string ⟨rb.toArray⟩] 23)):=(Below.refl _ _).alloc (Nat.le_refl _) _
 have BX7:=Box.new w7 rk rn rm rb
 have B7:=z0a (z0a B6 b7) A7
 have b07:=z0a (z0a b06 b7) A7
 have b57:=z0a (z0a b6 b7) A7
 have ebx7:Box (w7.alloc (.cells #[.int .i64 rk,.int .i64 rn,.int .i64 rm,.string ⟨rb.toArray⟩] 23)) w7.heap.size ⟨rk,rn,rm,rb⟩:=BX7
 clear st6 sn6 BX7
 go_upto_region 8 with fail
 generalize w7.alloc (.cells #[.int .i64 rk,.int .i64 rn,.int .i64 rm,.string ⟨rb.toArray⟩] 23)=w8 at *
 have HB8:Hid (Box w8 w7.heap.size ⟨rk,rn,rm,rb⟩):=ebx7
 clear ebx7 A7
 generalize w7.heap.size=p7 at *
 have sx0:=(BS.out.later b07).at 0
 have sx1:=(BS.out.later b07).at 1
 have sxl:=(BS.out.later b07).lt
 go_wp2_with fail
 refine (REV.out _ B7).mono ?_
 rintro e w9 ⟨rfl,b9⟩
 have A9:Below w9.heap.size w9 (w9.alloc (.cells #[.int .i64 rk,.int .i64 rn,.int .i64 rm,.string ⟨rb.toArray⟩] 23)):=(Below.refl _ _).alloc (Nat.le_refl _) _
 have ebx9:Box (w9.alloc (.cells #[.int .i64 rk,.int .i64 rn,.int .i64 rm,.string ⟨rb.toArray⟩] 23)) w9.heap.size ⟨rk,rn,rm,rb⟩:=Box.new w9 rk rn rm rb
 have B9:=z0a (z0a B7 b9) A9
 have b09:=z0a (z0a b07 b9) A9
 have b59:=z0a (z0a b57 b9) A9
 have b89:=z0a b9 A9
 clear sx0 sx1 sxl
 go_upto_region 9 with fail
 generalize w9.alloc (.cells #[.int .i64 rk,.int .i64 rn,.int .i64 rm,.string ⟨rb.toArray⟩] 23)=w10 at *
 have HB10:Hid (Box w10 w9.heap.size ⟨rk,rn,rm,rb⟩):=ebx9
 clear ebx9 A9
 generalize w9.heap.size=p9 at *
 have sx0:=(BS.out.later b09).at 0
 have sx1:=(BS.out.later b09).at 1
 have sxl:=(BS.out.later b09).lt
 go_wp2_with fail
 refine (SCP.out _ B9).mono ?_
 rintro e w11 ⟨⟨ta11,na11,tc11,nc11,rfl,st11,sn11⟩,b11⟩
 have B11:=z0a B9 b11
 have b011:=z0a b09 b11
 clear sx0 sx1 sxl
 go_wp2_with fail
 refine (HLD.out _ lo' lc' ta11 na11 tc11 nc11 ro' rc' B11 (HV5.out.later (z0a b59 b11)) st11 sn11 (HR5.out.later (z0a b59 b11))).mono ?_
 rintro e w12 ⟨rfl,b12⟩
 have B12:=z0a B11 b12
 have b012:=z0a b011 b12
 clear st11 sn11
 have sx0:=(BS.out.later b012).at 0
 have sx1:=(BS.out.later b012).at 1
 have sxl:=(BS.out.later b012).lt
 go_wp2_with fail
 refine (RHL.out _ B12).mono ?_
 rintro e w13 ⟨rfl,b13⟩
 have B13:=z0a B12 b13
 have b1013:=z0a (z0a b11 b12) b13
 clear sx0 sx1 sxl
 have bx7:=(HB8.out.later b89).later b1013
 have bx9:=HB10.out.later b1013
 have HV13:Hid (Nw w13 lo' l):=HV5.out.later (z0a b59 b1013)
 have HR13:Hid (Vs w13 ro' row):=HR5.out.later (z0a b59 b1013)
 obtain ⟨y0,y1,y2,y3⟩:=bx7.at4
 have yl:=bx7.lt
 obtain ⟨z0,z1,z2,z3⟩:=bx9.at4
 have zl:=bx9.lt
 dsimp only at y0 y1 y2 y3 z0 z1 z2 z3
 simp only [Nat.zero_add] at y1 y2 y3 z1 z2 z3
 clear bx7 bx9 b01 b02 b03 b04 b05 b06 b07 b09 b011 b012 b57 b59 b89 b1013
 go_wp2_with (go_at_call 28;refine (NM _ _).mono ?_;rintro e wc ⟨rfl,rfl⟩)
 all_goals skip
 refine (SMV _).mono ?_
 rintro e w14 ⟨rfl,b14⟩
 clear y0 y1 y2 y3 z0 z1 z2 z3 yl zl
 go_wp2_with (go_at_call 28;refine (NM _ _).mono ?_;rintro e wc ⟨rfl,rfl⟩)
 refine (SM6.out _ lo' lc' (z0a B13 b14) (HV13.out.later b14)).mono ?_
 rintro e w15 ⟨rfl,b15⟩
 go_wp2_with fail
 refine (SM4.out _ ro' rc' (z0a (z0a B13 b14) b15) ((HR13.out.later b14).later b15)).mono ?_
 rintro e w16 ⟨rfl,b16⟩
 go_wp2_with fail
 refine (KN.out _ (z0a (z0a (z0a B13 b14) b15) b16)).mono ?_
 rintro e w17 ⟨rfl,b17⟩
 go_wp2
 go_ret
 exact ⟨rfl,z0a (z0a (z0a (z0a B13 b14) b15) b16) b17⟩
theorem all_bytes (lo ta na ro:Option Addr) (lc tc nc rc:Nat) (l:List Nd) (ts ns:List (List UInt8)) (row:List Va) (T N:ByteArray) (w:World) (hv:Nw w lo l) (hln:l.length*88≤140737488351232) (hs:shN l) (hi6:∀ x∈l,vin x.v) (ht:Sl w ta ts) (hn:Sl w na ns) (ht0:ta=none→ts=[]) (hn0:na=none→ns=[]) (hlt:ts.length*16≤140737488351232) (hlnn:ns.length*16≤140737488351232)
  (hr:Vs w ro row) (hr0:ro=none→row=[]) (hlr:row.length*40≤140737488351232) (hir:∀ v∈row,vin v) (hT:Tabs w) (hPw:Pw w) :
  Calls Tryz.prog 5 #[.slice lo l.length lc,scv ta na ts.length ns.length tc nc,.slice ro row.length rc,.string T,.string N] w fun e w'=>e=.returned (.bool true)∧Below w.heap.size w w' :=
 all_all lo ta na ro lc tc nc rc l ts ns row T.data.toList N.data.toList w hv hln hs hi6 ht hn ht0 hn0 hlt hlnn hr hr0 hlr hir hT hPw
end Go.Proofs.YtibbenhplmmmiaaGreatDoor

namespace Go.Proofs.YtibbenhplmmmiaaGreatDoor
open Go.ChangeShapes Go.WideShapes Go.ChangeAt Go.WideMaps Go.WideElems Go.RowKit Go.Shelf Go.Lib
open Go.ChangeMaps (open_string shut_string)
theorem xal_lifted (os:Os) (started:os.Started) (H:Type) (enc:TypeId × Value→H) :
  ReturnsInHanded {} Tryz.checked os 5 .any (fun w args=>(Rows.evalAllSpec.pre enc Tryz.prog Tryz.f5 [] false w args∧laidMetH Tryz.prog Rows.evalAllRow.laid w)∧sizedMet enc Tryz.prog Tryz.f5 (OpenSpec.ofChange Rows.evalAllSpec) false w args)
   (Rows.evalAllSpec.post enc Tryz.prog Tryz.f5 false true false false):=by
 refine returnsInHanded_of_change_and (C:=Tryz.checked) (X:=fun w _=>laidMetH Tryz.prog Rows.evalAllRow.laid w) (fun _ _ _ hh h=>h.of_heap hh) own started gK Tryz.func5
  (ChangeSpec.witness_shaped (enc:=enc) (C:=Tryz.checked) (os:=os) (X:=fun w _=>laidMetH Tryz.prog Rows.evalAllRow.laid w) false (World.laidAll Tryz.prog os Rows.evalAllRow.laid) #[.slice none 0 0,.agg #[.slice none 0 0,.slice none 0 0],.slice none 0 0,.string ⟨#[]⟩,.string ⟨#[]⟩] 8 (World.laidAll_os _ _ _)
   (World.shaped_of_ZipB gK gK) gK gK gK
   (by rw [MakeChecks.laidMetH_plain _ _ _ gK];exact laidMet_laidAll _ gK gK)) ?_
 intro W base args ds gs before hval0 hW _ hsz0 hL _
 have hval:∀ (j:Nat) t v,Tryz.f5.params[j]?=some t→args[j]?=some v→Value.okWide Tryz.prog W .any base t v:=hval0
 have hsz:(DataW.weightsEach Tryz.prog (Tryz.f5.params.toList++Rows.evalAllSpec.plain.varTypes Tryz.prog) (ds++gs)).all (·≤reachBytes)=true:=hsz0
 have hW':=hW
 obtain ⟨p,q,hA0,hV,rfl,hfz,hnd⟩:=hW
 have hA:DataW.TrodAll enc Tryz.prog W 0 (fun _=>true) true Tryz.f5.params.toList args.toList ds p:=hA0
 rw [Tryz.params5] at hA hval hsz
 obtain ⟨v0,v1,v2,v3,v4,d0,d1,d2,d3,d4,p0,p1,p2,p3,p4,rfl,rfl,rfl,h0,h1,h2,h3,h4⟩:=trodAll_five hA
 obtain ⟨rfl,rfl⟩:=trodVars_none hV
 obtain ⟨x0,n0,c0,rfl⟩:=okWide_slice Tryz.underlying44 (hval 0 44 v0 rfl rfl)
 have k0:=h0
 have lt0:∀ x∈p0,x.block<W.heap.size:=by obtain ⟨m,hm⟩:=k0;exact DataW.trod_lt m _ _ _ hm
 obtain ⟨f0,hf0⟩:=h0
 obtain ⟨g0,r0,e0⟩:=nods_open (a:=x0) (len:=n0) (cap:=c0) hf0 (by simp [Value.cells])
 have z0:c0*Tryz.prog.bytesOf 98≤140737488351232:=by
  rcases e0 with h|⟨es,sp,hd,hl⟩
  ·rw [h];simp
  ·have hd0:d0=.slice es sp:=hd
   rw [← hl];exact sized_slice hsz (j:=0) (t:=44) (e:=98) rfl (by simp [hd0]) Tryz.underlying44
 obtain ⟨r0v,rfl,r0c,r0i,r0w⟩:=r0
 have r0s:=sh_of hsz (j:=0) rfl rfl r0w
 rw [bytes88] at z0
 obtain ⟨cs1,rfl,_⟩:=okWide_struct Tryz.underlying47 (hval 1 47 v1 rfl rfl)
 have k1:=h1
 have lt1:∀ x∈p1,x.block<W.heap.size:=by obtain ⟨m,hm⟩:=k1;exact DataW.trod_lt m _ _ _ hm
 obtain ⟨f1,hf1⟩:=h1
 obtain ⟨ta1,tn1,tc1,na1,nn1,nc1,ex1,sc1⟩:=scope_open hf1
 obtain rfl:cs1=#[.slice ta1 tn1 tc1,.slice na1 nn1 nc1]:=by obtain ⟨l⟩:=cs1;exact congrArg List.toArray ex1
 obtain ⟨ts1,ns1,st1,rfl,sn1,rfl,so1,sp1,sl1,sm1,wt1,wn1⟩:=sc1
 have zt1:tc1*16≤140737488351232∧nc1*16≤140737488351232:=scope_sized hsz (j:=1) rfl rfl wt1 wn1
 obtain ⟨x2,n2,c2,rfl⟩:=okWide_slice Tryz.underlying34 (hval 2 34 v2 rfl rfl)
 have k2:=h2
 have lt2:∀ x∈p2,x.block<W.heap.size:=by obtain ⟨m,hm⟩:=k2;exact DataW.trod_lt m _ _ _ hm
 obtain ⟨f2,hf2⟩:=h2
 obtain ⟨g2,r2,e2⟩:=vals_open (a:=x2) (len:=n2) (cap:=c2) hf2 (by simp [Value.cells])
 have z2:c2*Tryz.prog.bytesOf 23≤140737488351232:=by
  rcases e2 with h|⟨es,sp,hd,hl⟩
  ·rw [h];simp
  ·have hd0:d2=.slice es sp:=hd
   rw [← hl];exact sized_slice hsz (j:=2) (t:=34) (e:=23) rfl (by simp [hd0]) Tryz.underlying34
 obtain ⟨r2v,r2z,rfl,r2c,r2i⟩:=r2
 rw [bytes40] at z2
 obtain ⟨s3,rfl,rfl,rfl,w3⟩:=open_string Tryz.underlying9 (hval 3 9 v3 rfl rfl) h3
 have z3:=sized_string hsz (j:=3) (t:=9) rfl rfl
 obtain ⟨s4,rfl,rfl,rfl,w4⟩:=open_string Tryz.underlying9 (hval 4 9 v4 rfl rfl) h4
 have z4:=sized_string hsz (j:=4) (t:=9) rfl rfl
 clear hA0 hval0 hsz0
 rw [MakeChecks.laidMetH_plain _ _ _ gK] at hL
 have hT:Tabs W:=tabs_of (Lib.laidMet.reads hL (.tail _ (.tail _ (.head _)))) (Lib.laidMet.reads hL (.head _))
 have hPw:Pw W:=pw_of (Lib.laidMet.reads hL (.tail _ (.head _)))
 refine (all_bytes x0 ta1 na1 x2 c0 tc1 nc1 c2 g0 ts1 ns1 g2 s3 s4 W r0v (by omega) r0s r0i st1 sn1 so1 sp1 (by omega) (by omega) r2v r2z (by omega) r2i hT hPw).mono fun e W' ⟨he,bel⟩=>?_
 subst he
 exact ⟨_,rfl,_,_,_,[],_,[],hW',trodAll_mk1 (shut_bool Tryz.underlying4 _),trodAll_mk5 (Below.trod laidOut gK (of_decide_eq_true gK) k0 bel lt0) (Below.trod laidOut gK (of_decide_eq_true gK) k1 bel lt1) (Below.trod laidOut gK (of_decide_eq_true gK) k2 bel lt2) (shut_string Tryz.underlying9 w3) (shut_string Tryz.underlying9 w4),rfl,bel.frame _,fun h=>by cases h⟩
end Go.Proofs.YtibbenhplmmmiaaGreatDoor
namespace Go.Proofs.YtibbenhplmmmiaaGreatDoor
open Go.ChangeShapes Go.WideShapes Go.ChangeAt Go.WideMaps Go.WideElems Go.RowKit Go.Shelf Go.Lib
theorem xal_said:Rows.EvalAllSaid :=
 OpenClaim.holds_of_wide 5 Tryz.f5 rfl rfl rfl rfl rfl rfl rfl ⟨rfl,rfl,rfl,rfl,rfl⟩ rfl rfl rfl rfl rfl gK Tryz.func5 xal_b
  (of_decide_eq_true gK) (by unfold Func.isWrapper;first|(rw [if_pos (by decide +kernel)];kernel_rfl)|(rw [if_neg (by decide +kernel)];exact ⟨rfl,rfl⟩))
  (fun os started H enc _=>xal_lifted os started H enc)
theorem evalAll_holds:Rows.EvalAllCardSaid :=
 Claim7.holds_tied_plain_at .later [] [.data,.data,.pinned] true _ true
  xal_said (fun _ h=>by cases h) gK (fun _ h=>by cases h) evalAll_row_tie rfl ⟨rfl,rfl⟩ gK rfl
  (fun f fn hf hfn=>by
   obtain rfl:f=5:=Option.some.inj ((show Tryz.prog.funcNamed Tryz.f5.name=some 5 by kernel_rfl).symm.trans hf) |>.symm
   obtain rfl:fn=Tryz.f5:=(Option.some.inj (Tryz.func5.symm.trans hfn)).symm
   exact ⟨by kernel_rfl,fun j t ht=>by
    rw [Tryz.params5] at ht
    have hm:t∈[44,47,34,9,9]:=by simpa using Array.mem_of_getElem? ht
    have hall:([44,47,34,9,9].all fun u=>!Tryz.prog.wantsStandIn u)=true:=by kernel_rfl
    exact (show Tryz.prog.wantsStandIn t=false by simpa using List.all_eq_true.1 hall t hm)⟩)
  gK
#print axioms evalAll_holds
end Go.Proofs.YtibbenhplmmmiaaGreatDoor
