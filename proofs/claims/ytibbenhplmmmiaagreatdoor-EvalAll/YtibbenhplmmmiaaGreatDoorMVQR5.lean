/-
  The document's answers for eval: ints.
  The document's answers for eval: decs.
  The document's answers for eval: reckon.
-/
import Derived.Test.YtibbenhplmmmiaaGreatDoorMEQRF0
import Derived.Test.YtibbenhplmmmiaaGreatDoorMBQNums
import Derived.Test.YtibbenhplmmmiaaGreatDoorDInts
import Derived.Test.YtibbenhplmmmiaaGreatDoorDRef8
import Derived.Test.YtibbenhplmmmiaaGreatDoorMSDRefC
import Derived.Test.YtibbenhplmmmiaaGreatDoorDRefD
import Derived.Test.YtibbenhplmmmiaaGreatDoorMDQFun2
set_option maxHeartbeats 4000000
set_option maxRecDepth 4000
namespace Go.Proofs.YtibbenhplmmmiaaGreatDoor
open Go.RowKit Go.Shelf
attribute [local go_sem] z0e z0b z0c z0f z0m z0k z0h z0d z0g
def iR (op a b:Int):Int × Int :=
 if op=6 then (nz (a*b),nErr (a*b)) else if op=9 then (nz (a+b),nErr (a+b)) else if op=10 then (nz (a - b),nErr (a - b))
 else if b=0 then (0,33) else if b=-1∧op=8 then (0,0) else if b=-1 then (nz (-a),nErr (-a)) else if op=7 then (a.tdiv b,0) else (a.tmod b,0)
theorem iR_ints (op a b:Int) (h1:6≤op) (h2:op≤10):z0v (iR op a b).1 (iR op a b).2=intsR op a b:=by
 unfold iR intsR
 rcases (by omega:op=6∨op=7∨op=8∨op=9∨op=10) with rfl|rfl|rfl|rfl|rfl
 ·rfl
 ·unfold quoR
  by_cases h:b=0
  ·simp [h]
  ·by_cases h':b=-1 <;> simp [h,h']
 ·unfold remR
  by_cases h:b=0
  ·simp [h]
  ·by_cases h':b=-1 <;> simp [h,h']
 ·rfl
 ·rfl
theorem rsub0 (a b:Int) (W:World) (a0:-9223372036854775808≤a) (a1:a≤9223372036854775807) (b0:-9223372036854775808≤b) (b1:b≤9223372036854775807):Calls Tryz.prog 191 #[dv a 0,dv b 0] W fun e w'=>e=.returned (dres (a - b) 0)∧Grew W w':=by
 have:=rsub_good a 0 b 0 0 W rfl rfl (.inl ⟨rfl,Int.le_refl _⟩) a0 a1 b0 b1
 rwa [z8c,z8c] at this
theorem rints7_any (op a b:Int) (w:World) (a0:-9223372036854775808≤a) (a1:a≤9223372036854775807) (b0:-9223372036854775808≤b) (b1:b≤9223372036854775807) :
  Calls Tryz.prog 192 #[.int .i64 op,.int .i64 a,.int .i64 b] w fun e w'=>e=.returned (.tuple #[.int .i64 (iR op a b).1,.int .i64 (iR op a b).2])∧Grew w w':=by
 unfold iR
 by_cases h6:op=6
 ·subst h6
  rw [if_pos rfl]
  have C:∀ W,Calls Tryz.prog 247 #[.int .i64 a,.int .i64 b] W fun e w'=>e=.returned (.tuple #[.int .i64 _,.int .i64 _])∧Grew W w':=fun W=>rmulInt_any a b W a0 a1 b0 b1
  clear a0 a1 b0 b1
  go_enter Tryz.func192,Tryz.ntmps192
  go_wp2_with (go_at_call 247;refine (C _).mono ?_;rintro e w1 ⟨rfl,os1,n1,rfl⟩)
  go_ret2
  exact ⟨rfl,gB⟩
 have c6:(op==6)=false:=by simpa using h6
 by_cases h9:op=9
 ·subst h9
  rw [if_neg (by decide),if_pos rfl]
  have C:∀ W,Calls Tryz.prog 248 #[.int .i64 a,.int .i64 b] W fun e w'=>e=.returned (.tuple #[.int .i64 _,.int .i64 _])∧Grew W w':=fun W=>raddInt_any a b W a0 a1 b0 b1
  clear a0 a1 b0 b1
  go_enter Tryz.func192,Tryz.ntmps192
  go_wp2_with (go_at_call 248;refine (C _).mono ?_;rintro e w1 ⟨rfl,os1,n1,rfl⟩)
  go_ret2
  exact ⟨rfl,gB⟩
 have c9:(op==9)=false:=by simpa using h9
 by_cases h10:op=10
 ·subst h10
  rw [if_neg (by decide),if_neg (by decide),if_pos rfl]
  have C:=fun W=>rsub0 a b W a0 a1 b0 b1
  clear a0 a1 b0 b1
  generalize a - b=z at *
  go_enter Tryz.func192,Tryz.ntmps192
  go_wp2_with (go_at_call 191;refine (C _).mono ?_;rintro e w1 ⟨rfl,os1,n1,rfl⟩)
  go_ret2
  exact ⟨rfl,gB⟩
 have c10:(op==10)=false:=by simpa using h10
 rw [if_neg h6,if_neg h9,if_neg h10]
 by_cases hb0:b=0
 ·subst hb0
  rw [if_pos rfl]
  clear a0 a1 b0 b1
  go_enter Tryz.func192,Tryz.ntmps192
  go_wp2
  go_ret2
  exact ⟨rfl,gB⟩
 rw [if_neg hb0]
 have d0:(b==0)=false:=by simpa using hb0
 by_cases hb1:b=-1
 ·subst hb1
  by_cases h8:op=8
  ·subst h8
   rw [if_pos ⟨rfl,rfl⟩]
   clear a0 a1 b0 b1
   go_enter Tryz.func192,Tryz.ntmps192
   go_wp2
   go_ret2
   exact ⟨rfl,gB⟩
  ·have c8:(op==8)=false:=by simpa using h8
   rw [if_neg (fun h=>h8 h.2),if_pos rfl]
   have M:=fun W=>rmulInt_any a (-1) W a0 a1 b0 b1
   rw [Int.mul_neg,Int.mul_one] at M
   clear a0 a1 b0 b1
   go_enter Tryz.func192,Tryz.ntmps192
   go_wp2_with (go_at_call 247;refine (M _).mono ?_;rintro e w1 ⟨rfl,os1,n1,rfl⟩)
   go_ret2
   exact ⟨rfl,gB⟩
 have d1:(b==-1)=false:=by simpa using hb1
 rw [if_neg (fun h=>hb1 h.1),if_neg hb1]
 by_cases h7:op=7
 ·subst h7
  rw [if_pos rfl]
  obtain ⟨l0,l1⟩:=tdiv_in a b hb1 a0 a1 b0 b1
  go_enter Tryz.func192,Tryz.ntmps192
  go_wp2
  go_ret2
  exact ⟨rfl,gB⟩
 have c7:(op==7)=false:=by simpa using h7
 rw [if_neg h7]
 obtain ⟨l0,l1⟩:=tmod_in a b a0 a1
 go_enter Tryz.func192,Tryz.ntmps192
 go_wp2
 go_ret2
 exact ⟨rfl,gB⟩
theorem rq_1 (z:Int):rq z 1=z:=by
 have h1:rnd z.natAbs 1=z.natAbs:=by unfold rnd;rw [if_neg (by omega)];omega
 unfold rq
 rw [show (1:Int).natAbs=1 from rfl,h1]
 by_cases h:z<0
 ·rw [decide_eq_true h]
  show sval true _=_
  simp [sval];omega
 ·rw [decide_eq_false h]
  show sval false _=_
  simp [sval];omega
theorem rmul7 (a b:Va) (W:World) (ra:z0s a.m=true) (rb:z0s b.m=true) (va:vin a) (vb:vin b):Calls Tryz.prog 249 #[dv a.n a.m,dv b.n b.m] W fun e w'=>e=.returned (dres (rq (a.n*b.n) (10^(a.m+b.m - psc a.m b.m).toNat:Nat)) (psc a.m b.m))∧Grew W w':=by
 rcases psc_or a.m b.m with ⟨h1,h2⟩|⟨h1,h2⟩
 ·rw [h1,Int.sub_self]
  have:=rmul_low a.n a.m b.n b.m W ra rb h2 va.1.1 va.1.2 vb.1.1 vb.1.2
  rw [show (rq (a.n*b.n) ((10^(0:Int).toNat:Nat):Int))=a.n*b.n from rq_1 _]
  exact this
 ·rw [h1]
  exact rmul_high a.n a.m b.n b.m (a.m+b.m - 6).toNat W ra rb h2 (by omega) va.1.1 va.1.2 vb.1.1 vb.1.2
theorem z8s (op:Int) (a b:Va) (w:World) (h1:6≤op) (h2:op≤10) (ha:0≤a.m∧a.m≤6) (hb:0≤b.m∧b.m≤6) (va:vin a) (vb:vin b) :
  Calls Tryz.prog 193 #[.int .i64 op,dv a.n a.m,dv b.n b.m] w fun e w'=>e=.returned (rs (z9s op a b))∧Grew w w':=by
 have ra:=(z0w a.m).2 ha
 have rb:=(z0w b.m).2 hb
 unfold z9s decR
 by_cases h9:op=9
 ·subst h9
  clear h1 h2
  rw [if_pos rfl]
  have C:∀ W,Calls Tryz.prog 251 #[dv a.n a.m,dv b.n b.m] W fun e w'=>e=.returned (.tuple #[dv _ _,.int .i64 _])∧Grew W w':=fun W=>radd_good a.n a.m b.n b.m _ W ra rb (gsc_or a.m b.m) va.1.1 va.1.2 vb.1.1 vb.1.2
  have H:=fun u s x W=>z3e u s x W
  clear ha hb ra rb va vb
  go_enter Tryz.func193,Tryz.ntmps193
  go_wp2_with (first
   | (go_at_call 251;refine (C _).mono ?_;rintro e w1 ⟨rfl,os1,n1,rfl⟩)
   | (go_at_call 125;refine (H _ _ _ _).mono ?_;rintro e w1 ⟨rfl,os2,n2,rfl⟩))
  refine bodyPost_ret_by (v:=rs _) ?_ rfl ⟨rfl,?_⟩
  ·simp [results,Tryz.results193,go_sem]
  ·exact gB
 by_cases h10:op=10
 ·subst h10
  clear h1 h2
  rw [if_neg (by decide),if_pos rfl]
  have C:∀ W,Calls Tryz.prog 191 #[dv a.n a.m,dv b.n b.m] W fun e w'=>e=.returned (.tuple #[dv _ _,.int .i64 _])∧Grew W w':=fun W=>rsub_good a.n a.m b.n b.m _ W ra rb (gsc_or a.m b.m) va.1.1 va.1.2 vb.1.1 vb.1.2
  have H:=fun u s x W=>z3e u s x W
  clear ha hb ra rb va vb
  go_enter Tryz.func193,Tryz.ntmps193
  go_wp2_with (first
   | (go_at_call 191;refine (C _).mono ?_;rintro e w1 ⟨rfl,os1,n1,rfl⟩)
   | (go_at_call 125;refine (H _ _ _ _).mono ?_;rintro e w1 ⟨rfl,os2,n2,rfl⟩))
  refine bodyPost_ret_by (v:=rs _) ?_ rfl ⟨rfl,?_⟩
  ·simp [results,Tryz.results193,go_sem]
  ·exact gB
 by_cases h6:op=6
 ·subst h6
  clear h1 h2
  rw [if_neg (by decide),if_neg (by decide),if_pos rfl]
  have C:∀ W,Calls Tryz.prog 249 #[dv a.n a.m,dv b.n b.m] W fun e w'=>e=.returned (.tuple #[dv _ _,.int .i64 _])∧Grew W w':=fun W=>rmul7 a b W ra rb va vb
  have H:=fun u s x W=>z3e u s x W
  clear ha hb ra rb va vb
  go_enter Tryz.func193,Tryz.ntmps193
  go_wp2_with (first
   | (go_at_call 249;refine (C _).mono ?_;rintro e w1 ⟨rfl,os1,n1,rfl⟩)
   | (go_at_call 125;refine (H _ _ _ _).mono ?_;rintro e w1 ⟨rfl,os2,n2,rfl⟩))
  refine bodyPost_ret_by (v:=rs _) ?_ rfl ⟨rfl,?_⟩
  ·simp [results,Tryz.results193,go_sem]
  ·exact gB
 by_cases h7:op=7
 ·subst h7
  clear h1 h2
  rw [if_neg (by decide),if_neg (by decide),if_neg (by decide),if_pos rfl]
  by_cases hz:b.n=0
  ·rw [if_pos hz,hz]
   show Calls _ _ _ _ fun e w'=>e=.returned (rs (z2a 0 0 33))∧_
   have C:∀ W,Calls Tryz.prog 250 #[dv a.n a.m,dv 0 b.m,.int .i64 6] W fun e w'=>e=.returned (.tuple #[dv _ _,.int .i64 _])∧Grew W w':=fun W=>rdiv_zero a.n a.m b.m 6 W ra rb rfl
   have H:=fun u s x W=>z3e u s x W
   clear ha hb ra rb va vb
   go_enter Tryz.func193,Tryz.ntmps193
   go_wp2_with (first
    | (go_at_call 250;refine (C _).mono ?_;rintro e w1 ⟨rfl,os1,n1,rfl⟩)
    | (go_at_call 125;refine (H _ _ _ _).mono ?_;rintro e w1 ⟨rfl,os2,n2,rfl⟩))
   refine bodyPost_ret_by (v:=rs _) ?_ rfl ⟨rfl,?_⟩
   ·simp [results,Tryz.results193,go_sem]
   ·exact gB
  ·rw [if_neg hz]
   have C:∀ W,Calls Tryz.prog 250 #[dv a.n a.m,dv b.n b.m,.int .i64 6] W fun e w'=>e=.returned (.tuple #[dv _ _,.int .i64 _])∧Grew W w':=fun W=>rdiv_good a.n a.m b.n b.m 6 W ra rb rfl va.1.1 va.1.2 vb.1.1 vb.1.2 hz
   have H:=fun u s x W=>z3e u s x W
   clear ha hb ra rb va vb
   go_enter Tryz.func193,Tryz.ntmps193
   go_wp2_with (first
    | (go_at_call 250;refine (C _).mono ?_;rintro e w1 ⟨rfl,os1,n1,rfl⟩)
    | (go_at_call 125;refine (H _ _ _ _).mono ?_;rintro e w1 ⟨rfl,os2,n2,rfl⟩))
   refine bodyPost_ret_by (v:=rs _) ?_ rfl ⟨rfl,?_⟩
   ·simp [results,Tryz.results193,go_sem]
   ·exact gB
 obtain rfl:op=8:=by omega
 rw [if_neg h9,if_neg h10,if_neg h6,if_neg h7]
 show Calls _ _ _ _ fun e w'=>e=.returned (rs (nul,31))∧_
 clear ha hb ra rb va vb h1 h2 h9 h10 h6 h7
 go_enter Tryz.func193,Tryz.ntmps193
 go_wp2
 refine bodyPost_ret_by (v:=rs (nul,31)) ?_ rfl ⟨rfl,?_⟩
 ·simp [results,Tryz.results193,go_sem,nul]
 ·exact gB
theorem reck_ints (op:Int) (an am bn bm:Int) (ab bb:ByteArray) (w:World) (x z:Int) (I:∀ W,Calls Tryz.prog 192 #[.int .i64 op,.int .i64 an,.int .i64 bn] W fun e w'=>e=.returned (.tuple #[.int .i64 x,.int .i64 z])∧Grew W w')  :
  Calls Tryz.prog 134 #[.int .i64 op,va 1 an am ab,va 1 bn bm bb] w fun e w'=>e=.returned (rs (z0v x z))∧Grew w w':=by
 have NB:=fun k n m b W=>z0t k n m b W
 go_enter Tryz.func134,Tryz.ntmps134
 have H:=fun n x W=>z4m n x W
 go_wp2_with (first
  | (go_at_call 121;refine (NB _ _ _ _ _).mono ?_;rintro e w1 ⟨rfl,os0,n0,rfl⟩)
  | (go_at_call 192;refine (I _).mono ?_;rintro e w1 ⟨rfl,os1,n1,rfl⟩)
  | (go_at_call 120;refine (H _ _ _).mono ?_;rintro e w1 ⟨rfl,os2,n2,rfl⟩))
 refine bodyPost_ret_by (v:=rs (z0v x z)) ?_ rfl ⟨rfl,gB⟩
 simp [results,Tryz.results134,go_sem]
theorem reck_n12 (op:Int) (an am bn bm:Int) (ab bb:ByteArray) (w:World) (r:Va × Int) (D:∀ W,Calls Tryz.prog 193 #[.int .i64 op,dv an am,dv bn bm] W fun e w'=>e=.returned (rs r)∧Grew W w')  :
  Calls Tryz.prog 134 #[.int .i64 op,va 1 an am ab,va 2 bn bm bb] w fun e w'=>e=.returned (rs r)∧Grew w w':=by
 have NB:=fun k n m b W=>z0t k n m b W
 go_enter Tryz.func134,Tryz.ntmps134
 have U:=fun k n m b W=>z3z k n m b W
 go_wp2_with (first
  | (go_at_call 121;refine (NB _ _ _ _ _).mono ?_;rintro e w1 ⟨rfl,os0,n0,rfl⟩))
 go_region_held2 (fun W=>W.cell? ⟨w.heap.size,0,none⟩=some (.int .i64 1)∧W.cell? ⟨w.heap.size,1,none⟩=some (.int .i64 an)∧W.cell? ⟨w.heap.size,2,none⟩=some (.int .i64 am)∧W.cell? ⟨w.heap.size,3,none⟩=some (.string ab) ∧
   W.cell? ⟨w.heap.size+1,0,none⟩=some (.int .i64 2)∧W.cell? ⟨w.heap.size+1,1,none⟩=some (.int .i64 bn)∧W.cell? ⟨w.heap.size+1,2,none⟩=some (.int .i64 bm)∧W.cell? ⟨w.heap.size+1,3,none⟩=some (.string bb)) (simp (maxDischargeDepth:=12) [go_sem]) (first
  | (go_at_call 127;refine (U _ _ _ _ _).mono ?_;rintro e w1 ⟨rfl,os1,n1,rfl⟩)
  | (go_at_call 193;refine (D _).mono ?_;rintro e w2 ⟨rfl,os2,n2,rfl⟩))
 go_wp2
 refine bodyPost_ret_by (v:=rs r) ?_ rfl ⟨rfl,gB⟩
 simp [results,Tryz.results134,go_sem]
theorem reck_n21 (op:Int) (an am bn bm:Int) (ab bb:ByteArray) (w:World) (r:Va × Int) (D:∀ W,Calls Tryz.prog 193 #[.int .i64 op,dv an am,dv bn bm] W fun e w'=>e=.returned (rs r)∧Grew W w')  :
  Calls Tryz.prog 134 #[.int .i64 op,va 2 an am ab,va 1 bn bm bb] w fun e w'=>e=.returned (rs r)∧Grew w w':=by
 have NB:=fun k n m b W=>z0t k n m b W
 go_enter Tryz.func134,Tryz.ntmps134
 have U:=fun k n m b W=>z3z k n m b W
 go_wp2_with (first
  | (go_at_call 121;refine (NB _ _ _ _ _).mono ?_;rintro e w1 ⟨rfl,os0,n0,rfl⟩))
 go_region_held2 (fun W=>W.cell? ⟨w.heap.size,0,none⟩=some (.int .i64 2)∧W.cell? ⟨w.heap.size,1,none⟩=some (.int .i64 an)∧W.cell? ⟨w.heap.size,2,none⟩=some (.int .i64 am)∧W.cell? ⟨w.heap.size,3,none⟩=some (.string ab) ∧
   W.cell? ⟨w.heap.size+1,0,none⟩=some (.int .i64 1)∧W.cell? ⟨w.heap.size+1,1,none⟩=some (.int .i64 bn)∧W.cell? ⟨w.heap.size+1,2,none⟩=some (.int .i64 bm)∧W.cell? ⟨w.heap.size+1,3,none⟩=some (.string bb)) (simp (maxDischargeDepth:=12) [go_sem]) (first
  | (go_at_call 127;refine (U _ _ _ _ _).mono ?_;rintro e w1 ⟨rfl,os1,n1,rfl⟩)
  | (go_at_call 193;refine (D _).mono ?_;rintro e w2 ⟨rfl,os2,n2,rfl⟩))
 go_wp2
 refine bodyPost_ret_by (v:=rs r) ?_ rfl ⟨rfl,gB⟩
 simp [results,Tryz.results134,go_sem]
theorem reck_n22 (op:Int) (an am bn bm:Int) (ab bb:ByteArray) (w:World) (r:Va × Int) (D:∀ W,Calls Tryz.prog 193 #[.int .i64 op,dv an am,dv bn bm] W fun e w'=>e=.returned (rs r)∧Grew W w')  :
  Calls Tryz.prog 134 #[.int .i64 op,va 2 an am ab,va 2 bn bm bb] w fun e w'=>e=.returned (rs r)∧Grew w w':=by
 have NB:=fun k n m b W=>z0t k n m b W
 go_enter Tryz.func134,Tryz.ntmps134
 have U:=fun k n m b W=>z3z k n m b W
 go_wp2_with (first
  | (go_at_call 121;refine (NB _ _ _ _ _).mono ?_;rintro e w1 ⟨rfl,os0,n0,rfl⟩))
 go_region_held2 (fun W=>W.cell? ⟨w.heap.size,0,none⟩=some (.int .i64 2)∧W.cell? ⟨w.heap.size,1,none⟩=some (.int .i64 an)∧W.cell? ⟨w.heap.size,2,none⟩=some (.int .i64 am)∧W.cell? ⟨w.heap.size,3,none⟩=some (.string ab) ∧
   W.cell? ⟨w.heap.size+1,0,none⟩=some (.int .i64 2)∧W.cell? ⟨w.heap.size+1,1,none⟩=some (.int .i64 bn)∧W.cell? ⟨w.heap.size+1,2,none⟩=some (.int .i64 bm)∧W.cell? ⟨w.heap.size+1,3,none⟩=some (.string bb)) (simp (maxDischargeDepth:=12) [go_sem]) (first
  | (go_at_call 127;refine (U _ _ _ _ _).mono ?_;rintro e w1 ⟨rfl,os1,n1,rfl⟩)
  | (go_at_call 193;refine (D _).mono ?_;rintro e w2 ⟨rfl,os2,n2,rfl⟩))
 go_wp2
 refine bodyPost_ret_by (v:=rs r) ?_ rfl ⟨rfl,gB⟩
 simp [results,Tryz.results134,go_sem]
theorem reck_pts (op:Int) (an am bn bm:Int) (ab bb:ByteArray) (w:World) (r:Va × Int) (D:∀ W,Calls Tryz.prog 194 #[.int .i64 op,dv an am,dv bn bm] W fun e w'=>e=.returned (rs r)∧Grew W w')  :
  Calls Tryz.prog 134 #[.int .i64 op,va 5 an am ab,va 5 bn bm bb] w fun e w'=>e=.returned (rs r)∧Grew w w':=by
 have NB:=fun k n m b W=>z0t k n m b W
 go_enter Tryz.func134,Tryz.ntmps134
 have U:=fun k n m b W=>z7f k n m b W
 go_wp2_with (first
  | (go_at_call 121;refine (NB _ _ _ _ _).mono ?_;rintro e w1 ⟨rfl,os0,n0,rfl⟩))
 go_region_held2 (fun W=>W.cell? ⟨w.heap.size,0,none⟩=some (.int .i64 5)∧W.cell? ⟨w.heap.size,1,none⟩=some (.int .i64 an)∧W.cell? ⟨w.heap.size,2,none⟩=some (.int .i64 am)∧W.cell? ⟨w.heap.size,3,none⟩=some (.string ab) ∧
   W.cell? ⟨w.heap.size+1,0,none⟩=some (.int .i64 5)∧W.cell? ⟨w.heap.size+1,1,none⟩=some (.int .i64 bn)∧W.cell? ⟨w.heap.size+1,2,none⟩=some (.int .i64 bm)∧W.cell? ⟨w.heap.size+1,3,none⟩=some (.string bb)) (simp (maxDischargeDepth:=12) [go_sem]) (first
  | (go_at_call 123;refine (U _ _ _ _ _).mono ?_;rintro e w1 ⟨rfl,os1,n1,rfl⟩)
  | (go_at_call 194;refine (D _).mono ?_;rintro e w2 ⟨rfl,os2,n2,rfl⟩))
 go_wp2
 refine bodyPost_ret_by (v:=rs r) ?_ rfl ⟨rfl,gB⟩
 simp [results,Tryz.results134,go_sem]
theorem reck_over (an am bn bm:Int) (ab bb:ByteArray) (w:World) (hs:(256:Int)<(ab.size:Int)+(bb.size:Int)) (hw:IntKind.i64.wrap ((ab.size:Int)+(bb.size:Int))=(ab.size:Int)+(bb.size:Int))  :
  Calls Tryz.prog 134 #[.int .i64 9,va 3 an am ab,va 3 bn bm bb] w fun e w'=>e=.returned (.tuple #[va 0 0 0 ⟨#[]⟩,.int .i64 32])∧Grew w w':=by
 have NB:=fun k n m b W=>z0t k n m b W
 go_enter Tryz.func134,Tryz.ntmps134
 go_wp2_with (first
  | (go_at_call 121;refine (NB _ _ _ _ _).mono ?_;rintro e w1 ⟨rfl,os0,n0,rfl⟩))
 refine bodyPost_ret_by (v:=.tuple #[va 0 0 0 ⟨#[]⟩,.int .i64 32]) ?_ rfl ⟨rfl,gB⟩
 simp [results,Tryz.results134,go_sem]
theorem reck_join (an am bn bm:Int) (ab bb:ByteArray) (w:World) (hs:¬ (256:Int)<(ab.size:Int)+(bb.size:Int)) (hw:IntKind.i64.wrap ((ab.size:Int)+(bb.size:Int))=(ab.size:Int)+(bb.size:Int))  :
  Calls Tryz.prog 134 #[.int .i64 9,va 3 an am ab,va 3 bn bm bb] w fun e w'=>e=.returned (.tuple #[va 3 0 0 (ab++bb),.int .i64 0])∧Grew w w':=by
 have NB:=fun k n m b W=>z0t k n m b W
 go_enter Tryz.func134,Tryz.ntmps134
 go_wp2_with (first
  | (go_at_call 121;refine (NB _ _ _ _ _).mono ?_;rintro e w1 ⟨rfl,os0,n0,rfl⟩))
 refine bodyPost_ret_by (v:=.tuple #[va 3 0 0 (ab++bb),.int .i64 0]) ?_ rfl ⟨rfl,gB⟩
 simp [results,Tryz.results134,go_sem]
theorem reck_txt (op:Int) (an am bn bm:Int) (ab bb:ByteArray) (w:World) (e9:(op==9)=false)  :
  Calls Tryz.prog 134 #[.int .i64 op,va 3 an am ab,va 3 bn bm bb] w fun e w'=>e=.returned (.tuple #[va 0 0 0 ⟨#[]⟩,.int .i64 31])∧Grew w w':=by
 have NB:=fun k n m b W=>z0t k n m b W
 go_enter Tryz.func134,Tryz.ntmps134
 go_wp2_with (first
  | (go_at_call 121;refine (NB _ _ _ _ _).mono ?_;rintro e w1 ⟨rfl,os0,n0,rfl⟩))
 refine bodyPost_ret_by (v:=.tuple #[va 0 0 0 ⟨#[]⟩,.int .i64 31]) ?_ rfl ⟨rfl,gB⟩
 simp [results,Tryz.results134,go_sem]
theorem reck_o1 (op:Int) (bk:Int) (an am bn bm:Int) (ab bb:ByteArray) (w:World) (e1:(bk==1)=false) (e2:(bk==2)=false)  :
  Calls Tryz.prog 134 #[.int .i64 op,va 1 an am ab,va bk bn bm bb] w fun e w'=>e=.returned (.tuple #[va 0 0 0 ⟨#[]⟩,.int .i64 31])∧Grew w w':=by
 have NB:=fun k n m b W=>z0t k n m b W
 go_enter Tryz.func134,Tryz.ntmps134
 go_wp2_with (first
  | (go_at_call 121;refine (NB _ _ _ _ _).mono ?_;rintro e w1 ⟨rfl,os0,n0,rfl⟩))
 refine bodyPost_ret_by (v:=.tuple #[va 0 0 0 ⟨#[]⟩,.int .i64 31]) ?_ rfl ⟨rfl,gB⟩
 simp [results,Tryz.results134,go_sem]
theorem reck_o2 (op:Int) (bk:Int) (an am bn bm:Int) (ab bb:ByteArray) (w:World) (e1:(bk==1)=false) (e2:(bk==2)=false)  :
  Calls Tryz.prog 134 #[.int .i64 op,va 2 an am ab,va bk bn bm bb] w fun e w'=>e=.returned (.tuple #[va 0 0 0 ⟨#[]⟩,.int .i64 31])∧Grew w w':=by
 have NB:=fun k n m b W=>z0t k n m b W
 go_enter Tryz.func134,Tryz.ntmps134
 go_wp2_with (first
  | (go_at_call 121;refine (NB _ _ _ _ _).mono ?_;rintro e w1 ⟨rfl,os0,n0,rfl⟩))
 refine bodyPost_ret_by (v:=.tuple #[va 0 0 0 ⟨#[]⟩,.int .i64 31]) ?_ rfl ⟨rfl,gB⟩
 simp [results,Tryz.results134,go_sem]
theorem reck_o3 (op:Int) (bk:Int) (an am bn bm:Int) (ab bb:ByteArray) (w:World) (e3:(bk==3)=false)  :
  Calls Tryz.prog 134 #[.int .i64 op,va 3 an am ab,va bk bn bm bb] w fun e w'=>e=.returned (.tuple #[va 0 0 0 ⟨#[]⟩,.int .i64 31])∧Grew w w':=by
 have NB:=fun k n m b W=>z0t k n m b W
 go_enter Tryz.func134,Tryz.ntmps134
 go_wp2_with (first
  | (go_at_call 121;refine (NB _ _ _ _ _).mono ?_;rintro e w1 ⟨rfl,os0,n0,rfl⟩))
 refine bodyPost_ret_by (v:=.tuple #[va 0 0 0 ⟨#[]⟩,.int .i64 31]) ?_ rfl ⟨rfl,gB⟩
 simp [results,Tryz.results134,go_sem]
theorem reck_o4 (op:Int) (bk:Int) (an am bn bm:Int) (ab bb:ByteArray) (w:World)   :
  Calls Tryz.prog 134 #[.int .i64 op,va 4 an am ab,va bk bn bm bb] w fun e w'=>e=.returned (.tuple #[va 0 0 0 ⟨#[]⟩,.int .i64 31])∧Grew w w':=by
 have NB:=fun k n m b W=>z0t k n m b W
 go_enter Tryz.func134,Tryz.ntmps134
 go_wp2_with (first
  | (go_at_call 121;refine (NB _ _ _ _ _).mono ?_;rintro e w1 ⟨rfl,os0,n0,rfl⟩))
 refine bodyPost_ret_by (v:=.tuple #[va 0 0 0 ⟨#[]⟩,.int .i64 31]) ?_ rfl ⟨rfl,gB⟩
 simp [results,Tryz.results134,go_sem]
theorem reck_o5 (op:Int) (bk:Int) (an am bn bm:Int) (ab bb:ByteArray) (w:World) (e5:(bk==5)=false)  :
  Calls Tryz.prog 134 #[.int .i64 op,va 5 an am ab,va bk bn bm bb] w fun e w'=>e=.returned (.tuple #[va 0 0 0 ⟨#[]⟩,.int .i64 31])∧Grew w w':=by
 have NB:=fun k n m b W=>z0t k n m b W
 go_enter Tryz.func134,Tryz.ntmps134
 go_wp2_with (first
  | (go_at_call 121;refine (NB _ _ _ _ _).mono ?_;rintro e w1 ⟨rfl,os0,n0,rfl⟩))
 refine bodyPost_ret_by (v:=.tuple #[va 0 0 0 ⟨#[]⟩,.int .i64 31]) ?_ rfl ⟨rfl,gB⟩
 simp [results,Tryz.results134,go_sem]
end Go.Proofs.YtibbenhplmmmiaaGreatDoor
