/-
  The contracts of datum.byNumber and datum.Compare.
-/
import Derived.Test.YtljkonkfeiojnaaGreatDoorMzVCmp
import Derived.Test.YtljkonkfeiojnaaGreatDoorDCmp
set_option maxHeartbeats 4000000
namespace Go.Proofs.YtljkonkfeiojnaaGreatDoor
open Go.RowKit Go.Shelf
attribute [local go_sem] z0f z0b z0c z0e z0m z0k z0h z0d z0g
theorem Pw.below {w w':World} (h:Pw w) (hb:Below w.heap.size w w'):Pw w':=fun k hk=>by rw [hb.cell (p:=⟨2,k,none⟩) h.pos];exact h k hk
theorem sgn_pos_mul (x p:Int) (h:0<p):(x*p).sign=x.sign:=by rw [Int.sign_mul,Int.sign_eq_one_of_pos h,Int.mul_one]
theorem at10_at10 (u s t r:Int) (h1:s≤t) (h2:t≤r):at10 (at10 u s t) t r=at10 u s r:=by
 unfold at10
 rw [show (r - s).toNat=(t - s).toNat+(r - t).toNat by omega,Nat.pow_add,Int.natCast_mul,Int.mul_assoc]
theorem at10_pos (t r:Int):(0:Int)<(10^(r - t).toNat:Nat):=by have:0<10^(r - t).toNat:=Nat.pow_pos (by decide);omega
theorem sgn_six (ua sa ub sb t:Int) (h1:sa≤t) (h2:sb≤t) (h3:t≤6):(at10 ua sa t - at10 ub sb t).sign=(at10 ua sa 6 - at10 ub sb 6).sign:=by
 rw [← at10_at10 ua sa t 6 h1 h3,← at10_at10 ub sb t 6 h2 h3]
 have e:at10 (at10 ua sa t) t 6 - at10 (at10 ub sb t) t 6=(at10 ua sa t - at10 ub sb t)*(10^(6 - t).toNat:Nat):=by
  unfold at10;rw [Int.sub_mul]
 rw [e,sgn_pos_mul _ _ (at10_pos t 6)]
theorem sgn_numc (a b:Int):(a - b).sign=numc a b:=by
 unfold numc
 by_cases h:a<b
 ·rw [if_pos h,Int.sign_eq_neg_one_of_neg (by omega)]
 ·by_cases h':a > b
  ·rw [if_neg h,if_pos h',Int.sign_eq_one_of_pos (by omega)]
  ·rw [if_neg h,if_neg h',show a - b=0 by omega];rfl
theorem at10_six (v:Va):at10 v.n v.m 6=at6 v:=by
 unfold at10 at6
 rw [Int.natCast_pow]
 rfl
theorem dcmp_six (a b:Va) (w:World) (hP:Pw w) (ha:0≤a.m∧a.m≤6) (hb:0≤b.m∧b.m≤6) (va:vin a) (vb:vin b) :
  Calls Tryz.prog 166 #[dv a.n a.m,dv b.n b.m] w fun e w'=>e=.returned (.int .i64 (numc (at6 a) (at6 b)))∧Grew w w':=by
 rw [← at10_six a,← at10_six b,← sgn_numc]
 have ha':=(z1f a.m).2 ha
 have hb':=(z1f b.m).2 hb
 by_cases hs:b.m≤a.m
 ·rw [← sgn_six a.n a.m b.n b.m a.m (Int.le_refl _) hs ha.2]
  exact cmp_good a.n a.m b.n b.m a.m w hP ha' hb' (.inl ⟨rfl,hs⟩) va.1.1 va.1.2 vb.1.1 vb.1.2
 ·rw [← sgn_six a.n a.m b.n b.m b.m (by omega) (Int.le_refl _) hb.2]
  exact cmp_good a.n a.m b.n b.m b.m w hP ha' hb' (.inr ⟨rfl,by omega⟩) va.1.1 va.1.2 vb.1.1 vb.1.2
theorem byNumber_any (k n m:Int) (b:ByteArray) (k' n' m':Int) (b':ByteArray) (c:Int) (w:World)
  (D:∀ W,Grew w W→Calls Tryz.prog 166 #[dv n m,dv n' m'] W fun e w'=>e=.returned (.int .i64 c)∧Grew W w') :
  Calls Tryz.prog 172 #[va k n m b,va k' n' m' b'] w fun e w'=>e=.returned (.int .i64 (orL [c,numc k k',numc m m']))∧Grew w w':=by
 have I:=fun x y W=>cmpI_any x y W
 have U:=fun W=>z6w k n m b W
 have U':=fun W=>z6w k' n' m' b' W
 have O:=fun (zs:List Int) (p:Nat) (W:World)=>or_of p 3 zs W
 go_enter Tryz.func172,Tryz.ntmps172
 go_upto_region 1 with fail
 go_region_held2 (fun W=>W.cell? ⟨w.heap.size,0,none⟩=some (.int .i64 k)∧W.cell? ⟨w.heap.size,1,none⟩=some (.int .i64 n)∧W.cell? ⟨w.heap.size,2,none⟩=some (.int .i64 m)∧W.cell? ⟨w.heap.size,3,none⟩=some (.string b) ∧
   W.cell? ⟨w.heap.size+1,0,none⟩=some (.int .i64 k')∧W.cell? ⟨w.heap.size+1,1,none⟩=some (.int .i64 n')∧W.cell? ⟨w.heap.size+1,2,none⟩=some (.int .i64 m')∧W.cell? ⟨w.heap.size+1,3,none⟩=some (.string b')) (simp (maxDischargeDepth:=12) [go_sem]) (first
  | (go_at_call 162;refine (I _ _ _).mono ?_;rintro e w' ⟨rfl,rfl⟩)
  | (go_at_call 47;refine (z6w _ _ _ _ _).mono ?_;rintro e w1 ⟨rfl,os1,n1,rfl⟩)
  | (go_at_call 166;refine (D _ gB).mono ?_;rintro e w2 ⟨rfl,os2,n2,rfl⟩)
  | (go_at_call 197;refine (O [c,numc k k',numc m m'] _ _ rfl (by decide) (by intro i hi;match i,hi with
    | 0,_=>simp [go_sem]
    | 1,_=>simp [go_sem]
    | 2,_=>simp [go_sem])).mono ?_;rintro e w' ⟨rfl,rfl⟩))
 go_wp2
 go_ret
 exact ⟨rfl,gA⟩
def pcmp (a b:Va):Int :=
 if isn a∧isn b∧vr a=true∧vr b=true then orL [numc (at6 a) (at6 b),numc a.k b.k,numc a.m b.m]
 else orL [numc a.k b.k,numc a.n b.n,numc a.m b.m,lexc a.b b.b]
theorem num_scale {v:Va} (h:isn v) (hv:vr v=true):0≤v.m∧v.m≤6:=by
 have:=(z3u v).1 hv
 simp only [vok,isn] at *
 omega
theorem two_boxes (w:World) (a b:Va):Box ((w.alloc (.cells #[.int .i64 a.k,.int .i64 a.n,.int .i64 a.m,.string ⟨a.b.toArray⟩] 44)).alloc (.cells #[.int .i64 b.k,.int .i64 b.n,.int .i64 b.m,.string ⟨b.b.toArray⟩] 44)) w.heap.size a∧Box ((w.alloc (.cells #[.int .i64 a.k,.int .i64 a.n,.int .i64 a.m,.string ⟨a.b.toArray⟩] 44)).alloc (.cells #[.int .i64 b.k,.int .i64 b.n,.int .i64 b.m,.string ⟨b.b.toArray⟩] 44)) (w.heap.size+1) b∧Below w.heap.size w ((w.alloc (.cells #[.int .i64 a.k,.int .i64 a.n,.int .i64 a.m,.string ⟨a.b.toArray⟩] 44)).alloc (.cells #[.int .i64 b.k,.int .i64 b.n,.int .i64 b.m,.string ⟨b.b.toArray⟩] 44)):=by
 have h1:=Box.new w a.k a.n a.m a.b
 have h2:=Box.new (w.alloc (.cells #[.int .i64 a.k,.int .i64 a.n,.int .i64 a.m,.string ⟨a.b.toArray⟩] 44)) b.k b.n b.m b.b
 refine ⟨h1.later ((Below.refl _ _).alloc (Nat.le_refl _) _),?_,((Below.refl _ w).alloc (Nat.le_refl _) _).alloc (by simp) _⟩
 simp only [World.size_alloc] at h2
 exact h2
theorem compare_any (a b:Va) (w:World) (hT:Tabs w) (hP:Pw w) (va:vin a) (vb:vin b) :
  Calls Tryz.prog 125 #[vv a,vv b] w fun e w'=>e=.returned (.int .i64 (pcmp a b))∧Below w.heap.size w w':=by
 obtain ⟨bxa,bxb,Bw⟩:=two_boxes w a b
 have hT0:=hT.later Bw
 have hP0:=hP.below Bw
 have e1:(a.k==1 || a.k==2)=decide (isn a):=by unfold isn;by_cases h:a.k=1 <;> by_cases h':a.k=2 <;> simp [h,h']
 have e2:(b.k==1 || b.k==2)=decide (isn b):=by unfold isn;by_cases h:b.k=1 <;> by_cases h':b.k=2 <;> simp [h,h']
 have W0:∀ w0,Tabs w0→Pw w0 →
   (∀ W,Below w0.heap.size w0 W→Calls Tryz.prog 171 #[vv a] W fun e w'=>e=.returned (.bool (decide (isn a)))∧Below W.heap.size W w') ∧
   (∀ W,Below w0.heap.size w0 W→Calls Tryz.prog 171 #[vv b] W fun e w'=>e=.returned (.bool (decide (isn b)))∧Below W.heap.size W w') ∧
   (∀ W,Below w0.heap.size w0 W→Calls Tryz.prog 22 #[vv a] W fun e w'=>e=.returned (.bool (vr a))∧Below W.heap.size W w') ∧
   (∀ W,Below w0.heap.size w0 W→Calls Tryz.prog 22 #[vv b] W fun e w'=>e=.returned (.bool (vr b))∧Below W.heap.size W w') ∧
   (∀ W,Below w0.heap.size w0 W→Calls Tryz.prog 173 #[vv a,vv b] W fun e w'=>e=.returned (.int .i64 (orL [numc a.k b.k,numc a.n b.n,numc a.m b.m,lexc a.b b.b]))∧Below W.heap.size W w') ∧
   (isn a→isn b→vr a=true→vr b=true→∀ W,Below w0.heap.size w0 W→Calls Tryz.prog 172 #[vv a,vv b] W fun e w'=>e=.returned (.int .i64 (orL [numc (at6 a) (at6 b),numc a.k b.k,numc a.m b.m]))∧Below W.heap.size W w'):=by
  intro w0 t0 p0
  refine ⟨fun W _=>(z9a a.k a.n a.m ⟨a.b.toArray⟩ W).mono ?_,fun W _=>(z9a b.k b.n b.m ⟨b.b.toArray⟩ W).mono ?_,fun W h=>z2u _ _ _ _ W (t0.later h),fun W h=>z2u _ _ _ _ W (t0.later h),
   fun W _=>(byParts_any _ _ _ _ _ _ _ _ W).mono fun _ _ h=>⟨h.1,h.2.below⟩,fun ha hb hra hrb W h=>(byNumber_any a.k a.n a.m ⟨a.b.toArray⟩ b.k b.n b.m ⟨b.b.toArray⟩ (numc (at6 a) (at6 b)) W (fun W' h'=>dcmp_six a b W' ((p0.below h).later h') (num_scale ha hra) (num_scale hb hrb) va vb)).mono fun _ _ h=>⟨h.1,h.2.below⟩⟩
  ·rintro e w' ⟨rfl,h⟩
   exact ⟨by rw [e1],h.below⟩
  ·rintro e w' ⟨rfl,h⟩
   exact ⟨by rw [e2],h.below⟩
 obtain ⟨Na,Nb,Ra,Rb,Pp,Bn⟩:=W0 _ hT0 hP0
 clear W0 hT0 hP0 hT hP va vb e1 e2
 unfold pcmp
 by_cases ha:isn a
 ·rw [decide_eq_true ha] at Na
  by_cases hb:isn b
  ·rw [decide_eq_true hb] at Nb
   by_cases hra:vr a=true
   ·rw [hra] at Ra
    by_cases hrb:vr b=true
    ·rw [hrb] at Rb
     rw [if_pos ⟨ha,hb,hra,hrb⟩]
     have Bn':=Bn ha hb hra hrb
     clear Bn Pp ha hb hra hrb
     go_enter Tryz.func125,Tryz.ntmps125
     go_upto_region 1 with fail
     generalize (w.alloc (.cells #[.int .i64 a.k,.int .i64 a.n,.int .i64 a.m,.string ⟨a.b.toArray⟩] 44)).alloc (.cells #[.int .i64 b.k,.int .i64 b.n,.int .i64 b.m,.string ⟨b.b.toArray⟩] 44)=w0 at *
     have B0:Below w0.heap.size w0 w0:=Below.refl _ _
     obtain ⟨a0,a1,a2,a3⟩:=bxa.at4
     obtain ⟨b0,b1,b2,b3⟩:=bxb.at4
     go_wp2_with fail
     refine (Na _ B0).mono ?_
     rintro e w1 ⟨rfl,c0⟩
     have B1:=z0a B0 c0
     clear a0 a1 a2 a3 b0 b1 b2 b3 c0
     obtain ⟨a0,a1,a2,a3⟩:=(bxa.later B1).at4
     obtain ⟨b0,b1,b2,b3⟩:=(bxb.later B1).at4
     go_wp2_with fail
     refine (Nb _ B1).mono ?_
     rintro e w2 ⟨rfl,c1⟩
     have B2:=z0a B1 c1
     clear a0 a1 a2 a3 b0 b1 b2 b3 c1
     obtain ⟨a0,a1,a2,a3⟩:=(bxa.later B2).at4
     obtain ⟨b0,b1,b2,b3⟩:=(bxb.later B2).at4
     go_wp2_with fail
     refine (Ra _ B2).mono ?_
     rintro e w3 ⟨rfl,c2⟩
     have B3:=z0a B2 c2
     clear a0 a1 a2 a3 b0 b1 b2 b3 c2
     obtain ⟨a0,a1,a2,a3⟩:=(bxa.later B3).at4
     obtain ⟨b0,b1,b2,b3⟩:=(bxb.later B3).at4
     go_wp2_with fail
     refine (Rb _ B3).mono ?_
     rintro e w4 ⟨rfl,c3⟩
     have B4:=z0a B3 c3
     clear a0 a1 a2 a3 b0 b1 b2 b3 c3
     obtain ⟨a0,a1,a2,a3⟩:=(bxa.later B4).at4
     obtain ⟨b0,b1,b2,b3⟩:=(bxb.later B4).at4
     go_wp2_with fail
     refine (Bn' _ B4).mono ?_
     rintro e w5 ⟨rfl,c4⟩
     have B5:=z0a B4 c4
     clear a0 a1 a2 a3 b0 b1 b2 b3 c4
     obtain ⟨a0,a1,a2,a3⟩:=(bxa.later B5).at4
     obtain ⟨b0,b1,b2,b3⟩:=(bxb.later B5).at4
     go_wp2
     go_ret
     exact ⟨rfl,z0a Bw B5⟩
    ·rw [if_neg (fun h=>hrb h.2.2.2)]
     rw [Bool.not_eq_true] at hrb
     rw [hrb] at Rb
     clear Bn ha hb hra hrb
     go_enter Tryz.func125,Tryz.ntmps125
     go_upto_region 1 with fail
     generalize (w.alloc (.cells #[.int .i64 a.k,.int .i64 a.n,.int .i64 a.m,.string ⟨a.b.toArray⟩] 44)).alloc (.cells #[.int .i64 b.k,.int .i64 b.n,.int .i64 b.m,.string ⟨b.b.toArray⟩] 44)=w0 at *
     have B0:Below w0.heap.size w0 w0:=Below.refl _ _
     obtain ⟨a0,a1,a2,a3⟩:=bxa.at4
     obtain ⟨b0,b1,b2,b3⟩:=bxb.at4
     go_wp2_with fail
     refine (Na _ B0).mono ?_
     rintro e w1 ⟨rfl,c0⟩
     have B1:=z0a B0 c0
     clear a0 a1 a2 a3 b0 b1 b2 b3 c0
     obtain ⟨a0,a1,a2,a3⟩:=(bxa.later B1).at4
     obtain ⟨b0,b1,b2,b3⟩:=(bxb.later B1).at4
     go_wp2_with fail
     refine (Nb _ B1).mono ?_
     rintro e w2 ⟨rfl,c1⟩
     have B2:=z0a B1 c1
     clear a0 a1 a2 a3 b0 b1 b2 b3 c1
     obtain ⟨a0,a1,a2,a3⟩:=(bxa.later B2).at4
     obtain ⟨b0,b1,b2,b3⟩:=(bxb.later B2).at4
     go_wp2_with fail
     refine (Ra _ B2).mono ?_
     rintro e w3 ⟨rfl,c2⟩
     have B3:=z0a B2 c2
     clear a0 a1 a2 a3 b0 b1 b2 b3 c2
     obtain ⟨a0,a1,a2,a3⟩:=(bxa.later B3).at4
     obtain ⟨b0,b1,b2,b3⟩:=(bxb.later B3).at4
     go_wp2_with fail
     refine (Rb _ B3).mono ?_
     rintro e w4 ⟨rfl,c3⟩
     have B4:=z0a B3 c3
     clear a0 a1 a2 a3 b0 b1 b2 b3 c3
     obtain ⟨a0,a1,a2,a3⟩:=(bxa.later B4).at4
     obtain ⟨b0,b1,b2,b3⟩:=(bxb.later B4).at4
     go_wp2_with fail
     refine (Pp _ B4).mono ?_
     rintro e w5 ⟨rfl,c4⟩
     have B5:=z0a B4 c4
     clear a0 a1 a2 a3 b0 b1 b2 b3 c4
     obtain ⟨a0,a1,a2,a3⟩:=(bxa.later B5).at4
     obtain ⟨b0,b1,b2,b3⟩:=(bxb.later B5).at4
     go_wp2
     go_ret
     exact ⟨rfl,z0a Bw B5⟩
   ·rw [if_neg (fun h=>hra h.2.2.1)]
    rw [Bool.not_eq_true] at hra
    rw [hra] at Ra
    clear Bn ha hb hra
    go_enter Tryz.func125,Tryz.ntmps125
    go_upto_region 1 with fail
    generalize (w.alloc (.cells #[.int .i64 a.k,.int .i64 a.n,.int .i64 a.m,.string ⟨a.b.toArray⟩] 44)).alloc (.cells #[.int .i64 b.k,.int .i64 b.n,.int .i64 b.m,.string ⟨b.b.toArray⟩] 44)=w0 at *
    have B0:Below w0.heap.size w0 w0:=Below.refl _ _
    obtain ⟨a0,a1,a2,a3⟩:=bxa.at4
    obtain ⟨b0,b1,b2,b3⟩:=bxb.at4
    go_wp2_with fail
    refine (Na _ B0).mono ?_
    rintro e w1 ⟨rfl,c0⟩
    have B1:=z0a B0 c0
    clear a0 a1 a2 a3 b0 b1 b2 b3 c0
    obtain ⟨a0,a1,a2,a3⟩:=(bxa.later B1).at4
    obtain ⟨b0,b1,b2,b3⟩:=(bxb.later B1).at4
    go_wp2_with fail
    refine (Nb _ B1).mono ?_
    rintro e w2 ⟨rfl,c1⟩
    have B2:=z0a B1 c1
    clear a0 a1 a2 a3 b0 b1 b2 b3 c1
    obtain ⟨a0,a1,a2,a3⟩:=(bxa.later B2).at4
    obtain ⟨b0,b1,b2,b3⟩:=(bxb.later B2).at4
    go_wp2_with fail
    refine (Ra _ B2).mono ?_
    rintro e w3 ⟨rfl,c2⟩
    have B3:=z0a B2 c2
    clear a0 a1 a2 a3 b0 b1 b2 b3 c2
    obtain ⟨a0,a1,a2,a3⟩:=(bxa.later B3).at4
    obtain ⟨b0,b1,b2,b3⟩:=(bxb.later B3).at4
    go_wp2_with fail
    refine (Pp _ B3).mono ?_
    rintro e w4 ⟨rfl,c3⟩
    have B4:=z0a B3 c3
    clear a0 a1 a2 a3 b0 b1 b2 b3 c3
    obtain ⟨a0,a1,a2,a3⟩:=(bxa.later B4).at4
    obtain ⟨b0,b1,b2,b3⟩:=(bxb.later B4).at4
    go_wp2
    go_ret
    exact ⟨rfl,z0a Bw B4⟩
  ·rw [if_neg (fun h=>hb h.2.1)]
   rw [decide_eq_false hb] at Nb
   clear Bn ha hb
   go_enter Tryz.func125,Tryz.ntmps125
   go_upto_region 1 with fail
   generalize (w.alloc (.cells #[.int .i64 a.k,.int .i64 a.n,.int .i64 a.m,.string ⟨a.b.toArray⟩] 44)).alloc (.cells #[.int .i64 b.k,.int .i64 b.n,.int .i64 b.m,.string ⟨b.b.toArray⟩] 44)=w0 at *
   have B0:Below w0.heap.size w0 w0:=Below.refl _ _
   obtain ⟨a0,a1,a2,a3⟩:=bxa.at4
   obtain ⟨b0,b1,b2,b3⟩:=bxb.at4
   go_wp2_with fail
   refine (Na _ B0).mono ?_
   rintro e w1 ⟨rfl,c0⟩
   have B1:=z0a B0 c0
   clear a0 a1 a2 a3 b0 b1 b2 b3 c0
   obtain ⟨a0,a1,a2,a3⟩:=(bxa.later B1).at4
   obtain ⟨b0,b1,b2,b3⟩:=(bxb.later B1).at4
   go_wp2_with fail
   refine (Nb _ B1).mono ?_
   rintro e w2 ⟨rfl,c1⟩
   have B2:=z0a B1 c1
   clear a0 a1 a2 a3 b0 b1 b2 b3 c1
   obtain ⟨a0,a1,a2,a3⟩:=(bxa.later B2).at4
   obtain ⟨b0,b1,b2,b3⟩:=(bxb.later B2).at4
   go_wp2_with fail
   refine (Pp _ B2).mono ?_
   rintro e w3 ⟨rfl,c2⟩
   have B3:=z0a B2 c2
   clear a0 a1 a2 a3 b0 b1 b2 b3 c2
   obtain ⟨a0,a1,a2,a3⟩:=(bxa.later B3).at4
   obtain ⟨b0,b1,b2,b3⟩:=(bxb.later B3).at4
   go_wp2
   go_ret
   exact ⟨rfl,z0a Bw B3⟩
 ·rw [if_neg (fun h=>ha h.1)]
  rw [decide_eq_false ha] at Na
  clear Bn ha
  go_enter Tryz.func125,Tryz.ntmps125
  go_upto_region 1 with fail
  generalize (w.alloc (.cells #[.int .i64 a.k,.int .i64 a.n,.int .i64 a.m,.string ⟨a.b.toArray⟩] 44)).alloc (.cells #[.int .i64 b.k,.int .i64 b.n,.int .i64 b.m,.string ⟨b.b.toArray⟩] 44)=w0 at *
  have B0:Below w0.heap.size w0 w0:=Below.refl _ _
  obtain ⟨a0,a1,a2,a3⟩:=bxa.at4
  obtain ⟨b0,b1,b2,b3⟩:=bxb.at4
  go_wp2_with fail
  refine (Na _ B0).mono ?_
  rintro e w1 ⟨rfl,c0⟩
  have B1:=z0a B0 c0
  clear a0 a1 a2 a3 b0 b1 b2 b3 c0
  obtain ⟨a0,a1,a2,a3⟩:=(bxa.later B1).at4
  obtain ⟨b0,b1,b2,b3⟩:=(bxb.later B1).at4
  go_wp2_with fail
  refine (Pp _ B1).mono ?_
  rintro e w2 ⟨rfl,c1⟩
  have B2:=z0a B1 c1
  clear a0 a1 a2 a3 b0 b1 b2 b3 c1
  obtain ⟨a0,a1,a2,a3⟩:=(bxa.later B2).at4
  obtain ⟨b0,b1,b2,b3⟩:=(bxb.later B2).at4
  go_wp2
  go_ret
  exact ⟨rfl,z0a Bw B2⟩
end Go.Proofs.YtljkonkfeiojnaaGreatDoor
