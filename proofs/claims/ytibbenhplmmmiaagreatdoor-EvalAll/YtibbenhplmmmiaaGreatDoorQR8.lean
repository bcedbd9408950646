/-
  The document's answers for eval: Binary, whole: as the program's.
-/
import Derived.Test.YtibbenhplmmmiaaGreatDoorMVQR5
import Derived.Test.YtibbenhplmmmiaaGreatDoorMEQRF0
import Derived.Test.YtibbenhplmmmiaaGreatDoorMDQFun2
import Derived.Test.YtibbenhplmmmiaaGreatDoorDRef9
import Derived.Test.YtibbenhplmmmiaaGreatDoorVOrd2
set_option maxHeartbeats 1000000
namespace Go.Proofs.YtibbenhplmmmiaaGreatDoor
open Go.RowKit Go.Shelf
def reckR (op:Int) (a b:Va):Va × Int :=
 if a.k=1∧b.k=1 then intsR op a.n b.n
 else if isn a∧isn b then z9s op a b
 else if a.k=5∧b.k=5 then ptsR op a b
 else if a.k=3∧b.k=3 then txtR op a b
 else if a.k=4∧b.k=4 then cmpR op (pcmp a b)
 else (nul,31)
theorem cmp_31 (op c:Int) (h:op≤10):cmpR op c=(nul,31):=by
 unfold cmpR
 rw [if_neg (by omega),if_neg (by omega),if_neg (by omega),if_neg (by omega),if_neg (by omega),if_neg (by omega)]
theorem rreckon_any (op:Int) (a b:Va) (w:World) (h1:6≤op) (h2:op≤10) (ha:vr a=true) (hb:vr b=true) (a0:¬ a.k=0) (ia:vin a) (ib:vin b) :
  Calls Tryz.prog 134 #[.int .i64 op,vv a,vv b] w fun e w'=>e=.returned (rs (reckR op a b))∧Grew w w':=by
 have va':=(z2f a).1 ha
 have vb':=(z2f b).1 hb
 obtain ⟨ak,an,am,ab⟩:=a
 obtain ⟨bk,bn,bm,bb⟩:=b
 simp only [vok] at va' vb'
 obtain ⟨⟨ia0,ia1⟩,-⟩:=id ia
 obtain ⟨⟨ib0,ib1⟩,-⟩:=id ib
 simp only at ia0 ia1 ib0 ib1 a0
 unfold reckR
 simp only [isn]
 rcases (by omega:ak=1∨ak=2∨ak=3∨ak=4∨ak=5) with rfl|rfl|rfl|rfl|rfl
 ·by_cases h1':bk=1
  ·subst h1'
   rw [if_pos ⟨rfl,rfl⟩,← iR_ints op an bn h1 h2]
   exact reck_ints op an am bn bm _ _ w _ _ (fun W=>rints7_any op an bn W ia0 ia1 ib0 ib1)
  by_cases h2':bk=2
  ·subst h2'
   rw [if_neg (by omega),if_pos (by omega)]
   exact reck_n12 op an am bn bm _ _ w _ (fun W=>z8s op ⟨1,an,am,ab⟩ ⟨2,bn,bm,bb⟩ W h1 h2 (by simp only;omega) (by simp only;omega) ia ib)
  ·rw [if_neg (by omega),if_neg (by omega),if_neg (by omega),if_neg (by omega),if_neg (by omega)]
   exact reck_o1 op bk an am bn bm _ _ w (by simpa using h1') (by simpa using h2')
 ·by_cases h1':bk=1
  ·subst h1'
   rw [if_neg (by omega),if_pos (by omega)]
   exact reck_n21 op an am bn bm _ _ w _ (fun W=>z8s op ⟨2,an,am,ab⟩ ⟨1,bn,bm,bb⟩ W h1 h2 (by simp only;omega) (by simp only;omega) ia ib)
  by_cases h2':bk=2
  ·subst h2'
   rw [if_neg (by omega),if_pos (by omega)]
   exact reck_n22 op an am bn bm _ _ w _ (fun W=>z8s op ⟨2,an,am,ab⟩ ⟨2,bn,bm,bb⟩ W h1 h2 (by simp only;omega) (by simp only;omega) ia ib)
  ·rw [if_neg (by omega),if_neg (by omega),if_neg (by omega),if_neg (by omega),if_neg (by omega)]
   exact reck_o2 op bk an am bn bm _ _ w (by simpa using h1') (by simpa using h2')
 ·by_cases h3:bk=3
  ·subst h3
   rw [if_neg (by omega),if_neg (by omega),if_neg (by omega),if_pos ⟨rfl,rfl⟩]
   obtain ⟨rfl,rfl,la⟩:an=0∧am=0∧ab.length≤256:=by rcases va' with h|h|h|h|h|h <;> first|omega|exact ⟨h.2.1,h.2.2.1,h.2.2.2.1⟩
   obtain ⟨rfl,rfl,lb⟩:bn=0∧bm=0∧bb.length≤256:=by rcases vb' with h|h|h|h|h|h <;> first|omega|exact ⟨h.2.1,h.2.2.1,h.2.2.2.1⟩
   unfold txtR
   have sa:(⟨ab.toArray⟩:ByteArray).size=ab.length:=by show ab.toArray.size=_;simp
   have sb:(⟨bb.toArray⟩:ByteArray).size=bb.length:=by show bb.toArray.size=_;simp
   by_cases h9:op=9
   ·subst h9
    rw [if_pos rfl]
    by_cases ho:256<ab.length+bb.length
    ·rw [if_pos ho]
     exact reck_over 0 0 0 0 ⟨ab.toArray⟩ ⟨bb.toArray⟩ w (by rw [sa,sb];omega) (by rw [sa,sb,IntKind.wrap_i64];omega)
    ·rw [if_neg ho]
     have:=reck_join 0 0 0 0 ⟨ab.toArray⟩ ⟨bb.toArray⟩ w (by rw [sa,sb];omega) (by rw [sa,sb,IntKind.wrap_i64];omega)
     rw [ba_append] at this
     exact this
   ·rw [if_neg h9,cmp_31 op _ h2]
    exact reck_txt op 0 0 0 0 _ _ w (by simpa using h9)
  ·rw [if_neg (by omega),if_neg (by omega),if_neg (by omega),if_neg (by omega),if_neg (by omega)]
   exact reck_o3 op bk an am bn bm _ _ w (by simpa using h3)
 ·by_cases h4:bk=4
  ·subst h4
   rw [if_neg (by omega),if_neg (by omega),if_neg (by omega),if_neg (by omega),if_pos ⟨rfl,rfl⟩,cmp_31 op _ h2]
   exact reck_o4 op 4 an am bn bm _ _ w
  ·rw [if_neg (by omega),if_neg (by omega),if_neg (by omega),if_neg (by omega),if_neg (by omega)]
   exact reck_o4 op bk an am bn bm _ _ w
 ·by_cases h5:bk=5
  ·subst h5
   rw [if_neg (by omega),if_neg (by omega),if_pos ⟨rfl,rfl⟩]
   exact reck_pts op an am bn bm _ _ w _ (fun W=>rpoints7_any op ⟨5,an,am,ab⟩ ⟨5,bn,bm,bb⟩ W h1 h2 ((Ga.ok2_iff an am).2 (by omega)) ((Ga.ok2_iff bn bm).2 (by omega)))
  ·rw [if_neg (by omega),if_neg (by omega),if_neg (by omega),if_neg (by omega),if_neg (by omega)]
   exact reck_o5 op bk an am bn bm _ _ w (by simpa using h5)
theorem rcmp_six (a b:Va) (w:World) (ha:0≤a.m∧a.m≤6) (hb:0≤b.m∧b.m≤6) (ia:vin a) (ib:vin b) :
  Calls Tryz.prog 137 #[dv a.n a.m,dv b.n b.m] w fun e w'=>e=.returned (.int .i64 (numc (at6 a) (at6 b)))∧Grew w w':=by
 rw [← z6y a,← z6y b,← sgn_numc]
 exact rcmp_good a.n a.m b.n b.m w ((z0w a.m).2 ha) ((z0w b.m).2 hb) ia.1.1 ia.1.2 ib.1.1 ib.1.2
theorem rbinary_any (op:Int) (a b:Va) (w:World) (ia:vin a) (ib:vin b) :
  Calls Tryz.prog 68 #[.int .i64 op,vv a,vv b] w fun e w'=>e=.returned (rs (binR op a b))∧Below w.heap.size w w':=by
 have Ra:z0n 13 #[vv a] w (.bool (vr a)):=fun W _=>rright_any a.k a.n a.m ⟨a.b.toArray⟩ W
 have Rb:z0n 13 #[vv b] w (.bool (vr b)):=fun W _=>rright_any b.k b.n b.m ⟨b.b.toArray⟩ W
 have Na:z0n 119 #[vv a] w (.bool (a.k==0)):=fun W _=>(z2k a.k a.n a.m ⟨a.b.toArray⟩ W).mono fun _ _ h=>⟨h.1,h.2.below⟩
 have Nb:z0n 119 #[vv b] w (.bool (b.k==0)):=fun W _=>(z2k b.k b.n b.m ⟨b.b.toArray⟩ W).mono fun _ _ h=>⟨h.1,h.2.below⟩
 have Ma:z0n 121 #[vv a] w (.bool (a.k==1 || a.k==2)):=fun W _=>(z0t a.k a.n a.m ⟨a.b.toArray⟩ W).mono fun _ _ h=>⟨h.1,h.2.below⟩
 have Mb:z0n 121 #[vv b] w (.bool (b.k==1 || b.k==2)):=fun W _=>(z0t b.k b.n b.m ⟨b.b.toArray⟩ W).mono fun _ _ h=>⟨h.1,h.2.below⟩
 have Of:∀ t,z0n 128 #[.int .i64 t] w (vv (vO t)):=fun t W _=>by
  have:=rof_any t W
  rw [vof_vO] at this
  exact this.mono fun _ _ h=>⟨h.1,h.2.below⟩
 unfold binR
 by_cases o1:op<6
 ·rw [if_pos (by omega)]
  exact rbin_low op a.k b.k a.n a.m b.n b.m a.b b.b w o1
 by_cases o2:op > 18
 ·rw [if_pos (by omega)]
  exact rbin_high op a.k b.k a.n a.m b.n b.m a.b b.b w o1 o2
 cases ha:vr a
 ·rw [ha] at Ra
  rw [if_pos (by simp)]
  exact rbin_badA op a.k b.k a.n a.m b.n b.m a.b b.b w o1 o2 Ra
 rw [ha] at Ra
 cases hb:vr b
 ·rw [hb] at Rb
  rw [if_pos (by simp)]
  exact rbin_badB op a.k b.k a.n a.m b.n b.m a.b b.b w o1 o2 Ra Rb
 rw [hb] at Rb
 rw [if_neg (by simp;omega)]
 by_cases h17:op=17∨op=18
 ·rw [if_pos h17]
  have T1:z0n 71 #[vv a] w (.tuple #[.int .i64 (tN a),.bool (tB a)]):=fun W _=>z6t a.k a.n a.m ⟨a.b.toArray⟩ W
  have T2:z0n 71 #[vv b] w (.tuple #[.int .i64 (tN b),.bool (tB b)]):=fun W _=>z6t b.k b.n b.m ⟨b.b.toArray⟩ W
  unfold truR
  cases hx:tB a
  ·rw [hx] at T1
   rw [if_neg (by simp)]
   rcases h17 with rfl|rfl
   ·exact rbin_tf17 a.k b.k a.n a.m b.n b.m a.b b.b w _ _ _ Ra Rb T1 T2
   ·exact rbin_tf18 a.k b.k a.n a.m b.n b.m a.b b.b w _ _ _ Ra Rb T1 T2
  rw [hx] at T1
  cases hy:tB b
  ·rw [hy] at T2
   rw [if_neg (by simp)]
   rcases h17 with rfl|rfl
   ·exact rbin_ft17 a.k b.k a.n a.m b.n b.m a.b b.b w _ _ Ra Rb T1 T2
   ·exact rbin_ft18 a.k b.k a.n a.m b.n b.m a.b b.b w _ _ Ra Rb T1 T2
  rw [hy] at T2
  rw [if_pos (by rfl)]
  rcases h17 with rfl|rfl
  ·rw [if_pos rfl]
   exact rbin_t17 a.k b.k a.n a.m b.n b.m a.b b.b w _ _ _ _ _ _ _ Ra Rb T1 T2 (fun W _=>(rand_any (tN a) (tN b) W).mono fun _ _ h=>⟨h.1,h.2▸Below.refl _ _⟩) (Of _)
  ·rw [if_neg (by decide)]
   exact rbin_t18 a.k b.k a.n a.m b.n b.m a.b b.b w _ _ _ _ _ _ _ Ra Rb T1 T2 (fun W _=>(ror_any (tN a) (tN b) W).mono fun _ _ h=>⟨h.1,h.2▸Below.refl _ _⟩) (Of _)
 rw [if_neg h17]
 have o3:¬ op ≥ 17:=by omega
 by_cases a0:a.k=0
 ·rw [if_pos (.inl a0)]
  rw [show (a.k==0)=true by simpa using a0] at Na
  exact rbin_nullA op a.k b.k a.n a.m b.n b.m a.b b.b w o1 o2 o3 Ra Rb Na
 rw [show (a.k==0)=false by simpa using a0] at Na
 by_cases b0:b.k=0
 ·rw [if_pos (.inr b0)]
  rw [show (b.k==0)=true by simpa using b0] at Nb
  exact rbin_nullB op a.k b.k a.n a.m b.n b.m a.b b.b w o1 o2 o3 Ra Rb Na Nb
 rw [show (b.k==0)=false by simpa using b0] at Nb
 rw [if_neg (by omega)]
 by_cases o4:op≤10
 ·exact rbin_reck op a.k b.k a.n a.m b.n b.m a.b b.b w _ _ _ _ _ o1 o2 o4 Ra Rb Na Nb (fun W _=>(rreckon_any op a b W (by omega) o4 ha hb a0 ia ib).mono fun _ _ h=>⟨h.1,h.2.below⟩)
 have va':=(z2f a).1 ha
 have vb':=(z2f b).1 hb
 have HH:∀ c,z0n 136 #[.int .i64 op,.int .i64 c] w (.bool (hb7 op c)):=fun c W _=>(rholds_any op c W).mono fun _ _ h=>⟨h.1,h.2▸Below.refl _ _⟩
 have TT:∀ x,z0n 135 #[.bool x] w (vv (vB x)):=fun x W _=>(rtruth7_any x W).mono fun _ _ h=>⟨h.1,h.2.below⟩
 have CC:z0n 138 #[vv a,vv b] w (.int .i64 (pcmp a b)):=fun W _=>rcompare_any a.k a.n a.m ⟨a.b.toArray⟩ b.k b.n b.m ⟨b.b.toArray⟩ W ia ib
 have hc:∀ c,cmpR op c=(vB (hb7 op c),0):=fun c=>cmpR_hb op c (by omega) (by omega)
 by_cases hn:isn a∧isn b
 ·rw [show (a.k==1 || a.k==2)=true by rcases hn.1 with h|h <;> simp [h]] at Ma
  rw [show (b.k==1 || b.k==2)=true by rcases hn.2 with h|h <;> simp [h]] at Mb
  have sa:=z4u hn.1 ha
  have sb:=z4u hn.2 hb
  have e:(if a.k=1∧b.k=1 then intsR op a.n b.n else if isn a∧isn b then z9s op a b else if a.k=5∧b.k=5 then ptsR op a b else if a.k=3∧b.k=3 then txtR op a b else if a.k=4∧b.k=4 then cmpR op (pcmp a b) else (nul,31))=cmpR op (numc (at6 a) (at6 b)):=by
   by_cases hi:a.k=1∧b.k=1
   ·rw [if_pos hi]
    unfold intsR
    rw [if_neg (by omega),if_neg (by omega),if_neg (by omega),if_neg (by omega),if_neg (by omega)]
    have ma:a.m=0:=by simp only [vok] at va';omega
    have mb:b.m=0:=by simp only [vok] at vb';omega
    congr 1
    unfold at6
    rw [ma,mb]
    unfold numc
    have p6:(10:Int)^(6 - (0:Int)).toNat=1000000:=by decide
    rw [p6]
    split <;> split <;> (try split) <;> (try split) <;> omega
   ·rw [if_neg hi,if_pos hn]
    unfold z9s
    rw [if_neg (by omega),if_neg (by omega),if_neg (by omega),if_neg (by omega)]
  rw [e,hc]
  exact rbin_nums op a.k b.k a.n a.m b.n b.m a.b b.b w _ _ _ _ o1 o2 o3 o4 Ra Rb Na Nb Ma Mb _ (fun W=>rcmp_six a b W sa sb ia ib) (fun W=>rtruth7_any _ W)
 rw [if_neg (fun h=>hn ⟨.inl h.1,.inl h.2⟩),if_neg hn]
 by_cases hk:a.k=b.k
 ·have hna:¬ isn a:=fun h=>hn ⟨h,by unfold isn at *;omega⟩
  rw [show (a.k==1 || a.k==2)=false by unfold isn at hna;simp;omega] at Ma
  have e:(if a.k=5∧b.k=5 then ptsR op a b else if a.k=3∧b.k=3 then txtR op a b else if a.k=4∧b.k=4 then cmpR op (pcmp a b) else (nul,31))=cmpR op (pcmp a b):=by
   have:a.k=3∨a.k=4∨a.k=5:=by unfold isn at hna;simp only [vok] at va';omega
   rcases this with h|h|h
   ·rw [if_neg (by omega),if_pos (by omega)]
    unfold txtR
    rw [if_neg (by omega)]
   ·rw [if_neg (by omega),if_neg (by omega),if_pos (by omega)]
   ·rw [if_pos (by omega)]
    unfold ptsR
    rw [if_neg (by omega),if_neg (by omega),if_neg (by omega),if_neg (by omega),if_neg (by omega)]
  rw [e,hc]
  obtain ⟨ak,an,am,ab⟩:=a
  obtain ⟨bk,bn,bm,bb⟩:=b
  simp only at hk
  subst hk
  exact rbin_cmpF op ak an am bn bm ab bb w _ _ _ _ o1 o2 o3 o4 Ra Rb Na Nb Ma _ CC (HH _) (TT _)
 ·rw [if_neg (by omega),if_neg (by omega),if_neg (by omega)]
  have ek:(a.k != b.k)=true:=by simpa using hk
  by_cases hna:isn a
  ·rw [show (a.k==1 || a.k==2)=true by rcases hna with h|h <;> simp [h]] at Ma
   have hnb:¬ isn b:=fun h=>hn ⟨hna,h⟩
   rw [show (b.k==1 || b.k==2)=false by unfold isn at hnb;simp;omega] at Mb
   exact rbin_othT op a.k b.k a.n a.m b.n b.m a.b b.b w o1 o2 o3 o4 ek Ra Rb Na Nb Ma Mb
  ·rw [show (a.k==1 || a.k==2)=false by unfold isn at hna;simp;omega] at Ma
   exact rbin_othF op a.k b.k a.n a.m b.n b.m a.b b.b w o1 o2 o3 o4 ek Ra Rb Na Nb Ma
end Go.Proofs.YtibbenhplmmmiaaGreatDoor
