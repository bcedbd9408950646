/-
  The document's answers for eval: Function, path by path.
  The document's answers for eval: Function, whole: as the program's.
-/
import Derived.Test.YtibbenhplmmmiaaGreatDoorMEQRF0
import Derived.Test.YtibbenhplmmmiaaGreatDoorQR7
import Derived.Test.YtibbenhplmmmiaaGreatDoorDRefA
import Derived.Test.YtibbenhplmmmiaaGreatDoorMAHRef4
set_option maxHeartbeats 24000000
set_option maxRecDepth 100000
namespace Go.Proofs.YtibbenhplmmmiaaGreatDoor
open Go.RowKit Go.Shelf
attribute [local go_sem] z0e z0b z0c z0f z0m z0k z0h z0d z0g z1r z1e z1x z1d z1q z1s z1z z1p z1y z1k z1u
inductive RCA (lo hi:Int) (ok:Bool) (ao:Option Addr) (l:List Va) (n:Nat) (w:World):ByteArray→Value→Prop
 | coal (h1:ok=true) (h2:¬ (n:Int)<lo) (h3:¬ (n:Int) > hi) (E:Va) (hE:E=z4t l):RCA lo hi ok ao l n w (⟨#[99,111,97,108,101,115,99,101]⟩) (.tuple #[vv E,.int .i64 0])
 | abs2n (h1:ok=true) (h2:¬ (n:Int)<lo) (h3:¬ (n:Int) > hi) (bl off:Nat) (an am:Int) (ab:List UInt8) (hao:Hid (ao=some ⟨bl,off,none⟩)) (h4:At4 w bl off ⟨2,an,am,ab⟩) (hz:zf l n=false) (hn0:(0:Int)<(n:Int)) (hneg:an<0) (rk rn rm re:Int) (rb:ByteArray) (U:z0n 67 #[.int .i64 3,va 2 an am ⟨ab.toArray⟩] w (.tuple #[va rk rn rm rb,.int .i64 re])):RCA lo hi ok ao l n w (⟨#[97,98,115]⟩) (.tuple #[va rk rn rm rb,.int .i64 re])
 | round2hi (h1:ok=true) (h2:¬ (n:Int)<lo) (h3:¬ (n:Int) > hi) (bl off:Nat) (an am:Int) (ab:List UInt8) (bn bm:Int) (bb:List UInt8) (hao:Hid (ao=some ⟨bl,off,none⟩)) (h4:At4 w bl off ⟨2,an,am,ab⟩) (g4:At4 w bl (off+4) ⟨1,bn,bm,bb⟩) (hz:zf l n=false) (hn0:(0:Int)<(n:Int)) (hn1:(1:Int)<(n:Int)) (b0:¬ bn<0) (b6:bn > 6):RCA lo hi ok ao l n w (⟨#[114,111,117,110,100]⟩) (.tuple #[va 0 0 0 ⟨#[]⟩,.int .i64 32])
 | abs1p (h1:ok=true) (h2:¬ (n:Int)<lo) (h3:¬ (n:Int) > hi) (bl off:Nat) (an am:Int) (ab:List UInt8) (hao:Hid (ao=some ⟨bl,off,none⟩)) (h4:At4 w bl off ⟨1,an,am,ab⟩) (hz:zf l n=false) (hn0:(0:Int)<(n:Int)) (hneg:¬ an<0):RCA lo hi ok ao l n w (⟨#[97,98,115]⟩) (.tuple #[va 1 an am ⟨ab.toArray⟩,.int .i64 0])
 | norm_no (h1:ok=true) (h2:¬ (n:Int)<lo) (h3:¬ (n:Int) > hi) (ak:Int) (bl off:Nat) (an am:Int) (ab:List UInt8) (hao:Hid (ao=some ⟨bl,off,none⟩)) (h4:At4 w bl off ⟨ak,an,am,ab⟩) (hz:zf l n=false) (hn0:(0:Int)<(n:Int)) (xa5:(ak==5)=false):RCA lo hi ok ao l n w (⟨#[110,111,114,109]⟩) (.tuple #[va 0 0 0 ⟨#[]⟩,.int .i64 31])
 | null {B:ByteArray} (h1:ok=true) (h2:¬ (n:Int)<lo) (h3:¬ (n:Int) > hi) (e7:(B.toList==[99,111,97,108,101,115,99,101])=false) (hz:zf l n=true):RCA lo hi ok ao l n w B (.tuple #[va 0 0 0 ⟨#[]⟩,.int .i64 0])
theorem rfunA {B:ByteArray} {R:Value} (lo hi:Int) (ok:Bool) (ao:Option Addr) (l:List Va) (n cap:Nat) (w:World) (HN:Hid (l.length=n)) (hl:n≤140737488351232) (hv:Vs w ao l) (hall:Hid (∀ x∈l,vr x=true))
  (KN:∀ W,Calls Tryz.prog 118 #[.string B] W fun e w'=>e=.returned (.tuple #[.int .i64 lo,.int .i64 hi,.bool ok])∧W=w') (C:RCA lo hi ok ao l n w B R) :
  Calls Tryz.prog 66 #[.string B,.slice ao n cap] w fun e w'=>e=.returned R∧Below w.heap.size w w':=by
 obtain ⟨w0,hw0,bxr,Bw⟩:=z2r w
 go_enter Tryz.func66,Tryz.ntmps66
 go_upto_region 1 with fail
 rw [← hw0]
 clear hw0
 replace hv:=hv.later Bw
 have NL:=fun k n m b W=>z2k k n m b W
 go_wp2_with (go_at_call 118;refine (KN _).mono ?_;rintro e wc ⟨rfl,rfl⟩)
 clear KN
 go_loopw [9,10] (fun s r wr=>∃ k:Nat,s=.bool (zf l k)∧r=.int .i64 (k:Int)∧k≤n∧Below w0.heap.size w0 wr) (fun _ r _=>n - (intOf r).toNat)
 case atStart=>exact ⟨0,rfl,rfl,Nat.zero_le _,Below.refl _ _⟩
 case round =>
  obtain ⟨k,rfl,rfl,hk,hB⟩:=hrel
  by_cases hlt:k<n
  ·have hlt':(k:Int)<(n:Int):=by omega
   have k0:(0:Int)≤(k:Int):=by omega
   have hkl:k<l.length:=by rw [HN.out];exact hlt
   obtain ⟨b,off,rfl,hc⟩:=hv (by omega)
   obtain ⟨c0,c1,c2,c3⟩:=((hc k (by omega)).later hB)
   have hg:=(hc k (by omega)).lt
   have sB:=hB.size
   have hg':b<wr.heap.size:=by omega
   have hr:=hall.out l[k] (List.getElem_mem _)
   have HS:Hid (zf l (k+1)=(zf l k || (l[k].k==0))):=z7e l k hkl
   obtain ⟨⟨vk,vn,vm,vb⟩,he⟩:∃ v:Va,v=l[k]:=⟨_,rfl⟩
   rw [← he] at c0 c1 c2 c3 hr HS
   have R:∀ W,Calls Tryz.prog 13 #[va vk vn vm ⟨vb.toArray⟩] W fun e w'=>e=.returned (.bool true)∧Below W.heap.size W w':=fun W=>by
    have:=rright_any vk vn vm ⟨vb.toArray⟩ W
    rwa [show vrt vk vn vm ⟨vb.toArray⟩=true from hr] at this
   clear hc he hr hall hv bxr
   cases hz:zf l k
   all_goals
    go_wp2_with (first
     | (go_at_call 13;refine (R _).mono ?_;rintro e wc ⟨rfl,bc⟩;obtain ⟨osc,dc,rfl⟩:=wide bc;clear bc)
     | (go_at_call 119;refine (NL _ _ _ _ _).mono ?_;rintro e wc ⟨rfl,os1,n1,rfl⟩))
    go_roundw
    case rel=>exact ⟨k+1,by rw [HS.out,hz];rfl,by go_num,by omega,z0a hB (z0z.below gC)⟩
    case measure=>simp [intOf];omega
  ·obtain rfl:k=n:=by omega
   have br:=bxr.later hB
   obtain ⟨r0,r1,r2,r3⟩:=br.at4
   dsimp only [nul] at r0 r1 r2 r3
   simp only [Nat.zero_add] at r1 r2 r3
   have f0:=br.free 0
   have f1:=br.free 1
   have f2:=br.free 2
   have f3:=br.free 3
   have lt1:=br.lt
   have lt2:w.heap.size<wr.heap.size+1:=by omega
   have lt3:w.heap.size<wr.heap.size+1+1:=by omega
   have Be:=z0a Bw hB
   replace hv:=hv.later hB
   clear br bxr
   cases C with
   | coal h1 h2 h3 E hE =>
    subst h1
    have HE0:Hid (E=z4t (l.drop 0)):=hE
    clear hE
    go_wp2
    go_loopw [11] (fun r ws=>∃ j:Nat,r=.int .i64 (j:Int)∧j≤k∧Below wr.heap.size wr ws∧Hid (E=z4t (l.drop j))) (fun r _=>k - (intOf r).toNat)
    case atStart=>exact ⟨0,rfl,Nat.zero_le _,Below.refl _ _,HE0⟩
    case round =>
     rename World=>ws
     obtain ⟨j,rfl,hj,hC,hA⟩:=hrel
     have sC:=hC.size
     have Ce:=z0a Be hC
     have hcell:∀ i:Nat,ws.cell? ⟨w.heap.size,i,none⟩=wr.cell? ⟨w.heap.size,i,none⟩:=fun i=>hC.cell (p:=⟨w.heap.size,i,none⟩) lt1
     have hfz:∀ i:Nat,ws.frozen? ⟨w.heap.size,i,none⟩=wr.frozen? ⟨w.heap.size,i,none⟩:=fun i=>hC.frozen (p:=⟨w.heap.size,i,none⟩) lt1
     rw [← hcell] at r0 r1 r2 r3
     rw [← hfz] at f0 f1 f2 f3
     replace lt1:w.heap.size<ws.heap.size:=by omega
     clear hcell hfz
     by_cases hlt2:j<k
     ·have hlt2':(j:Int)<(k:Int):=by omega
      have j0:(0:Int)≤(j:Int):=by omega
      have hjl:j<l.length:=by rw [HN.out];exact hlt2
      obtain ⟨b,off,rfl,hc⟩:=hv (by omega)
      obtain ⟨c0,c1,c2,c3⟩:=((hc j (by omega)).later hC)
      have hg:=(hc j (by omega)).lt
      have hg':b<ws.heap.size:=by omega
      have hdr:l.drop j=l[j]::l.drop (j+1):=List.drop_eq_getElem_cons hjl
      obtain ⟨⟨vk,vn,vm,vb⟩,he⟩:∃ v:Va,v=l[j]:=⟨_,rfl⟩
      rw [← he] at c0 c1 c2 c3 hdr
      have HST:Hid (E=z4t (⟨vk,vn,vm,vb⟩::l.drop (j+1))):=by
       show E=_
       rw [hA.out,hdr]
      clear hc he hdr hA HE0
      by_cases hq:vk=0
      ·subst hq
       go_wp2_with (go_at_call 119;refine (NL _ _ _ _ _).mono ?_;rintro e wc ⟨rfl,os1,n1,rfl⟩)
       go_roundw
       case rel=>exact ⟨j+1,by go_num,by omega,z0a hC (z0z.below gC),HST.out⟩
       case measure=>simp [intOf];omega
      ·have hq':(vk==0)=false:=by simpa using hq
       have hE':E=⟨vk,vn,vm,vb⟩:=by
        have:=HST.out
        rw [z4t,if_neg (by simpa using hq)] at this
        exact this
       subst hE'
       clear HST
       replace Be:=Ce
       go_wp2_with (go_at_call 119;refine (NL _ _ _ _ _).mono ?_;rintro e wc ⟨rfl,os1,n1,rfl⟩)
       refine bodyPost_ret_by (v:=.tuple #[va vk vn vm ⟨vb.toArray⟩,.int .i64 0]) ?_ rfl ⟨rfl,?_⟩
       ·simp [results,Tryz.results66,go_sem,r0,r1,r2,r3,lt1]
       ·refine z0a (Be.setCell (p:=⟨w.heap.size,0,none⟩) (Nat.le_refl _) (.int .i64 vk) |>.setCell (p:=⟨w.heap.size,1,none⟩) (Nat.le_refl _) (.int .i64 vn) |>.setCell (p:=⟨w.heap.size,2,none⟩) (Nat.le_refl _) (.int .i64 vm) |>.setCell (p:=⟨w.heap.size,3,none⟩) (Nat.le_refl _) (.string ⟨vb.toArray⟩)) (z0z.below ?_)
        repeat exact gC
     ·obtain rfl:j=k:=by omega
      have hE':E=nul:=by
       rw [hA.out,List.drop_eq_nil_of_le (by rw [HN.out];omega)];rfl
      subst hE'
      clear hA HE0
      replace Be:=Ce
      go_wp2
      refine bodyPost_ret_by (v:=.tuple #[va 0 0 0 ⟨#[]⟩,.int .i64 0]) ?_ rfl ⟨rfl,?_⟩
      ·simp [results,Tryz.results66,go_sem,r0,r1,r2,r3]
      ·refine z0a (Be.setCell (p:=⟨w.heap.size,0,none⟩) (Nat.le_refl _) (.int .i64 0) |>.setCell (p:=⟨w.heap.size,1,none⟩) (Nat.le_refl _) (.int .i64 0) |>.setCell (p:=⟨w.heap.size,2,none⟩) (Nat.le_refl _) (.int .i64 0) |>.setCell (p:=⟨w.heap.size,3,none⟩) (Nat.le_refl _) (.string ⟨#[]⟩)) (z0z.below ?_)
       repeat exact gC
   | abs2n h1 h2 h3 bl off an am ab hao h4 hz hn0 hneg rk rn rm re rb U =>
    rw [hz]
    subst h1
    have hao':=hao.out
    subst hao'
    obtain ⟨c0,c1,c2,c3⟩:=(h4.later Be)
    have hg:=(h4.later Be).lt
    have hg2:bl<wr.heap.size+1:=by omega
    have hg3:bl<wr.heap.size+1+1:=by omega
    dsimp only at c0 c1 c2 c3
    clear h4 hv hao
    go_wp2_with (first
     | (go_at_call 121;refine (z0t _ _ _ _ _).mono ?_;rintro e wc ⟨rfl,os3,n3,rfl⟩)
     | (go_at_call 67;refine (U _ (z0a Be (z0z.below gC))).mono ?_;rintro e wc ⟨rfl,bc⟩;obtain ⟨osc,dc,rfl⟩:=wide bc;clear bc))
    refine bodyPost_ret_by (v:=.tuple #[va rk rn rm rb,.int .i64 re]) ?_ rfl ⟨rfl,?_⟩
    ·simp [results,Tryz.results66,go_sem,r0,r1,r2,r3,lt1]
    ·refine z0a (Be.setCell (p:=⟨w.heap.size,0,none⟩) (Nat.le_refl _) (.int .i64 rk) |>.setCell (p:=⟨w.heap.size,1,none⟩) (Nat.le_refl _) (.int .i64 rn) |>.setCell (p:=⟨w.heap.size,2,none⟩) (Nat.le_refl _) (.int .i64 rm) |>.setCell (p:=⟨w.heap.size,3,none⟩) (Nat.le_refl _) (.string rb)) (z0z.below ?_)
     repeat exact gC
   | round2hi h1 h2 h3 bl off an am ab bn bm bb hao h4 g4 hz hn0 hn1 b0 b6 =>
    rw [hz]
    subst h1
    have hao':=hao.out
    subst hao'
    obtain ⟨c0,c1,c2,c3⟩:=(h4.later Be)
    have hg:=(h4.later Be).lt
    have hg2:bl<wr.heap.size+1:=by omega
    have hg3:bl<wr.heap.size+1+1:=by omega
    dsimp only at c0 c1 c2 c3
    obtain ⟨d0,d1,d2,d3⟩:=(g4.later Be)
    dsimp only at d0 d1 d2 d3
    have d1':wr.cell? ⟨bl,off+5,none⟩=some (.int .i64 bn):=d1
    clear g4
    clear h4 hv hao
    go_wp2_with (first
     | (go_at_call 121;refine (z0t _ _ _ _ _).mono ?_;rintro e wc ⟨rfl,os3,n3,rfl⟩))
    refine bodyPost_ret_by (v:=.tuple #[va 0 0 0 ⟨#[]⟩,.int .i64 32]) ?_ rfl ⟨rfl,?_⟩
    ·simp [results,Tryz.results66,go_sem,r0,r1,r2,r3,lt1]
    ·refine z0a (Be.setCell (p:=⟨w.heap.size,0,none⟩) (Nat.le_refl _) (.int .i64 0) |>.setCell (p:=⟨w.heap.size,1,none⟩) (Nat.le_refl _) (.int .i64 0) |>.setCell (p:=⟨w.heap.size,2,none⟩) (Nat.le_refl _) (.int .i64 0) |>.setCell (p:=⟨w.heap.size,3,none⟩) (Nat.le_refl _) (.string ⟨#[]⟩)) (z0z.below ?_)
     repeat exact gC
   | abs1p h1 h2 h3 bl off an am ab hao h4 hz hn0 hneg =>
    rw [hz]
    subst h1
    have hao':=hao.out
    subst hao'
    obtain ⟨c0,c1,c2,c3⟩:=(h4.later Be)
    have hg:=(h4.later Be).lt
    have hg2:bl<wr.heap.size+1:=by omega
    have hg3:bl<wr.heap.size+1+1:=by omega
    dsimp only at c0 c1 c2 c3
    clear h4 hv hao
    go_wp2_with (first
     | (go_at_call 121;refine (z0t _ _ _ _ _).mono ?_;rintro e wc ⟨rfl,os3,n3,rfl⟩))
    refine bodyPost_ret_by (v:=.tuple #[va 1 an am ⟨ab.toArray⟩,.int .i64 0]) ?_ rfl ⟨rfl,?_⟩
    ·simp [results,Tryz.results66,go_sem,r0,r1,r2,r3,lt1]
    ·refine z0a (Be.setCell (p:=⟨w.heap.size,0,none⟩) (Nat.le_refl _) (.int .i64 1) |>.setCell (p:=⟨w.heap.size,1,none⟩) (Nat.le_refl _) (.int .i64 an) |>.setCell (p:=⟨w.heap.size,2,none⟩) (Nat.le_refl _) (.int .i64 am) |>.setCell (p:=⟨w.heap.size,3,none⟩) (Nat.le_refl _) (.string ⟨ab.toArray⟩)) (z0z.below ?_)
     repeat exact gC
   | norm_no h1 h2 h3 ak bl off an am ab hao h4 hz hn0 xa5 =>
    rw [hz]
    subst h1
    have hao':=hao.out
    subst hao'
    obtain ⟨c0,c1,c2,c3⟩:=(h4.later Be)
    have hg:=(h4.later Be).lt
    have hg2:bl<wr.heap.size+1:=by omega
    have hg3:bl<wr.heap.size+1+1:=by omega
    dsimp only at c0 c1 c2 c3
    clear h4 hv hao
    go_wp2
    refine bodyPost_ret_by (v:=.tuple #[va 0 0 0 ⟨#[]⟩,.int .i64 31]) ?_ rfl ⟨rfl,?_⟩
    ·simp [results,Tryz.results66,go_sem,r0,r1,r2,r3,lt1]
    ·refine z0a (Be.setCell (p:=⟨w.heap.size,0,none⟩) (Nat.le_refl _) (.int .i64 0) |>.setCell (p:=⟨w.heap.size,1,none⟩) (Nat.le_refl _) (.int .i64 0) |>.setCell (p:=⟨w.heap.size,2,none⟩) (Nat.le_refl _) (.int .i64 0) |>.setCell (p:=⟨w.heap.size,3,none⟩) (Nat.le_refl _) (.string ⟨#[]⟩)) (z0z.below ?_)
     repeat exact gC
   | null h1 h2 h3 e7 hz =>
    rw [hz]
    subst h1
    go_wp2
    refine bodyPost_ret_by (v:=.tuple #[va 0 0 0 ⟨#[]⟩,.int .i64 0]) ?_ rfl ⟨rfl,?_⟩
    ·simp [results,Tryz.results66,go_sem,r0,r1,r2,r3]
    ·refine z0a (Be.setCell (p:=⟨w.heap.size,0,none⟩) (Nat.le_refl _) (.int .i64 0) |>.setCell (p:=⟨w.heap.size,1,none⟩) (Nat.le_refl _) (.int .i64 0) |>.setCell (p:=⟨w.heap.size,2,none⟩) (Nat.le_refl _) (.int .i64 0) |>.setCell (p:=⟨w.heap.size,3,none⟩) (Nat.le_refl _) (.string ⟨#[]⟩)) (z0z.below ?_)
     repeat exact gC
inductive RCB (lo hi:Int) (ok:Bool) (ao:Option Addr) (l:List Va) (n:Nat) (w:World):ByteArray→Value→Prop
 | round1 (h1:ok=true) (h2:¬ (n:Int)<lo) (h3:¬ (n:Int) > hi) (bl off:Nat) (an am:Int) (ab:List UInt8) (bn bm:Int) (bb:List UInt8) (hao:Hid (ao=some ⟨bl,off,none⟩)) (h4:At4 w bl off ⟨1,an,am,ab⟩) (g4:At4 w bl (off+4) ⟨1,bn,bm,bb⟩) (hz:zf l n=false) (hn0:(0:Int)<(n:Int)) (hn1:(1:Int)<(n:Int)) (b0:¬ bn<0) (b6:¬ bn > 6) (z s x:Int) (D:∀ W,Calls Tryz.prog 126 #[dv an am,.int .i64 bn] W fun e w'=>e=.returned (.tuple #[dv z s,.int .i64 x])∧Grew W w'):RCB lo hi ok ao l n w (⟨#[114,111,117,110,100]⟩) (rs (z2a z s x))
 | norm (h1:ok=true) (h2:¬ (n:Int)<lo) (h3:¬ (n:Int) > hi) (bl off:Nat) (an am:Int) (ab:List UInt8) (hao:Hid (ao=some ⟨bl,off,none⟩)) (h4:At4 w bl off ⟨5,an,am,ab⟩) (hz:zf l n=false) (hn0:(0:Int)<(n:Int)) (x:Int) (D:∀ W,Calls Tryz.prog 122 #[dv an am] W fun e w'=>e=.returned (.int .i64 x)∧Grew W w'):RCB lo hi ok ao l n w (⟨#[110,111,114,109]⟩) (rs (z0v x 0))
 | round_noB2 (h1:ok=true) (h2:¬ (n:Int)<lo) (h3:¬ (n:Int) > hi) (bk:Int) (bl off:Nat) (an am:Int) (ab:List UInt8) (bn bm:Int) (bb:List UInt8) (hao:Hid (ao=some ⟨bl,off,none⟩)) (h4:At4 w bl off ⟨2,an,am,ab⟩) (g4:At4 w bl (off+4) ⟨bk,bn,bm,bb⟩) (hz:zf l n=false) (hn0:(0:Int)<(n:Int)) (hn1:(1:Int)<(n:Int)) (xb1:(bk==1)=false):RCB lo hi ok ao l n w (⟨#[114,111,117,110,100]⟩) (.tuple #[va 0 0 0 ⟨#[]⟩,.int .i64 31])
 | abs2p (h1:ok=true) (h2:¬ (n:Int)<lo) (h3:¬ (n:Int) > hi) (bl off:Nat) (an am:Int) (ab:List UInt8) (hao:Hid (ao=some ⟨bl,off,none⟩)) (h4:At4 w bl off ⟨2,an,am,ab⟩) (hz:zf l n=false) (hn0:(0:Int)<(n:Int)) (hneg:¬ an<0):RCB lo hi ok ao l n w (⟨#[97,98,115]⟩) (.tuple #[va 2 an am ⟨ab.toArray⟩,.int .i64 0])
 | px_no (h1:ok=true) (h2:¬ (n:Int)<lo) (h3:¬ (n:Int) > hi) (ak:Int) (bl off:Nat) (an am:Int) (ab:List UInt8) (hao:Hid (ao=some ⟨bl,off,none⟩)) (h4:At4 w bl off ⟨ak,an,am,ab⟩) (hz:zf l n=false) (hn0:(0:Int)<(n:Int)) (xa5:(ak==5)=false):RCB lo hi ok ao l n w (⟨#[112,120]⟩) (.tuple #[va 0 0 0 ⟨#[]⟩,.int .i64 31])
theorem rfunB {B:ByteArray} {R:Value} (lo hi:Int) (ok:Bool) (ao:Option Addr) (l:List Va) (n cap:Nat) (w:World) (HN:Hid (l.length=n)) (hl:n≤140737488351232) (hv:Vs w ao l) (hall:Hid (∀ x∈l,vr x=true))
  (KN:∀ W,Calls Tryz.prog 118 #[.string B] W fun e w'=>e=.returned (.tuple #[.int .i64 lo,.int .i64 hi,.bool ok])∧W=w') (C:RCB lo hi ok ao l n w B R) :
  Calls Tryz.prog 66 #[.string B,.slice ao n cap] w fun e w'=>e=.returned R∧Below w.heap.size w w':=by
 obtain ⟨w0,hw0,bxr,Bw⟩:=z2r w
 go_enter Tryz.func66,Tryz.ntmps66
 go_upto_region 1 with fail
 rw [← hw0]
 clear hw0
 replace hv:=hv.later Bw
 have NL:=fun k n m b W=>z2k k n m b W
 go_wp2_with (go_at_call 118;refine (KN _).mono ?_;rintro e wc ⟨rfl,rfl⟩)
 clear KN
 go_loopw [9,10] (fun s r wr=>∃ k:Nat,s=.bool (zf l k)∧r=.int .i64 (k:Int)∧k≤n∧Below w0.heap.size w0 wr) (fun _ r _=>n - (intOf r).toNat)
 case atStart=>exact ⟨0,rfl,rfl,Nat.zero_le _,Below.refl _ _⟩
 case round =>
  obtain ⟨k,rfl,rfl,hk,hB⟩:=hrel
  by_cases hlt:k<n
  ·have hlt':(k:Int)<(n:Int):=by omega
   have k0:(0:Int)≤(k:Int):=by omega
   have hkl:k<l.length:=by rw [HN.out];exact hlt
   obtain ⟨b,off,rfl,hc⟩:=hv (by omega)
   obtain ⟨c0,c1,c2,c3⟩:=((hc k (by omega)).later hB)
   have hg:=(hc k (by omega)).lt
   have sB:=hB.size
   have hg':b<wr.heap.size:=by omega
   have hr:=hall.out l[k] (List.getElem_mem _)
   have HS:Hid (zf l (k+1)=(zf l k || (l[k].k==0))):=z7e l k hkl
   obtain ⟨⟨vk,vn,vm,vb⟩,he⟩:∃ v:Va,v=l[k]:=⟨_,rfl⟩
   rw [← he] at c0 c1 c2 c3 hr HS
   have R:∀ W,Calls Tryz.prog 13 #[va vk vn vm ⟨vb.toArray⟩] W fun e w'=>e=.returned (.bool true)∧Below W.heap.size W w':=fun W=>by
    have:=rright_any vk vn vm ⟨vb.toArray⟩ W
    rwa [show vrt vk vn vm ⟨vb.toArray⟩=true from hr] at this
   clear hc he hr hall hv bxr
   cases hz:zf l k
   all_goals
    go_wp2_with (first
     | (go_at_call 13;refine (R _).mono ?_;rintro e wc ⟨rfl,bc⟩;obtain ⟨osc,dc,rfl⟩:=wide bc;clear bc)
     | (go_at_call 119;refine (NL _ _ _ _ _).mono ?_;rintro e wc ⟨rfl,os1,n1,rfl⟩))
    go_roundw
    case rel=>exact ⟨k+1,by rw [HS.out,hz];rfl,by go_num,by omega,z0a hB (z0z.below gC)⟩
    case measure=>simp [intOf];omega
  ·obtain rfl:k=n:=by omega
   have br:=bxr.later hB
   obtain ⟨r0,r1,r2,r3⟩:=br.at4
   dsimp only [nul] at r0 r1 r2 r3
   simp only [Nat.zero_add] at r1 r2 r3
   have f0:=br.free 0
   have f1:=br.free 1
   have f2:=br.free 2
   have f3:=br.free 3
   have lt1:=br.lt
   have lt2:w.heap.size<wr.heap.size+1:=by omega
   have lt3:w.heap.size<wr.heap.size+1+1:=by omega
   have Be:=z0a Bw hB
   replace hv:=hv.later hB
   clear br bxr
   cases C with
   | round1 h1 h2 h3 bl off an am ab bn bm bb hao h4 g4 hz hn0 hn1 b0 b6 z s x D =>
    rw [hz]
    subst h1
    have hao':=hao.out
    subst hao'
    obtain ⟨c0,c1,c2,c3⟩:=(h4.later Be)
    have hg:=(h4.later Be).lt
    have hg2:bl<wr.heap.size+1:=by omega
    have hg3:bl<wr.heap.size+1+1:=by omega
    dsimp only at c0 c1 c2 c3
    obtain ⟨d0,d1,d2,d3⟩:=(g4.later Be)
    dsimp only at d0 d1 d2 d3
    have d1':wr.cell? ⟨bl,off+5,none⟩=some (.int .i64 bn):=d1
    clear g4
    clear h4 hv hao
    go_wp2_with (first
     | (go_at_call 121;refine (z0t _ _ _ _ _).mono ?_;rintro e wc ⟨rfl,os3,n3,rfl⟩))
    go_region_held2 (fun W=>W.cell? ⟨wr.heap.size,0,none⟩=some (.int .i64 1)∧W.cell? ⟨wr.heap.size,1,none⟩=some (.int .i64 an)∧W.cell? ⟨wr.heap.size,2,none⟩=some (.int .i64 am)∧W.cell? ⟨wr.heap.size,3,none⟩=some (.string ⟨ab.toArray⟩)∧W.cell? ⟨bl,off+5,none⟩=some (.int .i64 bn)) (simp (maxDischargeDepth:=12) [go_sem,d1',hg]) (first
     | (go_at_call 127;refine (z3z _ _ _ _ _).mono ?_;rintro e wc ⟨rfl,os4,n4,rfl⟩)
     | (go_at_call 126;refine (D _).mono ?_;rintro e wc ⟨rfl,os5,n5,rfl⟩)
     | (go_at_call 125;refine (z3e _ _ _ _).mono ?_;rintro e wc ⟨rfl,os6,n6,rfl⟩))
    all_goals go_wp2
    all_goals refine bodyPost_ret_by (v:=rs (z2a z s x)) ?_ rfl ⟨rfl,?_⟩
    ·simp [results,Tryz.results66,go_sem,r0,r1,r2,r3,lt1,lt2]
    ·refine z0a (Be.setCell (p:=⟨w.heap.size,0,none⟩) (Nat.le_refl _) (.int .i64 (z2a z s x).1.k) |>.setCell (p:=⟨w.heap.size,1,none⟩) (Nat.le_refl _) (.int .i64 (z2a z s x).1.n) |>.setCell (p:=⟨w.heap.size,2,none⟩) (Nat.le_refl _) (.int .i64 (z2a z s x).1.m) |>.setCell (p:=⟨w.heap.size,3,none⟩) (Nat.le_refl _) (.string ⟨(z2a z s x).1.b.toArray⟩)) (z0z.below ?_)
     repeat exact gC
   | norm h1 h2 h3 bl off an am ab hao h4 hz hn0 x D =>
    rw [hz]
    subst h1
    have hao':=hao.out
    subst hao'
    obtain ⟨c0,c1,c2,c3⟩:=(h4.later Be)
    have hg:=(h4.later Be).lt
    have hg2:bl<wr.heap.size+1:=by omega
    have hg3:bl<wr.heap.size+1+1:=by omega
    dsimp only at c0 c1 c2 c3
    clear h4 hv hao
    go_wp2_with (first
     | (go_at_call 123;refine (z7f _ _ _ _ _).mono ?_;rintro e wc ⟨rfl,os3,n3,rfl⟩)
     | (go_at_call 122;refine (D _).mono ?_;rintro e wc ⟨rfl,os4,n4,rfl⟩)
     | (go_at_call 120;refine (z4m _ _ _).mono ?_;rintro e wc ⟨rfl,os2,n2,rfl⟩))
    refine bodyPost_ret_by (v:=rs (z0v x 0)) ?_ rfl ⟨rfl,?_⟩
    ·simp [results,Tryz.results66,go_sem,r0,r1,r2,r3,lt1]
    ·refine z0a (Be.setCell (p:=⟨w.heap.size,0,none⟩) (Nat.le_refl _) (.int .i64 (z0v x 0).1.k) |>.setCell (p:=⟨w.heap.size,1,none⟩) (Nat.le_refl _) (.int .i64 (z0v x 0).1.n) |>.setCell (p:=⟨w.heap.size,2,none⟩) (Nat.le_refl _) (.int .i64 (z0v x 0).1.m) |>.setCell (p:=⟨w.heap.size,3,none⟩) (Nat.le_refl _) (.string ⟨(z0v x 0).1.b.toArray⟩)) (z0z.below ?_)
     repeat exact gC
   | round_noB2 h1 h2 h3 bk bl off an am ab bn bm bb hao h4 g4 hz hn0 hn1 xb1 =>
    rw [hz]
    subst h1
    have hao':=hao.out
    subst hao'
    obtain ⟨c0,c1,c2,c3⟩:=(h4.later Be)
    have hg:=(h4.later Be).lt
    have hg2:bl<wr.heap.size+1:=by omega
    have hg3:bl<wr.heap.size+1+1:=by omega
    dsimp only at c0 c1 c2 c3
    obtain ⟨d0,d1,d2,d3⟩:=(g4.later Be)
    dsimp only at d0 d1 d2 d3
    have d1':wr.cell? ⟨bl,off+5,none⟩=some (.int .i64 bn):=d1
    clear g4
    clear h4 hv hao
    go_wp2_with (first
     | (go_at_call 121;refine (z0t _ _ _ _ _).mono ?_;rintro e wc ⟨rfl,os3,n3,rfl⟩))
    refine bodyPost_ret_by (v:=.tuple #[va 0 0 0 ⟨#[]⟩,.int .i64 31]) ?_ rfl ⟨rfl,?_⟩
    ·simp [results,Tryz.results66,go_sem,r0,r1,r2,r3,lt1]
    ·refine z0a (Be.setCell (p:=⟨w.heap.size,0,none⟩) (Nat.le_refl _) (.int .i64 0) |>.setCell (p:=⟨w.heap.size,1,none⟩) (Nat.le_refl _) (.int .i64 0) |>.setCell (p:=⟨w.heap.size,2,none⟩) (Nat.le_refl _) (.int .i64 0) |>.setCell (p:=⟨w.heap.size,3,none⟩) (Nat.le_refl _) (.string ⟨#[]⟩)) (z0z.below ?_)
     repeat exact gC
   | abs2p h1 h2 h3 bl off an am ab hao h4 hz hn0 hneg =>
    rw [hz]
    subst h1
    have hao':=hao.out
    subst hao'
    obtain ⟨c0,c1,c2,c3⟩:=(h4.later Be)
    have hg:=(h4.later Be).lt
    have hg2:bl<wr.heap.size+1:=by omega
    have hg3:bl<wr.heap.size+1+1:=by omega
    dsimp only at c0 c1 c2 c3
    clear h4 hv hao
    go_wp2_with (first
     | (go_at_call 121;refine (z0t _ _ _ _ _).mono ?_;rintro e wc ⟨rfl,os3,n3,rfl⟩))
    refine bodyPost_ret_by (v:=.tuple #[va 2 an am ⟨ab.toArray⟩,.int .i64 0]) ?_ rfl ⟨rfl,?_⟩
    ·simp [results,Tryz.results66,go_sem,r0,r1,r2,r3,lt1]
    ·refine z0a (Be.setCell (p:=⟨w.heap.size,0,none⟩) (Nat.le_refl _) (.int .i64 2) |>.setCell (p:=⟨w.heap.size,1,none⟩) (Nat.le_refl _) (.int .i64 an) |>.setCell (p:=⟨w.heap.size,2,none⟩) (Nat.le_refl _) (.int .i64 am) |>.setCell (p:=⟨w.heap.size,3,none⟩) (Nat.le_refl _) (.string ⟨ab.toArray⟩)) (z0z.below ?_)
     repeat exact gC
   | px_no h1 h2 h3 ak bl off an am ab hao h4 hz hn0 xa5 =>
    rw [hz]
    subst h1
    have hao':=hao.out
    subst hao'
    obtain ⟨c0,c1,c2,c3⟩:=(h4.later Be)
    have hg:=(h4.later Be).lt
    have hg2:bl<wr.heap.size+1:=by omega
    have hg3:bl<wr.heap.size+1+1:=by omega
    dsimp only at c0 c1 c2 c3
    clear h4 hv hao
    go_wp2
    refine bodyPost_ret_by (v:=.tuple #[va 0 0 0 ⟨#[]⟩,.int .i64 31]) ?_ rfl ⟨rfl,?_⟩
    ·simp [results,Tryz.results66,go_sem,r0,r1,r2,r3,lt1]
    ·refine z0a (Be.setCell (p:=⟨w.heap.size,0,none⟩) (Nat.le_refl _) (.int .i64 0) |>.setCell (p:=⟨w.heap.size,1,none⟩) (Nat.le_refl _) (.int .i64 0) |>.setCell (p:=⟨w.heap.size,2,none⟩) (Nat.le_refl _) (.int .i64 0) |>.setCell (p:=⟨w.heap.size,3,none⟩) (Nat.le_refl _) (.string ⟨#[]⟩)) (z0z.below ?_)
     repeat exact gC
inductive RCC (lo hi:Int) (ok:Bool) (ao:Option Addr) (l:List Va) (n:Nat) (w:World):ByteArray→Value→Prop
 | round2 (h1:ok=true) (h2:¬ (n:Int)<lo) (h3:¬ (n:Int) > hi) (bl off:Nat) (an am:Int) (ab:List UInt8) (bn bm:Int) (bb:List UInt8) (hao:Hid (ao=some ⟨bl,off,none⟩)) (h4:At4 w bl off ⟨2,an,am,ab⟩) (g4:At4 w bl (off+4) ⟨1,bn,bm,bb⟩) (hz:zf l n=false) (hn0:(0:Int)<(n:Int)) (hn1:(1:Int)<(n:Int)) (b0:¬ bn<0) (b6:¬ bn > 6) (z s x:Int) (D:∀ W,Calls Tryz.prog 126 #[dv an am,.int .i64 bn] W fun e w'=>e=.returned (.tuple #[dv z s,.int .i64 x])∧Grew W w'):RCC lo hi ok ao l n w (⟨#[114,111,117,110,100]⟩) (rs (z2a z s x))
 | round1lo (h1:ok=true) (h2:¬ (n:Int)<lo) (h3:¬ (n:Int) > hi) (bl off:Nat) (an am:Int) (ab:List UInt8) (bn bm:Int) (bb:List UInt8) (hao:Hid (ao=some ⟨bl,off,none⟩)) (h4:At4 w bl off ⟨1,an,am,ab⟩) (g4:At4 w bl (off+4) ⟨1,bn,bm,bb⟩) (hz:zf l n=false) (hn0:(0:Int)<(n:Int)) (hn1:(1:Int)<(n:Int)) (b0:bn<0):RCC lo hi ok ao l n w (⟨#[114,111,117,110,100]⟩) (.tuple #[va 0 0 0 ⟨#[]⟩,.int .i64 32])
 | round_noA (h1:ok=true) (h2:¬ (n:Int)<lo) (h3:¬ (n:Int) > hi) (ak:Int) (bk:Int) (bl off:Nat) (an am:Int) (ab:List UInt8) (bn bm:Int) (bb:List UInt8) (hao:Hid (ao=some ⟨bl,off,none⟩)) (h4:At4 w bl off ⟨ak,an,am,ab⟩) (g4:At4 w bl (off+4) ⟨bk,bn,bm,bb⟩) (hz:zf l n=false) (hn0:(0:Int)<(n:Int)) (hn1:(1:Int)<(n:Int)) (xa1:(ak==1)=false) (xa2:(ak==2)=false):RCC lo hi ok ao l n w (⟨#[114,111,117,110,100]⟩) (.tuple #[va 0 0 0 ⟨#[]⟩,.int .i64 31])
 | point_noA (h1:ok=true) (h2:¬ (n:Int)<lo) (h3:¬ (n:Int) > hi) (ak:Int) (bk:Int) (bl off:Nat) (an am:Int) (ab:List UInt8) (bn bm:Int) (bb:List UInt8) (hao:Hid (ao=some ⟨bl,off,none⟩)) (h4:At4 w bl off ⟨ak,an,am,ab⟩) (g4:At4 w bl (off+4) ⟨bk,bn,bm,bb⟩) (hz:zf l n=false) (hn0:(0:Int)<(n:Int)) (hn1:(1:Int)<(n:Int)) (xa1:(ak==1)=false):RCC lo hi ok ao l n w (⟨#[112,111,105,110,116]⟩) (.tuple #[va 0 0 0 ⟨#[]⟩,.int .i64 31])
 | py_no (h1:ok=true) (h2:¬ (n:Int)<lo) (h3:¬ (n:Int) > hi) (ak:Int) (bl off:Nat) (an am:Int) (ab:List UInt8) (hao:Hid (ao=some ⟨bl,off,none⟩)) (h4:At4 w bl off ⟨ak,an,am,ab⟩) (hz:zf l n=false) (hn0:(0:Int)<(n:Int)) (xa5:(ak==5)=false):RCC lo hi ok ao l n w (⟨#[112,121]⟩) (.tuple #[va 0 0 0 ⟨#[]⟩,.int .i64 31])
theorem rfunC {B:ByteArray} {R:Value} (lo hi:Int) (ok:Bool) (ao:Option Addr) (l:List Va) (n cap:Nat) (w:World) (HN:Hid (l.length=n)) (hl:n≤140737488351232) (hv:Vs w ao l) (hall:Hid (∀ x∈l,vr x=true))
  (KN:∀ W,Calls Tryz.prog 118 #[.string B] W fun e w'=>e=.returned (.tuple #[.int .i64 lo,.int .i64 hi,.bool ok])∧W=w') (C:RCC lo hi ok ao l n w B R) :
  Calls Tryz.prog 66 #[.string B,.slice ao n cap] w fun e w'=>e=.returned R∧Below w.heap.size w w':=by
 obtain ⟨w0,hw0,bxr,Bw⟩:=z2r w
 go_enter Tryz.func66,Tryz.ntmps66
 go_upto_region 1 with fail
 rw [← hw0]
 clear hw0
 replace hv:=hv.later Bw
 have NL:=fun k n m b W=>z2k k n m b W
 go_wp2_with (go_at_call 118;refine (KN _).mono ?_;rintro e wc ⟨rfl,rfl⟩)
 clear KN
 go_loopw [9,10] (fun s r wr=>∃ k:Nat,s=.bool (zf l k)∧r=.int .i64 (k:Int)∧k≤n∧Below w0.heap.size w0 wr) (fun _ r _=>n - (intOf r).toNat)
 case atStart=>exact ⟨0,rfl,rfl,Nat.zero_le _,Below.refl _ _⟩
 case round =>
  obtain ⟨k,rfl,rfl,hk,hB⟩:=hrel
  by_cases hlt:k<n
  ·have hlt':(k:Int)<(n:Int):=by omega
   have k0:(0:Int)≤(k:Int):=by omega
   have hkl:k<l.length:=by rw [HN.out];exact hlt
   obtain ⟨b,off,rfl,hc⟩:=hv (by omega)
   obtain ⟨c0,c1,c2,c3⟩:=((hc k (by omega)).later hB)
   have hg:=(hc k (by omega)).lt
   have sB:=hB.size
   have hg':b<wr.heap.size:=by omega
   have hr:=hall.out l[k] (List.getElem_mem _)
   have HS:Hid (zf l (k+1)=(zf l k || (l[k].k==0))):=z7e l k hkl
   obtain ⟨⟨vk,vn,vm,vb⟩,he⟩:∃ v:Va,v=l[k]:=⟨_,rfl⟩
   rw [← he] at c0 c1 c2 c3 hr HS
   have R:∀ W,Calls Tryz.prog 13 #[va vk vn vm ⟨vb.toArray⟩] W fun e w'=>e=.returned (.bool true)∧Below W.heap.size W w':=fun W=>by
    have:=rright_any vk vn vm ⟨vb.toArray⟩ W
    rwa [show vrt vk vn vm ⟨vb.toArray⟩=true from hr] at this
   clear hc he hr hall hv bxr
   cases hz:zf l k
   all_goals
    go_wp2_with (first
     | (go_at_call 13;refine (R _).mono ?_;rintro e wc ⟨rfl,bc⟩;obtain ⟨osc,dc,rfl⟩:=wide bc;clear bc)
     | (go_at_call 119;refine (NL _ _ _ _ _).mono ?_;rintro e wc ⟨rfl,os1,n1,rfl⟩))
    go_roundw
    case rel=>exact ⟨k+1,by rw [HS.out,hz];rfl,by go_num,by omega,z0a hB (z0z.below gC)⟩
    case measure=>simp [intOf];omega
  ·obtain rfl:k=n:=by omega
   have br:=bxr.later hB
   obtain ⟨r0,r1,r2,r3⟩:=br.at4
   dsimp only [nul] at r0 r1 r2 r3
   simp only [Nat.zero_add] at r1 r2 r3
   have f0:=br.free 0
   have f1:=br.free 1
   have f2:=br.free 2
   have f3:=br.free 3
   have lt1:=br.lt
   have lt2:w.heap.size<wr.heap.size+1:=by omega
   have lt3:w.heap.size<wr.heap.size+1+1:=by omega
   have Be:=z0a Bw hB
   replace hv:=hv.later hB
   clear br bxr
   cases C with
   | round2 h1 h2 h3 bl off an am ab bn bm bb hao h4 g4 hz hn0 hn1 b0 b6 z s x D =>
    rw [hz]
    subst h1
    have hao':=hao.out
    subst hao'
    obtain ⟨c0,c1,c2,c3⟩:=(h4.later Be)
    have hg:=(h4.later Be).lt
    have hg2:bl<wr.heap.size+1:=by omega
    have hg3:bl<wr.heap.size+1+1:=by omega
    dsimp only at c0 c1 c2 c3
    obtain ⟨d0,d1,d2,d3⟩:=(g4.later Be)
    dsimp only at d0 d1 d2 d3
    have d1':wr.cell? ⟨bl,off+5,none⟩=some (.int .i64 bn):=d1
    clear g4
    clear h4 hv hao
    go_wp2_with (first
     | (go_at_call 121;refine (z0t _ _ _ _ _).mono ?_;rintro e wc ⟨rfl,os3,n3,rfl⟩))
    go_region_held2 (fun W=>W.cell? ⟨wr.heap.size,0,none⟩=some (.int .i64 2)∧W.cell? ⟨wr.heap.size,1,none⟩=some (.int .i64 an)∧W.cell? ⟨wr.heap.size,2,none⟩=some (.int .i64 am)∧W.cell? ⟨wr.heap.size,3,none⟩=some (.string ⟨ab.toArray⟩)∧W.cell? ⟨bl,off+5,none⟩=some (.int .i64 bn)) (simp (maxDischargeDepth:=12) [go_sem,d1',hg]) (first
     | (go_at_call 127;refine (z3z _ _ _ _ _).mono ?_;rintro e wc ⟨rfl,os4,n4,rfl⟩)
     | (go_at_call 126;refine (D _).mono ?_;rintro e wc ⟨rfl,os5,n5,rfl⟩)
     | (go_at_call 125;refine (z3e _ _ _ _).mono ?_;rintro e wc ⟨rfl,os6,n6,rfl⟩))
    all_goals go_wp2
    all_goals refine bodyPost_ret_by (v:=rs (z2a z s x)) ?_ rfl ⟨rfl,?_⟩
    ·simp [results,Tryz.results66,go_sem,r0,r1,r2,r3,lt1,lt2]
    ·refine z0a (Be.setCell (p:=⟨w.heap.size,0,none⟩) (Nat.le_refl _) (.int .i64 (z2a z s x).1.k) |>.setCell (p:=⟨w.heap.size,1,none⟩) (Nat.le_refl _) (.int .i64 (z2a z s x).1.n) |>.setCell (p:=⟨w.heap.size,2,none⟩) (Nat.le_refl _) (.int .i64 (z2a z s x).1.m) |>.setCell (p:=⟨w.heap.size,3,none⟩) (Nat.le_refl _) (.string ⟨(z2a z s x).1.b.toArray⟩)) (z0z.below ?_)
     repeat exact gC
   | round1lo h1 h2 h3 bl off an am ab bn bm bb hao h4 g4 hz hn0 hn1 b0 =>
    rw [hz]
    subst h1
    have hao':=hao.out
    subst hao'
    obtain ⟨c0,c1,c2,c3⟩:=(h4.later Be)
    have hg:=(h4.later Be).lt
    have hg2:bl<wr.heap.size+1:=by omega
    have hg3:bl<wr.heap.size+1+1:=by omega
    dsimp only at c0 c1 c2 c3
    obtain ⟨d0,d1,d2,d3⟩:=(g4.later Be)
    dsimp only at d0 d1 d2 d3
    have d1':wr.cell? ⟨bl,off+5,none⟩=some (.int .i64 bn):=d1
    clear g4
    clear h4 hv hao
    go_wp2_with (first
     | (go_at_call 121;refine (z0t _ _ _ _ _).mono ?_;rintro e wc ⟨rfl,os3,n3,rfl⟩))
    refine bodyPost_ret_by (v:=.tuple #[va 0 0 0 ⟨#[]⟩,.int .i64 32]) ?_ rfl ⟨rfl,?_⟩
    ·simp [results,Tryz.results66,go_sem,r0,r1,r2,r3,lt1]
    ·refine z0a (Be.setCell (p:=⟨w.heap.size,0,none⟩) (Nat.le_refl _) (.int .i64 0) |>.setCell (p:=⟨w.heap.size,1,none⟩) (Nat.le_refl _) (.int .i64 0) |>.setCell (p:=⟨w.heap.size,2,none⟩) (Nat.le_refl _) (.int .i64 0) |>.setCell (p:=⟨w.heap.size,3,none⟩) (Nat.le_refl _) (.string ⟨#[]⟩)) (z0z.below ?_)
     repeat exact gC
   | round_noA h1 h2 h3 ak bk bl off an am ab bn bm bb hao h4 g4 hz hn0 hn1 xa1 xa2 =>
    rw [hz]
    subst h1
    have hao':=hao.out
    subst hao'
    obtain ⟨c0,c1,c2,c3⟩:=(h4.later Be)
    have hg:=(h4.later Be).lt
    have hg2:bl<wr.heap.size+1:=by omega
    have hg3:bl<wr.heap.size+1+1:=by omega
    dsimp only at c0 c1 c2 c3
    obtain ⟨d0,d1,d2,d3⟩:=(g4.later Be)
    dsimp only at d0 d1 d2 d3
    have d1':wr.cell? ⟨bl,off+5,none⟩=some (.int .i64 bn):=d1
    clear g4
    clear h4 hv hao
    go_wp2_with (first
     | (go_at_call 121;refine (z0t _ _ _ _ _).mono ?_;rintro e wc ⟨rfl,os3,n3,rfl⟩))
    refine bodyPost_ret_by (v:=.tuple #[va 0 0 0 ⟨#[]⟩,.int .i64 31]) ?_ rfl ⟨rfl,?_⟩
    ·simp [results,Tryz.results66,go_sem,r0,r1,r2,r3,lt1]
    ·refine z0a (Be.setCell (p:=⟨w.heap.size,0,none⟩) (Nat.le_refl _) (.int .i64 0) |>.setCell (p:=⟨w.heap.size,1,none⟩) (Nat.le_refl _) (.int .i64 0) |>.setCell (p:=⟨w.heap.size,2,none⟩) (Nat.le_refl _) (.int .i64 0) |>.setCell (p:=⟨w.heap.size,3,none⟩) (Nat.le_refl _) (.string ⟨#[]⟩)) (z0z.below ?_)
     repeat exact gC
   | point_noA h1 h2 h3 ak bk bl off an am ab bn bm bb hao h4 g4 hz hn0 hn1 xa1 =>
    rw [hz]
    subst h1
    have hao':=hao.out
    subst hao'
    obtain ⟨c0,c1,c2,c3⟩:=(h4.later Be)
    have hg:=(h4.later Be).lt
    have hg2:bl<wr.heap.size+1:=by omega
    have hg3:bl<wr.heap.size+1+1:=by omega
    dsimp only at c0 c1 c2 c3
    obtain ⟨d0,d1,d2,d3⟩:=(g4.later Be)
    dsimp only at d0 d1 d2 d3
    have d1':wr.cell? ⟨bl,off+5,none⟩=some (.int .i64 bn):=d1
    clear g4
    clear h4 hv hao
    go_wp2
    refine bodyPost_ret_by (v:=.tuple #[va 0 0 0 ⟨#[]⟩,.int .i64 31]) ?_ rfl ⟨rfl,?_⟩
    ·simp [results,Tryz.results66,go_sem,r0,r1,r2,r3,lt1]
    ·refine z0a (Be.setCell (p:=⟨w.heap.size,0,none⟩) (Nat.le_refl _) (.int .i64 0) |>.setCell (p:=⟨w.heap.size,1,none⟩) (Nat.le_refl _) (.int .i64 0) |>.setCell (p:=⟨w.heap.size,2,none⟩) (Nat.le_refl _) (.int .i64 0) |>.setCell (p:=⟨w.heap.size,3,none⟩) (Nat.le_refl _) (.string ⟨#[]⟩)) (z0z.below ?_)
     repeat exact gC
   | py_no h1 h2 h3 ak bl off an am ab hao h4 hz hn0 xa5 =>
    rw [hz]
    subst h1
    have hao':=hao.out
    subst hao'
    obtain ⟨c0,c1,c2,c3⟩:=(h4.later Be)
    have hg:=(h4.later Be).lt
    have hg2:bl<wr.heap.size+1:=by omega
    have hg3:bl<wr.heap.size+1+1:=by omega
    dsimp only at c0 c1 c2 c3
    clear h4 hv hao
    go_wp2
    refine bodyPost_ret_by (v:=.tuple #[va 0 0 0 ⟨#[]⟩,.int .i64 31]) ?_ rfl ⟨rfl,?_⟩
    ·simp [results,Tryz.results66,go_sem,r0,r1,r2,r3,lt1]
    ·refine z0a (Be.setCell (p:=⟨w.heap.size,0,none⟩) (Nat.le_refl _) (.int .i64 0) |>.setCell (p:=⟨w.heap.size,1,none⟩) (Nat.le_refl _) (.int .i64 0) |>.setCell (p:=⟨w.heap.size,2,none⟩) (Nat.le_refl _) (.int .i64 0) |>.setCell (p:=⟨w.heap.size,3,none⟩) (Nat.le_refl _) (.string ⟨#[]⟩)) (z0z.below ?_)
     repeat exact gC
inductive RCD (lo hi:Int) (ok:Bool) (ao:Option Addr) (l:List Va) (n:Nat) (w:World):ByteArray→Value→Prop
 | point (h1:ok=true) (h2:¬ (n:Int)<lo) (h3:¬ (n:Int) > hi) (bl off:Nat) (an am:Int) (ab:List UInt8) (bn bm:Int) (bb:List UInt8) (hao:Hid (ao=some ⟨bl,off,none⟩)) (h4:At4 w bl off ⟨1,an,am,ab⟩) (g4:At4 w bl (off+4) ⟨1,bn,bm,bb⟩) (hz:zf l n=false) (hn0:(0:Int)<(n:Int)) (hn1:(1:Int)<(n:Int))  (D:∀ W,Calls Tryz.prog 47 #[dv an bn] W fun e w'=>e=.returned (.bool true)∧Grew W w'):RCD lo hi ok ao l n w (⟨#[112,111,105,110,116]⟩) (rs (z0u an bn 0))
 | round1hi (h1:ok=true) (h2:¬ (n:Int)<lo) (h3:¬ (n:Int) > hi) (bl off:Nat) (an am:Int) (ab:List UInt8) (bn bm:Int) (bb:List UInt8) (hao:Hid (ao=some ⟨bl,off,none⟩)) (h4:At4 w bl off ⟨1,an,am,ab⟩) (g4:At4 w bl (off+4) ⟨1,bn,bm,bb⟩) (hz:zf l n=false) (hn0:(0:Int)<(n:Int)) (hn1:(1:Int)<(n:Int)) (b0:¬ bn<0) (b6:bn > 6):RCD lo hi ok ao l n w (⟨#[114,111,117,110,100]⟩) (.tuple #[va 0 0 0 ⟨#[]⟩,.int .i64 32])
 | length (h1:ok=true) (h2:¬ (n:Int)<lo) (h3:¬ (n:Int) > hi) (bl off:Nat) (an am:Int) (ab:List UInt8) (hao:Hid (ao=some ⟨bl,off,none⟩)) (h4:At4 w bl off ⟨3,an,am,ab⟩) (hz:zf l n=false) (hn0:(0:Int)<(n:Int)):RCD lo hi ok ao l n w (⟨#[108,101,110,103,116,104]⟩) (rs (z0v (ab.length:Int) 0))
 | point_noB (h1:ok=true) (h2:¬ (n:Int)<lo) (h3:¬ (n:Int) > hi) (bk:Int) (bl off:Nat) (an am:Int) (ab:List UInt8) (bn bm:Int) (bb:List UInt8) (hao:Hid (ao=some ⟨bl,off,none⟩)) (h4:At4 w bl off ⟨1,an,am,ab⟩) (g4:At4 w bl (off+4) ⟨bk,bn,bm,bb⟩) (hz:zf l n=false) (hn0:(0:Int)<(n:Int)) (hn1:(1:Int)<(n:Int)) (xb1:(bk==1)=false):RCD lo hi ok ao l n w (⟨#[112,111,105,110,116]⟩) (.tuple #[va 0 0 0 ⟨#[]⟩,.int .i64 31])
 | name1 {B:ByteArray} (h1:ok=false):RCD lo hi ok ao l n w B (.tuple #[va 0 0 0 ⟨#[]⟩,.int .i64 34])
theorem rfunD {B:ByteArray} {R:Value} (lo hi:Int) (ok:Bool) (ao:Option Addr) (l:List Va) (n cap:Nat) (w:World) (HN:Hid (l.length=n)) (hl:n≤140737488351232) (hv:Vs w ao l) (hall:Hid (∀ x∈l,vr x=true))
  (KN:∀ W,Calls Tryz.prog 118 #[.string B] W fun e w'=>e=.returned (.tuple #[.int .i64 lo,.int .i64 hi,.bool ok])∧W=w') (C:RCD lo hi ok ao l n w B R) :
  Calls Tryz.prog 66 #[.string B,.slice ao n cap] w fun e w'=>e=.returned R∧Below w.heap.size w w':=by
 obtain ⟨w0,hw0,bxr,Bw⟩:=z2r w
 go_enter Tryz.func66,Tryz.ntmps66
 go_upto_region 1 with fail
 rw [← hw0]
 clear hw0
 replace hv:=hv.later Bw
 have NL:=fun k n m b W=>z2k k n m b W
 go_wp2_with (go_at_call 118;refine (KN _).mono ?_;rintro e wc ⟨rfl,rfl⟩)
 clear KN
 go_loopw [9,10] (fun s r wr=>∃ k:Nat,s=.bool (zf l k)∧r=.int .i64 (k:Int)∧k≤n∧Below w0.heap.size w0 wr) (fun _ r _=>n - (intOf r).toNat)
 case atStart=>exact ⟨0,rfl,rfl,Nat.zero_le _,Below.refl _ _⟩
 case round =>
  obtain ⟨k,rfl,rfl,hk,hB⟩:=hrel
  by_cases hlt:k<n
  ·have hlt':(k:Int)<(n:Int):=by omega
   have k0:(0:Int)≤(k:Int):=by omega
   have hkl:k<l.length:=by rw [HN.out];exact hlt
   obtain ⟨b,off,rfl,hc⟩:=hv (by omega)
   obtain ⟨c0,c1,c2,c3⟩:=((hc k (by omega)).later hB)
   have hg:=(hc k (by omega)).lt
   have sB:=hB.size
   have hg':b<wr.heap.size:=by omega
   have hr:=hall.out l[k] (List.getElem_mem _)
   have HS:Hid (zf l (k+1)=(zf l k || (l[k].k==0))):=z7e l k hkl
   obtain ⟨⟨vk,vn,vm,vb⟩,he⟩:∃ v:Va,v=l[k]:=⟨_,rfl⟩
   rw [← he] at c0 c1 c2 c3 hr HS
   have R:∀ W,Calls Tryz.prog 13 #[va vk vn vm ⟨vb.toArray⟩] W fun e w'=>e=.returned (.bool true)∧Below W.heap.size W w':=fun W=>by
    have:=rright_any vk vn vm ⟨vb.toArray⟩ W
    rwa [show vrt vk vn vm ⟨vb.toArray⟩=true from hr] at this
   clear hc he hr hall hv bxr
   cases hz:zf l k
   all_goals
    go_wp2_with (first
     | (go_at_call 13;refine (R _).mono ?_;rintro e wc ⟨rfl,bc⟩;obtain ⟨osc,dc,rfl⟩:=wide bc;clear bc)
     | (go_at_call 119;refine (NL _ _ _ _ _).mono ?_;rintro e wc ⟨rfl,os1,n1,rfl⟩))
    go_roundw
    case rel=>exact ⟨k+1,by rw [HS.out,hz];rfl,by go_num,by omega,z0a hB (z0z.below gC)⟩
    case measure=>simp [intOf];omega
  ·obtain rfl:k=n:=by omega
   have br:=bxr.later hB
   obtain ⟨r0,r1,r2,r3⟩:=br.at4
   dsimp only [nul] at r0 r1 r2 r3
   simp only [Nat.zero_add] at r1 r2 r3
   have f0:=br.free 0
   have f1:=br.free 1
   have f2:=br.free 2
   have f3:=br.free 3
   have lt1:=br.lt
   have lt2:w.heap.size<wr.heap.size+1:=by omega
   have lt3:w.heap.size<wr.heap.size+1+1:=by omega
   have Be:=z0a Bw hB
   replace hv:=hv.later hB
   clear br bxr
   cases C with
   | point h1 h2 h3 bl off an am ab bn bm bb hao h4 g4 hz hn0 hn1 D =>
    rw [hz]
    subst h1
    have hao':=hao.out
    subst hao'
    obtain ⟨c0,c1,c2,c3⟩:=(h4.later Be)
    have hg:=(h4.later Be).lt
    have hg2:bl<wr.heap.size+1:=by omega
    have hg3:bl<wr.heap.size+1+1:=by omega
    dsimp only at c0 c1 c2 c3
    obtain ⟨d0,d1,d2,d3⟩:=(g4.later Be)
    dsimp only at d0 d1 d2 d3
    have d1':wr.cell? ⟨bl,off+5,none⟩=some (.int .i64 bn):=d1
    clear g4
    clear h4 hv hao
    go_wp2_with (first
     | (go_at_call 47;refine (D _).mono ?_;rintro e wc ⟨rfl,os4,n4,rfl⟩)
     | (go_at_call 124;refine (z2c _ _ _ _).mono ?_;rintro e wc ⟨rfl,os5,n5,rfl⟩))
    go_region_held2 (fun W=>W.cell? ⟨wr.heap.size,1,none⟩=some (.int .i64 an)∧W.cell? ⟨bl,off+5,none⟩=some (.int .i64 bn)) (simp (maxDischargeDepth:=12) [go_sem,d1',hg]) (fail)
    all_goals go_wp2_with (first
     | (go_at_call 47;refine (D _).mono ?_;rintro e wc ⟨rfl,os4,n4,rfl⟩)
     | (go_at_call 124;refine (z2c _ _ _ _).mono ?_;rintro e wc ⟨rfl,os5,n5,rfl⟩))
    all_goals refine bodyPost_ret_by (v:=rs (z0u an bn 0)) ?_ rfl ⟨rfl,?_⟩
    ·simp [results,Tryz.results66,go_sem,r0,r1,r2,r3,lt1,lt3]
    ·refine z0a (Be.setCell (p:=⟨w.heap.size,0,none⟩) (Nat.le_refl _) (.int .i64 (z0u an bn 0).1.k) |>.setCell (p:=⟨w.heap.size,1,none⟩) (Nat.le_refl _) (.int .i64 (z0u an bn 0).1.n) |>.setCell (p:=⟨w.heap.size,2,none⟩) (Nat.le_refl _) (.int .i64 (z0u an bn 0).1.m) |>.setCell (p:=⟨w.heap.size,3,none⟩) (Nat.le_refl _) (.string ⟨(z0u an bn 0).1.b.toArray⟩)) (z0z.below ?_)
     repeat exact gC
   | round1hi h1 h2 h3 bl off an am ab bn bm bb hao h4 g4 hz hn0 hn1 b0 b6 =>
    rw [hz]
    subst h1
    have hao':=hao.out
    subst hao'
    obtain ⟨c0,c1,c2,c3⟩:=(h4.later Be)
    have hg:=(h4.later Be).lt
    have hg2:bl<wr.heap.size+1:=by omega
    have hg3:bl<wr.heap.size+1+1:=by omega
    dsimp only at c0 c1 c2 c3
    obtain ⟨d0,d1,d2,d3⟩:=(g4.later Be)
    dsimp only at d0 d1 d2 d3
    have d1':wr.cell? ⟨bl,off+5,none⟩=some (.int .i64 bn):=d1
    clear g4
    clear h4 hv hao
    go_wp2_with (first
     | (go_at_call 121;refine (z0t _ _ _ _ _).mono ?_;rintro e wc ⟨rfl,os3,n3,rfl⟩))
    refine bodyPost_ret_by (v:=.tuple #[va 0 0 0 ⟨#[]⟩,.int .i64 32]) ?_ rfl ⟨rfl,?_⟩
    ·simp [results,Tryz.results66,go_sem,r0,r1,r2,r3,lt1]
    ·refine z0a (Be.setCell (p:=⟨w.heap.size,0,none⟩) (Nat.le_refl _) (.int .i64 0) |>.setCell (p:=⟨w.heap.size,1,none⟩) (Nat.le_refl _) (.int .i64 0) |>.setCell (p:=⟨w.heap.size,2,none⟩) (Nat.le_refl _) (.int .i64 0) |>.setCell (p:=⟨w.heap.size,3,none⟩) (Nat.le_refl _) (.string ⟨#[]⟩)) (z0z.below ?_)
     repeat exact gC
   | length h1 h2 h3 bl off an am ab hao h4 hz hn0 =>
    rw [hz]
    subst h1
    have hao':=hao.out
    subst hao'
    obtain ⟨c0,c1,c2,c3⟩:=(h4.later Be)
    have hg:=(h4.later Be).lt
    have hg2:bl<wr.heap.size+1:=by omega
    have hg3:bl<wr.heap.size+1+1:=by omega
    dsimp only at c0 c1 c2 c3
    clear h4 hv hao
    go_wp2_with (first
     | (go_at_call 120;refine (z4m _ _ _).mono ?_;rintro e wc ⟨rfl,os2,n2,rfl⟩))
    refine bodyPost_ret_by (v:=rs (z0v (ab.length:Int) 0)) ?_ rfl ⟨rfl,?_⟩
    ·simp [results,Tryz.results66,go_sem,r0,r1,r2,r3,lt1]
    ·refine z0a (Be.setCell (p:=⟨w.heap.size,0,none⟩) (Nat.le_refl _) (.int .i64 (z0v (ab.length:Int) 0).1.k) |>.setCell (p:=⟨w.heap.size,1,none⟩) (Nat.le_refl _) (.int .i64 (z0v (ab.length:Int) 0).1.n) |>.setCell (p:=⟨w.heap.size,2,none⟩) (Nat.le_refl _) (.int .i64 (z0v (ab.length:Int) 0).1.m) |>.setCell (p:=⟨w.heap.size,3,none⟩) (Nat.le_refl _) (.string ⟨(z0v (ab.length:Int) 0).1.b.toArray⟩)) (z0z.below ?_)
     repeat exact gC
   | point_noB h1 h2 h3 bk bl off an am ab bn bm bb hao h4 g4 hz hn0 hn1 xb1 =>
    rw [hz]
    subst h1
    have hao':=hao.out
    subst hao'
    obtain ⟨c0,c1,c2,c3⟩:=(h4.later Be)
    have hg:=(h4.later Be).lt
    have hg2:bl<wr.heap.size+1:=by omega
    have hg3:bl<wr.heap.size+1+1:=by omega
    dsimp only at c0 c1 c2 c3
    obtain ⟨d0,d1,d2,d3⟩:=(g4.later Be)
    dsimp only at d0 d1 d2 d3
    have d1':wr.cell? ⟨bl,off+5,none⟩=some (.int .i64 bn):=d1
    clear g4
    clear h4 hv hao
    go_wp2
    refine bodyPost_ret_by (v:=.tuple #[va 0 0 0 ⟨#[]⟩,.int .i64 31]) ?_ rfl ⟨rfl,?_⟩
    ·simp [results,Tryz.results66,go_sem,r0,r1,r2,r3,lt1]
    ·refine z0a (Be.setCell (p:=⟨w.heap.size,0,none⟩) (Nat.le_refl _) (.int .i64 0) |>.setCell (p:=⟨w.heap.size,1,none⟩) (Nat.le_refl _) (.int .i64 0) |>.setCell (p:=⟨w.heap.size,2,none⟩) (Nat.le_refl _) (.int .i64 0) |>.setCell (p:=⟨w.heap.size,3,none⟩) (Nat.le_refl _) (.string ⟨#[]⟩)) (z0z.below ?_)
     repeat exact gC
   | name1 h1 =>
    subst h1
    go_wp2
    refine bodyPost_ret_by (v:=.tuple #[va 0 0 0 ⟨#[]⟩,.int .i64 34]) ?_ rfl ⟨rfl,?_⟩
    ·simp [results,Tryz.results66,go_sem,r0,r1,r2,r3]
    ·refine z0a (Be.setCell (p:=⟨w.heap.size,0,none⟩) (Nat.le_refl _) (.int .i64 0) |>.setCell (p:=⟨w.heap.size,1,none⟩) (Nat.le_refl _) (.int .i64 0) |>.setCell (p:=⟨w.heap.size,2,none⟩) (Nat.le_refl _) (.int .i64 0) |>.setCell (p:=⟨w.heap.size,3,none⟩) (Nat.le_refl _) (.string ⟨#[]⟩)) (z0z.below ?_)
     repeat exact gC
inductive RCE (lo hi:Int) (ok:Bool) (ao:Option Addr) (l:List Va) (n:Nat) (w:World):ByteArray→Value→Prop
 | point_over (h1:ok=true) (h2:¬ (n:Int)<lo) (h3:¬ (n:Int) > hi) (bl off:Nat) (an am:Int) (ab:List UInt8) (bn bm:Int) (bb:List UInt8) (hao:Hid (ao=some ⟨bl,off,none⟩)) (h4:At4 w bl off ⟨1,an,am,ab⟩) (g4:At4 w bl (off+4) ⟨1,bn,bm,bb⟩) (hz:zf l n=false) (hn0:(0:Int)<(n:Int)) (hn1:(1:Int)<(n:Int))  (D:∀ W,Calls Tryz.prog 47 #[dv an bn] W fun e w'=>e=.returned (.bool false)∧Grew W w'):RCE lo hi ok ao l n w (⟨#[112,111,105,110,116]⟩) (.tuple #[va 0 0 0 ⟨#[]⟩,.int .i64 32])
 | round_noB1 (h1:ok=true) (h2:¬ (n:Int)<lo) (h3:¬ (n:Int) > hi) (bk:Int) (bl off:Nat) (an am:Int) (ab:List UInt8) (bn bm:Int) (bb:List UInt8) (hao:Hid (ao=some ⟨bl,off,none⟩)) (h4:At4 w bl off ⟨1,an,am,ab⟩) (g4:At4 w bl (off+4) ⟨bk,bn,bm,bb⟩) (hz:zf l n=false) (hn0:(0:Int)<(n:Int)) (hn1:(1:Int)<(n:Int)) (xb1:(bk==1)=false):RCE lo hi ok ao l n w (⟨#[114,111,117,110,100]⟩) (.tuple #[va 0 0 0 ⟨#[]⟩,.int .i64 31])
 | px (h1:ok=true) (h2:¬ (n:Int)<lo) (h3:¬ (n:Int) > hi) (bl off:Nat) (an am:Int) (ab:List UInt8) (hao:Hid (ao=some ⟨bl,off,none⟩)) (h4:At4 w bl off ⟨5,an,am,ab⟩) (hz:zf l n=false) (hn0:(0:Int)<(n:Int)):RCE lo hi ok ao l n w (⟨#[112,120]⟩) (rs (z0v an 0))
 | abs_no (h1:ok=true) (h2:¬ (n:Int)<lo) (h3:¬ (n:Int) > hi) (ak:Int) (bl off:Nat) (an am:Int) (ab:List UInt8) (hao:Hid (ao=some ⟨bl,off,none⟩)) (h4:At4 w bl off ⟨ak,an,am,ab⟩) (hz:zf l n=false) (hn0:(0:Int)<(n:Int)) (xa1:(ak==1)=false) (xa2:(ak==2)=false):RCE lo hi ok ao l n w (⟨#[97,98,115]⟩) (.tuple #[va 0 0 0 ⟨#[]⟩,.int .i64 31])
 | name2 {B:ByteArray} (h1:ok=true) (h2:(n:Int)<lo):RCE lo hi ok ao l n w B (.tuple #[va 0 0 0 ⟨#[]⟩,.int .i64 34])
theorem rfunE {B:ByteArray} {R:Value} (lo hi:Int) (ok:Bool) (ao:Option Addr) (l:List Va) (n cap:Nat) (w:World) (HN:Hid (l.length=n)) (hl:n≤140737488351232) (hv:Vs w ao l) (hall:Hid (∀ x∈l,vr x=true))
  (KN:∀ W,Calls Tryz.prog 118 #[.string B] W fun e w'=>e=.returned (.tuple #[.int .i64 lo,.int .i64 hi,.bool ok])∧W=w') (C:RCE lo hi ok ao l n w B R) :
  Calls Tryz.prog 66 #[.string B,.slice ao n cap] w fun e w'=>e=.returned R∧Below w.heap.size w w':=by
 obtain ⟨w0,hw0,bxr,Bw⟩:=z2r w
 go_enter Tryz.func66,Tryz.ntmps66
 go_upto_region 1 with fail
 rw [← hw0]
 clear hw0
 replace hv:=hv.later Bw
 have NL:=fun k n m b W=>z2k k n m b W
 go_wp2_with (go_at_call 118;refine (KN _).mono ?_;rintro e wc ⟨rfl,rfl⟩)
 clear KN
 go_loopw [9,10] (fun s r wr=>∃ k:Nat,s=.bool (zf l k)∧r=.int .i64 (k:Int)∧k≤n∧Below w0.heap.size w0 wr) (fun _ r _=>n - (intOf r).toNat)
 case atStart=>exact ⟨0,rfl,rfl,Nat.zero_le _,Below.refl _ _⟩
 case round =>
  obtain ⟨k,rfl,rfl,hk,hB⟩:=hrel
  by_cases hlt:k<n
  ·have hlt':(k:Int)<(n:Int):=by omega
   have k0:(0:Int)≤(k:Int):=by omega
   have hkl:k<l.length:=by rw [HN.out];exact hlt
   obtain ⟨b,off,rfl,hc⟩:=hv (by omega)
   obtain ⟨c0,c1,c2,c3⟩:=((hc k (by omega)).later hB)
   have hg:=(hc k (by omega)).lt
   have sB:=hB.size
   have hg':b<wr.heap.size:=by omega
   have hr:=hall.out l[k] (List.getElem_mem _)
   have HS:Hid (zf l (k+1)=(zf l k || (l[k].k==0))):=z7e l k hkl
   obtain ⟨⟨vk,vn,vm,vb⟩,he⟩:∃ v:Va,v=l[k]:=⟨_,rfl⟩
   rw [← he] at c0 c1 c2 c3 hr HS
   have R:∀ W,Calls Tryz.prog 13 #[va vk vn vm ⟨vb.toArray⟩] W fun e w'=>e=.returned (.bool true)∧Below W.heap.size W w':=fun W=>by
    have:=rright_any vk vn vm ⟨vb.toArray⟩ W
    rwa [show vrt vk vn vm ⟨vb.toArray⟩=true from hr] at this
   clear hc he hr hall hv bxr
   cases hz:zf l k
   all_goals
    go_wp2_with (first
     | (go_at_call 13;refine (R _).mono ?_;rintro e wc ⟨rfl,bc⟩;obtain ⟨osc,dc,rfl⟩:=wide bc;clear bc)
     | (go_at_call 119;refine (NL _ _ _ _ _).mono ?_;rintro e wc ⟨rfl,os1,n1,rfl⟩))
    go_roundw
    case rel=>exact ⟨k+1,by rw [HS.out,hz];rfl,by go_num,by omega,z0a hB (z0z.below gC)⟩
    case measure=>simp [intOf];omega
  ·obtain rfl:k=n:=by omega
   have br:=bxr.later hB
   obtain ⟨r0,r1,r2,r3⟩:=br.at4
   dsimp only [nul] at r0 r1 r2 r3
   simp only [Nat.zero_add] at r1 r2 r3
   have f0:=br.free 0
   have f1:=br.free 1
   have f2:=br.free 2
   have f3:=br.free 3
   have lt1:=br.lt
   have lt2:w.heap.size<wr.heap.size+1:=by omega
   have lt3:w.heap.size<wr.heap.size+1+1:=by omega
   have Be:=z0a Bw hB
   replace hv:=hv.later hB
   clear br bxr
   cases C with
   | point_over h1 h2 h3 bl off an am ab bn bm bb hao h4 g4 hz hn0 hn1 D =>
    rw [hz]
    subst h1
    have hao':=hao.out
    subst hao'
    obtain ⟨c0,c1,c2,c3⟩:=(h4.later Be)
    have hg:=(h4.later Be).lt
    have hg2:bl<wr.heap.size+1:=by omega
    have hg3:bl<wr.heap.size+1+1:=by omega
    dsimp only at c0 c1 c2 c3
    obtain ⟨d0,d1,d2,d3⟩:=(g4.later Be)
    dsimp only at d0 d1 d2 d3
    have d1':wr.cell? ⟨bl,off+5,none⟩=some (.int .i64 bn):=d1
    clear g4
    clear h4 hv hao
    go_wp2_with (first
     | (go_at_call 47;refine (D _).mono ?_;rintro e wc ⟨rfl,os4,n4,rfl⟩))
    go_region_held2 (fun W=>W.cell? ⟨wr.heap.size,1,none⟩=some (.int .i64 an)∧W.cell? ⟨bl,off+5,none⟩=some (.int .i64 bn)) (simp (maxDischargeDepth:=12) [go_sem,d1',hg]) (fail)
    all_goals go_wp2_with (first
     | (go_at_call 47;refine (D _).mono ?_;rintro e wc ⟨rfl,os4,n4,rfl⟩)
     | (go_at_call 124;refine (z2c _ _ _ _).mono ?_;rintro e wc ⟨rfl,os5,n5,rfl⟩))
    all_goals refine bodyPost_ret_by (v:=.tuple #[va 0 0 0 ⟨#[]⟩,.int .i64 32]) ?_ rfl ⟨rfl,?_⟩
    ·simp [results,Tryz.results66,go_sem,r0,r1,r2,r3,lt1,lt3]
    ·refine z0a (Be.setCell (p:=⟨w.heap.size,0,none⟩) (Nat.le_refl _) (.int .i64 0) |>.setCell (p:=⟨w.heap.size,1,none⟩) (Nat.le_refl _) (.int .i64 0) |>.setCell (p:=⟨w.heap.size,2,none⟩) (Nat.le_refl _) (.int .i64 0) |>.setCell (p:=⟨w.heap.size,3,none⟩) (Nat.le_refl _) (.string ⟨#[]⟩)) (z0z.below ?_)
     repeat exact gC
   | round_noB1 h1 h2 h3 bk bl off an am ab bn bm bb hao h4 g4 hz hn0 hn1 xb1 =>
    rw [hz]
    subst h1
    have hao':=hao.out
    subst hao'
    obtain ⟨c0,c1,c2,c3⟩:=(h4.later Be)
    have hg:=(h4.later Be).lt
    have hg2:bl<wr.heap.size+1:=by omega
    have hg3:bl<wr.heap.size+1+1:=by omega
    dsimp only at c0 c1 c2 c3
    obtain ⟨d0,d1,d2,d3⟩:=(g4.later Be)
    dsimp only at d0 d1 d2 d3
    have d1':wr.cell? ⟨bl,off+5,none⟩=some (.int .i64 bn):=d1
    clear g4
    clear h4 hv hao
    go_wp2_with (first
     | (go_at_call 121;refine (z0t _ _ _ _ _).mono ?_;rintro e wc ⟨rfl,os3,n3,rfl⟩))
    refine bodyPost_ret_by (v:=.tuple #[va 0 0 0 ⟨#[]⟩,.int .i64 31]) ?_ rfl ⟨rfl,?_⟩
    ·simp [results,Tryz.results66,go_sem,r0,r1,r2,r3,lt1]
    ·refine z0a (Be.setCell (p:=⟨w.heap.size,0,none⟩) (Nat.le_refl _) (.int .i64 0) |>.setCell (p:=⟨w.heap.size,1,none⟩) (Nat.le_refl _) (.int .i64 0) |>.setCell (p:=⟨w.heap.size,2,none⟩) (Nat.le_refl _) (.int .i64 0) |>.setCell (p:=⟨w.heap.size,3,none⟩) (Nat.le_refl _) (.string ⟨#[]⟩)) (z0z.below ?_)
     repeat exact gC
   | px h1 h2 h3 bl off an am ab hao h4 hz hn0 =>
    rw [hz]
    subst h1
    have hao':=hao.out
    subst hao'
    obtain ⟨c0,c1,c2,c3⟩:=(h4.later Be)
    have hg:=(h4.later Be).lt
    have hg2:bl<wr.heap.size+1:=by omega
    have hg3:bl<wr.heap.size+1+1:=by omega
    dsimp only at c0 c1 c2 c3
    clear h4 hv hao
    go_wp2_with (first
     | (go_at_call 120;refine (z4m _ _ _).mono ?_;rintro e wc ⟨rfl,os2,n2,rfl⟩))
    refine bodyPost_ret_by (v:=rs (z0v an 0)) ?_ rfl ⟨rfl,?_⟩
    ·simp [results,Tryz.results66,go_sem,r0,r1,r2,r3,lt1]
    ·refine z0a (Be.setCell (p:=⟨w.heap.size,0,none⟩) (Nat.le_refl _) (.int .i64 (z0v an 0).1.k) |>.setCell (p:=⟨w.heap.size,1,none⟩) (Nat.le_refl _) (.int .i64 (z0v an 0).1.n) |>.setCell (p:=⟨w.heap.size,2,none⟩) (Nat.le_refl _) (.int .i64 (z0v an 0).1.m) |>.setCell (p:=⟨w.heap.size,3,none⟩) (Nat.le_refl _) (.string ⟨(z0v an 0).1.b.toArray⟩)) (z0z.below ?_)
     repeat exact gC
   | abs_no h1 h2 h3 ak bl off an am ab hao h4 hz hn0 xa1 xa2 =>
    rw [hz]
    subst h1
    have hao':=hao.out
    subst hao'
    obtain ⟨c0,c1,c2,c3⟩:=(h4.later Be)
    have hg:=(h4.later Be).lt
    have hg2:bl<wr.heap.size+1:=by omega
    have hg3:bl<wr.heap.size+1+1:=by omega
    dsimp only at c0 c1 c2 c3
    clear h4 hv hao
    go_wp2_with (first
     | (go_at_call 121;refine (z0t _ _ _ _ _).mono ?_;rintro e wc ⟨rfl,os3,n3,rfl⟩))
    refine bodyPost_ret_by (v:=.tuple #[va 0 0 0 ⟨#[]⟩,.int .i64 31]) ?_ rfl ⟨rfl,?_⟩
    ·simp [results,Tryz.results66,go_sem,r0,r1,r2,r3,lt1]
    ·refine z0a (Be.setCell (p:=⟨w.heap.size,0,none⟩) (Nat.le_refl _) (.int .i64 0) |>.setCell (p:=⟨w.heap.size,1,none⟩) (Nat.le_refl _) (.int .i64 0) |>.setCell (p:=⟨w.heap.size,2,none⟩) (Nat.le_refl _) (.int .i64 0) |>.setCell (p:=⟨w.heap.size,3,none⟩) (Nat.le_refl _) (.string ⟨#[]⟩)) (z0z.below ?_)
     repeat exact gC
   | name2 h1 h2 =>
    subst h1
    go_wp2
    refine bodyPost_ret_by (v:=.tuple #[va 0 0 0 ⟨#[]⟩,.int .i64 34]) ?_ rfl ⟨rfl,?_⟩
    ·simp [results,Tryz.results66,go_sem,r0,r1,r2,r3]
    ·refine z0a (Be.setCell (p:=⟨w.heap.size,0,none⟩) (Nat.le_refl _) (.int .i64 0) |>.setCell (p:=⟨w.heap.size,1,none⟩) (Nat.le_refl _) (.int .i64 0) |>.setCell (p:=⟨w.heap.size,2,none⟩) (Nat.le_refl _) (.int .i64 0) |>.setCell (p:=⟨w.heap.size,3,none⟩) (Nat.le_refl _) (.string ⟨#[]⟩)) (z0z.below ?_)
     repeat exact gC
inductive RCF (lo hi:Int) (ok:Bool) (ao:Option Addr) (l:List Va) (n:Nat) (w:World):ByteArray→Value→Prop
 | abs1n (h1:ok=true) (h2:¬ (n:Int)<lo) (h3:¬ (n:Int) > hi) (bl off:Nat) (an am:Int) (ab:List UInt8) (hao:Hid (ao=some ⟨bl,off,none⟩)) (h4:At4 w bl off ⟨1,an,am,ab⟩) (hz:zf l n=false) (hn0:(0:Int)<(n:Int)) (hneg:an<0) (rk rn rm re:Int) (rb:ByteArray) (U:z0n 67 #[.int .i64 3,va 1 an am ⟨ab.toArray⟩] w (.tuple #[va rk rn rm rb,.int .i64 re])):RCF lo hi ok ao l n w (⟨#[97,98,115]⟩) (.tuple #[va rk rn rm rb,.int .i64 re])
 | round2lo (h1:ok=true) (h2:¬ (n:Int)<lo) (h3:¬ (n:Int) > hi) (bl off:Nat) (an am:Int) (ab:List UInt8) (bn bm:Int) (bb:List UInt8) (hao:Hid (ao=some ⟨bl,off,none⟩)) (h4:At4 w bl off ⟨2,an,am,ab⟩) (g4:At4 w bl (off+4) ⟨1,bn,bm,bb⟩) (hz:zf l n=false) (hn0:(0:Int)<(n:Int)) (hn1:(1:Int)<(n:Int)) (b0:bn<0):RCF lo hi ok ao l n w (⟨#[114,111,117,110,100]⟩) (.tuple #[va 0 0 0 ⟨#[]⟩,.int .i64 32])
 | py (h1:ok=true) (h2:¬ (n:Int)<lo) (h3:¬ (n:Int) > hi) (bl off:Nat) (an am:Int) (ab:List UInt8) (hao:Hid (ao=some ⟨bl,off,none⟩)) (h4:At4 w bl off ⟨5,an,am,ab⟩) (hz:zf l n=false) (hn0:(0:Int)<(n:Int)):RCF lo hi ok ao l n w (⟨#[112,121]⟩) (rs (z0v am 0))
 | length_no (h1:ok=true) (h2:¬ (n:Int)<lo) (h3:¬ (n:Int) > hi) (ak:Int) (bl off:Nat) (an am:Int) (ab:List UInt8) (hao:Hid (ao=some ⟨bl,off,none⟩)) (h4:At4 w bl off ⟨ak,an,am,ab⟩) (hz:zf l n=false) (hn0:(0:Int)<(n:Int)) (xa3:(ak==3)=false):RCF lo hi ok ao l n w (⟨#[108,101,110,103,116,104]⟩) (.tuple #[va 0 0 0 ⟨#[]⟩,.int .i64 31])
 | name3 {B:ByteArray} (h1:ok=true) (h2:¬ (n:Int)<lo) (h3:(n:Int) > hi):RCF lo hi ok ao l n w B (.tuple #[va 0 0 0 ⟨#[]⟩,.int .i64 34])
theorem rfunF {B:ByteArray} {R:Value} (lo hi:Int) (ok:Bool) (ao:Option Addr) (l:List Va) (n cap:Nat) (w:World) (HN:Hid (l.length=n)) (hl:n≤140737488351232) (hv:Vs w ao l) (hall:Hid (∀ x∈l,vr x=true))
  (KN:∀ W,Calls Tryz.prog 118 #[.string B] W fun e w'=>e=.returned (.tuple #[.int .i64 lo,.int .i64 hi,.bool ok])∧W=w') (C:RCF lo hi ok ao l n w B R) :
  Calls Tryz.prog 66 #[.string B,.slice ao n cap] w fun e w'=>e=.returned R∧Below w.heap.size w w':=by
 obtain ⟨w0,hw0,bxr,Bw⟩:=z2r w
 go_enter Tryz.func66,Tryz.ntmps66
 go_upto_region 1 with fail
 rw [← hw0]
 clear hw0
 replace hv:=hv.later Bw
 have NL:=fun k n m b W=>z2k k n m b W
 go_wp2_with (go_at_call 118;refine (KN _).mono ?_;rintro e wc ⟨rfl,rfl⟩)
 clear KN
 go_loopw [9,10] (fun s r wr=>∃ k:Nat,s=.bool (zf l k)∧r=.int .i64 (k:Int)∧k≤n∧Below w0.heap.size w0 wr) (fun _ r _=>n - (intOf r).toNat)
 case atStart=>exact ⟨0,rfl,rfl,Nat.zero_le _,Below.refl _ _⟩
 case round =>
  obtain ⟨k,rfl,rfl,hk,hB⟩:=hrel
  by_cases hlt:k<n
  ·have hlt':(k:Int)<(n:Int):=by omega
   have k0:(0:Int)≤(k:Int):=by omega
   have hkl:k<l.length:=by rw [HN.out];exact hlt
   obtain ⟨b,off,rfl,hc⟩:=hv (by omega)
   obtain ⟨c0,c1,c2,c3⟩:=((hc k (by omega)).later hB)
   have hg:=(hc k (by omega)).lt
   have sB:=hB.size
   have hg':b<wr.heap.size:=by omega
   have hr:=hall.out l[k] (List.getElem_mem _)
   have HS:Hid (zf l (k+1)=(zf l k || (l[k].k==0))):=z7e l k hkl
   obtain ⟨⟨vk,vn,vm,vb⟩,he⟩:∃ v:Va,v=l[k]:=⟨_,rfl⟩
   rw [← he] at c0 c1 c2 c3 hr HS
   have R:∀ W,Calls Tryz.prog 13 #[va vk vn vm ⟨vb.toArray⟩] W fun e w'=>e=.returned (.bool true)∧Below W.heap.size W w':=fun W=>by
    have:=rright_any vk vn vm ⟨vb.toArray⟩ W
    rwa [show vrt vk vn vm ⟨vb.toArray⟩=true from hr] at this
   clear hc he hr hall hv bxr
   cases hz:zf l k
   all_goals
    go_wp2_with (first
     | (go_at_call 13;refine (R _).mono ?_;rintro e wc ⟨rfl,bc⟩;obtain ⟨osc,dc,rfl⟩:=wide bc;clear bc)
     | (go_at_call 119;refine (NL _ _ _ _ _).mono ?_;rintro e wc ⟨rfl,os1,n1,rfl⟩))
    go_roundw
    case rel=>exact ⟨k+1,by rw [HS.out,hz];rfl,by go_num,by omega,z0a hB (z0z.below gC)⟩
    case measure=>simp [intOf];omega
  ·obtain rfl:k=n:=by omega
   have br:=bxr.later hB
   obtain ⟨r0,r1,r2,r3⟩:=br.at4
   dsimp only [nul] at r0 r1 r2 r3
   simp only [Nat.zero_add] at r1 r2 r3
   have f0:=br.free 0
   have f1:=br.free 1
   have f2:=br.free 2
   have f3:=br.free 3
   have lt1:=br.lt
   have lt2:w.heap.size<wr.heap.size+1:=by omega
   have lt3:w.heap.size<wr.heap.size+1+1:=by omega
   have Be:=z0a Bw hB
   replace hv:=hv.later hB
   clear br bxr
   cases C with
   | abs1n h1 h2 h3 bl off an am ab hao h4 hz hn0 hneg rk rn rm re rb U =>
    rw [hz]
    subst h1
    have hao':=hao.out
    subst hao'
    obtain ⟨c0,c1,c2,c3⟩:=(h4.later Be)
    have hg:=(h4.later Be).lt
    have hg2:bl<wr.heap.size+1:=by omega
    have hg3:bl<wr.heap.size+1+1:=by omega
    dsimp only at c0 c1 c2 c3
    clear h4 hv hao
    go_wp2_with (first
     | (go_at_call 121;refine (z0t _ _ _ _ _).mono ?_;rintro e wc ⟨rfl,os3,n3,rfl⟩)
     | (go_at_call 67;refine (U _ (z0a Be (z0z.below gC))).mono ?_;rintro e wc ⟨rfl,bc⟩;obtain ⟨osc,dc,rfl⟩:=wide bc;clear bc))
    refine bodyPost_ret_by (v:=.tuple #[va rk rn rm rb,.int .i64 re]) ?_ rfl ⟨rfl,?_⟩
    ·simp [results,Tryz.results66,go_sem,r0,r1,r2,r3,lt1]
    ·refine z0a (Be.setCell (p:=⟨w.heap.size,0,none⟩) (Nat.le_refl _) (.int .i64 rk) |>.setCell (p:=⟨w.heap.size,1,none⟩) (Nat.le_refl _) (.int .i64 rn) |>.setCell (p:=⟨w.heap.size,2,none⟩) (Nat.le_refl _) (.int .i64 rm) |>.setCell (p:=⟨w.heap.size,3,none⟩) (Nat.le_refl _) (.string rb)) (z0z.below ?_)
     repeat exact gC
   | round2lo h1 h2 h3 bl off an am ab bn bm bb hao h4 g4 hz hn0 hn1 b0 =>
    rw [hz]
    subst h1
    have hao':=hao.out
    subst hao'
    obtain ⟨c0,c1,c2,c3⟩:=(h4.later Be)
    have hg:=(h4.later Be).lt
    have hg2:bl<wr.heap.size+1:=by omega
    have hg3:bl<wr.heap.size+1+1:=by omega
    dsimp only at c0 c1 c2 c3
    obtain ⟨d0,d1,d2,d3⟩:=(g4.later Be)
    dsimp only at d0 d1 d2 d3
    have d1':wr.cell? ⟨bl,off+5,none⟩=some (.int .i64 bn):=d1
    clear g4
    clear h4 hv hao
    go_wp2_with (first
     | (go_at_call 121;refine (z0t _ _ _ _ _).mono ?_;rintro e wc ⟨rfl,os3,n3,rfl⟩))
    refine bodyPost_ret_by (v:=.tuple #[va 0 0 0 ⟨#[]⟩,.int .i64 32]) ?_ rfl ⟨rfl,?_⟩
    ·simp [results,Tryz.results66,go_sem,r0,r1,r2,r3,lt1]
    ·refine z0a (Be.setCell (p:=⟨w.heap.size,0,none⟩) (Nat.le_refl _) (.int .i64 0) |>.setCell (p:=⟨w.heap.size,1,none⟩) (Nat.le_refl _) (.int .i64 0) |>.setCell (p:=⟨w.heap.size,2,none⟩) (Nat.le_refl _) (.int .i64 0) |>.setCell (p:=⟨w.heap.size,3,none⟩) (Nat.le_refl _) (.string ⟨#[]⟩)) (z0z.below ?_)
     repeat exact gC
   | py h1 h2 h3 bl off an am ab hao h4 hz hn0 =>
    rw [hz]
    subst h1
    have hao':=hao.out
    subst hao'
    obtain ⟨c0,c1,c2,c3⟩:=(h4.later Be)
    have hg:=(h4.later Be).lt
    have hg2:bl<wr.heap.size+1:=by omega
    have hg3:bl<wr.heap.size+1+1:=by omega
    dsimp only at c0 c1 c2 c3
    clear h4 hv hao
    go_wp2_with (first
     | (go_at_call 120;refine (z4m _ _ _).mono ?_;rintro e wc ⟨rfl,os2,n2,rfl⟩))
    refine bodyPost_ret_by (v:=rs (z0v am 0)) ?_ rfl ⟨rfl,?_⟩
    ·simp [results,Tryz.results66,go_sem,r0,r1,r2,r3,lt1]
    ·refine z0a (Be.setCell (p:=⟨w.heap.size,0,none⟩) (Nat.le_refl _) (.int .i64 (z0v am 0).1.k) |>.setCell (p:=⟨w.heap.size,1,none⟩) (Nat.le_refl _) (.int .i64 (z0v am 0).1.n) |>.setCell (p:=⟨w.heap.size,2,none⟩) (Nat.le_refl _) (.int .i64 (z0v am 0).1.m) |>.setCell (p:=⟨w.heap.size,3,none⟩) (Nat.le_refl _) (.string ⟨(z0v am 0).1.b.toArray⟩)) (z0z.below ?_)
     repeat exact gC
   | length_no h1 h2 h3 ak bl off an am ab hao h4 hz hn0 xa3 =>
    rw [hz]
    subst h1
    have hao':=hao.out
    subst hao'
    obtain ⟨c0,c1,c2,c3⟩:=(h4.later Be)
    have hg:=(h4.later Be).lt
    have hg2:bl<wr.heap.size+1:=by omega
    have hg3:bl<wr.heap.size+1+1:=by omega
    dsimp only at c0 c1 c2 c3
    clear h4 hv hao
    go_wp2
    refine bodyPost_ret_by (v:=.tuple #[va 0 0 0 ⟨#[]⟩,.int .i64 31]) ?_ rfl ⟨rfl,?_⟩
    ·simp [results,Tryz.results66,go_sem,r0,r1,r2,r3,lt1]
    ·refine z0a (Be.setCell (p:=⟨w.heap.size,0,none⟩) (Nat.le_refl _) (.int .i64 0) |>.setCell (p:=⟨w.heap.size,1,none⟩) (Nat.le_refl _) (.int .i64 0) |>.setCell (p:=⟨w.heap.size,2,none⟩) (Nat.le_refl _) (.int .i64 0) |>.setCell (p:=⟨w.heap.size,3,none⟩) (Nat.le_refl _) (.string ⟨#[]⟩)) (z0z.below ?_)
     repeat exact gC
   | name3 h1 h2 h3 =>
    subst h1
    go_wp2
    refine bodyPost_ret_by (v:=.tuple #[va 0 0 0 ⟨#[]⟩,.int .i64 34]) ?_ rfl ⟨rfl,?_⟩
    ·simp [results,Tryz.results66,go_sem,r0,r1,r2,r3]
    ·refine z0a (Be.setCell (p:=⟨w.heap.size,0,none⟩) (Nat.le_refl _) (.int .i64 0) |>.setCell (p:=⟨w.heap.size,1,none⟩) (Nat.le_refl _) (.int .i64 0) |>.setCell (p:=⟨w.heap.size,2,none⟩) (Nat.le_refl _) (.int .i64 0) |>.setCell (p:=⟨w.heap.size,3,none⟩) (Nat.le_refl _) (.string ⟨#[]⟩)) (z0z.below ?_)
     repeat exact gC
theorem rfun_bad (B:ByteArray) (lo hi:Int) (ok:Bool) (ao:Option Addr) (l:List Va) (n cap:Nat) (w:World) (HN:Hid (l.length=n)) (hl:n≤140737488351232) (hv:Vs w ao l)
  (KN:∀ W,Calls Tryz.prog 118 #[.string B] W fun e w'=>e=.returned (.tuple #[.int .i64 lo,.int .i64 hi,.bool ok])∧W=w') (hbad:Hid (l.all vr=false))  :
  Calls Tryz.prog 66 #[.string B,.slice ao n cap] w fun e w'=>e=.returned (.tuple #[va 0 0 0 ⟨#[]⟩,.int .i64 1])∧Below w.heap.size w w':=by
 obtain ⟨w0,hw0,bxr,Bw⟩:=z2r w
 go_enter Tryz.func66,Tryz.ntmps66
 go_upto_region 1 with fail
 rw [← hw0]
 clear hw0
 replace hv:=hv.later Bw
 have NL:=fun k n m b W=>z2k k n m b W
 go_wp2_with (go_at_call 118;refine (KN _).mono ?_;rintro e wc ⟨rfl,rfl⟩)
 clear KN
 go_loopw [9,10] (fun s r wr=>∃ k:Nat,s=.bool (zf l k)∧r=.int .i64 (k:Int)∧k≤n∧Below w0.heap.size w0 wr∧Hid (∀ i (h:i<l.length),i<k→vr l[i]=true)) (fun _ r _=>n - (intOf r).toNat)
 case atStart=>exact ⟨0,rfl,rfl,Nat.zero_le _,Below.refl _ _,fun i _ h=>by omega⟩
 case round =>
  obtain ⟨k,rfl,rfl,hk,hB,hA⟩:=hrel
  by_cases hlt:k<n
  ·have hlt':(k:Int)<(n:Int):=by omega
   have k0:(0:Int)≤(k:Int):=by omega
   have hkl:k<l.length:=by rw [HN.out];exact hlt
   obtain ⟨b,off,rfl,hc⟩:=hv (by omega)
   obtain ⟨c0,c1,c2,c3⟩:=((hc k (by omega)).later hB)
   have hg:=(hc k (by omega)).lt
   have sB:=hB.size
   have hg':b<wr.heap.size:=by omega
   have HS:Hid (zf l (k+1)=(zf l k || (l[k].k==0))):=z7e l k hkl
   obtain ⟨⟨vk,vn,vm,vb⟩,he⟩:∃ v:Va,v=l[k]:=⟨_,rfl⟩
   rw [← he] at c0 c1 c2 c3 HS
   have HV:Hid (Va.mk vk vn vm vb=l[k]):=he
   have R:∀ W,Calls Tryz.prog 13 #[va vk vn vm ⟨vb.toArray⟩] W fun e w'=>e=.returned (.bool (vr ⟨vk,vn,vm,vb⟩))∧Below W.heap.size W w':=fun W=>rright_any vk vn vm ⟨vb.toArray⟩ W
   have br:=bxr.later hB
   obtain ⟨r0,r1,r2,r3⟩:=br.at4
   dsimp only [nul] at r0 r1 r2 r3
   simp only [Nat.zero_add] at r1 r2 r3
   have f0:=br.free 0
   have f1:=br.free 1
   have f2:=br.free 2
   have f3:=br.free 3
   have lt1:=br.lt
   have Be:=z0a Bw hB
   clear br
   cases hvr:vr ⟨vk,vn,vm,vb⟩
   ·rw [hvr] at R
    clear hc he hv bxr hA HV HS
    go_wp2_with (go_at_call 13;refine (R _).mono ?_;rintro e wc ⟨rfl,bc⟩;obtain ⟨osc,dc,rfl⟩:=wide bc;clear bc)
    refine bodyPost_ret_by (v:=.tuple #[va 0 0 0 ⟨#[]⟩,.int .i64 1]) ?_ rfl ⟨rfl,?_⟩
    ·simp [results,Tryz.results66,go_sem,r0,r1,r2,r3,lt1]
    ·refine z0a (Be.setCell (p:=⟨w.heap.size,0,none⟩) (Nat.le_refl _) (.int .i64 0) |>.setCell (p:=⟨w.heap.size,1,none⟩) (Nat.le_refl _) (.int .i64 0) |>.setCell (p:=⟨w.heap.size,2,none⟩) (Nat.le_refl _) (.int .i64 0) |>.setCell (p:=⟨w.heap.size,3,none⟩) (Nat.le_refl _) (.string ⟨#[]⟩)) (z0z.below ?_)
     repeat exact gC
   rw [hvr] at R
   have HA:Hid (∀ i (h:i<l.length),i<k+1→vr l[i]=true):=fun i hi hik=>by
    by_cases h:i<k
    ·exact hA.out i hi h
    ·have:i=k:=by omega
     subst this
     rw [← HV.out,hvr]
   clear hc he hv bxr hA HV r0 r1 r2 r3 f0 f1 f2 f3 lt1 Be
   cases hz:zf l k
   ·go_wp2_with (first
     | (go_at_call 13;refine (R _).mono ?_;rintro e wc ⟨rfl,bc⟩;obtain ⟨osc,dc,rfl⟩:=wide bc;clear bc)
     | (go_at_call 119;refine (NL _ _ _ _ _).mono ?_;rintro e wc ⟨rfl,os1,n1,rfl⟩))
    go_roundw
    case rel=>exact ⟨k+1,by rw [HS.out,hz];rfl,by go_num,by omega,z0a hB (z0z.below gC),HA.out⟩
    case measure=>simp [intOf];omega
   ·go_wp2_with (first
     | (go_at_call 13;refine (R _).mono ?_;rintro e wc ⟨rfl,bc⟩;obtain ⟨osc,dc,rfl⟩:=wide bc;clear bc)
     | (go_at_call 119;refine (NL _ _ _ _ _).mono ?_;rintro e wc ⟨rfl,os1,n1,rfl⟩))
    go_roundw
    case rel=>exact ⟨k+1,by rw [HS.out,hz];rfl,by go_num,by omega,z0a hB (z0z.below gC),HA.out⟩
    case measure=>simp [intOf];omega
  ·exfalso
   have hall:l.all vr=true:=by
    rw [List.all_eq_true]
    intro v hv'
    obtain ⟨i,hi,rfl⟩:=List.getElem_of_mem hv'
    exact hA.out i hi (by have:=HN.out;omega)
   rw [hbad.out] at hall
   cases hall
end Go.Proofs.YtibbenhplmmmiaaGreatDoor

namespace Go.Proofs.YtibbenhplmmmiaaGreatDoor
open Go.RowKit Go.Shelf
theorem hid {p:Prop} (h:p):Hid p:=h
theorem kn_any (nm:List UInt8) (w:World):Calls Tryz.prog 118 #[.string ⟨nm.toArray⟩] w fun e w'=>e=.returned (.tuple #[.int .i64 (knR nm).1,.int .i64 (knR nm).2.1,.bool (knR nm).2.2])∧w=w':=by
 unfold knR
 by_cases h1:nm=z5n∨nm=sAbs∨nm=sNorm∨nm=sPx∨nm=sPy
 ·rw [if_pos h1]
  rcases h1 with rfl|rfl|rfl|rfl|rfl
  ·exact kn_length w
  ·exact kn_abs w
  ·exact kn_norm w
  ·exact kn_px w
  ·exact kn_py w
 rw [if_neg h1]
 by_cases h2:nm=z6h∨nm=z5a
 ·rw [if_pos h2]
  rcases h2 with rfl|rfl
  ·exact z7p w
  ·exact z3u w
 rw [if_neg h2]
 by_cases h3:nm=z4s
 ·rw [if_pos h3]
  subst h3
  exact kn_coalesce w
 rw [if_neg h3]
 have f:∀ s:List UInt8,nm≠s→((⟨nm.toArray⟩:ByteArray).toList==s)=false:=fun s h=>by rw [z6z];exact beq_eq_false_iff_ne.2 h
 exact kn_other ⟨nm.toArray⟩ w (f _ fun h=>h1 (.inl h)) (f _ fun h=>h1 (.inr (.inl h))) (f _ fun h=>h1 (.inr (.inr (.inl h)))) (f _ fun h=>h1 (.inr (.inr (.inr (.inl h))))) (f _ fun h=>h1 (.inr (.inr (.inr (.inr h))))) (f _ fun h=>h2 (.inl h)) (f _ fun h=>h2 (.inr h)) (f _ h3)
theorem isF_kn (nm:List UInt8) (n:Nat):isF nm n=true↔(knR nm).2.2=true∧(knR nm).1≤(n:Int)∧(n:Int)≤(knR nm).2.1:=by
 unfold isF knR
 split
 ·simp;omega
 split
 ·simp;omega
 split
 ·simp;omega
 ·simp
theorem zq_kind {x:Va} (h:vr x=true):zq x=(x.k==0):=by
 have hv:=(z2f x).1 h
 obtain ⟨k,n,m,b⟩:=x
 simp only [vok] at hv
 unfold zq eqv
 by_cases hk:k=0
 ·subst hk
  obtain ⟨rfl,rfl,rfl⟩:n=0∧m=0∧b=[]:=by
   rcases hv with h|h|h|h|h|h <;> first|omega|exact ⟨h.2.1,h.2.2.1,h.2.2.2⟩
  simp
 ·have:((0:Int)==k)=false:=by simpa using fun h:(0:Int)=k=>hk h.symm
  rw [this]
  simp [hk]
theorem any_zf (l:List Va) (h:∀ x∈l,vr x=true):l.any zq=zf l l.length:=by
 unfold zf
 rw [List.take_length]
 induction l with
 | nil=>rfl
 | cons x l ih =>
  rw [List.any_cons,List.any_cons,zq_kind (h x (by simp)),ih (fun y hy=>h y (by simp [hy]))]
theorem rcal1_any (nm:List UInt8) (bl off cap:Nat) (a:Va) (w:World) (hv:Vs w (some ⟨bl,off,none⟩) [a]) (h4:At4 w bl off a) (hr:vr a=true) (ia:vin a) (hz:zf [a] 1=false) (hn:nm=z5n∨nm=sAbs∨nm=sNorm∨nm=sPx∨nm=sPy) :
  Calls Tryz.prog 66 #[.string ⟨nm.toArray⟩,.slice (some ⟨bl,off,none⟩) 1 cap] w fun e w'=>e=.returned (rs (cal1 nm a))∧Below w.heap.size w w':=by
 have hall:∀ x∈[a],vr x=true:=fun x hx=>by simp only [List.mem_singleton] at hx;rw [hx];exact hr
 have U:z0n 67 #[.int .i64 3,vv a] w (rs (negR a)):=fun W _=>by
  have:=runary_any 3 a W ia
  rw [show unR 3 a=negR a by unfold unR;rw [if_neg (by simp [hr]),if_neg (by decide),if_neg (by decide)]] at this
  exact this
 obtain ⟨ak,an,am,ab⟩:=a
 have no:∀ k:Int,ak≠k→(ak==k)=false:=fun k h=>beq_eq_false_iff_ne.2 h
 unfold cal1
 rcases hn with rfl|rfl|rfl|rfl|rfl
 ·rw [if_pos rfl]
  by_cases h:ak=3
  ·subst h
   rw [if_pos rfl]
   exact rfunD 1 1 true _ _ 1 cap w (hid rfl) (by decide) hv hall (fun W=>kn_length W) (.length rfl (by decide) (by decide) bl off an am ab (hid rfl) h4 hz (by decide))
  ·rw [if_neg h]
   exact rfunF 1 1 true _ _ 1 cap w (hid rfl) (by decide) hv hall (fun W=>kn_length W) (.length_no rfl (by decide) (by decide) ak bl off an am ab (hid rfl) h4 hz (by decide) (no 3 h))
 ·rw [if_neg (by decide),if_pos rfl]
  by_cases h:isn ⟨ak,an,am,ab⟩
  ·rw [if_pos h]
   unfold absR
   rcases h with h|h
   ·simp only at h
    subst h
    by_cases hneg:an<0
    ·rw [if_pos hneg]
     exact rfunF 1 1 true _ _ 1 cap w (hid rfl) (by decide) hv hall (fun W=>kn_abs W) (.abs1n rfl (by decide) (by decide) bl off an am ab (hid rfl) h4 hz (by decide) hneg _ _ _ _ _ U)
    ·rw [if_neg hneg]
     exact rfunA 1 1 true _ _ 1 cap w (hid rfl) (by decide) hv hall (fun W=>kn_abs W) (.abs1p rfl (by decide) (by decide) bl off an am ab (hid rfl) h4 hz (by decide) hneg)
   ·simp only at h
    subst h
    by_cases hneg:an<0
    ·rw [if_pos hneg]
     exact rfunA 1 1 true _ _ 1 cap w (hid rfl) (by decide) hv hall (fun W=>kn_abs W) (.abs2n rfl (by decide) (by decide) bl off an am ab (hid rfl) h4 hz (by decide) hneg _ _ _ _ _ U)
    ·rw [if_neg hneg]
     exact rfunB 1 1 true _ _ 1 cap w (hid rfl) (by decide) hv hall (fun W=>kn_abs W) (.abs2p rfl (by decide) (by decide) bl off an am ab (hid rfl) h4 hz (by decide) hneg)
  ·rw [if_neg h]
   simp only [isn,not_or] at h
   exact rfunE 1 1 true _ _ 1 cap w (hid rfl) (by decide) hv hall (fun W=>kn_abs W) (.abs_no rfl (by decide) (by decide) ak bl off an am ab (hid rfl) h4 hz (by decide) (no 1 h.1) (no 2 h.2))
 ·rw [if_neg (by decide),if_neg (by decide),if_pos rfl]
  by_cases h:ak=5
  ·subst h
   rw [if_pos rfl]
   exact rfunB 1 1 true _ _ 1 cap w (hid rfl) (by decide) hv hall (fun W=>kn_norm W) (.norm rfl (by decide) (by decide) bl off an am ab (hid rfl) h4 hz (by decide) _ (fun W=>Ga.rnorm_any an am W))
  ·rw [if_neg h]
   exact rfunA 1 1 true _ _ 1 cap w (hid rfl) (by decide) hv hall (fun W=>kn_norm W) (.norm_no rfl (by decide) (by decide) ak bl off an am ab (hid rfl) h4 hz (by decide) (no 5 h))
 ·rw [if_neg (by decide),if_neg (by decide),if_neg (by decide),if_pos rfl]
  by_cases h:ak=5
  ·subst h
   rw [if_pos rfl]
   exact rfunE 1 1 true _ _ 1 cap w (hid rfl) (by decide) hv hall (fun W=>kn_px W) (.px rfl (by decide) (by decide) bl off an am ab (hid rfl) h4 hz (by decide))
  ·rw [if_neg h]
   exact rfunB 1 1 true _ _ 1 cap w (hid rfl) (by decide) hv hall (fun W=>kn_px W) (.px_no rfl (by decide) (by decide) ak bl off an am ab (hid rfl) h4 hz (by decide) (no 5 h))
 ·rw [if_neg (by decide),if_neg (by decide),if_neg (by decide),if_neg (by decide)]
  by_cases h:ak=5
  ·subst h
   rw [if_pos rfl]
   exact rfunF 1 1 true _ _ 1 cap w (hid rfl) (by decide) hv hall (fun W=>kn_py W) (.py rfl (by decide) (by decide) bl off an am ab (hid rfl) h4 hz (by decide))
  ·rw [if_neg h]
   exact rfunC 1 1 true _ _ 1 cap w (hid rfl) (by decide) hv hall (fun W=>kn_py W) (.py_no rfl (by decide) (by decide) ak bl off an am ab (hid rfl) h4 hz (by decide) (no 5 h))
theorem rcal2_any (nm:List UInt8) (bl off cap:Nat) (a b:Va) (w:World) (hv:Vs w (some ⟨bl,off,none⟩) [a,b]) (h4:At4 w bl off a) (g4:At4 w bl (off+4) b) (hr:vr a=true) (hrb:vr b=true) (ia:vin a) (hz:zf [a,b] 2=false) (hn:nm=z6h∨nm=z5a) :
  Calls Tryz.prog 66 #[.string ⟨nm.toArray⟩,.slice (some ⟨bl,off,none⟩) 2 cap] w fun e w'=>e=.returned (rs (cal2 nm a b))∧Below w.heap.size w w':=by
 have hall:∀ x∈[a,b],vr x=true:=fun x hx=>by
  simp only [List.mem_cons,List.not_mem_nil,or_false] at hx
  rcases hx with rfl|rfl
  ·exact hr
  ·exact hrb
 have hva:=(z2f a).1 hr
 obtain ⟨⟨n0,n1⟩,-⟩:=ia
 obtain ⟨ak,an,am,ab⟩:=a
 obtain ⟨bk,bn,bm,bb⟩:=b
 simp only at n0 n1
 simp only [vok] at hva
 have no:∀ x k:Int,x≠k→(x==k)=false:=fun x k h=>beq_eq_false_iff_ne.2 h
 unfold cal2
 rcases hn with rfl|rfl
 ·rw [if_pos rfl]
  by_cases h:ak=1
  ·subst h
   by_cases h':bk=1
   ·subst h'
    rw [if_pos ⟨rfl,rfl⟩]
    have D:=fun W=>Ga.rright_any an bn W
    unfold ptAtR
    cases hp:Ga.ok2 an bn
    ·rw [hp] at D
     rw [if_neg (by simp)]
     exact rfunE 2 2 true _ _ 2 cap w (hid rfl) (by decide) hv hall (fun W=>z7p W) (.point_over rfl (by decide) (by decide) bl off an am ab bn bm bb (hid rfl) h4 g4 hz (by decide) (by decide) D)
    ·rw [hp] at D
     rw [if_pos rfl]
     exact rfunD 2 2 true _ _ 2 cap w (hid rfl) (by decide) hv hall (fun W=>z7p W) (.point rfl (by decide) (by decide) bl off an am ab bn bm bb (hid rfl) h4 g4 hz (by decide) (by decide) D)
   ·rw [if_neg (fun h=>h' h.2)]
    exact rfunD 2 2 true _ _ 2 cap w (hid rfl) (by decide) hv hall (fun W=>z7p W) (.point_noB rfl (by decide) (by decide) bk bl off an am ab bn bm bb (hid rfl) h4 g4 hz (by decide) (by decide) (no _ 1 h'))
  ·rw [if_neg (fun h'=>h h'.1)]
   exact rfunC 2 2 true _ _ 2 cap w (hid rfl) (by decide) hv hall (fun W=>z7p W) (.point_noA rfl (by decide) (by decide) ak bk bl off an am ab bn bm bb (hid rfl) h4 g4 hz (by decide) (by decide) (no _ 1 h))
 ·rw [if_neg (by decide)]
  have rnd:(ak=1∨ak=2)→bk=1→∀ (lo:bn<0→Calls Tryz.prog 66 #[.string ⟨z5a.toArray⟩,.slice (some ⟨bl,off,none⟩) 2 cap] w fun e w'=>e=.returned (rs (nul,32))∧Below w.heap.size w w')
    (hi:¬ bn<0→bn > 6→Calls Tryz.prog 66 #[.string ⟨z5a.toArray⟩,.slice (some ⟨bl,off,none⟩) 2 cap] w fun e w'=>e=.returned (rs (nul,32))∧Below w.heap.size w w')
    (ok:¬ bn<0→¬ bn > 6→∀ z s x,(∀ W,Calls Tryz.prog 126 #[dv an am,.int .i64 bn] W fun e w'=>e=.returned (.tuple #[dv z s,.int .i64 x])∧Grew W w')→Calls Tryz.prog 66 #[.string ⟨z5a.toArray⟩,.slice (some ⟨bl,off,none⟩) 2 cap] w fun e w'=>e=.returned (rs (z2a z s x))∧Below w.heap.size w w'),
    Calls Tryz.prog 66 #[.string ⟨z5a.toArray⟩,.slice (some ⟨bl,off,none⟩) 2 cap] w fun e w'=>e=.returned (rs (rndR an am bn))∧Below w.heap.size w w':=by
   intro hk hb1 lo hi ok
   unfold rndR
   by_cases c1:bn<0
   ·rw [if_neg (by rw [z0w];omega)]
    exact lo c1
   by_cases c2:bn > 6
   ·rw [if_neg (by rw [z0w];omega)]
    exact hi c1 c2
   ·have ht:z0s bn=true:=(z0w bn).2 (by omega)
    have hs:z0s am=true:=(z0w am).2 (by omega)
    rw [if_pos ht]
    unfold rU rS rE
    rw [if_pos (by rw [hs,ht];rfl),if_pos (by rw [hs,ht];rfl),if_pos (by rw [hs,ht];rfl)]
    exact ok c1 c2 _ _ _ (fun W=>rrescale_good an am bn W hs ht n0 n1)
  by_cases h:ak=1
  ·subst h
   by_cases h':bk=1
   ·subst h'
    rw [if_pos ⟨show isn _ from Or.inl rfl,rfl⟩]
    exact rnd (.inl rfl) rfl
     (fun c=>rfunC 2 2 true _ _ 2 cap w (hid rfl) (by decide) hv hall (fun W=>z3u W) (.round1lo rfl (by decide) (by decide) bl off an am ab bn bm bb (hid rfl) h4 g4 hz (by decide) (by decide) c))
     (fun c c'=>rfunD 2 2 true _ _ 2 cap w (hid rfl) (by decide) hv hall (fun W=>z3u W) (.round1hi rfl (by decide) (by decide) bl off an am ab bn bm bb (hid rfl) h4 g4 hz (by decide) (by decide) c c'))
     (fun c c' z s x D=>rfunB 2 2 true _ _ 2 cap w (hid rfl) (by decide) hv hall (fun W=>z3u W) (.round1 rfl (by decide) (by decide) bl off an am ab bn bm bb (hid rfl) h4 g4 hz (by decide) (by decide) c c' z s x D))
   ·rw [if_neg (fun h=>h' h.2)]
    exact rfunE 2 2 true _ _ 2 cap w (hid rfl) (by decide) hv hall (fun W=>z3u W) (.round_noB1 rfl (by decide) (by decide) bk bl off an am ab bn bm bb (hid rfl) h4 g4 hz (by decide) (by decide) (no _ 1 h'))
  ·by_cases h2:ak=2
   ·subst h2
    by_cases h':bk=1
    ·subst h'
     rw [if_pos ⟨show isn _ from Or.inr rfl,rfl⟩]
     exact rnd (.inr rfl) rfl
      (fun c=>rfunF 2 2 true _ _ 2 cap w (hid rfl) (by decide) hv hall (fun W=>z3u W) (.round2lo rfl (by decide) (by decide) bl off an am ab bn bm bb (hid rfl) h4 g4 hz (by decide) (by decide) c))
      (fun c c'=>rfunA 2 2 true _ _ 2 cap w (hid rfl) (by decide) hv hall (fun W=>z3u W) (.round2hi rfl (by decide) (by decide) bl off an am ab bn bm bb (hid rfl) h4 g4 hz (by decide) (by decide) c c'))
      (fun c c' z s x D=>rfunC 2 2 true _ _ 2 cap w (hid rfl) (by decide) hv hall (fun W=>z3u W) (.round2 rfl (by decide) (by decide) bl off an am ab bn bm bb (hid rfl) h4 g4 hz (by decide) (by decide) c c' z s x D))
    ·rw [if_neg (fun h=>h' h.2)]
     exact rfunB 2 2 true _ _ 2 cap w (hid rfl) (by decide) hv hall (fun W=>z3u W) (.round_noB2 rfl (by decide) (by decide) bk bl off an am ab bn bm bb (hid rfl) h4 g4 hz (by decide) (by decide) (no _ 1 h'))
   ·rw [if_neg (fun h'=>by have g:ak=1∨ak=2:=h'.1;omega)]
    exact rfunC 2 2 true _ _ 2 cap w (hid rfl) (by decide) hv hall (fun W=>z3u W) (.round_noA rfl (by decide) (by decide) ak bk bl off an am ab bn bm bb (hid rfl) h4 g4 hz (by decide) (by decide) (no _ 1 h) (no _ 2 h2))
theorem rfunction_any (nm:List UInt8) (ao:Option Addr) (cap:Nat) (l:List Va) (w:World) (hv:Vs w ao l) (hl:l.length≤140737488351232) (hi:∀ x∈l,vin x) :
  Calls Tryz.prog 66 #[.string ⟨nm.toArray⟩,.slice ao l.length cap] w fun e w'=>e=.returned (rs (funR nm l))∧Below w.heap.size w w':=by
 have KN:=fun W=>kn_any nm W
 unfold funR
 cases ha:l.all vr
 ·rw [if_pos rfl]
  exact rfun_bad _ _ _ _ ao l _ cap w (hid rfl) hl hv KN ha
 rw [if_neg (by simp)]
 have hall:∀ x∈l,vr x=true:=List.all_eq_true.1 ha
 by_cases hf:isF nm l.length=true
 ·rw [if_neg (by simp [hf])]
  obtain ⟨k1,k2,k3⟩:=(isF_kn nm l.length).1 hf
  have k2':¬ (l.length:Int)<(knR nm).1:=by omega
  have k3':¬ (l.length:Int) > (knR nm).2.1:=by omega
  by_cases hc:nm=z4s
  ·subst hc
   rw [if_pos rfl]
   exact rfunA _ _ _ ao l _ cap w (hid rfl) hl hv hall KN (.coal k1 k2' k3' _ rfl)
  rw [if_neg hc,any_zf l hall]
  have e7:((⟨nm.toArray⟩:ByteArray).toList==[99,111,97,108,101,115,99,101])=false:=by rw [z6z];exact beq_eq_false_iff_ne.2 hc
  cases hz:zf l l.length
  ·rw [if_neg (by simp)]
   clear KN k1 k2 k3 k2' k3' hl
   by_cases h1:nm=z5n∨nm=sAbs∨nm=sNorm∨nm=sPx∨nm=sPy
   ·have hn:l.length=1:=by unfold isF at hf;rw [if_pos h1] at hf;simpa using hf
    obtain ⟨a,rfl⟩:=List.length_eq_one_iff.1 hn
    obtain ⟨bl,off,rfl,hc'⟩:=id hv (by simp)
    have h4:=hc' 0 (by simp)
    simp only [Nat.zero_mul,Nat.add_zero] at h4
    exact rcal1_any nm bl off cap a w hv h4 (hall a (by simp)) (hi a (by simp)) hz h1
   ·have h2:nm=z6h∨nm=z5a:=by
     unfold isF at hf
     rw [if_neg h1] at hf
     by_cases h2:nm=z6h∨nm=z5a
     ·exact h2
     ·rw [if_neg h2,if_neg hc] at hf
      cases hf
    have hn:l.length=2:=by unfold isF at hf;rw [if_neg h1,if_pos h2] at hf;simpa using hf
    obtain ⟨a,b,rfl⟩:=two_of hn
    obtain ⟨bl,off,rfl,hc'⟩:=id hv (by simp)
    have h4:=hc' 0 (by simp)
    have g4:=hc' 1 (by simp)
    simp only [Nat.zero_mul,Nat.add_zero,Nat.one_mul] at h4 g4
    exact rcal2_any nm bl off cap a b w hv h4 g4 (hall a (by simp)) (hall b (by simp)) (hi a (by simp)) hz h2
  ·rw [if_pos rfl]
   exact rfunA _ _ _ ao l _ cap w (hid rfl) hl hv hall KN (.null k1 k2' k3' e7 hz)
 ·rw [if_pos (by simpa using hf)]
  by_cases k1:(knR nm).2.2=true
  ·by_cases k2:(l.length:Int)<(knR nm).1
   ·exact rfunE _ _ _ ao l _ cap w (hid rfl) hl hv hall KN (.name2 k1 k2)
   ·by_cases k3:(l.length:Int) > (knR nm).2.1
    ·exact rfunF _ _ _ ao l _ cap w (hid rfl) hl hv hall KN (.name3 k1 k2 k3)
    ·exact absurd ((isF_kn nm l.length).2 ⟨k1,by omega,by omega⟩) hf
  ·exact rfunD _ _ _ ao l _ cap w (hid rfl) hl hv hall KN (.name1 (by simpa using k1))
end Go.Proofs.YtibbenhplmmmiaaGreatDoor
