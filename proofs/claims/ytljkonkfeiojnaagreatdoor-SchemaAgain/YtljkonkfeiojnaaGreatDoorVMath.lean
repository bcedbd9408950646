/-
  Values and rows as plain data: which may be, their order, their keys; keys stand byte by byte as their rows do.
-/
import GoSem.Op.String
namespace Go.Proofs.YtljkonkfeiojnaaGreatDoor
def lexc:List UInt8→List UInt8→Int
 | [],[]=>0
 | [],_::_=>-1
 | _::_,[]=>1
 | a::x,b::y=>if a<b then -1 else if b<a then 1 else lexc x y
theorem lexc_range (x y:List UInt8):lexc x y=-1∨lexc x y=0∨lexc x y=1:=by
 fun_induction lexc x y <;> simp_all
theorem lexc_refl (x:List UInt8):lexc x x=0:=by
 induction x with
 | nil=>rfl
 | cons a x ih=>simp [lexc,ih]
theorem lexc_zero {x y:List UInt8} (h:lexc x y=0):x=y:=by
 fun_induction lexc x y with
 | case1=>rfl
 | case2=>simp at h
 | case3=>simp at h
 | case4=>simp at h
 | case5=>simp at h
 | case6 a x b y h1 h2 ih =>
  have:a=b:=by
   have h1':=UInt8.not_lt.1 h1
   have h2':=UInt8.not_lt.1 h2
   exact UInt8.le_antisymm h2' h1'
  rw [this,ih h]
theorem lexc_less (x y:List UInt8):Op.bytesLess x y=decide (lexc x y<0):=by
 fun_induction lexc x y with
 | case1=>rfl
 | case2=>rfl
 | case3=>rfl
 | case4 a x b y h=>simp [Op.bytesLess,h]
 | case5 a x b y h h' =>
  have hn:a≠b:=by rintro rfl;exact h h'
  simp [Op.bytesLess,h,hn]
 | case6 a x b y h h' ih =>
  have:a=b:=UInt8.le_antisymm (UInt8.not_lt.1 h') (UInt8.not_lt.1 h)
  subst this
  simp [Op.bytesLess,ih]
def numc (a b:Int):Int:=if a<b then -1 else if a > b then 1 else 0
def orr (a b:Int):Int:=if a≠0 then a else b
def bigE:Nat→Nat→List UInt8
 | 0,_=>[]
 | k+1,n=>UInt8.ofNat (n / 256^k%256)::bigE k n
theorem bigE_mod (k n:Nat):bigE k n=bigE k (n%256^k):=by
 suffices H:∀ m,k≤m→bigE k n=bigE k (n%256^m) from H k (Nat.le_refl _)
 induction k with
 | zero=>intro m _;rfl
 | succ k ih =>
  intro m hm
  have e:n / 256^k%256=n%256^m / 256^k%256:=by
   obtain ⟨j,rfl⟩:∃ j,m=k+1+j:=⟨m - (k+1),by omega⟩
   have:256^(k+1+j)=256^k*(256*256^j):=by rw [Nat.pow_add,Nat.pow_succ,Nat.mul_assoc]
   rw [this,Nat.mod_mul_right_div_self,Nat.mod_mul_right_mod]
  simp only [bigE]
  rw [e,ih m (by omega)]
theorem z4u (k n:Nat):(bigE k n).length=k:=by
 induction k with
 | zero=>rfl
 | succ k ih=>simp [bigE,ih]
def esc:List UInt8→List UInt8
 | []=>[]
 | c::l=>if c=0 then c::255::esc l else c::esc l
structure Va where
 k:Int
 n:Int
 m:Int
 b:List UInt8
def vok (g:List UInt8→Bool) (v:Va):Prop :=
 (v.k=0∧v.n=0∧v.m=0∧v.b=[])∨(v.k=1∧v.m=0∧v.b=[])∨(v.k=2∧0≤v.m∧v.m≤6∧v.b=[]) ∨
 (v.k=3∧v.n=0∧v.m=0∧v.b.length≤256∧g v.b=true)∨(v.k=4∧(v.n=0∨v.n=1)∧v.m=0∧v.b=[]) ∨
 (v.k=5∧-1048576≤v.n∧v.n≤1048576∧-1048576≤v.m∧v.m≤1048576∧v.b=[])
def isn (v:Va):Prop:=v.k=1∨v.k=2
instance (v:Va):Decidable (isn v):=inferInstanceAs (Decidable (_∨_))
def at6 (v:Va):Int:=v.n*10^(6 - v.m).toNat
def vkey (v:Va):List UInt8 :=
 if v.k=1∨v.k=2 then 2::(bigE 16 (at6 v+2^127).toNat++[UInt8.ofNat v.k.toNat,UInt8.ofNat v.m.toNat])
 else if v.k=3 then 3::(esc v.b++[0,1])
 else if v.k=4 then [4,UInt8.ofNat v.n.toNat]
 else if v.k=5 then 5::(bigE 4 (v.n+2^31).toNat++bigE 4 (v.m+2^31).toNat)
 else [1]
theorem orr_zero (b:Int):orr 0 b=b:=by simp [orr]
theorem orr_ne {a b:Int} (h:a≠0):orr a b=a:=by simp [orr,h]
def rkey (l:List Va):List UInt8:=l.flatMap vkey++[0]
end Go.Proofs.YtljkonkfeiojnaaGreatDoor
