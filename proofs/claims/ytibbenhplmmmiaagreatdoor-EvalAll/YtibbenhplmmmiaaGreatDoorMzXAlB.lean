/-
  The document's operands of a node.
  The document's operands of a node, whole.
  The document's depth of nodes, and whether they are an expression.
  The document's lexer: its small functions.
  The document's lexer: sign and Word.
  longstoplaw06.Same of nodes that are alike.
  The contract of longstoplaw06.Own: the program's nodes out of the document's.
  Five arguments of a row.
  EvalAll: what the row's form asks of the program's own text.
-/
import Derived.Test.YtibbenhplmmmiaaGreatDoorMyXROp
import Derived.Test.YtibbenhplmmmiaaGreatDoorMaLJumps
import Derived.Test.YtibbenhplmmmiaaGreatDoorLTold
import Derived.BigRegion
import Derived.Test.YtibbenhplmmmiaaGreatDoorMfDDivP
import Derived.Deep.RegionHeld3
import Derived.Deep.AppendLies
import Derived.Test.YtibbenhplmmmiaaGreatDoorMvVOrd1
import Derived.Carry
set_option maxHeartbeats 4000000
set_option maxRecDepth 20000
namespace Go.Proofs.YtibbenhplmmmiaaGreatDoor
open Go.RowKit Go.Shelf
attribute [local go_sem] z0e z0b z0c z0f z0m z0k z0h z0d z0g
theorem ro1_t (TB NB VB:ByteArray) (vk vn vm a:Int) (w:World) (tE:TB.toList.isEmpty=false)
  (sv:Bool) (SA:∀ W,Calls Tryz.prog 10 #[va vk vn vm VB,va 0 0 0 ⟨#[]⟩] W fun e w'=>e=.returned (.bool sv)∧Grew W w')  :
  Calls Tryz.prog 187 #[.agg #[.int .i64 1,.string TB,.string NB,.int .i64 vk,.int .i64 vn,.int .i64 vm,.string VB,.int .i64 a]] w fun e w'=>e=.returned (.int .i64 (-1))∧Below w.heap.size w w':=by
 have Z:=Cbox.new w #[.int .i64 1,.string TB,.string NB,.int .i64 vk,.int .i64 vn,.int .i64 vm,.string VB,.int .i64 a] 98
 have A0:=(Below.refl w.heap.size w).alloc (Nat.le_refl _) (.cells #[.int .i64 1,.string TB,.string NB,.int .i64 vk,.int .i64 vn,.int .i64 vm,.string VB,.int .i64 a] 98)
 go_enter Tryz.func187,Tryz.ntmps187
 go_wp2_with (first
  | (go_at_call 10;refine (SA _).mono ?_;rintro e w1 ⟨rfl,g1⟩;have b1:=g1.below;have B1:=A0.trans (b1.mono A0.size);have z0:=(Z.later b1).at 0;have z1:=(Z.later b1).at 1;have z2:=(Z.later b1).at 2;have z3:=(Z.later b1).at 3;have z4:=(Z.later b1).at 4;have z5:=(Z.later b1).at 5;have z6:=(Z.later b1).at 6;have z7:=(Z.later b1).at 7;have zl:=(Z.later b1).lt)
)
 go_ret
 exact ⟨rfl,B1⟩
theorem ro1_n (TB NB VB:ByteArray) (vk vn vm a:Int) (w:World) (tE:TB.toList.isEmpty=true) (nE:NB.toList.isEmpty=false)
  (sv:Bool) (SA:∀ W,Calls Tryz.prog 10 #[va vk vn vm VB,va 0 0 0 ⟨#[]⟩] W fun e w'=>e=.returned (.bool sv)∧Grew W w')  :
  Calls Tryz.prog 187 #[.agg #[.int .i64 1,.string TB,.string NB,.int .i64 vk,.int .i64 vn,.int .i64 vm,.string VB,.int .i64 a]] w fun e w'=>e=.returned (.int .i64 (-1))∧Below w.heap.size w w':=by
 have Z:=Cbox.new w #[.int .i64 1,.string TB,.string NB,.int .i64 vk,.int .i64 vn,.int .i64 vm,.string VB,.int .i64 a] 98
 have A0:=(Below.refl w.heap.size w).alloc (Nat.le_refl _) (.cells #[.int .i64 1,.string TB,.string NB,.int .i64 vk,.int .i64 vn,.int .i64 vm,.string VB,.int .i64 a] 98)
 go_enter Tryz.func187,Tryz.ntmps187
 go_wp2_with (first
  | (go_at_call 10;refine (SA _).mono ?_;rintro e w1 ⟨rfl,g1⟩;have b1:=g1.below;have B1:=A0.trans (b1.mono A0.size);have z0:=(Z.later b1).at 0;have z1:=(Z.later b1).at 1;have z2:=(Z.later b1).at 2;have z3:=(Z.later b1).at 3;have z4:=(Z.later b1).at 4;have z5:=(Z.later b1).at 5;have z6:=(Z.later b1).at 6;have z7:=(Z.later b1).at 7;have zl:=(Z.later b1).lt)
)
 go_ret
 exact ⟨rfl,B1⟩
theorem ro1_a (TB NB VB:ByteArray) (vk vn vm a:Int) (w:World) (tE:TB.toList.isEmpty=true) (nE:NB.toList.isEmpty=true) (aE:¬ a=0)
  (sv:Bool) (SA:∀ W,Calls Tryz.prog 10 #[va vk vn vm VB,va 0 0 0 ⟨#[]⟩] W fun e w'=>e=.returned (.bool sv)∧Grew W w')  :
  Calls Tryz.prog 187 #[.agg #[.int .i64 1,.string TB,.string NB,.int .i64 vk,.int .i64 vn,.int .i64 vm,.string VB,.int .i64 a]] w fun e w'=>e=.returned (.int .i64 (-1))∧Below w.heap.size w w':=by
 have Z:=Cbox.new w #[.int .i64 1,.string TB,.string NB,.int .i64 vk,.int .i64 vn,.int .i64 vm,.string VB,.int .i64 a] 98
 have A0:=(Below.refl w.heap.size w).alloc (Nat.le_refl _) (.cells #[.int .i64 1,.string TB,.string NB,.int .i64 vk,.int .i64 vn,.int .i64 vm,.string VB,.int .i64 a] 98)
 go_enter Tryz.func187,Tryz.ntmps187
 go_wp2_with (first
  | (go_at_call 10;refine (SA _).mono ?_;rintro e w1 ⟨rfl,g1⟩;have b1:=g1.below;have B1:=A0.trans (b1.mono A0.size);have z0:=(Z.later b1).at 0;have z1:=(Z.later b1).at 1;have z2:=(Z.later b1).at 2;have z3:=(Z.later b1).at 3;have z4:=(Z.later b1).at 4;have z5:=(Z.later b1).at 5;have z6:=(Z.later b1).at 6;have z7:=(Z.later b1).at 7;have zl:=(Z.later b1).lt)
)
 go_ret
 exact ⟨rfl,B1⟩
theorem ro1_false (TB NB VB:ByteArray) (vk vn vm:Int) (w:World) (tE:TB.toList.isEmpty=true) (nE:NB.toList.isEmpty=true)
  (sv:Bool) (SA:∀ W,Calls Tryz.prog 10 #[va vk vn vm VB,va 0 0 0 ⟨#[]⟩] W fun e w'=>e=.returned (.bool sv)∧Grew W w') (L:∀ W,Calls Tryz.prog 243 #[va vk vn vm VB] W fun e w'=>e=.returned (.bool false)∧Below W.heap.size W w') :
  Calls Tryz.prog 187 #[.agg #[.int .i64 1,.string TB,.string NB,.int .i64 vk,.int .i64 vn,.int .i64 vm,.string VB,.int .i64 0]] w fun e w'=>e=.returned (.int .i64 (-1))∧Below w.heap.size w w':=by
 have Z:=Cbox.new w #[.int .i64 1,.string TB,.string NB,.int .i64 vk,.int .i64 vn,.int .i64 vm,.string VB,.int .i64 0] 98
 have A0:=(Below.refl w.heap.size w).alloc (Nat.le_refl _) (.cells #[.int .i64 1,.string TB,.string NB,.int .i64 vk,.int .i64 vn,.int .i64 vm,.string VB,.int .i64 0] 98)
 go_enter Tryz.func187,Tryz.ntmps187
 go_wp2_with (first
  | (go_at_call 10;refine (SA _).mono ?_;rintro e w1 ⟨rfl,g1⟩;have b1:=g1.below;have B1:=A0.trans (b1.mono A0.size);have z0:=(Z.later b1).at 0;have z1:=(Z.later b1).at 1;have z2:=(Z.later b1).at 2;have z3:=(Z.later b1).at 3;have z4:=(Z.later b1).at 4;have z5:=(Z.later b1).at 5;have z6:=(Z.later b1).at 6;have z7:=(Z.later b1).at 7;have zl:=(Z.later b1).lt)
  | (go_at_call 243;refine (L _).mono ?_;rintro e w2 ⟨rfl,b2⟩))
 go_ret
 exact ⟨rfl,by first|exact B1|exact z0a B1 b2|exact z0a (z0a B1 b2) b3⟩
theorem ro1_true (TB NB VB:ByteArray) (vk vn vm:Int) (w:World) (tE:TB.toList.isEmpty=true) (nE:NB.toList.isEmpty=true)
  (sv:Bool) (SA:∀ W,Calls Tryz.prog 10 #[va vk vn vm VB,va 0 0 0 ⟨#[]⟩] W fun e w'=>e=.returned (.bool sv)∧Grew W w') (L:∀ W,Calls Tryz.prog 243 #[va vk vn vm VB] W fun e w'=>e=.returned (.bool true)∧Below W.heap.size W w') :
  Calls Tryz.prog 187 #[.agg #[.int .i64 1,.string TB,.string NB,.int .i64 vk,.int .i64 vn,.int .i64 vm,.string VB,.int .i64 0]] w fun e w'=>e=.returned (.int .i64 0)∧Below w.heap.size w w':=by
 have Z:=Cbox.new w #[.int .i64 1,.string TB,.string NB,.int .i64 vk,.int .i64 vn,.int .i64 vm,.string VB,.int .i64 0] 98
 have A0:=(Below.refl w.heap.size w).alloc (Nat.le_refl _) (.cells #[.int .i64 1,.string TB,.string NB,.int .i64 vk,.int .i64 vn,.int .i64 vm,.string VB,.int .i64 0] 98)
 go_enter Tryz.func187,Tryz.ntmps187
 go_wp2_with (first
  | (go_at_call 10;refine (SA _).mono ?_;rintro e w1 ⟨rfl,g1⟩;have b1:=g1.below;have B1:=A0.trans (b1.mono A0.size);have z0:=(Z.later b1).at 0;have z1:=(Z.later b1).at 1;have z2:=(Z.later b1).at 2;have z3:=(Z.later b1).at 3;have z4:=(Z.later b1).at 4;have z5:=(Z.later b1).at 5;have z6:=(Z.later b1).at 6;have z7:=(Z.later b1).at 7;have zl:=(Z.later b1).lt)
  | (go_at_call 243;refine (L _).mono ?_;rintro e w2 ⟨rfl,b2⟩))
 go_ret
 exact ⟨rfl,by first|exact B1|exact z0a B1 b2|exact z0a (z0a B1 b2) b3⟩
theorem ro2_ve (TB NB VB:ByteArray) (vk vn vm a:Int) (w:World) (tE:TB.toList.isEmpty=true)
  (SA:∀ W,Calls Tryz.prog 10 #[va vk vn vm VB,va 0 0 0 ⟨#[]⟩] W fun e w'=>e=.returned (.bool false)∧Grew W w')  :
  Calls Tryz.prog 187 #[.agg #[.int .i64 2,.string TB,.string NB,.int .i64 vk,.int .i64 vn,.int .i64 vm,.string VB,.int .i64 a]] w fun e w'=>e=.returned (.int .i64 (-1))∧Below w.heap.size w w':=by
 have Z:=Cbox.new w #[.int .i64 2,.string TB,.string NB,.int .i64 vk,.int .i64 vn,.int .i64 vm,.string VB,.int .i64 a] 98
 have A0:=(Below.refl w.heap.size w).alloc (Nat.le_refl _) (.cells #[.int .i64 2,.string TB,.string NB,.int .i64 vk,.int .i64 vn,.int .i64 vm,.string VB,.int .i64 a] 98)
 go_enter Tryz.func187,Tryz.ntmps187
 go_wp2_with (first
  | (go_at_call 10;refine (SA _).mono ?_;rintro e w1 ⟨rfl,g1⟩;have b1:=g1.below;have B1:=A0.trans (b1.mono A0.size);have z0:=(Z.later b1).at 0;have z1:=(Z.later b1).at 1;have z2:=(Z.later b1).at 2;have z3:=(Z.later b1).at 3;have z4:=(Z.later b1).at 4;have z5:=(Z.later b1).at 5;have z6:=(Z.later b1).at 6;have z7:=(Z.later b1).at 7;have zl:=(Z.later b1).lt)
)
 go_ret
 exact ⟨rfl,B1⟩
theorem ro2_ae (TB NB VB:ByteArray) (vk vn vm a:Int) (w:World) (tE:TB.toList.isEmpty=true) (aE:¬ a=0)
  (SA:∀ W,Calls Tryz.prog 10 #[va vk vn vm VB,va 0 0 0 ⟨#[]⟩] W fun e w'=>e=.returned (.bool true)∧Grew W w')  :
  Calls Tryz.prog 187 #[.agg #[.int .i64 2,.string TB,.string NB,.int .i64 vk,.int .i64 vn,.int .i64 vm,.string VB,.int .i64 a]] w fun e w'=>e=.returned (.int .i64 (-1))∧Below w.heap.size w w':=by
 have Z:=Cbox.new w #[.int .i64 2,.string TB,.string NB,.int .i64 vk,.int .i64 vn,.int .i64 vm,.string VB,.int .i64 a] 98
 have A0:=(Below.refl w.heap.size w).alloc (Nat.le_refl _) (.cells #[.int .i64 2,.string TB,.string NB,.int .i64 vk,.int .i64 vn,.int .i64 vm,.string VB,.int .i64 a] 98)
 go_enter Tryz.func187,Tryz.ntmps187
 go_wp2_with (first
  | (go_at_call 10;refine (SA _).mono ?_;rintro e w1 ⟨rfl,g1⟩;have b1:=g1.below;have B1:=A0.trans (b1.mono A0.size);have z0:=(Z.later b1).at 0;have z1:=(Z.later b1).at 1;have z2:=(Z.later b1).at 2;have z3:=(Z.later b1).at 3;have z4:=(Z.later b1).at 4;have z5:=(Z.later b1).at 5;have z6:=(Z.later b1).at 6;have z7:=(Z.later b1).at 7;have zl:=(Z.later b1).lt)
)
 go_ret
 exact ⟨rfl,B1⟩
theorem ro2_fe (TB NB VB:ByteArray) (vk vn vm:Int) (w:World) (tE:TB.toList.isEmpty=true)
  (SA:∀ W,Calls Tryz.prog 10 #[va vk vn vm VB,va 0 0 0 ⟨#[]⟩] W fun e w'=>e=.returned (.bool true)∧Grew W w') (F1:∀ W,Calls Tryz.prog 244 #[.string NB] W fun e w'=>e=.returned (.bool false)∧Below W.heap.size W w') :
  Calls Tryz.prog 187 #[.agg #[.int .i64 2,.string TB,.string NB,.int .i64 vk,.int .i64 vn,.int .i64 vm,.string VB,.int .i64 0]] w fun e w'=>e=.returned (.int .i64 (-1))∧Below w.heap.size w w':=by
 have Z:=Cbox.new w #[.int .i64 2,.string TB,.string NB,.int .i64 vk,.int .i64 vn,.int .i64 vm,.string VB,.int .i64 0] 98
 have A0:=(Below.refl w.heap.size w).alloc (Nat.le_refl _) (.cells #[.int .i64 2,.string TB,.string NB,.int .i64 vk,.int .i64 vn,.int .i64 vm,.string VB,.int .i64 0] 98)
 go_enter Tryz.func187,Tryz.ntmps187
 go_wp2_with (first
  | (go_at_call 10;refine (SA _).mono ?_;rintro e w1 ⟨rfl,g1⟩;have b1:=g1.below;have B1:=A0.trans (b1.mono A0.size);have z0:=(Z.later b1).at 0;have z1:=(Z.later b1).at 1;have z2:=(Z.later b1).at 2;have z3:=(Z.later b1).at 3;have z4:=(Z.later b1).at 4;have z5:=(Z.later b1).at 5;have z6:=(Z.later b1).at 6;have z7:=(Z.later b1).at 7;have zl:=(Z.later b1).lt)
  | (go_at_call 244;refine (F1 _).mono ?_;rintro e w2 ⟨rfl,b2⟩;have y0:=((Z.later b1).later b2).at 0;have y1:=((Z.later b1).later b2).at 1;have y2:=((Z.later b1).later b2).at 2;have y7:=((Z.later b1).later b2).at 7;have yl:=((Z.later b1).later b2).lt))
 go_ret
 exact ⟨rfl,by first|exact B1|exact z0a B1 b2|exact z0a (z0a B1 b2) b3⟩
theorem ro19_ve (TB NB VB:ByteArray) (vk vn vm a:Int) (w:World) (tE:TB.toList.isEmpty=true)
  (SA:∀ W,Calls Tryz.prog 10 #[va vk vn vm VB,va 0 0 0 ⟨#[]⟩] W fun e w'=>e=.returned (.bool false)∧Grew W w')  :
  Calls Tryz.prog 187 #[.agg #[.int .i64 19,.string TB,.string NB,.int .i64 vk,.int .i64 vn,.int .i64 vm,.string VB,.int .i64 a]] w fun e w'=>e=.returned (.int .i64 (-1))∧Below w.heap.size w w':=by
 have Z:=Cbox.new w #[.int .i64 19,.string TB,.string NB,.int .i64 vk,.int .i64 vn,.int .i64 vm,.string VB,.int .i64 a] 98
 have A0:=(Below.refl w.heap.size w).alloc (Nat.le_refl _) (.cells #[.int .i64 19,.string TB,.string NB,.int .i64 vk,.int .i64 vn,.int .i64 vm,.string VB,.int .i64 a] 98)
 go_enter Tryz.func187,Tryz.ntmps187
 go_wp2_with (first
  | (go_at_call 10;refine (SA _).mono ?_;rintro e w1 ⟨rfl,g1⟩;have b1:=g1.below;have B1:=A0.trans (b1.mono A0.size);have z0:=(Z.later b1).at 0;have z1:=(Z.later b1).at 1;have z2:=(Z.later b1).at 2;have z3:=(Z.later b1).at 3;have z4:=(Z.later b1).at 4;have z5:=(Z.later b1).at 5;have z6:=(Z.later b1).at 6;have z7:=(Z.later b1).at 7;have zl:=(Z.later b1).lt)
)
 go_ret
 exact ⟨rfl,B1⟩
theorem ro19_le (TB NB VB:ByteArray) (vk vn vm a:Int) (w:World) (tE:TB.toList.isEmpty=true) (aE:a<0)
  (SA:∀ W,Calls Tryz.prog 10 #[va vk vn vm VB,va 0 0 0 ⟨#[]⟩] W fun e w'=>e=.returned (.bool true)∧Grew W w')  :
  Calls Tryz.prog 187 #[.agg #[.int .i64 19,.string TB,.string NB,.int .i64 vk,.int .i64 vn,.int .i64 vm,.string VB,.int .i64 a]] w fun e w'=>e=.returned (.int .i64 (-1))∧Below w.heap.size w w':=by
 have Z:=Cbox.new w #[.int .i64 19,.string TB,.string NB,.int .i64 vk,.int .i64 vn,.int .i64 vm,.string VB,.int .i64 a] 98
 have A0:=(Below.refl w.heap.size w).alloc (Nat.le_refl _) (.cells #[.int .i64 19,.string TB,.string NB,.int .i64 vk,.int .i64 vn,.int .i64 vm,.string VB,.int .i64 a] 98)
 go_enter Tryz.func187,Tryz.ntmps187
 go_wp2_with (first
  | (go_at_call 10;refine (SA _).mono ?_;rintro e w1 ⟨rfl,g1⟩;have b1:=g1.below;have B1:=A0.trans (b1.mono A0.size);have z0:=(Z.later b1).at 0;have z1:=(Z.later b1).at 1;have z2:=(Z.later b1).at 2;have z3:=(Z.later b1).at 3;have z4:=(Z.later b1).at 4;have z5:=(Z.later b1).at 5;have z6:=(Z.later b1).at 6;have z7:=(Z.later b1).at 7;have zl:=(Z.later b1).lt)
)
 go_ret
 exact ⟨rfl,B1⟩
theorem ro19_he (TB NB VB:ByteArray) (vk vn vm a:Int) (w:World) (tE:TB.toList.isEmpty=true) (a0:¬ a<0) (aE:4<a)
  (SA:∀ W,Calls Tryz.prog 10 #[va vk vn vm VB,va 0 0 0 ⟨#[]⟩] W fun e w'=>e=.returned (.bool true)∧Grew W w')  :
  Calls Tryz.prog 187 #[.agg #[.int .i64 19,.string TB,.string NB,.int .i64 vk,.int .i64 vn,.int .i64 vm,.string VB,.int .i64 a]] w fun e w'=>e=.returned (.int .i64 (-1))∧Below w.heap.size w w':=by
 have Z:=Cbox.new w #[.int .i64 19,.string TB,.string NB,.int .i64 vk,.int .i64 vn,.int .i64 vm,.string VB,.int .i64 a] 98
 have A0:=(Below.refl w.heap.size w).alloc (Nat.le_refl _) (.cells #[.int .i64 19,.string TB,.string NB,.int .i64 vk,.int .i64 vn,.int .i64 vm,.string VB,.int .i64 a] 98)
 go_enter Tryz.func187,Tryz.ntmps187
 go_wp2_with (first
  | (go_at_call 10;refine (SA _).mono ?_;rintro e w1 ⟨rfl,g1⟩;have b1:=g1.below;have B1:=A0.trans (b1.mono A0.size);have z0:=(Z.later b1).at 0;have z1:=(Z.later b1).at 1;have z2:=(Z.later b1).at 2;have z3:=(Z.later b1).at 3;have z4:=(Z.later b1).at 4;have z5:=(Z.later b1).at 5;have z6:=(Z.later b1).at 6;have z7:=(Z.later b1).at 7;have zl:=(Z.later b1).lt)
)
 go_ret
 exact ⟨rfl,B1⟩
theorem ro19_fe (TB NB VB:ByteArray) (vk vn vm a:Int) (w:World) (tE:TB.toList.isEmpty=true) (a0:¬ a<0) (a4:¬ 4<a)
  (SA:∀ W,Calls Tryz.prog 10 #[va vk vn vm VB,va 0 0 0 ⟨#[]⟩] W fun e w'=>e=.returned (.bool true)∧Grew W w') (F1:∀ W,Calls Tryz.prog 244 #[.string NB] W fun e w'=>e=.returned (.bool false)∧Below W.heap.size W w') :
  Calls Tryz.prog 187 #[.agg #[.int .i64 19,.string TB,.string NB,.int .i64 vk,.int .i64 vn,.int .i64 vm,.string VB,.int .i64 a]] w fun e w'=>e=.returned (.int .i64 (-1))∧Below w.heap.size w w':=by
 have Z:=Cbox.new w #[.int .i64 19,.string TB,.string NB,.int .i64 vk,.int .i64 vn,.int .i64 vm,.string VB,.int .i64 a] 98
 have A0:=(Below.refl w.heap.size w).alloc (Nat.le_refl _) (.cells #[.int .i64 19,.string TB,.string NB,.int .i64 vk,.int .i64 vn,.int .i64 vm,.string VB,.int .i64 a] 98)
 go_enter Tryz.func187,Tryz.ntmps187
 go_wp2_with (first
  | (go_at_call 10;refine (SA _).mono ?_;rintro e w1 ⟨rfl,g1⟩;have b1:=g1.below;have B1:=A0.trans (b1.mono A0.size);have z0:=(Z.later b1).at 0;have z1:=(Z.later b1).at 1;have z2:=(Z.later b1).at 2;have z3:=(Z.later b1).at 3;have z4:=(Z.later b1).at 4;have z5:=(Z.later b1).at 5;have z6:=(Z.later b1).at 6;have z7:=(Z.later b1).at 7;have zl:=(Z.later b1).lt)
  | (go_at_call 244;refine (F1 _).mono ?_;rintro e w2 ⟨rfl,b2⟩;have y0:=((Z.later b1).later b2).at 0;have y1:=((Z.later b1).later b2).at 1;have y2:=((Z.later b1).later b2).at 2;have y7:=((Z.later b1).later b2).at 7;have yl:=((Z.later b1).later b2).lt))
 go_ret
 exact ⟨rfl,by first|exact B1|exact z0a B1 b2|exact z0a (z0a B1 b2) b3⟩
theorem ro19_e (TB NB VB:ByteArray) (vk vn vm a:Int) (w:World) (tE:TB.toList.isEmpty=true) (a0:¬ a<0) (a4:¬ 4<a)
  (SA:∀ W,Calls Tryz.prog 10 #[va vk vn vm VB,va 0 0 0 ⟨#[]⟩] W fun e w'=>e=.returned (.bool true)∧Grew W w') (F1:∀ W,Calls Tryz.prog 244 #[.string NB] W fun e w'=>e=.returned (.bool true)∧Below W.heap.size W w') :
  Calls Tryz.prog 187 #[.agg #[.int .i64 19,.string TB,.string NB,.int .i64 vk,.int .i64 vn,.int .i64 vm,.string VB,.int .i64 a]] w fun e w'=>e=.returned (.int .i64 a)∧Below w.heap.size w w':=by
 have Z:=Cbox.new w #[.int .i64 19,.string TB,.string NB,.int .i64 vk,.int .i64 vn,.int .i64 vm,.string VB,.int .i64 a] 98
 have A0:=(Below.refl w.heap.size w).alloc (Nat.le_refl _) (.cells #[.int .i64 19,.string TB,.string NB,.int .i64 vk,.int .i64 vn,.int .i64 vm,.string VB,.int .i64 a] 98)
 go_enter Tryz.func187,Tryz.ntmps187
 go_wp2_with (first
  | (go_at_call 10;refine (SA _).mono ?_;rintro e w1 ⟨rfl,g1⟩;have b1:=g1.below;have B1:=A0.trans (b1.mono A0.size);have z0:=(Z.later b1).at 0;have z1:=(Z.later b1).at 1;have z2:=(Z.later b1).at 2;have z3:=(Z.later b1).at 3;have z4:=(Z.later b1).at 4;have z5:=(Z.later b1).at 5;have z6:=(Z.later b1).at 6;have z7:=(Z.later b1).at 7;have zl:=(Z.later b1).lt)
  | (go_at_call 244;refine (F1 _).mono ?_;rintro e w2 ⟨rfl,b2⟩;have y0:=((Z.later b1).later b2).at 0;have y1:=((Z.later b1).later b2).at 1;have y2:=((Z.later b1).later b2).at 2;have y7:=((Z.later b1).later b2).at 7;have yl:=((Z.later b1).later b2).lt))
 go_ret
 exact ⟨rfl,by first|exact B1|exact z0a B1 b2|exact z0a (z0a B1 b2) b3⟩
theorem ro2_vt (TB NB VB:ByteArray) (vk vn vm a:Int) (w:World) (tE:TB.toList.isEmpty=false)
  (SA:∀ W,Calls Tryz.prog 10 #[va vk vn vm VB,va 0 0 0 ⟨#[]⟩] W fun e w'=>e=.returned (.bool false)∧Grew W w')  :
  Calls Tryz.prog 187 #[.agg #[.int .i64 2,.string TB,.string NB,.int .i64 vk,.int .i64 vn,.int .i64 vm,.string VB,.int .i64 a]] w fun e w'=>e=.returned (.int .i64 (-1))∧Below w.heap.size w w':=by
 have Z:=Cbox.new w #[.int .i64 2,.string TB,.string NB,.int .i64 vk,.int .i64 vn,.int .i64 vm,.string VB,.int .i64 a] 98
 have A0:=(Below.refl w.heap.size w).alloc (Nat.le_refl _) (.cells #[.int .i64 2,.string TB,.string NB,.int .i64 vk,.int .i64 vn,.int .i64 vm,.string VB,.int .i64 a] 98)
 go_enter Tryz.func187,Tryz.ntmps187
 go_wp2_with (first
  | (go_at_call 10;refine (SA _).mono ?_;rintro e w1 ⟨rfl,g1⟩;have b1:=g1.below;have B1:=A0.trans (b1.mono A0.size);have z0:=(Z.later b1).at 0;have z1:=(Z.later b1).at 1;have z2:=(Z.later b1).at 2;have z3:=(Z.later b1).at 3;have z4:=(Z.later b1).at 4;have z5:=(Z.later b1).at 5;have z6:=(Z.later b1).at 6;have z7:=(Z.later b1).at 7;have zl:=(Z.later b1).lt)
)
 go_ret
 exact ⟨rfl,B1⟩
theorem ro2_at (TB NB VB:ByteArray) (vk vn vm a:Int) (w:World) (tE:TB.toList.isEmpty=false) (aE:¬ a=0)
  (SA:∀ W,Calls Tryz.prog 10 #[va vk vn vm VB,va 0 0 0 ⟨#[]⟩] W fun e w'=>e=.returned (.bool true)∧Grew W w')  :
  Calls Tryz.prog 187 #[.agg #[.int .i64 2,.string TB,.string NB,.int .i64 vk,.int .i64 vn,.int .i64 vm,.string VB,.int .i64 a]] w fun e w'=>e=.returned (.int .i64 (-1))∧Below w.heap.size w w':=by
 have Z:=Cbox.new w #[.int .i64 2,.string TB,.string NB,.int .i64 vk,.int .i64 vn,.int .i64 vm,.string VB,.int .i64 a] 98
 have A0:=(Below.refl w.heap.size w).alloc (Nat.le_refl _) (.cells #[.int .i64 2,.string TB,.string NB,.int .i64 vk,.int .i64 vn,.int .i64 vm,.string VB,.int .i64 a] 98)
 go_enter Tryz.func187,Tryz.ntmps187
 go_wp2_with (first
  | (go_at_call 10;refine (SA _).mono ?_;rintro e w1 ⟨rfl,g1⟩;have b1:=g1.below;have B1:=A0.trans (b1.mono A0.size);have z0:=(Z.later b1).at 0;have z1:=(Z.later b1).at 1;have z2:=(Z.later b1).at 2;have z3:=(Z.later b1).at 3;have z4:=(Z.later b1).at 4;have z5:=(Z.later b1).at 5;have z6:=(Z.later b1).at 6;have z7:=(Z.later b1).at 7;have zl:=(Z.later b1).lt)
)
 go_ret
 exact ⟨rfl,B1⟩
theorem ro2_ft (TB NB VB:ByteArray) (vk vn vm:Int) (w:World) (tE:TB.toList.isEmpty=false)
  (SA:∀ W,Calls Tryz.prog 10 #[va vk vn vm VB,va 0 0 0 ⟨#[]⟩] W fun e w'=>e=.returned (.bool true)∧Grew W w') (F1:∀ W,Calls Tryz.prog 244 #[.string NB] W fun e w'=>e=.returned (.bool false)∧Below W.heap.size W w') :
  Calls Tryz.prog 187 #[.agg #[.int .i64 2,.string TB,.string NB,.int .i64 vk,.int .i64 vn,.int .i64 vm,.string VB,.int .i64 0]] w fun e w'=>e=.returned (.int .i64 (-1))∧Below w.heap.size w w':=by
 have Z:=Cbox.new w #[.int .i64 2,.string TB,.string NB,.int .i64 vk,.int .i64 vn,.int .i64 vm,.string VB,.int .i64 0] 98
 have A0:=(Below.refl w.heap.size w).alloc (Nat.le_refl _) (.cells #[.int .i64 2,.string TB,.string NB,.int .i64 vk,.int .i64 vn,.int .i64 vm,.string VB,.int .i64 0] 98)
 go_enter Tryz.func187,Tryz.ntmps187
 go_wp2_with (first
  | (go_at_call 10;refine (SA _).mono ?_;rintro e w1 ⟨rfl,g1⟩;have b1:=g1.below;have B1:=A0.trans (b1.mono A0.size);have z0:=(Z.later b1).at 0;have z1:=(Z.later b1).at 1;have z2:=(Z.later b1).at 2;have z3:=(Z.later b1).at 3;have z4:=(Z.later b1).at 4;have z5:=(Z.later b1).at 5;have z6:=(Z.later b1).at 6;have z7:=(Z.later b1).at 7;have zl:=(Z.later b1).lt)
  | (go_at_call 244;refine (F1 _).mono ?_;rintro e w2 ⟨rfl,b2⟩;have y0:=((Z.later b1).later b2).at 0;have y1:=((Z.later b1).later b2).at 1;have y2:=((Z.later b1).later b2).at 2;have y7:=((Z.later b1).later b2).at 7;have yl:=((Z.later b1).later b2).lt))
 go_ret
 exact ⟨rfl,by first|exact B1|exact z0a B1 b2|exact z0a (z0a B1 b2) b3⟩
theorem ro19_vt (TB NB VB:ByteArray) (vk vn vm a:Int) (w:World) (tE:TB.toList.isEmpty=false)
  (SA:∀ W,Calls Tryz.prog 10 #[va vk vn vm VB,va 0 0 0 ⟨#[]⟩] W fun e w'=>e=.returned (.bool false)∧Grew W w')  :
  Calls Tryz.prog 187 #[.agg #[.int .i64 19,.string TB,.string NB,.int .i64 vk,.int .i64 vn,.int .i64 vm,.string VB,.int .i64 a]] w fun e w'=>e=.returned (.int .i64 (-1))∧Below w.heap.size w w':=by
 have Z:=Cbox.new w #[.int .i64 19,.string TB,.string NB,.int .i64 vk,.int .i64 vn,.int .i64 vm,.string VB,.int .i64 a] 98
 have A0:=(Below.refl w.heap.size w).alloc (Nat.le_refl _) (.cells #[.int .i64 19,.string TB,.string NB,.int .i64 vk,.int .i64 vn,.int .i64 vm,.string VB,.int .i64 a] 98)
 go_enter Tryz.func187,Tryz.ntmps187
 go_wp2_with (first
  | (go_at_call 10;refine (SA _).mono ?_;rintro e w1 ⟨rfl,g1⟩;have b1:=g1.below;have B1:=A0.trans (b1.mono A0.size);have z0:=(Z.later b1).at 0;have z1:=(Z.later b1).at 1;have z2:=(Z.later b1).at 2;have z3:=(Z.later b1).at 3;have z4:=(Z.later b1).at 4;have z5:=(Z.later b1).at 5;have z6:=(Z.later b1).at 6;have z7:=(Z.later b1).at 7;have zl:=(Z.later b1).lt)
)
 go_ret
 exact ⟨rfl,B1⟩
theorem ro19_lt (TB NB VB:ByteArray) (vk vn vm a:Int) (w:World) (tE:TB.toList.isEmpty=false) (aE:a<0)
  (SA:∀ W,Calls Tryz.prog 10 #[va vk vn vm VB,va 0 0 0 ⟨#[]⟩] W fun e w'=>e=.returned (.bool true)∧Grew W w')  :
  Calls Tryz.prog 187 #[.agg #[.int .i64 19,.string TB,.string NB,.int .i64 vk,.int .i64 vn,.int .i64 vm,.string VB,.int .i64 a]] w fun e w'=>e=.returned (.int .i64 (-1))∧Below w.heap.size w w':=by
 have Z:=Cbox.new w #[.int .i64 19,.string TB,.string NB,.int .i64 vk,.int .i64 vn,.int .i64 vm,.string VB,.int .i64 a] 98
 have A0:=(Below.refl w.heap.size w).alloc (Nat.le_refl _) (.cells #[.int .i64 19,.string TB,.string NB,.int .i64 vk,.int .i64 vn,.int .i64 vm,.string VB,.int .i64 a] 98)
 go_enter Tryz.func187,Tryz.ntmps187
 go_wp2_with (first
  | (go_at_call 10;refine (SA _).mono ?_;rintro e w1 ⟨rfl,g1⟩;have b1:=g1.below;have B1:=A0.trans (b1.mono A0.size);have z0:=(Z.later b1).at 0;have z1:=(Z.later b1).at 1;have z2:=(Z.later b1).at 2;have z3:=(Z.later b1).at 3;have z4:=(Z.later b1).at 4;have z5:=(Z.later b1).at 5;have z6:=(Z.later b1).at 6;have z7:=(Z.later b1).at 7;have zl:=(Z.later b1).lt)
)
 go_ret
 exact ⟨rfl,B1⟩
theorem ro19_ht (TB NB VB:ByteArray) (vk vn vm a:Int) (w:World) (tE:TB.toList.isEmpty=false) (a0:¬ a<0) (aE:4<a)
  (SA:∀ W,Calls Tryz.prog 10 #[va vk vn vm VB,va 0 0 0 ⟨#[]⟩] W fun e w'=>e=.returned (.bool true)∧Grew W w')  :
  Calls Tryz.prog 187 #[.agg #[.int .i64 19,.string TB,.string NB,.int .i64 vk,.int .i64 vn,.int .i64 vm,.string VB,.int .i64 a]] w fun e w'=>e=.returned (.int .i64 (-1))∧Below w.heap.size w w':=by
 have Z:=Cbox.new w #[.int .i64 19,.string TB,.string NB,.int .i64 vk,.int .i64 vn,.int .i64 vm,.string VB,.int .i64 a] 98
 have A0:=(Below.refl w.heap.size w).alloc (Nat.le_refl _) (.cells #[.int .i64 19,.string TB,.string NB,.int .i64 vk,.int .i64 vn,.int .i64 vm,.string VB,.int .i64 a] 98)
 go_enter Tryz.func187,Tryz.ntmps187
 go_wp2_with (first
  | (go_at_call 10;refine (SA _).mono ?_;rintro e w1 ⟨rfl,g1⟩;have b1:=g1.below;have B1:=A0.trans (b1.mono A0.size);have z0:=(Z.later b1).at 0;have z1:=(Z.later b1).at 1;have z2:=(Z.later b1).at 2;have z3:=(Z.later b1).at 3;have z4:=(Z.later b1).at 4;have z5:=(Z.later b1).at 5;have z6:=(Z.later b1).at 6;have z7:=(Z.later b1).at 7;have zl:=(Z.later b1).lt)
)
 go_ret
 exact ⟨rfl,B1⟩
theorem ro19_ft (TB NB VB:ByteArray) (vk vn vm a:Int) (w:World) (tE:TB.toList.isEmpty=false) (a0:¬ a<0) (a4:¬ 4<a)
  (SA:∀ W,Calls Tryz.prog 10 #[va vk vn vm VB,va 0 0 0 ⟨#[]⟩] W fun e w'=>e=.returned (.bool true)∧Grew W w') (F1:∀ W,Calls Tryz.prog 244 #[.string NB] W fun e w'=>e=.returned (.bool false)∧Below W.heap.size W w') :
  Calls Tryz.prog 187 #[.agg #[.int .i64 19,.string TB,.string NB,.int .i64 vk,.int .i64 vn,.int .i64 vm,.string VB,.int .i64 a]] w fun e w'=>e=.returned (.int .i64 (-1))∧Below w.heap.size w w':=by
 have Z:=Cbox.new w #[.int .i64 19,.string TB,.string NB,.int .i64 vk,.int .i64 vn,.int .i64 vm,.string VB,.int .i64 a] 98
 have A0:=(Below.refl w.heap.size w).alloc (Nat.le_refl _) (.cells #[.int .i64 19,.string TB,.string NB,.int .i64 vk,.int .i64 vn,.int .i64 vm,.string VB,.int .i64 a] 98)
 go_enter Tryz.func187,Tryz.ntmps187
 go_wp2_with (first
  | (go_at_call 10;refine (SA _).mono ?_;rintro e w1 ⟨rfl,g1⟩;have b1:=g1.below;have B1:=A0.trans (b1.mono A0.size);have z0:=(Z.later b1).at 0;have z1:=(Z.later b1).at 1;have z2:=(Z.later b1).at 2;have z3:=(Z.later b1).at 3;have z4:=(Z.later b1).at 4;have z5:=(Z.later b1).at 5;have z6:=(Z.later b1).at 6;have z7:=(Z.later b1).at 7;have zl:=(Z.later b1).lt)
  | (go_at_call 244;refine (F1 _).mono ?_;rintro e w2 ⟨rfl,b2⟩;have y0:=((Z.later b1).later b2).at 0;have y1:=((Z.later b1).later b2).at 1;have y2:=((Z.later b1).later b2).at 2;have y7:=((Z.later b1).later b2).at 7;have yl:=((Z.later b1).later b2).lt))
 go_ret
 exact ⟨rfl,by first|exact B1|exact z0a B1 b2|exact z0a (z0a B1 b2) b3⟩
theorem ro19_t (TB NB VB:ByteArray) (vk vn vm a:Int) (w:World) (tE:TB.toList.isEmpty=false) (a0:¬ a<0) (a4:¬ 4<a)
  (SA:∀ W,Calls Tryz.prog 10 #[va vk vn vm VB,va 0 0 0 ⟨#[]⟩] W fun e w'=>e=.returned (.bool true)∧Grew W w') (F1:∀ W,Calls Tryz.prog 244 #[.string NB] W fun e w'=>e=.returned (.bool true)∧Below W.heap.size W w') :
  Calls Tryz.prog 187 #[.agg #[.int .i64 19,.string TB,.string NB,.int .i64 vk,.int .i64 vn,.int .i64 vm,.string VB,.int .i64 a]] w fun e w'=>e=.returned (.int .i64 (-1))∧Below w.heap.size w w':=by
 have Z:=Cbox.new w #[.int .i64 19,.string TB,.string NB,.int .i64 vk,.int .i64 vn,.int .i64 vm,.string VB,.int .i64 a] 98
 have A0:=(Below.refl w.heap.size w).alloc (Nat.le_refl _) (.cells #[.int .i64 19,.string TB,.string NB,.int .i64 vk,.int .i64 vn,.int .i64 vm,.string VB,.int .i64 a] 98)
 go_enter Tryz.func187,Tryz.ntmps187
 go_wp2_with (first
  | (go_at_call 10;refine (SA _).mono ?_;rintro e w1 ⟨rfl,g1⟩;have b1:=g1.below;have B1:=A0.trans (b1.mono A0.size);have z0:=(Z.later b1).at 0;have z1:=(Z.later b1).at 1;have z2:=(Z.later b1).at 2;have z3:=(Z.later b1).at 3;have z4:=(Z.later b1).at 4;have z5:=(Z.later b1).at 5;have z6:=(Z.later b1).at 6;have z7:=(Z.later b1).at 7;have zl:=(Z.later b1).lt)
  | (go_at_call 244;refine (F1 _).mono ?_;rintro e w2 ⟨rfl,b2⟩;have y0:=((Z.later b1).later b2).at 0;have y1:=((Z.later b1).later b2).at 1;have y2:=((Z.later b1).later b2).at 2;have y7:=((Z.later b1).later b2).at 7;have yl:=((Z.later b1).later b2).lt))
 go_ret
 exact ⟨rfl,by first|exact B1|exact z0a B1 b2|exact z0a (z0a B1 b2) b3⟩
theorem ro2_e (TB NB VB:ByteArray) (vk vn vm:Int) (w:World) (tE:TB.toList.isEmpty=true)
  (SA:∀ W,Calls Tryz.prog 10 #[va vk vn vm VB,va 0 0 0 ⟨#[]⟩] W fun e w'=>e=.returned (.bool true)∧Grew W w') (F1:∀ W,Calls Tryz.prog 244 #[.string NB] W fun e w'=>e=.returned (.bool true)∧Below W.heap.size W w') :
  Calls Tryz.prog 187 #[.agg #[.int .i64 2,.string TB,.string NB,.int .i64 vk,.int .i64 vn,.int .i64 vm,.string VB,.int .i64 0]] w fun e w'=>e=.returned (.int .i64 0)∧Below w.heap.size w w':=by
 have Z:=Cbox.new w #[.int .i64 2,.string TB,.string NB,.int .i64 vk,.int .i64 vn,.int .i64 vm,.string VB,.int .i64 0] 98
 have A0:=(Below.refl w.heap.size w).alloc (Nat.le_refl _) (.cells #[.int .i64 2,.string TB,.string NB,.int .i64 vk,.int .i64 vn,.int .i64 vm,.string VB,.int .i64 0] 98)
 go_enter Tryz.func187,Tryz.ntmps187
 go_wp2_with (first
  | (go_at_call 10;refine (SA _).mono ?_;rintro e w1 ⟨rfl,g1⟩;have b1:=g1.below;have B1:=A0.trans (b1.mono A0.size);have z0:=(Z.later b1).at 0;have z1:=(Z.later b1).at 1;have z2:=(Z.later b1).at 2;have z3:=(Z.later b1).at 3;have z4:=(Z.later b1).at 4;have z5:=(Z.later b1).at 5;have z6:=(Z.later b1).at 6;have z7:=(Z.later b1).at 7;have zl:=(Z.later b1).lt)
  | (go_at_call 244;refine (F1 _).mono ?_;rintro e w2 ⟨rfl,b2⟩;have y0:=((Z.later b1).later b2).at 0;have y1:=((Z.later b1).later b2).at 1;have y2:=((Z.later b1).later b2).at 2;have y7:=((Z.later b1).later b2).at 7;have yl:=((Z.later b1).later b2).lt))
 go_ret
 exact ⟨rfl,by first|exact B1|exact z0a B1 b2|exact z0a (z0a B1 b2) b3⟩
theorem roo_t (o:Int) (TB NB VB:ByteArray) (vk vn vm a:Int) (w:World) (tE:TB.toList.isEmpty=false) (o1:(o==1)=false) (o2:(o==2)=false) (o19:(o==19)=false)
  (sv:Bool) (SA:∀ W,Calls Tryz.prog 10 #[va vk vn vm VB,va 0 0 0 ⟨#[]⟩] W fun e w'=>e=.returned (.bool sv)∧Grew W w')  :
  Calls Tryz.prog 187 #[.agg #[.int .i64 o,.string TB,.string NB,.int .i64 vk,.int .i64 vn,.int .i64 vm,.string VB,.int .i64 a]] w fun e w'=>e=.returned (.int .i64 (-1))∧Below w.heap.size w w':=by
 have Z:=Cbox.new w #[.int .i64 o,.string TB,.string NB,.int .i64 vk,.int .i64 vn,.int .i64 vm,.string VB,.int .i64 a] 98
 have A0:=(Below.refl w.heap.size w).alloc (Nat.le_refl _) (.cells #[.int .i64 o,.string TB,.string NB,.int .i64 vk,.int .i64 vn,.int .i64 vm,.string VB,.int .i64 a] 98)
 go_enter Tryz.func187,Tryz.ntmps187
 go_wp2_with (first
  | (go_at_call 10;refine (SA _).mono ?_;rintro e w1 ⟨rfl,g1⟩;have b1:=g1.below;have B1:=A0.trans (b1.mono A0.size);have z0:=(Z.later b1).at 0;have z1:=(Z.later b1).at 1;have z2:=(Z.later b1).at 2;have z3:=(Z.later b1).at 3;have z4:=(Z.later b1).at 4;have z5:=(Z.later b1).at 5;have z6:=(Z.later b1).at 6;have z7:=(Z.later b1).at 7;have zl:=(Z.later b1).lt)
)
 go_ret
 exact ⟨rfl,B1⟩
theorem roo_n (o:Int) (TB NB VB:ByteArray) (vk vn vm a:Int) (w:World) (tE:TB.toList.isEmpty=true) (nE:NB.toList.isEmpty=false) (o1:(o==1)=false) (o2:(o==2)=false) (o19:(o==19)=false)
  (sv:Bool) (SA:∀ W,Calls Tryz.prog 10 #[va vk vn vm VB,va 0 0 0 ⟨#[]⟩] W fun e w'=>e=.returned (.bool sv)∧Grew W w')  :
  Calls Tryz.prog 187 #[.agg #[.int .i64 o,.string TB,.string NB,.int .i64 vk,.int .i64 vn,.int .i64 vm,.string VB,.int .i64 a]] w fun e w'=>e=.returned (.int .i64 (-1))∧Below w.heap.size w w':=by
 have Z:=Cbox.new w #[.int .i64 o,.string TB,.string NB,.int .i64 vk,.int .i64 vn,.int .i64 vm,.string VB,.int .i64 a] 98
 have A0:=(Below.refl w.heap.size w).alloc (Nat.le_refl _) (.cells #[.int .i64 o,.string TB,.string NB,.int .i64 vk,.int .i64 vn,.int .i64 vm,.string VB,.int .i64 a] 98)
 go_enter Tryz.func187,Tryz.ntmps187
 go_wp2_with (first
  | (go_at_call 10;refine (SA _).mono ?_;rintro e w1 ⟨rfl,g1⟩;have b1:=g1.below;have B1:=A0.trans (b1.mono A0.size);have z0:=(Z.later b1).at 0;have z1:=(Z.later b1).at 1;have z2:=(Z.later b1).at 2;have z3:=(Z.later b1).at 3;have z4:=(Z.later b1).at 4;have z5:=(Z.later b1).at 5;have z6:=(Z.later b1).at 6;have z7:=(Z.later b1).at 7;have zl:=(Z.later b1).lt)
)
 go_ret
 exact ⟨rfl,B1⟩
theorem roo_v (o:Int) (TB NB VB:ByteArray) (vk vn vm a:Int) (w:World) (tE:TB.toList.isEmpty=true) (nE:NB.toList.isEmpty=true) (o1:(o==1)=false) (o2:(o==2)=false) (o19:(o==19)=false)
  (SA:∀ W,Calls Tryz.prog 10 #[va vk vn vm VB,va 0 0 0 ⟨#[]⟩] W fun e w'=>e=.returned (.bool false)∧Grew W w')  :
  Calls Tryz.prog 187 #[.agg #[.int .i64 o,.string TB,.string NB,.int .i64 vk,.int .i64 vn,.int .i64 vm,.string VB,.int .i64 a]] w fun e w'=>e=.returned (.int .i64 (-1))∧Below w.heap.size w w':=by
 have Z:=Cbox.new w #[.int .i64 o,.string TB,.string NB,.int .i64 vk,.int .i64 vn,.int .i64 vm,.string VB,.int .i64 a] 98
 have A0:=(Below.refl w.heap.size w).alloc (Nat.le_refl _) (.cells #[.int .i64 o,.string TB,.string NB,.int .i64 vk,.int .i64 vn,.int .i64 vm,.string VB,.int .i64 a] 98)
 go_enter Tryz.func187,Tryz.ntmps187
 go_wp2_with (first
  | (go_at_call 10;refine (SA _).mono ?_;rintro e w1 ⟨rfl,g1⟩;have b1:=g1.below;have B1:=A0.trans (b1.mono A0.size);have z0:=(Z.later b1).at 0;have z1:=(Z.later b1).at 1;have z2:=(Z.later b1).at 2;have z3:=(Z.later b1).at 3;have z4:=(Z.later b1).at 4;have z5:=(Z.later b1).at 5;have z6:=(Z.later b1).at 6;have z7:=(Z.later b1).at 7;have zl:=(Z.later b1).lt)
)
 go_ret
 exact ⟨rfl,B1⟩
theorem roo_a (o:Int) (TB NB VB:ByteArray) (vk vn vm a:Int) (w:World) (tE:TB.toList.isEmpty=true) (nE:NB.toList.isEmpty=true) (o1:(o==1)=false) (o2:(o==2)=false) (o19:(o==19)=false) (aE:¬ a=0)
  (SA:∀ W,Calls Tryz.prog 10 #[va vk vn vm VB,va 0 0 0 ⟨#[]⟩] W fun e w'=>e=.returned (.bool true)∧Grew W w')  :
  Calls Tryz.prog 187 #[.agg #[.int .i64 o,.string TB,.string NB,.int .i64 vk,.int .i64 vn,.int .i64 vm,.string VB,.int .i64 a]] w fun e w'=>e=.returned (.int .i64 (-1))∧Below w.heap.size w w':=by
 have Z:=Cbox.new w #[.int .i64 o,.string TB,.string NB,.int .i64 vk,.int .i64 vn,.int .i64 vm,.string VB,.int .i64 a] 98
 have A0:=(Below.refl w.heap.size w).alloc (Nat.le_refl _) (.cells #[.int .i64 o,.string TB,.string NB,.int .i64 vk,.int .i64 vn,.int .i64 vm,.string VB,.int .i64 a] 98)
 go_enter Tryz.func187,Tryz.ntmps187
 go_wp2_with (first
  | (go_at_call 10;refine (SA _).mono ?_;rintro e w1 ⟨rfl,g1⟩;have b1:=g1.below;have B1:=A0.trans (b1.mono A0.size);have z0:=(Z.later b1).at 0;have z1:=(Z.later b1).at 1;have z2:=(Z.later b1).at 2;have z3:=(Z.later b1).at 3;have z4:=(Z.later b1).at 4;have z5:=(Z.later b1).at 5;have z6:=(Z.later b1).at 6;have z7:=(Z.later b1).at 7;have zl:=(Z.later b1).lt)
)
 go_ret
 exact ⟨rfl,B1⟩
theorem roo_l (o:Int) (TB NB VB:ByteArray) (vk vn vm:Int) (w:World) (tE:TB.toList.isEmpty=true) (nE:NB.toList.isEmpty=true) (o1:(o==1)=false) (o2:(o==2)=false) (o19:(o==19)=false) (oE:o<3)
  (SA:∀ W,Calls Tryz.prog 10 #[va vk vn vm VB,va 0 0 0 ⟨#[]⟩] W fun e w'=>e=.returned (.bool true)∧Grew W w')  :
  Calls Tryz.prog 187 #[.agg #[.int .i64 o,.string TB,.string NB,.int .i64 vk,.int .i64 vn,.int .i64 vm,.string VB,.int .i64 0]] w fun e w'=>e=.returned (.int .i64 (-1))∧Below w.heap.size w w':=by
 have Z:=Cbox.new w #[.int .i64 o,.string TB,.string NB,.int .i64 vk,.int .i64 vn,.int .i64 vm,.string VB,.int .i64 0] 98
 have A0:=(Below.refl w.heap.size w).alloc (Nat.le_refl _) (.cells #[.int .i64 o,.string TB,.string NB,.int .i64 vk,.int .i64 vn,.int .i64 vm,.string VB,.int .i64 0] 98)
 go_enter Tryz.func187,Tryz.ntmps187
 go_wp2_with (first
  | (go_at_call 10;refine (SA _).mono ?_;rintro e w1 ⟨rfl,g1⟩;have b1:=g1.below;have B1:=A0.trans (b1.mono A0.size);have z0:=(Z.later b1).at 0;have z1:=(Z.later b1).at 1;have z2:=(Z.later b1).at 2;have z3:=(Z.later b1).at 3;have z4:=(Z.later b1).at 4;have z5:=(Z.later b1).at 5;have z6:=(Z.later b1).at 6;have z7:=(Z.later b1).at 7;have zl:=(Z.later b1).lt)
)
 go_ret
 exact ⟨rfl,B1⟩
theorem roo_h (o:Int) (TB NB VB:ByteArray) (vk vn vm:Int) (w:World) (tE:TB.toList.isEmpty=true) (nE:NB.toList.isEmpty=true) (o1:(o==1)=false) (o2:(o==2)=false) (o19:(o==19)=false) (o3:¬ o<3) (oE:18<o)
  (SA:∀ W,Calls Tryz.prog 10 #[va vk vn vm VB,va 0 0 0 ⟨#[]⟩] W fun e w'=>e=.returned (.bool true)∧Grew W w')  :
  Calls Tryz.prog 187 #[.agg #[.int .i64 o,.string TB,.string NB,.int .i64 vk,.int .i64 vn,.int .i64 vm,.string VB,.int .i64 0]] w fun e w'=>e=.returned (.int .i64 (-1))∧Below w.heap.size w w':=by
 have Z:=Cbox.new w #[.int .i64 o,.string TB,.string NB,.int .i64 vk,.int .i64 vn,.int .i64 vm,.string VB,.int .i64 0] 98
 have A0:=(Below.refl w.heap.size w).alloc (Nat.le_refl _) (.cells #[.int .i64 o,.string TB,.string NB,.int .i64 vk,.int .i64 vn,.int .i64 vm,.string VB,.int .i64 0] 98)
 go_enter Tryz.func187,Tryz.ntmps187
 go_wp2_with (first
  | (go_at_call 10;refine (SA _).mono ?_;rintro e w1 ⟨rfl,g1⟩;have b1:=g1.below;have B1:=A0.trans (b1.mono A0.size);have z0:=(Z.later b1).at 0;have z1:=(Z.later b1).at 1;have z2:=(Z.later b1).at 2;have z3:=(Z.later b1).at 3;have z4:=(Z.later b1).at 4;have z5:=(Z.later b1).at 5;have z6:=(Z.later b1).at 6;have z7:=(Z.later b1).at 7;have zl:=(Z.later b1).lt)
)
 go_ret
 exact ⟨rfl,B1⟩
theorem roo_1 (o:Int) (TB NB VB:ByteArray) (vk vn vm:Int) (w:World) (tE:TB.toList.isEmpty=true) (nE:NB.toList.isEmpty=true) (o1:(o==1)=false) (o2:(o==2)=false) (o19:(o==19)=false) (o3:¬ o<3) (_o18:¬ 18<o) (oE:o≤5)
  (SA:∀ W,Calls Tryz.prog 10 #[va vk vn vm VB,va 0 0 0 ⟨#[]⟩] W fun e w'=>e=.returned (.bool true)∧Grew W w')  :
  Calls Tryz.prog 187 #[.agg #[.int .i64 o,.string TB,.string NB,.int .i64 vk,.int .i64 vn,.int .i64 vm,.string VB,.int .i64 0]] w fun e w'=>e=.returned (.int .i64 1)∧Below w.heap.size w w':=by
 have Z:=Cbox.new w #[.int .i64 o,.string TB,.string NB,.int .i64 vk,.int .i64 vn,.int .i64 vm,.string VB,.int .i64 0] 98
 have A0:=(Below.refl w.heap.size w).alloc (Nat.le_refl _) (.cells #[.int .i64 o,.string TB,.string NB,.int .i64 vk,.int .i64 vn,.int .i64 vm,.string VB,.int .i64 0] 98)
 go_enter Tryz.func187,Tryz.ntmps187
 go_wp2_with (first
  | (go_at_call 10;refine (SA _).mono ?_;rintro e w1 ⟨rfl,g1⟩;have b1:=g1.below;have B1:=A0.trans (b1.mono A0.size);have z0:=(Z.later b1).at 0;have z1:=(Z.later b1).at 1;have z2:=(Z.later b1).at 2;have z3:=(Z.later b1).at 3;have z4:=(Z.later b1).at 4;have z5:=(Z.later b1).at 5;have z6:=(Z.later b1).at 6;have z7:=(Z.later b1).at 7;have zl:=(Z.later b1).lt)
)
 go_ret
 exact ⟨rfl,B1⟩
theorem roo_2 (o:Int) (TB NB VB:ByteArray) (vk vn vm:Int) (w:World) (tE:TB.toList.isEmpty=true) (nE:NB.toList.isEmpty=true) (o1:(o==1)=false) (o2:(o==2)=false) (o19:(o==19)=false) (o3:¬ o<3) (o18:¬ 18<o) (oE:¬ o≤5)
  (SA:∀ W,Calls Tryz.prog 10 #[va vk vn vm VB,va 0 0 0 ⟨#[]⟩] W fun e w'=>e=.returned (.bool true)∧Grew W w')  :
  Calls Tryz.prog 187 #[.agg #[.int .i64 o,.string TB,.string NB,.int .i64 vk,.int .i64 vn,.int .i64 vm,.string VB,.int .i64 0]] w fun e w'=>e=.returned (.int .i64 2)∧Below w.heap.size w w':=by
 have Z:=Cbox.new w #[.int .i64 o,.string TB,.string NB,.int .i64 vk,.int .i64 vn,.int .i64 vm,.string VB,.int .i64 0] 98
 have A0:=(Below.refl w.heap.size w).alloc (Nat.le_refl _) (.cells #[.int .i64 o,.string TB,.string NB,.int .i64 vk,.int .i64 vn,.int .i64 vm,.string VB,.int .i64 0] 98)
 go_enter Tryz.func187,Tryz.ntmps187
 go_wp2_with (first
  | (go_at_call 10;refine (SA _).mono ?_;rintro e w1 ⟨rfl,g1⟩;have b1:=g1.below;have B1:=A0.trans (b1.mono A0.size);have z0:=(Z.later b1).at 0;have z1:=(Z.later b1).at 1;have z2:=(Z.later b1).at 2;have z3:=(Z.later b1).at 3;have z4:=(Z.later b1).at 4;have z5:=(Z.later b1).at 5;have z6:=(Z.later b1).at 6;have z7:=(Z.later b1).at 7;have zl:=(Z.later b1).lt)
)
 go_ret
 exact ⟨rfl,B1⟩
theorem ro2_tt (b:Bool) (TB NB VB:ByteArray) (vk vn vm:Int) (w:World) (tE:TB.toList.isEmpty=false)
  (SA:∀ W,Calls Tryz.prog 10 #[va vk vn vm VB,va 0 0 0 ⟨#[]⟩] W fun e w'=>e=.returned (.bool true)∧Grew W w')
  (F1:∀ W,Calls Tryz.prog 244 #[.string NB] W fun e w'=>e=.returned (.bool true)∧Below W.heap.size W w')
  (F2:∀ W,Calls Tryz.prog 244 #[.string TB] W fun e w'=>e=.returned (.bool b)∧Below W.heap.size W w') :
  Calls Tryz.prog 187 #[.agg #[.int .i64 2,.string TB,.string NB,.int .i64 vk,.int .i64 vn,.int .i64 vm,.string VB,.int .i64 0]] w fun e w'=>e=.returned (.int .i64 (if b=true then 0 else -1))∧Below w.heap.size w w':=by
 have Z:=Cbox.new w #[.int .i64 2,.string TB,.string NB,.int .i64 vk,.int .i64 vn,.int .i64 vm,.string VB,.int .i64 0] 98
 have A0:=(Below.refl w.heap.size w).alloc (Nat.le_refl _) (.cells #[.int .i64 2,.string TB,.string NB,.int .i64 vk,.int .i64 vn,.int .i64 vm,.string VB,.int .i64 0] 98)
 cases b
 all_goals go_enter Tryz.func187,Tryz.ntmps187
 all_goals go_wp2_with fail
 all_goals refine (SA _).mono ?_
 all_goals rintro e w1 ⟨rfl,g1⟩
 all_goals have b1:=g1.below
 all_goals have B1:=A0.trans (b1.mono A0.size)
 all_goals have z0:=(Z.later b1).at 0
 all_goals have z1:=(Z.later b1).at 1
 all_goals have z2:=(Z.later b1).at 2
 all_goals have z7:=(Z.later b1).at 7
 all_goals have zl:=(Z.later b1).lt
 all_goals go_wp2_with fail
 all_goals refine (F1 _).mono ?_
 all_goals rintro e w2 ⟨rfl,b2⟩
 all_goals have y1:=((Z.later b1).later b2).at 1
 all_goals have yl:=((Z.later b1).later b2).lt
 all_goals go_wp2_with fail
 all_goals refine (F2 _).mono ?_
 all_goals rintro e w3 ⟨rfl,b3⟩
 all_goals go_wp2
 all_goals go_ret
 all_goals exact ⟨rfl,z0a (z0a B1 b2) b3⟩
theorem emp_iff (l:List UInt8):(ByteArray.mk l.toArray).toList.isEmpty=(l==[]):=by
 rw [ByteArray.toList_eq]
 cases l <;> rfl
theorem rops_any (x:Nd) (w:World) (FN:∀ W,Calls Tryz.prog 244 #[.string ⟨x.n.toArray⟩] W fun e w'=>e=.returned (.bool (z5u x.n))∧Below W.heap.size W w') (FT:∀ W,Calls Tryz.prog 244 #[.string ⟨x.t.toArray⟩] W fun e w'=>e=.returned (.bool (z5u x.t))∧Below W.heap.size W w') :
  Calls Tryz.prog 187 #[ndv x] w fun e w'=>e=.returned (.int .i64 (if mayN x=true then opsN x else -1))∧Below w.heap.size w w':=by
 have L:∀ W,Calls Tryz.prog 243 #[va x.v.k x.v.n x.v.m ⟨x.v.b.toArray⟩] W fun e w'=>e=.returned (.bool (litV x.v))∧Below W.heap.size W w':=fun W=>rlit_any x.v W
 have SA:∀ W,Calls Tryz.prog 10 #[va x.v.k x.v.n x.v.m ⟨x.v.b.toArray⟩,va 0 0 0 ⟨#[]⟩] W fun e w'=>e=.returned (.bool (z6b x.v vz0))∧Grew W w':=fun W=>by
  have:=z7m x.v.k x.v.n x.v.m ⟨x.v.b.toArray⟩ 0 0 0 ⟨#[]⟩ W
  rw [show ((ByteArray.mk x.v.b.toArray).toList==(ByteArray.mk #[]).toList)=(x.v.b==[]) by rw [ByteArray.toList_eq,ByteArray.toList_eq]] at this
  exact this
 have tE:=emp_iff x.t
 have nE:=emp_iff x.n
 obtain ⟨o,t,n,v,a⟩:=x
 obtain ⟨vk,vn,vm,vb⟩:=v
 simp only at L SA tE nE FN FT
 have key:mayN ⟨o,t,n,⟨vk,vn,vm,vb⟩,a⟩=(
   if o=1 then (t==[]&&(n==[]&&(a==0&&litV ⟨vk,vn,vm,vb⟩)))
   else if o=2 then (z6b ⟨vk,vn,vm,vb⟩ vz0&&(a==0&&(z5u n&&(t==[] || z5u t))))
   else if o=19 then (z6b ⟨vk,vn,vm,vb⟩ vz0&&(decide (0≤a)&&(decide (a≤4)&&(z5u n&&t==[]))))
   else (t==[]&&(n==[]&&(z6b ⟨vk,vn,vm,vb⟩ vz0&&(a==0&&(decide (3≤o)&&decide (o≤18))))))):=by
  have hvv:z6b ⟨vk,vn,vm,vb⟩ ⟨vk,vn,vm,vb⟩=true:=by simp [z6b]
  unfold mayN fitN namedN sameN
  by_cases h1:o=1
  ·subst h1
   simp only [if_true,hvv,beq_self_eq_true,Bool.true_and]
   cases (t==[]) <;> cases (n==[]) <;> cases (a==0) <;> simp
  by_cases h2:o=2
  ·subst h2
   simp only [if_true,if_neg h1,beq_self_eq_true,Bool.true_and]
   cases z6b ⟨vk,vn,vm,vb⟩ vz0 <;> cases (a==0) <;> simp
  by_cases h3:o=19
  ·subst h3
   simp only [if_true,if_neg h1,if_neg h2,beq_self_eq_true,Bool.true_and,Bool.and_true]
   cases z6b ⟨vk,vn,vm,vb⟩ vz0 <;> cases (t==[]) <;> cases z5u n <;> simp
  ·simp only [if_neg h1,if_neg h2,if_neg h3,beq_self_eq_true,Bool.true_and]
   cases z6b ⟨vk,vn,vm,vb⟩ vz0 <;> cases (t==[]) <;> cases (n==[]) <;> cases (a==0) <;> simp
 rw [key]
 clear key
 unfold opsN
 simp only
 generalize z6b ⟨vk,vn,vm,vb⟩ vz0=sv at *
 generalize litV ⟨vk,vn,vm,vb⟩=lv at *
 generalize z5u n=fn at *
 generalize z5u t=ft at *
 generalize (t==[])=bt at *
 generalize (n==[])=bn at *
 show Calls _ _ #[.agg #[.int .i64 o,.string ⟨t.toArray⟩,.string ⟨n.toArray⟩,.int .i64 vk,.int .i64 vn,.int .i64 vm,.string ⟨vb.toArray⟩,.int .i64 a]] _ _
 generalize ByteArray.mk t.toArray=TB at *
 generalize ByteArray.mk n.toArray=NB at *
 generalize ByteArray.mk vb.toArray=VB at *
 by_cases h1:o=1
 ·subst h1
  simp only [if_true]
  cases bt with
  | false=>exact ro1_t TB NB VB vk vn vm a w tE sv SA
  | true =>
   cases bn with
   | false=>exact ro1_n TB NB VB vk vn vm a w tE nE sv SA
   | true =>
    by_cases ha:a=0
    ·subst ha
     cases lv with
     | false=>exact ro1_false TB NB VB vk vn vm w tE nE sv SA L
     | true=>exact ro1_true TB NB VB vk vn vm w tE nE sv SA L
    ·have ha':(a==0)=false:=by rw [beq_eq_false_iff_ne];exact ha
     rw [ha']
     exact ro1_a TB NB VB vk vn vm a w tE nE ha sv SA
 by_cases h2:o=2
 ·subst h2
  simp only [if_true,if_neg h1]
  cases sv with
  | false =>
   cases bt with
   | true=>exact ro2_ve TB NB VB vk vn vm a w tE SA
   | false=>exact ro2_vt TB NB VB vk vn vm a w tE SA
  | true =>
   by_cases ha:a=0
   ·subst ha
    cases fn with
    | false =>
     cases bt with
     | true=>exact ro2_fe TB NB VB vk vn vm w tE SA FN
     | false=>exact ro2_ft TB NB VB vk vn vm w tE SA FN
    | true =>
     cases bt with
     | true=>exact ro2_e TB NB VB vk vn vm w tE SA FN
     | false =>
      have:=ro2_tt ft TB NB VB vk vn vm w tE SA FN FT
      cases ft <;> exact this
   ·have ha':(a==0)=false:=by rw [beq_eq_false_iff_ne];exact ha
    rw [ha']
    cases bt with
    | true=>exact ro2_ae TB NB VB vk vn vm a w tE ha SA
    | false=>exact ro2_at TB NB VB vk vn vm a w tE ha SA
 by_cases h3:o=19
 ·subst h3
  simp only [if_true,if_neg h1,if_neg h2]
  cases sv with
  | false =>
   cases bt with
   | true=>exact ro19_ve TB NB VB vk vn vm a w tE SA
   | false=>exact ro19_vt TB NB VB vk vn vm a w tE SA
  | true =>
   by_cases h0:a<0
   ·rw [decide_eq_false (show ¬ 0≤a by omega)]
    cases bt with
    | true=>exact ro19_le TB NB VB vk vn vm a w tE h0 SA
    | false=>exact ro19_lt TB NB VB vk vn vm a w tE h0 SA
   by_cases h4:4<a
   ·rw [decide_eq_true (show 0≤a by omega),decide_eq_false (show ¬ a≤4 by omega)]
    cases bt with
    | true=>exact ro19_he TB NB VB vk vn vm a w tE h0 h4 SA
    | false=>exact ro19_ht TB NB VB vk vn vm a w tE h0 h4 SA
   rw [decide_eq_true (show 0≤a by omega),decide_eq_true (show a≤4 by omega)]
   cases fn with
   | false =>
    cases bt with
    | true=>exact ro19_fe TB NB VB vk vn vm a w tE h0 h4 SA FN
    | false=>exact ro19_ft TB NB VB vk vn vm a w tE h0 h4 SA FN
   | true =>
    cases bt with
    | true=>exact ro19_e TB NB VB vk vn vm a w tE h0 h4 SA FN
    | false=>exact ro19_t TB NB VB vk vn vm a w tE h0 h4 SA FN
 simp only [if_neg h1,if_neg h2,if_neg h3]
 have o1:(o==1)=false:=by rw [beq_eq_false_iff_ne];exact h1
 have o2:(o==2)=false:=by rw [beq_eq_false_iff_ne];exact h2
 have o19:(o==19)=false:=by rw [beq_eq_false_iff_ne];exact h3
 cases bt with
 | false=>exact roo_t o TB NB VB vk vn vm a w tE o1 o2 o19 sv SA
 | true =>
  cases bn with
  | false=>exact roo_n o TB NB VB vk vn vm a w tE nE o1 o2 o19 sv SA
  | true =>
   cases sv with
   | false=>exact roo_v o TB NB VB vk vn vm a w tE nE o1 o2 o19 SA
   | true =>
    by_cases ha:a=0
    case neg =>
     have ha':(a==0)=false:=by rw [beq_eq_false_iff_ne];exact ha
     rw [ha']
     exact roo_a o TB NB VB vk vn vm a w tE nE o1 o2 o19 ha SA
    subst ha
    by_cases h3':o<3
    ·rw [decide_eq_false (show ¬ 3≤o by omega)]
     exact roo_l o TB NB VB vk vn vm w tE nE o1 o2 o19 h3' SA
    by_cases h18:18<o
    ·rw [decide_eq_true (show 3≤o by omega),decide_eq_false (show ¬ o≤18 by omega)]
     exact roo_h o TB NB VB vk vn vm w tE nE o1 o2 o19 h3' h18 SA
    rw [decide_eq_true (show 3≤o by omega),decide_eq_true (show o≤18 by omega)]
    by_cases h5:o≤5
    ·rw [if_neg (show ¬ 6≤o by omega),if_pos (show 3≤o by omega)]
     exact roo_1 o TB NB VB vk vn vm w tE nE o1 o2 o19 h3' h18 h5 SA
    ·rw [if_pos (show 6≤o by omega)]
     exact roo_2 o TB NB VB vk vn vm w tE nE o1 o2 o19 h3' h18 h5 SA
def mxL (l:List Nat):Nat:=l.foldr max 0
theorem maxD_aux (ds:List Nat):∀ m,1≤m→ds.foldl (fun m d=>max m (d+1)) m=max m (mxL ds+1):=by
 induction ds with
 | nil=>intro m hm;show m=max m 1;omega
 | cons d ds ih =>
  intro m hm
  show ds.foldl (fun m d=>max m (d+1)) (max m (d+1))=max m (max d (mxL ds)+1)
  rw [ih _ (by omega)]
  omega
theorem maxD_mx (ds:List Nat):maxD ds=mxL ds+1:=by
 unfold maxD
 rw [maxD_aux ds 1 (Nat.le_refl _)]
 omega
theorem mxL_le {ds:List Nat} {k:Nat} (h:∀ d∈ds,d≤k):mxL ds≤k:=by
 induction ds with
 | nil=>exact Nat.zero_le _
 | cons d ds ih =>
  show max d (mxL ds)≤k
  have:=h d (by simp)
  have:=ih fun x hx=>h x (by simp [hx])
  omega
def dpV:Option (List Nat)→Nat
 | some [d]=>d
 | _=>0
theorem src_of_ks {w:World} {base:Nat} {ao:Option Addr} {f cap:Nat} {st:List Nat} (h:Ks w base (.slice ao f cap) (st.take f)) (hf:f≤st.length):Src Tryz.prog 1 197 (.slice ao f cap) f (iv (st.take f)) w:=by
 have hl:(st.take f).length=f:=by rw [List.length_take];omega
 obtain ⟨a,c,e,h1,h2,_,h4⟩:=h.shape
 rw [hl] at e
 simp only [Value.slice.injEq] at e
 obtain ⟨rfl,_,rfl⟩:=e
 cases ao with
 | none =>
  have h0:=(h2 rfl).1
  have hf0:f=0:=by rw [h0] at hl;simpa using hl.symm
  subst hf0
  exact Src.ofNil w Tryz.underlying197 cap
 | some a =>
  obtain ⟨g,rfl,_,_,h5⟩:=h4 a rfl
  refine Src.ofSlice w Tryz.underlying197 ⟨g,0,none⟩ f cap (iv (st.take f)) (by rw [iv_len,hl,Nat.mul_one]) (fun j u hu=>?_) (fun u hu=>?_)
  ·have hj:j<(iv (st.take f)).length:=(List.getElem?_eq_some_iff.1 hu).1
   rw [iv_len] at hj
   rw [Addr.add_lit,Nat.zero_add,h5 j hj,← hu]
   simp only [iv,List.getElem?_map,List.getElem?_eq_getElem hj,Option.map_some]
  ·simp only [iv,List.mem_map] at hu
   obtain ⟨d,_,rfl⟩:=hu
   rfl
theorem ks_base {w:World} {b1 b2:Nat} {v:Value} {ds:List Nat} (h:Ks w b1 v ds) (hb:b2≤b1):Ks w b2 v ds:=by
 obtain ⟨h1,h2⟩:=h
 refine ⟨h1,?_⟩
 rcases h2 with h|⟨g,cap,cur,e,hg,rest⟩
 ·exact .inl h
 ·exact .inr ⟨g,cap,cur,e,Nat.le_trans hb hg,rest⟩
theorem rdepth_any (lo:Option Addr) (lc:Nat) (l:List Nd) (w:World) (hv:Nw w lo l) (hlen:l.length≤256) (OP:∀ x∈l,∀ W,Below w.heap.size w W→Calls Tryz.prog 187 #[ndv x] W fun e w'=>e=.returned (.int .i64 (if mayN x=true then opsN x else -1))∧Below W.heap.size W w') :
  Calls Tryz.prog 117 #[.slice lo l.length lc] w fun e w'=>e=.returned (.int .i64 (dpV (runD mayN l []):Int))∧Below w.heap.size w w':=by
 obtain ⟨i0,hi,hz0,hz1,hz2⟩:=info_parts infoInt
 obtain ⟨R,hR⟩:∃ R,R=runD mayN l []:=⟨_,rfl⟩
 rw [← hR]
 have HR:Hid (runD mayN (l.drop 0) []=R):=hR.symm
 have HOP:Hid (∀ x∈l,∀ W,Below w.heap.size w W→Calls Tryz.prog 187 #[ndv x] W fun e w'=>e=.returned (.int .i64 (if mayN x=true then opsN x else -1))∧Below W.heap.size W w'):=OP
 clear hR OP
 obtain ⟨n,hnn⟩:∃ n,l.length=n:=⟨_,rfl⟩
 rw [hnn] at hlen ⊢
 have HN:Hid (l.length=n):=hnn
 clear hnn
 go_enter Tryz.func117,Tryz.ntmps117
 go_wp2
 go_loopw [3,4] (fun r3 r4 wr=>∃ (k:Nat) (st:List Nat),r4=.int .i64 (k:Int)∧k≤n∧st.length≤k∧(∀ d∈st,d≤k)∧Ks wr w.heap.size r3 st∧Below w.heap.size w wr∧Hid (runD mayN (l.drop k) st=R)) (fun _ r _=>n - (intOf r).toNat)
 case atStart=>exact ⟨0,[],rfl,Nat.zero_le _,Nat.zero_le _,(fun d h=>by simp at h),World.ownsRow_nil _ _ _ _,Below.refl _ _,HR⟩
 case round =>
  rename World=>wo
  obtain ⟨k,st,rfl,hk,hsl,hsd,ho,hb,hH⟩:=hrel
  have sB:=hb.size
  obtain ⟨so,sc,rfl,hsc,hsn,hcut,hcell⟩:=ho.shape
  by_cases hlt:k<n
  ·have hlt':(k:Int)<(n:Int):=by omega
   have k0:(0:Int)≤(k:Int):=by omega
   have hkl:k<l.length:=by rw [HN.out];exact hlt
   obtain ⟨b,off,rfl,hcl⟩:=hv (by omega)
   obtain ⟨c0,c1,c2,c3,c4,c5,c6,c7⟩:=((hcl k hkl).later hb)
   have hg':=((hcl k hkl).later hb).lt
   have hdr:l.drop k=l[k]::l.drop (k+1):=List.drop_eq_getElem_cons hkl
   have OPk:=HOP.out l[k] (List.getElem_mem _) wo hb
   obtain ⟨x,he⟩:∃ x:Nd,x=l[k]:=⟨_,rfl⟩
   rw [← he] at c0 c1 c2 c3 c4 c5 c6 c7 hdr OPk
   have hst:=hH.out
   rw [hdr] at hst
   unfold runD stepD at hst
   by_cases hm:mayN x=true
   case neg =>
    rw [if_neg hm] at OPk
    rw [if_neg (fun h=>hm h.1)] at hst
    have HF:Hid (R=none):=hst.symm
    obtain ⟨xo,xt,xn,xv,xa⟩:=x
    clear hm hst hH HR hdr he hcl hcell hcut ho hsn
    go_wp2_with fail
    refine OPk.mono ?_
    rintro e w1 ⟨rfl,b1⟩
    have B1:=z0a hb b1
    go_wp2
    go_ret
    exact ⟨by rw [HF.out];rfl,B1⟩
   rw [if_pos hm] at OPk
   have hox:=z7w x hm
   obtain ⟨q,hq⟩:∃ q:Nat,opsN x=(q:Int):=⟨(opsN x).toNat,by omega⟩
   rw [hq] at OPk hox
   have hq0:¬ (q:Int)<0:=by omega
   by_cases hqs:q≤st.length
   case neg =>
    have hqs':(st.length:Int)<(q:Int):=by omega
    rw [if_neg (fun h=>by have:=h.2;rw [hq] at this;omega)] at hst
    have HF:Hid (R=none):=hst.symm
    obtain ⟨xo,xt,xn,xv,xa⟩:=x
    clear hm hst hH HR hdr he hcl hcell hcut ho hsn hq
    go_wp2_with fail
    refine OPk.mono ?_
    rintro e w1 ⟨rfl,b1⟩
    have B1:=z0a hb b1
    go_wp2
    go_ret
    exact ⟨by rw [HF.out];rfl,B1⟩
   rw [if_pos ⟨hm,by rw [hq];omega⟩,hq,Int.toNat_natCast,maxD_mx] at hst
   simp only at hst
   obtain ⟨f,hf⟩:∃ f:Nat,f=st.length - q:=⟨_,rfl⟩
   rw [← hf] at hst
   have HST:Hid (runD mayN (l.drop (k+1)) (st.take f++[mxL (st.drop f)+1])=R):=hst
   have HO:Hid (Ks wo w.heap.size (.slice so f sc) (st.take f)):=hcut f (by omega)
   have hfr:(st.length:Int) - (q:Int)=(f:Int):=by omega
   have hfl:f≤st.length:=by omega
   have hfs:f≤sc:=by omega
   have hqs':¬ (st.length:Int)<(q:Int):=by omega
   have hst256:st.length≤255:=by omega
   have HSD:Hid (∀ d∈st,d≤k):=hsd
   have CEL:Hid (∀ i (h:i<st.length),∃ g,so=some ⟨g,0,none⟩∧g<wo.heap.size∧wo.cell? ⟨g,i,none⟩=some (.int .i64 (st[i]:Int))):=fun i h=>by
    cases so with
    | none=>have:=(hsn rfl).1;subst this;simp at h
    | some a=>obtain ⟨g,rfl,_,h3,h4⟩:=hcell a rfl;exact ⟨g,rfl,h3,h4 i h⟩
   have hso:so=none∨∃ g,so=some ⟨g,0,none⟩:=by
    cases so with
    | none=>exact .inl rfl
    | some a=>obtain ⟨g,rfl,_⟩:=hcell a rfl;exact .inr ⟨g,rfl⟩
   rcases hso with rfl|⟨g0,rfl⟩
   case inl =>
    obtain ⟨rfl,rfl⟩:=hsn rfl
    have hf0:f=0:=by simpa using hfl
    have hq00:q=0:=by simpa using hqs
    subst hf0
    subst hq00
    have HST0:Hid (runD mayN (l.drop (k+1)) [1]=R):=by show _=_;have:=HST.out;simpa [mxL] using this
    obtain ⟨xo,xt,xn,xv,xa⟩:=x
    clear hm hst hH HR hdr he hcl hcell hcut ho hsn hq hsd hf hfr hfl hfs hqs' hqs CEL HO HST HSD hst256 hsl hsc
    go_wp2_with fail
    refine OPk.mono ?_
    rintro e w1 ⟨rfl,b1⟩
    have B1:=z0a hb b1
    have s1:=b1.size
    clear c0 c1 c2 c3 c4 c5 c6 c7 OPk
    go_wp2
    go_loopw [6,7] (fun r6 r7 wr=>r6=.int .i64 0∧r7=.int .i64 0∧wr=w1) (fun _ _ _=>0)
    case atStart=>exact ⟨rfl,rfl,rfl⟩
    case round =>
     obtain ⟨rfl,rfl,rfl⟩:=hrel
     have A2:Below wr.heap.size wr (wr.alloc (.cells #[] 3)):=(Below.refl _ _).alloc (Nat.le_refl _) _
     have SRC:Src Tryz.prog 1 197 (.slice none 0 0) 0 [] (wr.alloc (.cells #[] 3)):=Src.ofNil _ Tryz.underlying197 0
     have hmade:(wr.alloc (.cells #[] 3)).ownsRow wr.heap.size 3 1 (.slice (some ⟨wr.heap.size,0,none⟩) 0 0) 0 []:=World.ownsRow_made wr #[] 0 (Nat.le_refl _) (by decide) (by simp)
     go_wp2_with (at_builtin;refine z3k rfl _ _ 197 197 rfl wr.heap.size 3 i0 (.int .i64 0) 1 8 Tryz.underlying197 hi hz0 hz1 hz2 rfl _ 0 [] rfl hmade _ 0 [] rfl SRC (by unfold maxLen;omega) (by omega) (by simp) ?_)
     intro v3 w3 o3 g3
     have b13:Below wr.heap.size wr w3:=A2.grown g3 (by simp) (fun k hk=>by cases hk;exact Nat.le_refl _)
     have s3:=b13.size
     clear hmade SRC A2 g3
     go_wp2_with (at_builtin;refine wpList_append_own _ rfl _ _ 197 rfl wr.heap.size 3 i0 (.int .i64 0) 1 8 Tryz.underlying197 hi hz0 hz1 hz2 rfl (by decide) _ _ _ rfl (World.ownsRow.alloc o3 _) ⟨w3.heap.size,0,none⟩ 1 1 [.int .i64 1] rfl rfl (cell_one_new _ _ _) (z5q _ _) (by unfold maxLen;omega) (by omega) (by simp;omega) ?_)
     intro v4 w4 o4 g4 _
     have hrow:=World.ownsRow.lt o3
     have b14:Below wr.heap.size wr w4:=(b13.alloc s3 _).grown g4 (by simp;omega) (fun k hk=>(hrow k hk).1)
     have o5:Ks w4 w.heap.size v4 [1]:=ks_base (show Ks w4 wr.heap.size v4 [1] from o4) (z0a hb b1).size
     have B4:=z0a (z0a hb b1) b14
     clear o4 o3 g4 hrow
     go_wp2
     exact ⟨⟨k+1,[1],by rw [cst1],by omega,by simp,(fun d hd=>by simp at hd;omega),o5,B4,HST0⟩,by simp [intOf];omega⟩
   obtain ⟨xo,xt,xn,xv,xa⟩:=x
   have HFR:Hid ((st.length:Int) - (q:Int)=(f:Int)):=hfr
   clear hm hst hH HR hdr he hcl hcell hcut ho hsn hq hsd hf
   go_wp2_with fail
   refine OPk.mono ?_
   rintro e w1 ⟨rfl,b1⟩
   have B1:=z0a hb b1
   have s1:=b1.size
   clear c0 c1 c2 c3 c4 c5 c6 c7 OPk
   go_wp2
   go_loopw [6,7] (fun r6 r7 wr=>∃ j:Nat,r7=.int .i64 (j:Int)∧j≤q∧r6=.int .i64 (mxL (st.drop (st.length - j)):Int)∧wr=w1) (fun _ r _=>q - (intOf r).toNat)
   case atStart=>exact ⟨0,rfl,Nat.zero_le _,by rw [Nat.sub_zero,List.drop_eq_nil_of_le (Nat.le_refl _)];rfl,rfl⟩
   case round =>
    obtain ⟨j,rfl,hj,rfl,rfl⟩:=hrel
    by_cases hjq:j<q
    ·have hjq':(j:Int)<(q:Int):=by omega
     obtain ⟨L1,hL1⟩:∃ L1:Nat,st.length=L1+1:=⟨st.length - 1,by omega⟩
     obtain ⟨ix,hix⟩:∃ ix:Nat,ix=L1 - j:=⟨_,rfl⟩
     have hil:ix<st.length:=by omega
     obtain ⟨g,hge,hgl,hgc⟩:=CEL.out ix hil
     obtain rfl:g0=g:=by simpa using hge
     have gc:=(b1.cell (p:=⟨g0,ix,none⟩) hgl).trans hgc
     have gl:g0<wr.heap.size:=by omega
     have hdr:st.drop (st.length - (j+1))=st[ix]::st.drop (st.length - j):=by
      have e1:st.length - (j+1)=ix:=by omega
      have e2:st.length - j=ix+1:=by omega
      rw [e1,e2]
      exact List.drop_eq_getElem_cons hil
     have HMX:Hid (mxL (st.drop (st.length - (j+1)))=max st[ix] (mxL (st.drop (st.length - j)))):=by show _=_;rw [hdr];rfl
     have e1:(st.length:Int) - 1=(L1:Int):=by omega
     have e2:(L1:Int) - (j:Int)=(ix:Int):=by omega
     have i0':(0:Int)≤(ix:Int):=by omega
     have hil':(ix:Int)<(st.length:Int):=by omega
     have hy:st[ix]≤256:=by have:=HSD.out st[ix] (List.getElem_mem _);omega
     generalize st[ix]=y at *
     generalize hz:mxL (st.drop (st.length - j))=z at *
     clear hdr hgc hz hix hL1
     go_wp2
     exact ⟨⟨j+1,by rw [cst1],by omega,by rw [HMX.out];congr 1;omega,(by first|trivial|rfl)⟩,by simp [intOf];omega⟩
    ·have hjq':¬ (j:Int)<(q:Int):=by omega
     have hjf:st.length - j=f:=by omega
     rw [hjf]
     have hz256:mxL (st.drop f)≤k:=mxL_le fun d hd=>HSD.out d (List.mem_of_mem_drop hd)
     have b01:=b1
     have HO1:Hid (Ks wr w.heap.size (.slice (some ⟨g0,0,none⟩) f sc) (st.take f)):=Ks.later HO.out b1
     have A2:Below wr.heap.size wr (wr.alloc (.cells #[] 3)):=(Below.refl _ _).alloc (Nat.le_refl _) _
     have SRC:=src_of_ks (Ks.later HO1.out A2) hfl
     have hmade:(wr.alloc (.cells #[] 3)).ownsRow wr.heap.size 3 1 (.slice (some ⟨wr.heap.size,0,none⟩) 0 0) 0 []:=World.ownsRow_made wr #[] 0 (Nat.le_refl _) (by decide) (by simp)
     have hlk:(st.take f).length=f:=by rw [List.length_take];omega
     have HLK:Hid ((st.take f).length=f):=hlk
     obtain ⟨z,hz⟩:∃ z,mxL (st.drop f)=z:=⟨_,rfl⟩
     rw [hz] at hz256 HST ⊢
     clear hz hlk CEL HO HO1
     go_wp2_with (at_builtin;refine z3k rfl _ _ 197 197 rfl wr.heap.size 3 i0 (.int .i64 0) 1 8 Tryz.underlying197 hi hz0 hz1 hz2 rfl _ 0 [] rfl hmade _ f (iv (st.take f)) rfl SRC (by unfold maxLen;omega) (by omega) (by simp) ?_)
     intro v3 w3 o3 g3
     have b13:Below wr.heap.size wr w3:=A2.grown g3 (by simp) (fun k hk=>by cases hk;exact Nat.le_refl _)
     have s3:=b13.size
     clear hmade SRC A2 g3
     go_wp2_with (at_builtin;refine wpList_append_own _ rfl _ _ 197 rfl wr.heap.size 3 i0 (.int .i64 0) 1 8 Tryz.underlying197 hi hz0 hz1 hz2 rfl (by decide) _ _ _ rfl (World.ownsRow.alloc o3 _) ⟨w3.heap.size,0,none⟩ 1 1 [.int .i64 ((z:Int)+1)] rfl rfl (cell_one_new _ _ _) (z5q _ _) (by unfold maxLen;omega) (by omega) (by simp;omega) ?_)
     intro v4 w4 o4 g4 _
     have hrow:=World.ownsRow.lt o3
     have b14:Below wr.heap.size wr w4:=(b13.alloc s3 _).grown g4 (by simp;omega) (fun k hk=>(hrow k hk).1)
     have hlk2:(st.take f).length=f:=HLK.out
     have o4':Ks w4 wr.heap.size v4 (st.take f++[z+1]):=by
      show w4.ownsRow _ _ _ _ (st.take f++[z+1]).length (iv (st.take f++[z+1]))
      have e1:(st.take f++[z+1]).length=f+1:=by rw [List.length_append,hlk2];rfl
      have e2:iv (st.take f++[z+1])=iv (st.take f)++[.int .i64 ((z:Int)+1)]:=by simp [iv]
      rw [e1,e2]
      exact o4
     have o5:Ks w4 w.heap.size v4 (st.take f++[z+1]):=ks_base o4' (z0a hb b01).size
     have B4:=z0a (z0a hb b01) b14
     clear o4 o4' o3 g4 hrow
     go_wp2
     exact ⟨⟨k+1,st.take f++[z+1],by rw [cst1],by omega,by rw [List.length_append,hlk2];simp;omega,(fun d hd=>by
      rcases List.mem_append.1 hd with hd|hd
      ·exact Nat.le_succ_of_le (HSD.out d (List.mem_of_mem_take hd))
      ·simp at hd;omega),o5,B4,HST⟩,by simp [intOf];omega⟩
  ·have hlt':¬ (k:Int)<(n:Int):=by omega
   have HF:Hid (R=some st):=by
    have:=hH.out
    rw [List.drop_eq_nil_of_le (by rw [HN.out];omega)] at this
    exact this.symm
   by_cases h1:st.length=1
   ·obtain ⟨d,rfl⟩:=List.length_eq_one_iff.1 h1
    obtain ⟨g,rfl,hgl,hgc⟩:∃ g,so=some ⟨g,0,none⟩∧g<wo.heap.size∧wo.cell? ⟨g,0,none⟩=some (.int .i64 (d:Int)):=by
     cases so with
     | none=>have:=(hsn rfl).1;simp at this
     | some a=>obtain ⟨g,rfl,_,h3,h4⟩:=hcell a rfl;exact ⟨g,rfl,h3,by simpa using h4 0 (by simp)⟩
    clear hcell hcut ho hsn hH HR
    go_wp2
    go_ret
    exact ⟨by rw [HF.out];rfl,hb⟩
   ·have h1':¬ (st.length:Int)=1:=by omega
    have HF0:Hid (dpV R=0):=by
     show dpV R=0
     rw [HF.out]
     match st,h1 with
     | [],_=>rfl
     | [_],h=>exact absurd rfl h
     | _::_::_,_=>rfl
    clear hcell hcut ho hsn hH HR h1
    go_wp2
    go_ret
    exact ⟨by rw [HF0.out];rfl,hb⟩
theorem dep_doc (r:Option (List Nat)):decide (0<depO r)=(decide (1≤dpV r)&&decide (dpV r≤16)):=by
 match r with
 | none=>rfl
 | some []=>rfl
 | some [d] =>
  show decide (0<if d≤16 then d else 0)=(decide (1≤d)&&decide (d≤16))
  by_cases h:d≤16
  ·rw [if_pos h,decide_eq_true h,Bool.and_true]
   rfl
  ·rw [if_neg h,decide_eq_false h,Bool.and_false]
   rfl
 | some (_::_::_)=>rfl
theorem rright6_any (lo:Option Addr) (lc:Nat) (l:List Nd) (w:World) (hv:Nw w lo l) (hln:l.length≤140737488351232) (OP:∀ x∈l,∀ W,Below w.heap.size w W→Calls Tryz.prog 187 #[ndv x] W fun e w'=>e=.returned (.int .i64 (if mayN x=true then opsN x else -1))∧Below W.heap.size W w') :
  Calls Tryz.prog 64 #[.slice lo l.length lc] w fun e w'=>e=.returned (.bool (decide (0<depN mayN l)))∧Below w.heap.size w w':=by
 unfold depN
 by_cases hlen:l.length≤256
 case neg =>
  rw [if_neg hlen]
  have h':(256:Int)<(l.length:Int):=by omega
  clear hlen hv OP
  generalize l.length=n at *
  go_enter Tryz.func64,Tryz.ntmps64
  go_wp2
  go_ret
  exact ⟨rfl,Below.refl _ _⟩
 rw [if_pos hlen,dep_doc]
 have D:=rdepth_any lo lc l w hv hlen OP
 have h':¬ (256:Int)<(l.length:Int):=by omega
 clear hv OP
 generalize dpV (runD mayN l [])=d at *
 generalize l.length=n at *
 by_cases h1:1≤d
 ·have h1':(1:Int)≤(d:Int):=by omega
  rw [decide_eq_true h1,Bool.true_and]
  by_cases h16:d≤16
  ·have h16':(d:Int)≤16:=by omega
   rw [decide_eq_true h16]
   go_enter Tryz.func64,Tryz.ntmps64
   go_wp2_with (go_at_call 117;refine D.mono ?_;rintro e w1 ⟨rfl,b1⟩)
   go_ret
   exact ⟨by first|rfl|(show Ending.returned (.bool (decide ((d:Int)≤16)))=_;rw [decide_eq_true h16']),b1⟩
  ·have h16':¬ (d:Int)≤16:=by omega
   rw [decide_eq_false h16]
   go_enter Tryz.func64,Tryz.ntmps64
   go_wp2_with (go_at_call 117;refine D.mono ?_;rintro e w1 ⟨rfl,b1⟩)
   go_ret
   exact ⟨by first|rfl|(show Ending.returned (.bool (decide ((d:Int)≤16)))=_;rw [decide_eq_false (show ¬ (d:Int)≤16 by omega)]),b1⟩
 ·have h1':¬ (1:Int)≤(d:Int):=by omega
  rw [decide_eq_false h1,Bool.false_and]
  go_enter Tryz.func64,Tryz.ntmps64
  go_wp2_with (go_at_call 117;refine D.mono ?_;rintro e w1 ⟨rfl,b1⟩)
  go_ret
  exact ⟨rfl,b1⟩
end Go.Proofs.YtibbenhplmmmiaaGreatDoor

namespace Go.Proofs.YtibbenhplmmmiaaGreatDoor
open Go.RowKit
theorem rdigit_any (c:UInt8) (w:World):Calls Tryz.prog 304 #[.int .u8 (c.toNat:Int)] w fun e w'=>e=.returned (.bool (isD c))∧w=w':=by
 have e:isD c=(decide ((48:Int)≤(c.toNat:Int))&&decide ((c.toNat:Int)≤57)):=by
  unfold isD
  have e1:decide (48≤c.toNat)=decide ((48:Int)≤(c.toNat:Int)):=by simp;omega
  have e2:decide (c.toNat≤57)=decide ((c.toNat:Int)≤57):=by simp;omega
  rw [e1,e2]
 rw [e]
 generalize (c.toNat:Int)=n
 by_cases h1:(48:Int)≤n
 ·rw [decide_eq_true h1]
  go_enter Tryz.func304,Tryz.ntmps304
  go_wp2
  go_ret
  exact ⟨rfl,rfl⟩
 ·rw [decide_eq_false h1]
  go_enter Tryz.func304,Tryz.ntmps304
  go_wp2
  go_ret
  exact ⟨rfl,rfl⟩
theorem rletter_any (c:UInt8) (w:World):Calls Tryz.prog 303 #[.int .u8 (c.toNat:Int)] w fun e w'=>e=.returned (.bool (isL c))∧w=w':=by
 have e:isL c=((decide ((97:Int)≤(c.toNat:Int))&&decide ((c.toNat:Int)≤122)) || ((c.toNat:Int)==95)):=by
  unfold isL
  have e1:decide (97≤c.toNat)=decide ((97:Int)≤(c.toNat:Int)):=by simp;omega
  have e2:decide (c.toNat≤122)=decide ((c.toNat:Int)≤122):=by simp;omega
  have e3:decide (c.toNat=95)=((c.toNat:Int)==95):=by
   by_cases h:c.toNat=95
   ·rw [h];rfl
   ·rw [decide_eq_false h];symm;rw [beq_eq_false_iff_ne];omega
  rw [e1,e2,e3]
 rw [e]
 generalize (c.toNat:Int)=n
 by_cases h1:(97:Int)≤n
 ·rw [decide_eq_true h1]
  by_cases h2:n≤122
  ·rw [decide_eq_true h2]
   go_enter Tryz.func303,Tryz.ntmps303
   go_wp2
   go_ret
   exact ⟨rfl,rfl⟩
  ·rw [decide_eq_false h2]
   go_enter Tryz.func303,Tryz.ntmps303
   go_wp2
   go_ret
   exact ⟨rfl,rfl⟩
 ·rw [decide_eq_false h1]
  go_enter Tryz.func303,Tryz.ntmps303
  go_wp2
  go_ret
  exact ⟨rfl,rfl⟩
theorem bat_get (l:List UInt8):∀ (k:Nat) h,(ByteArray.mk l.toArray)[k]'h=bat l k:=fun k h=>by
 have h':k<l.length:=h
 show l[k]=_
 unfold bat
 simp [List.getD,h']
theorem wordN_all (m:List UInt8):(z5v m=m.length)↔(∀ i (h:i<m.length),isW m[i]=true):=by
 induction m with
 | nil=>simp [z5v]
 | cons c m ih =>
  by_cases hc:isW c=true
  ·rw [z5v,if_pos hc]
   constructor
   ·intro h i hi
    rw [List.length_cons] at h
    match i,hi with
    | 0,_=>exact hc
    | i+1,hi=>exact ih.1 (by omega) i (by simpa using hi)
   ·intro h
    have:=ih.2 (fun i hi=>h (i+1) (by simpa using hi))
    rw [List.length_cons]
    omega
  ·rw [z5v,if_neg hc]
   constructor
   ·intro h;simp at h
   ·intro h;exact absurd (h 0 (by simp)) hc
def okW (l:List UInt8) (i:Nat):Bool:=isL (bat l i) || (isD (bat l i)&&decide (0<i))
theorem wordL_iff (l:List UInt8):z7v l=true↔((∀ i,i<l.length→okW l i=true)∧1≤l.length∧l.length≤32):=by
 match l with
 | []=>simp [z7v,lxt]
 | c::m =>
  have hk:∀ i (h:i<m.length),okW (c::m) (i+1)=isW m[i]:=by
   intro i h
   unfold okW isW bat
   simp [List.getD,h]
  have h00:okW (c::m) 0=isL c:=by unfold okW bat;simp
  unfold z7v
  simp only [Bool.and_eq_true,decide_eq_true_eq]
  constructor
  ·rintro ⟨h1,h2,h3⟩
   rw [y0c] at h1 h2
   by_cases hL:isL c=true
   ·rw [if_pos hL] at h2
    have hw:=(wordN_all m).1 (by simpa using h2)
    refine ⟨?_,by simp,h3⟩
    intro i hi
    match i,hi with
    | 0,_=>rw [h00];exact hL
    | i+1,hi=>rw [hk i (by simpa using hi)];exact hw i (by simpa using hi)
   ·rw [if_neg hL] at h1
    exfalso
    revert h1
    repeat' split
    all_goals simp
  ·rintro ⟨h1,h2,h3⟩
   have hL:isL c=true:=by rw [← h00];exact h1 0 (by simp)
   rw [y0c,if_pos hL]
   refine ⟨rfl,?_,h3⟩
   have:=(wordN_all m).2 (fun i hi=>by rw [← hk i hi];exact h1 (i+1) (by simpa using hi))
   simp [this]
theorem rword_any (l:List UInt8) (w:World) (hl:l.length≤140737488351232):Calls Tryz.prog 281 #[.string ⟨l.toArray⟩] w fun e w'=>e=.returned (.bool (z7v l))∧w=w':=by
 have hs:(ByteArray.mk l.toArray).size=l.length:=rfl
 have HG:Hid (∀ (k:Nat) h,(ByteArray.mk l.toArray)[k]'h=bat l k):=bat_get l
 obtain ⟨R,hR⟩:∃ R,R=z7v l:=⟨_,rfl⟩
 rw [← hR]
 have HR:Hid (R=z7v l):=hR
 clear hR
 have DD:∀ c,∀ W,Calls Tryz.prog 304 #[.int .u8 (c.toNat:Int)] W fun e w'=>e=.returned (.bool (isD c))∧W=w':=fun c W=>rdigit_any c W
 have LL:∀ c,∀ W,Calls Tryz.prog 303 #[.int .u8 (c.toNat:Int)] W fun e w'=>e=.returned (.bool (isL c))∧W=w':=fun c W=>rletter_any c W
 generalize ByteArray.mk l.toArray=S at *
 go_enter Tryz.func281,Tryz.ntmps281
 go_wp2
 go_loopw [3] (fun r3 wr=>∃ k:Nat,r3=.int .i64 (k:Int)∧k≤l.length∧w=wr∧Hid (∀ i,i<k→okW l i=true)) (fun r _=>l.length - (intOf r).toNat)
 case atStart=>exact ⟨0,rfl,Nat.zero_le _,rfl,fun i h=>by omega⟩
 case round =>
  obtain ⟨k,rfl,hk,rfl,hH⟩:=hrel
  by_cases hlt:k<l.length
  ·have hlt':(k:Int)<(l.length:Int):=by omega
   have j0:(0:Int)≤(k:Int):=by omega
   have hgk:=HG.out k
   have hokk:okW l k=(isL (bat l k) || (isD (bat l k)&&decide (0<k))):=rfl
   obtain ⟨c,hc⟩:∃ c,c=bat l k:=⟨_,rfl⟩
   rw [← hc] at hgk hokk
   have Dk:=DD c
   have Lk:=LL c
   clear HG DD LL hc
   have step:okW l k=true→Hid (∀ i,i<k+1→okW l i=true):=by
    intro h
    show ∀ i,i<k+1→okW l i=true
    intro i hi
    by_cases h':i<k
    ·exact hH.out i h'
    ·have:i=k:=by omega
     subst this;exact h
   have stop:okW l k=false→Hid (R=false):=by
    intro h
    show R=false
    rw [HR.out]
    cases hw:z7v l with
    | false=>rfl
    | true =>
     have:=((wordL_iff l).1 hw).1 k hlt
     rw [h] at this;cases this
   cases hcl:isL c with
   | true =>
    rw [hcl] at Lk
    have hH':=step (by rw [hokk,hcl];rfl)
    clear step stop hokk hcl hH HR
    go_wp2_with (first
     | (go_at_call 303;refine (Lk _).mono ?_;rintro e w' ⟨rfl,rfl⟩)
     | (go_at_call 304;refine (Dk _).mono ?_;rintro e w' ⟨rfl,rfl⟩))
    exact ⟨⟨k+1,by rw [z7b],by omega,trivial,hH'⟩,by simp [intOf] <;> omega⟩
   | false =>
    rw [hcl] at Lk
    cases hcd:isD c with
    | false =>
     rw [hcd] at Dk
     have hR':=stop (by rw [hokk,hcl,hcd];rfl)
     clear step stop hokk hcl hcd hH HR
     go_wp2_with (first
     | (go_at_call 303;refine (Lk _).mono ?_;rintro e w' ⟨rfl,rfl⟩)
     | (go_at_call 304;refine (Dk _).mono ?_;rintro e w' ⟨rfl,rfl⟩))
     go_ret
     exact ⟨by rw [hR'.out];rfl,rfl⟩
    | true =>
     rw [hcd] at Dk
     by_cases h0:0<k
     ·have h0':(0:Int)<(k:Int):=by omega
      have hH':=step (by rw [hokk,hcl,hcd,decide_eq_true h0];rfl)
      clear step stop hokk hcl hcd hH HR
      go_wp2_with (first
     | (go_at_call 303;refine (Lk _).mono ?_;rintro e w' ⟨rfl,rfl⟩)
     | (go_at_call 304;refine (Dk _).mono ?_;rintro e w' ⟨rfl,rfl⟩))
      exact ⟨⟨k+1,by rw [z7b],by omega,trivial,hH'⟩,by simp [intOf] <;> omega⟩
     ·have h0':¬ (0:Int)<(k:Int):=by omega
      have hR':=stop (by rw [hokk,hcl,hcd,decide_eq_false h0];rfl)
      clear step stop hokk hcl hcd hH HR
      go_wp2_with (first
     | (go_at_call 303;refine (Lk _).mono ?_;rintro e w' ⟨rfl,rfl⟩)
     | (go_at_call 304;refine (Dk _).mono ?_;rintro e w' ⟨rfl,rfl⟩))
      go_ret
      exact ⟨by rw [hR'.out];rfl,rfl⟩
  ·have hlt':¬ (k:Int)<(l.length:Int):=by omega
   have hR':Hid (R=(decide ((1:Int)≤(l.length:Int))&&decide ((l.length:Int)≤32))):=by
    show R=_
    rw [HR.out]
    have hw:=wordL_iff l
    have hall:∀ i,i<l.length→okW l i=true:=fun i hi=>hH.out i (by omega)
    by_cases h1:1≤l.length∧l.length≤32
    ·rw [hw.2 ⟨hall,h1⟩,decide_eq_true (show (1:Int)≤(l.length:Int) by omega),decide_eq_true (show (l.length:Int)≤32 by omega)];rfl
    ·cases hx:z7v l with
     | true=>exact absurd (hw.1 hx).2 h1
     | false =>
      symm
      rw [Bool.and_eq_false_iff]
      by_cases h:1≤l.length
      ·right;simp;omega
      ·left;simp;omega
   by_cases h1:(1:Int)≤(l.length:Int)
   ·rw [decide_eq_true h1,Bool.true_and] at hR'
    clear hH HR HG DD LL
    go_wp2
    go_ret
    exact ⟨by rw [hR'.out];rfl,rfl⟩
   ·rw [decide_eq_false h1,Bool.false_and] at hR'
    clear hH HR HG DD LL
    go_wp2
    go_ret
    exact ⟨by rw [hR'.out];rfl,rfl⟩
end Go.Proofs.YtibbenhplmmmiaaGreatDoor

namespace Go.Proofs.YtibbenhplmmmiaaGreatDoor
open Go.RowKit Go.Shelf
attribute [local go_sem] z0e z0b z0c z0f z0m z0k z0h z0d z0g
def smO6x0:Oper:=⟨some 17,.move (.tmp 0),54, "law.go:30",#[],none⟩
def smO6x1:Oper:=⟨some 18,.move (.tmp 5),3, "law.go:30",#[],none⟩
def smO6x2:Oper:=⟨some 19,.indexAddr 54 (.tmp 17) (.tmp 18),0, "law.go:30",#[⟨0,.data⟩,⟨1,.data⟩],none⟩
def smO6x3:Oper:=⟨some 20,.fieldAddr 99 (.tmp 19) 0,0, "law.go:30",#[⟨2,.data⟩],none⟩
def smO6x4:Oper:=⟨some 21,.load 3 (.tmp 20),3, "law.go:30",#[⟨3,.data⟩],none⟩
def smO6x5:Oper:=⟨some 22,.move (.tmp 1),44, "law.go:30",#[],none⟩
def smO6x6:Oper:=⟨some 23,.move (.tmp 5),3, "law.go:30",#[],none⟩
def smO6x7:Oper:=⟨some 24,.indexAddr 44 (.tmp 22) (.tmp 23),0, "law.go:30",#[⟨5,.data⟩,⟨6,.data⟩],none⟩
def smO6x8:Oper:=⟨some 25,.fieldAddr 98 (.tmp 24) 0,0, "law.go:30",#[⟨7,.data⟩],none⟩
def smO6x9:Oper:=⟨some 26,.load 3 (.tmp 25),3, "law.go:30",#[⟨8,.data⟩],none⟩
def smO6x10:Oper:=⟨some 27,.binOp BinOp.neq 3 (.tmp 21) (.tmp 26) 3,4, "law.go:30",#[⟨4,.data⟩,⟨9,.data⟩],none⟩
def smO6x11:Oper:=⟨some 28,.move (.tmp 27),4, "law.go:30",#[⟨10,.data⟩],none⟩
def smO6x12:Oper:=⟨some 29,.move (.tmp 0),54, "law.go:30",#[⟨11,.guard⟩],some (11,false)⟩
def smO6x13:Oper:=⟨some 30,.move (.tmp 5),3, "law.go:30",#[⟨11,.guard⟩],some (11,false)⟩
def smO6x14:Oper:=⟨some 31,.indexAddr 54 (.tmp 29) (.tmp 30),0, "law.go:30",#[⟨12,.data⟩,⟨13,.data⟩,⟨11,.guard⟩],some (11,false)⟩
def smO6x15:Oper:=⟨some 32,.fieldAddr 99 (.tmp 31) 1,0, "law.go:30",#[⟨14,.data⟩,⟨11,.guard⟩],some (11,false)⟩
def smO6x16:Oper:=⟨some 33,.load 9 (.tmp 32),9, "law.go:30",#[⟨15,.data⟩,⟨11,.guard⟩],some (11,false)⟩
def smO6x17:Oper:=⟨some 34,.move (.tmp 1),44, "law.go:30",#[⟨11,.guard⟩],some (11,false)⟩
def smO6x18:Oper:=⟨some 35,.move (.tmp 5),3, "law.go:30",#[⟨11,.guard⟩],some (11,false)⟩
def smO6x19:Oper:=⟨some 36,.indexAddr 44 (.tmp 34) (.tmp 35),0, "law.go:30",#[⟨17,.data⟩,⟨18,.data⟩,⟨11,.guard⟩],some (11,false)⟩
def smO6x20:Oper:=⟨some 37,.fieldAddr 98 (.tmp 36) 1,0, "law.go:30",#[⟨19,.data⟩,⟨11,.guard⟩],some (11,false)⟩
def smO6x21:Oper:=⟨some 38,.load 9 (.tmp 37),9, "law.go:30",#[⟨20,.data⟩,⟨11,.guard⟩],some (11,false)⟩
def smO6x22:Oper:=⟨some 39,.binOp BinOp.neq 9 (.tmp 33) (.tmp 38) 9,4, "law.go:30",#[⟨16,.data⟩,⟨21,.data⟩,⟨11,.guard⟩],some (11,false)⟩
def smO6x23:Oper:=⟨some 40,.pick (.tmp 28) (.const (Value.bool true)) (.tmp 39),4, "law.go:30",#[⟨11,.data⟩,⟨22,.data⟩],none⟩
def smO6x24:Oper:=⟨some 41,.move (.tmp 40),4, "law.go:30",#[⟨23,.data⟩,⟨11,.chain⟩],none⟩
def smO6x25:Oper:=⟨some 42,.move (.tmp 0),54, "law.go:30",#[⟨24,.guard⟩],some (24,false)⟩
def smO6x26:Oper:=⟨some 43,.move (.tmp 5),3, "law.go:30",#[⟨24,.guard⟩],some (24,false)⟩
def smO6x27:Oper:=⟨some 44,.indexAddr 54 (.tmp 42) (.tmp 43),0, "law.go:30",#[⟨25,.data⟩,⟨26,.data⟩,⟨24,.guard⟩],some (24,false)⟩
def smO6x28:Oper:=⟨some 45,.fieldAddr 99 (.tmp 44) 2,0, "law.go:30",#[⟨27,.data⟩,⟨24,.guard⟩],some (24,false)⟩
def smO6x29:Oper:=⟨some 46,.load 9 (.tmp 45),9, "law.go:30",#[⟨28,.data⟩,⟨24,.guard⟩],some (24,false)⟩
def smO6x30:Oper:=⟨some 47,.move (.tmp 1),44, "law.go:30",#[⟨24,.guard⟩],some (24,false)⟩
def smO6x31:Oper:=⟨some 48,.move (.tmp 5),3, "law.go:30",#[⟨24,.guard⟩],some (24,false)⟩
def smO6x32:Oper:=⟨some 49,.indexAddr 44 (.tmp 47) (.tmp 48),0, "law.go:30",#[⟨30,.data⟩,⟨31,.data⟩,⟨24,.guard⟩],some (24,false)⟩
def smO6x33:Oper:=⟨some 50,.fieldAddr 98 (.tmp 49) 2,0, "law.go:30",#[⟨32,.data⟩,⟨24,.guard⟩],some (24,false)⟩
def smO6x34:Oper:=⟨some 51,.load 9 (.tmp 50),9, "law.go:30",#[⟨33,.data⟩,⟨24,.guard⟩],some (24,false)⟩
def smO6x35:Oper:=⟨some 52,.binOp BinOp.neq 9 (.tmp 46) (.tmp 51) 9,4, "law.go:30",#[⟨29,.data⟩,⟨34,.data⟩,⟨24,.guard⟩],some (24,false)⟩
def smO6x36:Oper:=⟨some 53,.pick (.tmp 41) (.const (Value.bool true)) (.tmp 52),4, "law.go:30",#[⟨24,.data⟩,⟨35,.data⟩],none⟩
def smO6x37:Oper:=⟨some 54,.move (.tmp 53),4, "law.go:30",#[⟨36,.data⟩,⟨24,.chain⟩],none⟩
def smO6x38:Oper:=⟨some 55,.move (.tmp 0),54, "law.go:30",#[⟨37,.guard⟩],some (37,false)⟩
def smO6x39:Oper:=⟨some 56,.move (.tmp 5),3, "law.go:30",#[⟨37,.guard⟩],some (37,false)⟩
def smO6x40:Oper:=⟨some 57,.indexAddr 54 (.tmp 55) (.tmp 56),0, "law.go:30",#[⟨38,.data⟩,⟨39,.data⟩,⟨37,.guard⟩],some (37,false)⟩
def smO6x41:Oper:=⟨some 58,.fieldAddr 99 (.tmp 57) 3,0, "law.go:30",#[⟨40,.data⟩,⟨37,.guard⟩],some (37,false)⟩
def smO6x42:Oper:=⟨some 59,.load 23 (.tmp 58),23, "law.go:30",#[⟨41,.data⟩,⟨37,.guard⟩],some (37,false)⟩
def smO6x43:Oper:=⟨some 60,.move (.tmp 1),44, "law.go:30",#[⟨37,.guard⟩],some (37,false)⟩
def smO6x44:Oper:=⟨some 61,.move (.tmp 5),3, "law.go:30",#[⟨37,.guard⟩],some (37,false)⟩
def smO6x45:Oper:=⟨some 62,.indexAddr 44 (.tmp 60) (.tmp 61),0, "law.go:30",#[⟨43,.data⟩,⟨44,.data⟩,⟨37,.guard⟩],some (37,false)⟩
def smO6x46:Oper:=⟨some 63,.fieldAddr 98 (.tmp 62) 3,0, "law.go:30",#[⟨45,.data⟩,⟨37,.guard⟩],some (37,false)⟩
def smO6x47:Oper:=⟨some 64,.load 23 (.tmp 63),23, "law.go:30",#[⟨46,.data⟩,⟨37,.guard⟩],some (37,false)⟩
def smO6x48:Oper:=⟨some 65,.call { callee:=Callee.value (Operand.func 10),args:=#[.tmp 59,.tmp 64],argTypes:=#[23,23] },4, "law.go:30",#[⟨42,.data⟩,⟨47,.data⟩,⟨37,.chain⟩,⟨37,.guard⟩],some (37,false)⟩
def smO6x49:Oper:=⟨some 66,.unOp UnOp.not 4 (.tmp 65),4, "law.go:30",#[⟨48,.data⟩,⟨37,.guard⟩],some (37,false)⟩
def smO6x50:Oper:=⟨some 67,.pick (.tmp 54) (.const (Value.bool true)) (.tmp 66),4, "law.go:30",#[⟨37,.data⟩,⟨49,.data⟩],none⟩
def smO6x51:Oper:=⟨some 68,.move (.tmp 67),4, "law.go:30",#[⟨50,.data⟩,⟨48,.chain⟩],none⟩
def smO6x52:Oper:=⟨some 69,.move (.tmp 0),54, "law.go:30",#[⟨51,.guard⟩],some (51,false)⟩
def smO6x53:Oper:=⟨some 70,.move (.tmp 5),3, "law.go:30",#[⟨51,.guard⟩],some (51,false)⟩
def smO6x54:Oper:=⟨some 71,.indexAddr 54 (.tmp 69) (.tmp 70),0, "law.go:30",#[⟨52,.data⟩,⟨53,.data⟩,⟨51,.guard⟩],some (51,false)⟩
def smO6x55:Oper:=⟨some 72,.fieldAddr 99 (.tmp 71) 4,0, "law.go:30",#[⟨54,.data⟩,⟨51,.guard⟩],some (51,false)⟩
def smO6x56:Oper:=⟨some 73,.load 3 (.tmp 72),3, "law.go:30",#[⟨55,.data⟩,⟨51,.guard⟩],some (51,false)⟩
def smO6x57:Oper:=⟨some 74,.move (.tmp 1),44, "law.go:30",#[⟨51,.guard⟩],some (51,false)⟩
def smO6x58:Oper:=⟨some 75,.move (.tmp 5),3, "law.go:30",#[⟨51,.guard⟩],some (51,false)⟩
def smO6x59:Oper:=⟨some 76,.indexAddr 44 (.tmp 74) (.tmp 75),0, "law.go:30",#[⟨57,.data⟩,⟨58,.data⟩,⟨51,.guard⟩],some (51,false)⟩
def smO6x60:Oper:=⟨some 77,.fieldAddr 98 (.tmp 76) 4,0, "law.go:30",#[⟨59,.data⟩,⟨51,.guard⟩],some (51,false)⟩
def smO6x61:Oper:=⟨some 78,.load 3 (.tmp 77),3, "law.go:30",#[⟨60,.data⟩,⟨51,.guard⟩],some (51,false)⟩
def smO6x62:Oper:=⟨some 79,.binOp BinOp.neq 3 (.tmp 73) (.tmp 78) 3,4, "law.go:30",#[⟨56,.data⟩,⟨61,.data⟩,⟨51,.guard⟩],some (51,false)⟩
def smO6x63:Oper:=⟨some 80,.pick (.tmp 68) (.const (Value.bool true)) (.tmp 79),4, "law.go:30",#[⟨51,.data⟩,⟨62,.data⟩],none⟩
theorem same6_any (ao bo:Option Addr) (ca cb:Nat) (l:List Nd) (w:World) (hx:Nw w ao l) (hy:Nw w bo l) (hl:l.length≤140737488351232) :
  Calls Tryz.prog 29 #[.slice ao l.length ca,.slice bo l.length cb] w fun e w'=>e=.returned (.bool true)∧Below w.heap.size w w':=by
 have SM0:Hid (∀ (v:Va) (W:World),Calls Tryz.prog 10 #[va v.k v.n v.m ⟨v.b.toArray⟩,va v.k v.n v.m ⟨v.b.toArray⟩] W fun e w'=>e=.returned (.bool true)∧Below W.heap.size W w'):=fun v W=>by
  refine (z7m v.k v.n v.m ⟨v.b.toArray⟩ v.k v.n v.m ⟨v.b.toArray⟩ W).mono ?_
  rintro e w' ⟨rfl,h⟩
  exact ⟨by simp,h.below⟩
 obtain ⟨n,hn⟩:∃ n,l.length=n:=⟨_,rfl⟩
 have HN:Hid (l.length=n):=hn
 have HX:Hid (Nw w ao l):=hx
 have HY:Hid (Nw w bo l):=hy
 rw [hn] at hl ⊢
 clear hn hx hy
 go_enter Tryz.func29,Tryz.ntmps29
 go_wp2
 go_loopw [5] (fun r5 wr=>∃ k:Nat,r5=.int .i64 (k:Int)∧k≤n∧Below w.heap.size w wr) (fun r _=>n - (intOf r).toNat)
 case atStart=>exact ⟨0,rfl,Nat.zero_le _,Below.refl _ _⟩
 case round =>
  rename World=>wo
  obtain ⟨k,rfl,hk,hb⟩:=hrel
  by_cases hlt:k<n
  ·have hlt':(k:Int)<(n:Int):=by omega
   have k0:(0:Int)≤(k:Int):=by omega
   have hkl:k<l.length:=by rw [HN.out];exact hlt
   obtain ⟨b,off,rfl,hcl⟩:=HX.out (by omega)
   obtain ⟨b2,off2,rfl,hcl2⟩:=HY.out (by omega)
   have C:=(hcl k hkl).later hb
   have D:=(hcl2 k hkl).later hb
   obtain ⟨x,he⟩:∃ x:Nd,x=l[k]:=⟨_,rfl⟩
   rw [← he] at C D
   obtain ⟨xo,xt,xn,⟨vk,vn,vm,vb⟩,xa⟩:=x
   have CX:Hid (∀ W,Below wo.heap.size wo W→N8 W b (off+k*8) ⟨xo,xt,xn,⟨vk,vn,vm,vb⟩,xa⟩):=fun W h=>C.later h
   have DX:Hid (∀ W,Below wo.heap.size wo W→N8 W b2 (off2+k*8) ⟨xo,xt,xn,⟨vk,vn,vm,vb⟩,xa⟩):=fun W h=>D.later h
   have SM:=fun W=>SM0.out ⟨vk,vn,vm,vb⟩ W
   dsimp only at SM
   clear hcl hcl2 C D he
   go_upto_region 6 with fail
   refine wp_region_held_drew (S:=(fun W=>Below wo.heap.size wo W)) gK ?_ (fun hHeld=>?_)
   ·((try dsimp only);exact (Below.refl _ _).drew)
   refine wpAnyH_take (i:=0) (oi:=smO6x0) (v:=?_) rfl gK gK gK (fun _ _ _ h=>h) (Or.inl ⟨by rfl,?_⟩) (by assumption) ?_
   rotate_left
   ·(intro W hSw;(try dsimp only at hSw);try simp only [smO6x0];first|(go_simp;done)|(go_simp;with_reducible rfl))
   try simp only [smO6x0,Act.put,List.setIfInBounds_toArray,List.set_cons_zero,List.set_cons_succ]
   refine wpAnyH_take (i:=1) (oi:=smO6x1) (v:=?_) rfl gK gK gK (fun _ _ _ h=>h) (Or.inl ⟨by rfl,?_⟩) (by assumption) ?_
   rotate_left
   ·(intro W hSw;(try dsimp only at hSw);try simp only [smO6x1];first|(go_simp;done)|(go_simp;with_reducible rfl))
   try simp only [smO6x1,Act.put,List.setIfInBounds_toArray,List.set_cons_zero,List.set_cons_succ]
   refine wpAnyH_take (i:=2) (oi:=smO6x2) (v:=?_) rfl gK gK gK (fun _ _ _ h=>h) (Or.inl ⟨by rfl,?_⟩) (by assumption) ?_
   rotate_left
   ·(intro W hSw;(try dsimp only at hSw);try simp only [smO6x2];first|(go_simp;done)|(go_simp;with_reducible rfl))
   try simp only [smO6x2,Act.put,List.setIfInBounds_toArray,List.set_cons_zero,List.set_cons_succ]
   refine wpAnyH_take (i:=3) (oi:=smO6x3) (v:=?_) rfl gK gK gK (fun _ _ _ h=>h) (Or.inl ⟨by rfl,?_⟩) (by assumption) ?_
   rotate_left
   ·(intro W hSw;(try dsimp only at hSw);try simp only [smO6x3];first|(go_simp;done)|(go_simp;with_reducible rfl))
   try simp only [smO6x3,Act.put,List.setIfInBounds_toArray,List.set_cons_zero,List.set_cons_succ]
   refine wpAnyH_take (i:=4) (oi:=smO6x4) (v:=?_) rfl gK gK gK (fun _ _ _ h=>h) (Or.inl ⟨by rfl,?_⟩) (by assumption) ?_
   rotate_left
   ·(intro W hSw;(try dsimp only at hSw);have C:=CX.out _ hSw;have D:=DX.out _ hSw;have cl:=C.lt;have dl:=D.lt;obtain ⟨c0,c1,c2,c3,c4,c5,c6,c7⟩:=C;obtain ⟨d0,d1,d2,d3,d4,d5,d6,d7⟩:=D;dsimp only at c0 c1 c2 c3 c4 c5 c6 c7 d0 d1 d2 d3 d4 d5 d6 d7;try simp only [smO6x4];first|(go_simp;done)|(go_simp;with_reducible rfl))
   try simp only [smO6x4,Act.put,List.setIfInBounds_toArray,List.set_cons_zero,List.set_cons_succ]
   refine wpAnyH_take (i:=5) (oi:=smO6x5) (v:=?_) rfl gK gK gK (fun _ _ _ h=>h) (Or.inl ⟨by rfl,?_⟩) (by assumption) ?_
   rotate_left
   ·(intro W hSw;(try dsimp only at hSw);try simp only [smO6x5];first|(go_simp;done)|(go_simp;with_reducible rfl))
   try simp only [smO6x5,Act.put,List.setIfInBounds_toArray,List.set_cons_zero,List.set_cons_succ]
   refine wpAnyH_take (i:=6) (oi:=smO6x6) (v:=?_) rfl gK gK gK (fun _ _ _ h=>h) (Or.inl ⟨by rfl,?_⟩) (by assumption) ?_
   rotate_left
   ·(intro W hSw;(try dsimp only at hSw);try simp only [smO6x6];first|(go_simp;done)|(go_simp;with_reducible rfl))
   try simp only [smO6x6,Act.put,List.setIfInBounds_toArray,List.set_cons_zero,List.set_cons_succ]
   refine wpAnyH_take (i:=7) (oi:=smO6x7) (v:=?_) rfl gK gK gK (fun _ _ _ h=>h) (Or.inl ⟨by rfl,?_⟩) (by assumption) ?_
   rotate_left
   ·(intro W hSw;(try dsimp only at hSw);try simp only [smO6x7];first|(go_simp;done)|(go_simp;with_reducible rfl))
   try simp only [smO6x7,Act.put,List.setIfInBounds_toArray,List.set_cons_zero,List.set_cons_succ]
   refine wpAnyH_take (i:=8) (oi:=smO6x8) (v:=?_) rfl gK gK gK (fun _ _ _ h=>h) (Or.inl ⟨by rfl,?_⟩) (by assumption) ?_
   rotate_left
   ·(intro W hSw;(try dsimp only at hSw);try simp only [smO6x8];first|(go_simp;done)|(go_simp;with_reducible rfl))
   try simp only [smO6x8,Act.put,List.setIfInBounds_toArray,List.set_cons_zero,List.set_cons_succ]
   refine wpAnyH_take (i:=9) (oi:=smO6x9) (v:=?_) rfl gK gK gK (fun _ _ _ h=>h) (Or.inl ⟨by rfl,?_⟩) (by assumption) ?_
   rotate_left
   ·(intro W hSw;(try dsimp only at hSw);have C:=CX.out _ hSw;have D:=DX.out _ hSw;have cl:=C.lt;have dl:=D.lt;obtain ⟨c0,c1,c2,c3,c4,c5,c6,c7⟩:=C;obtain ⟨d0,d1,d2,d3,d4,d5,d6,d7⟩:=D;dsimp only at c0 c1 c2 c3 c4 c5 c6 c7 d0 d1 d2 d3 d4 d5 d6 d7;try simp only [smO6x9];first|(go_simp;done)|(go_simp;with_reducible rfl))
   try simp only [smO6x9,Act.put,List.setIfInBounds_toArray,List.set_cons_zero,List.set_cons_succ]
   refine wpAnyH_take (i:=10) (oi:=smO6x10) (v:=?_) rfl gK gK gK (fun _ _ _ h=>h) (Or.inl ⟨by rfl,?_⟩) (by assumption) ?_
   rotate_left
   ·(intro W hSw;(try dsimp only at hSw);try simp only [smO6x10];first|(go_simp;done)|(go_simp;with_reducible rfl))
   try simp only [smO6x10,Act.put,List.setIfInBounds_toArray,List.set_cons_zero,List.set_cons_succ]
   refine wpAnyH_take (i:=11) (oi:=smO6x11) (v:=?_) rfl gK gK gK (fun _ _ _ h=>h) (Or.inl ⟨by rfl,?_⟩) (by assumption) ?_
   rotate_left
   ·(intro W hSw;(try dsimp only at hSw);try simp only [smO6x11];first|(go_simp;done)|(go_simp;with_reducible rfl))
   try simp only [smO6x11,Act.put,List.setIfInBounds_toArray,List.set_cons_zero,List.set_cons_succ]
   refine wpAnyH_take (i:=12) (oi:=smO6x12) (v:=?_) rfl gK gK gK (fun _ _ _ h=>h) (Or.inl ⟨by rfl,?_⟩) (by assumption) ?_
   rotate_left
   ·(intro W hSw;(try dsimp only at hSw);try simp only [smO6x12];first|(go_simp;done)|(go_simp;with_reducible rfl))
   try simp only [smO6x12,Act.put,List.setIfInBounds_toArray,List.set_cons_zero,List.set_cons_succ]
   refine wpAnyH_take (i:=13) (oi:=smO6x13) (v:=?_) rfl gK gK gK (fun _ _ _ h=>h) (Or.inl ⟨by rfl,?_⟩) (by assumption) ?_
   rotate_left
   ·(intro W hSw;(try dsimp only at hSw);try simp only [smO6x13];first|(go_simp;done)|(go_simp;with_reducible rfl))
   try simp only [smO6x13,Act.put,List.setIfInBounds_toArray,List.set_cons_zero,List.set_cons_succ]
   refine wpAnyH_take (i:=14) (oi:=smO6x14) (v:=?_) rfl gK gK gK (fun _ _ _ h=>h) (Or.inl ⟨by rfl,?_⟩) (by assumption) ?_
   rotate_left
   ·(intro W hSw;(try dsimp only at hSw);try simp only [smO6x14];first|(go_simp;done)|(go_simp;with_reducible rfl))
   try simp only [smO6x14,Act.put,List.setIfInBounds_toArray,List.set_cons_zero,List.set_cons_succ]
   refine wpAnyH_take (i:=15) (oi:=smO6x15) (v:=?_) rfl gK gK gK (fun _ _ _ h=>h) (Or.inl ⟨by rfl,?_⟩) (by assumption) ?_
   rotate_left
   ·(intro W hSw;(try dsimp only at hSw);try simp only [smO6x15];first|(go_simp;done)|(go_simp;with_reducible rfl))
   try simp only [smO6x15,Act.put,List.setIfInBounds_toArray,List.set_cons_zero,List.set_cons_succ]
   refine wpAnyH_take (i:=16) (oi:=smO6x16) (v:=?_) rfl gK gK gK (fun _ _ _ h=>h) (Or.inl ⟨by rfl,?_⟩) (by assumption) ?_
   rotate_left
   ·(intro W hSw;(try dsimp only at hSw);have C:=CX.out _ hSw;have D:=DX.out _ hSw;have cl:=C.lt;have dl:=D.lt;obtain ⟨c0,c1,c2,c3,c4,c5,c6,c7⟩:=C;obtain ⟨d0,d1,d2,d3,d4,d5,d6,d7⟩:=D;dsimp only at c0 c1 c2 c3 c4 c5 c6 c7 d0 d1 d2 d3 d4 d5 d6 d7;try simp only [smO6x16];first|(go_simp;done)|(go_simp;with_reducible rfl))
   try simp only [smO6x16,Act.put,List.setIfInBounds_toArray,List.set_cons_zero,List.set_cons_succ]
   refine wpAnyH_take (i:=17) (oi:=smO6x17) (v:=?_) rfl gK gK gK (fun _ _ _ h=>h) (Or.inl ⟨by rfl,?_⟩) (by assumption) ?_
   rotate_left
   ·(intro W hSw;(try dsimp only at hSw);try simp only [smO6x17];first|(go_simp;done)|(go_simp;with_reducible rfl))
   try simp only [smO6x17,Act.put,List.setIfInBounds_toArray,List.set_cons_zero,List.set_cons_succ]
   refine wpAnyH_take (i:=18) (oi:=smO6x18) (v:=?_) rfl gK gK gK (fun _ _ _ h=>h) (Or.inl ⟨by rfl,?_⟩) (by assumption) ?_
   rotate_left
   ·(intro W hSw;(try dsimp only at hSw);try simp only [smO6x18];first|(go_simp;done)|(go_simp;with_reducible rfl))
   try simp only [smO6x18,Act.put,List.setIfInBounds_toArray,List.set_cons_zero,List.set_cons_succ]
   refine wpAnyH_take (i:=19) (oi:=smO6x19) (v:=?_) rfl gK gK gK (fun _ _ _ h=>h) (Or.inl ⟨by rfl,?_⟩) (by assumption) ?_
   rotate_left
   ·(intro W hSw;(try dsimp only at hSw);try simp only [smO6x19];first|(go_simp;done)|(go_simp;with_reducible rfl))
   try simp only [smO6x19,Act.put,List.setIfInBounds_toArray,List.set_cons_zero,List.set_cons_succ]
   refine wpAnyH_take (i:=20) (oi:=smO6x20) (v:=?_) rfl gK gK gK (fun _ _ _ h=>h) (Or.inl ⟨by rfl,?_⟩) (by assumption) ?_
   rotate_left
   ·(intro W hSw;(try dsimp only at hSw);try simp only [smO6x20];first|(go_simp;done)|(go_simp;with_reducible rfl))
   try simp only [smO6x20,Act.put,List.setIfInBounds_toArray,List.set_cons_zero,List.set_cons_succ]
   refine wpAnyH_take (i:=21) (oi:=smO6x21) (v:=?_) rfl gK gK gK (fun _ _ _ h=>h) (Or.inl ⟨by rfl,?_⟩) (by assumption) ?_
   rotate_left
   ·(intro W hSw;(try dsimp only at hSw);have C:=CX.out _ hSw;have D:=DX.out _ hSw;have cl:=C.lt;have dl:=D.lt;obtain ⟨c0,c1,c2,c3,c4,c5,c6,c7⟩:=C;obtain ⟨d0,d1,d2,d3,d4,d5,d6,d7⟩:=D;dsimp only at c0 c1 c2 c3 c4 c5 c6 c7 d0 d1 d2 d3 d4 d5 d6 d7;try simp only [smO6x21];first|(go_simp;done)|(go_simp;with_reducible rfl))
   try simp only [smO6x21,Act.put,List.setIfInBounds_toArray,List.set_cons_zero,List.set_cons_succ]
   refine wpAnyH_take (i:=22) (oi:=smO6x22) (v:=?_) rfl gK gK gK (fun _ _ _ h=>h) (Or.inl ⟨by rfl,?_⟩) (by assumption) ?_
   rotate_left
   ·(intro W hSw;(try dsimp only at hSw);try simp only [smO6x22];first|(go_simp;done)|(go_simp;with_reducible rfl))
   try simp only [smO6x22,Act.put,List.setIfInBounds_toArray,List.set_cons_zero,List.set_cons_succ]
   refine wpAnyH_take (i:=23) (oi:=smO6x23) (v:=?_) rfl gK gK gK (fun _ _ _ h=>h) (Or.inl ⟨by rfl,?_⟩) (by assumption) ?_
   rotate_left
   ·(intro W hSw;(try dsimp only at hSw);try simp only [smO6x23];first|(go_simp;done)|(go_simp;with_reducible rfl))
   try simp only [smO6x23,Act.put,List.setIfInBounds_toArray,List.set_cons_zero,List.set_cons_succ]
   refine wpAnyH_take (i:=24) (oi:=smO6x24) (v:=?_) rfl gK gK gK (fun _ _ _ h=>h) (Or.inl ⟨by rfl,?_⟩) (by assumption) ?_
   rotate_left
   ·(intro W hSw;(try dsimp only at hSw);try simp only [smO6x24];first|(go_simp;done)|(go_simp;with_reducible rfl))
   try simp only [smO6x24,Act.put,List.setIfInBounds_toArray,List.set_cons_zero,List.set_cons_succ]
   refine wpAnyH_take (i:=25) (oi:=smO6x25) (v:=?_) rfl gK gK gK (fun _ _ _ h=>h) (Or.inl ⟨by rfl,?_⟩) (by assumption) ?_
   rotate_left
   ·(intro W hSw;(try dsimp only at hSw);try simp only [smO6x25];first|(go_simp;done)|(go_simp;with_reducible rfl))
   try simp only [smO6x25,Act.put,List.setIfInBounds_toArray,List.set_cons_zero,List.set_cons_succ]
   refine wpAnyH_take (i:=26) (oi:=smO6x26) (v:=?_) rfl gK gK gK (fun _ _ _ h=>h) (Or.inl ⟨by rfl,?_⟩) (by assumption) ?_
   rotate_left
   ·(intro W hSw;(try dsimp only at hSw);try simp only [smO6x26];first|(go_simp;done)|(go_simp;with_reducible rfl))
   try simp only [smO6x26,Act.put,List.setIfInBounds_toArray,List.set_cons_zero,List.set_cons_succ]
   refine wpAnyH_take (i:=27) (oi:=smO6x27) (v:=?_) rfl gK gK gK (fun _ _ _ h=>h) (Or.inl ⟨by rfl,?_⟩) (by assumption) ?_
   rotate_left
   ·(intro W hSw;(try dsimp only at hSw);try simp only [smO6x27];first|(go_simp;done)|(go_simp;with_reducible rfl))
   try simp only [smO6x27,Act.put,List.setIfInBounds_toArray,List.set_cons_zero,List.set_cons_succ]
   refine wpAnyH_take (i:=28) (oi:=smO6x28) (v:=?_) rfl gK gK gK (fun _ _ _ h=>h) (Or.inl ⟨by rfl,?_⟩) (by assumption) ?_
   rotate_left
   ·(intro W hSw;(try dsimp only at hSw);try simp only [smO6x28];first|(go_simp;done)|(go_simp;with_reducible rfl))
   try simp only [smO6x28,Act.put,List.setIfInBounds_toArray,List.set_cons_zero,List.set_cons_succ]
   refine wpAnyH_take (i:=29) (oi:=smO6x29) (v:=?_) rfl gK gK gK (fun _ _ _ h=>h) (Or.inl ⟨by rfl,?_⟩) (by assumption) ?_
   rotate_left
   ·(intro W hSw;(try dsimp only at hSw);have C:=CX.out _ hSw;have D:=DX.out _ hSw;have cl:=C.lt;have dl:=D.lt;obtain ⟨c0,c1,c2,c3,c4,c5,c6,c7⟩:=C;obtain ⟨d0,d1,d2,d3,d4,d5,d6,d7⟩:=D;dsimp only at c0 c1 c2 c3 c4 c5 c6 c7 d0 d1 d2 d3 d4 d5 d6 d7;try simp only [smO6x29];first|(go_simp;done)|(go_simp;with_reducible rfl))
   try simp only [smO6x29,Act.put,List.setIfInBounds_toArray,List.set_cons_zero,List.set_cons_succ]
   refine wpAnyH_take (i:=30) (oi:=smO6x30) (v:=?_) rfl gK gK gK (fun _ _ _ h=>h) (Or.inl ⟨by rfl,?_⟩) (by assumption) ?_
   rotate_left
   ·(intro W hSw;(try dsimp only at hSw);try simp only [smO6x30];first|(go_simp;done)|(go_simp;with_reducible rfl))
   try simp only [smO6x30,Act.put,List.setIfInBounds_toArray,List.set_cons_zero,List.set_cons_succ]
   refine wpAnyH_take (i:=31) (oi:=smO6x31) (v:=?_) rfl gK gK gK (fun _ _ _ h=>h) (Or.inl ⟨by rfl,?_⟩) (by assumption) ?_
   rotate_left
   ·(intro W hSw;(try dsimp only at hSw);try simp only [smO6x31];first|(go_simp;done)|(go_simp;with_reducible rfl))
   try simp only [smO6x31,Act.put,List.setIfInBounds_toArray,List.set_cons_zero,List.set_cons_succ]
   refine wpAnyH_take (i:=32) (oi:=smO6x32) (v:=?_) rfl gK gK gK (fun _ _ _ h=>h) (Or.inl ⟨by rfl,?_⟩) (by assumption) ?_
   rotate_left
   ·(intro W hSw;(try dsimp only at hSw);try simp only [smO6x32];first|(go_simp;done)|(go_simp;with_reducible rfl))
   try simp only [smO6x32,Act.put,List.setIfInBounds_toArray,List.set_cons_zero,List.set_cons_succ]
   refine wpAnyH_take (i:=33) (oi:=smO6x33) (v:=?_) rfl gK gK gK (fun _ _ _ h=>h) (Or.inl ⟨by rfl,?_⟩) (by assumption) ?_
   rotate_left
   ·(intro W hSw;(try dsimp only at hSw);try simp only [smO6x33];first|(go_simp;done)|(go_simp;with_reducible rfl))
   try simp only [smO6x33,Act.put,List.setIfInBounds_toArray,List.set_cons_zero,List.set_cons_succ]
   refine wpAnyH_take (i:=34) (oi:=smO6x34) (v:=?_) rfl gK gK gK (fun _ _ _ h=>h) (Or.inl ⟨by rfl,?_⟩) (by assumption) ?_
   rotate_left
   ·(intro W hSw;(try dsimp only at hSw);have C:=CX.out _ hSw;have D:=DX.out _ hSw;have cl:=C.lt;have dl:=D.lt;obtain ⟨c0,c1,c2,c3,c4,c5,c6,c7⟩:=C;obtain ⟨d0,d1,d2,d3,d4,d5,d6,d7⟩:=D;dsimp only at c0 c1 c2 c3 c4 c5 c6 c7 d0 d1 d2 d3 d4 d5 d6 d7;try simp only [smO6x34];first|(go_simp;done)|(go_simp;with_reducible rfl))
   try simp only [smO6x34,Act.put,List.setIfInBounds_toArray,List.set_cons_zero,List.set_cons_succ]
   refine wpAnyH_take (i:=35) (oi:=smO6x35) (v:=?_) rfl gK gK gK (fun _ _ _ h=>h) (Or.inl ⟨by rfl,?_⟩) (by assumption) ?_
   rotate_left
   ·(intro W hSw;(try dsimp only at hSw);try simp only [smO6x35];first|(go_simp;done)|(go_simp;with_reducible rfl))
   try simp only [smO6x35,Act.put,List.setIfInBounds_toArray,List.set_cons_zero,List.set_cons_succ]
   refine wpAnyH_take (i:=36) (oi:=smO6x36) (v:=?_) rfl gK gK gK (fun _ _ _ h=>h) (Or.inl ⟨by rfl,?_⟩) (by assumption) ?_
   rotate_left
   ·(intro W hSw;(try dsimp only at hSw);try simp only [smO6x36];first|(go_simp;done)|(go_simp;with_reducible rfl))
   try simp only [smO6x36,Act.put,List.setIfInBounds_toArray,List.set_cons_zero,List.set_cons_succ]
   refine wpAnyH_take (i:=37) (oi:=smO6x37) (v:=?_) rfl gK gK gK (fun _ _ _ h=>h) (Or.inl ⟨by rfl,?_⟩) (by assumption) ?_
   rotate_left
   ·(intro W hSw;(try dsimp only at hSw);try simp only [smO6x37];first|(go_simp;done)|(go_simp;with_reducible rfl))
   try simp only [smO6x37,Act.put,List.setIfInBounds_toArray,List.set_cons_zero,List.set_cons_succ]
   refine wpAnyH_take (i:=38) (oi:=smO6x38) (v:=?_) rfl gK gK gK (fun _ _ _ h=>h) (Or.inl ⟨by rfl,?_⟩) (by assumption) ?_
   rotate_left
   ·(intro W hSw;(try dsimp only at hSw);try simp only [smO6x38];first|(go_simp;done)|(go_simp;with_reducible rfl))
   try simp only [smO6x38,Act.put,List.setIfInBounds_toArray,List.set_cons_zero,List.set_cons_succ]
   refine wpAnyH_take (i:=39) (oi:=smO6x39) (v:=?_) rfl gK gK gK (fun _ _ _ h=>h) (Or.inl ⟨by rfl,?_⟩) (by assumption) ?_
   rotate_left
   ·(intro W hSw;(try dsimp only at hSw);try simp only [smO6x39];first|(go_simp;done)|(go_simp;with_reducible rfl))
   try simp only [smO6x39,Act.put,List.setIfInBounds_toArray,List.set_cons_zero,List.set_cons_succ]
   refine wpAnyH_take (i:=40) (oi:=smO6x40) (v:=?_) rfl gK gK gK (fun _ _ _ h=>h) (Or.inl ⟨by rfl,?_⟩) (by assumption) ?_
   rotate_left
   ·(intro W hSw;(try dsimp only at hSw);try simp only [smO6x40];first|(go_simp;done)|(go_simp;with_reducible rfl))
   try simp only [smO6x40,Act.put,List.setIfInBounds_toArray,List.set_cons_zero,List.set_cons_succ]
   refine wpAnyH_take (i:=41) (oi:=smO6x41) (v:=?_) rfl gK gK gK (fun _ _ _ h=>h) (Or.inl ⟨by rfl,?_⟩) (by assumption) ?_
   rotate_left
   ·(intro W hSw;(try dsimp only at hSw);try simp only [smO6x41];first|(go_simp;done)|(go_simp;with_reducible rfl))
   try simp only [smO6x41,Act.put,List.setIfInBounds_toArray,List.set_cons_zero,List.set_cons_succ]
   refine wpAnyH_take (i:=42) (oi:=smO6x42) (v:=?_) rfl gK gK gK (fun _ _ _ h=>h) (Or.inl ⟨by rfl,?_⟩) (by assumption) ?_
   rotate_left
   ·(intro W hSw;(try dsimp only at hSw);have C:=CX.out _ hSw;have D:=DX.out _ hSw;have cl:=C.lt;have dl:=D.lt;obtain ⟨c0,c1,c2,c3,c4,c5,c6,c7⟩:=C;obtain ⟨d0,d1,d2,d3,d4,d5,d6,d7⟩:=D;dsimp only at c0 c1 c2 c3 c4 c5 c6 c7 d0 d1 d2 d3 d4 d5 d6 d7;try simp only [smO6x42];first|(go_simp;done)|(go_simp;with_reducible rfl))
   try simp only [smO6x42,Act.put,List.setIfInBounds_toArray,List.set_cons_zero,List.set_cons_succ]
   refine wpAnyH_take (i:=43) (oi:=smO6x43) (v:=?_) rfl gK gK gK (fun _ _ _ h=>h) (Or.inl ⟨by rfl,?_⟩) (by assumption) ?_
   rotate_left
   ·(intro W hSw;(try dsimp only at hSw);try simp only [smO6x43];first|(go_simp;done)|(go_simp;with_reducible rfl))
   try simp only [smO6x43,Act.put,List.setIfInBounds_toArray,List.set_cons_zero,List.set_cons_succ]
   refine wpAnyH_take (i:=44) (oi:=smO6x44) (v:=?_) rfl gK gK gK (fun _ _ _ h=>h) (Or.inl ⟨by rfl,?_⟩) (by assumption) ?_
   rotate_left
   ·(intro W hSw;(try dsimp only at hSw);try simp only [smO6x44];first|(go_simp;done)|(go_simp;with_reducible rfl))
   try simp only [smO6x44,Act.put,List.setIfInBounds_toArray,List.set_cons_zero,List.set_cons_succ]
   refine wpAnyH_take (i:=45) (oi:=smO6x45) (v:=?_) rfl gK gK gK (fun _ _ _ h=>h) (Or.inl ⟨by rfl,?_⟩) (by assumption) ?_
   rotate_left
   ·(intro W hSw;(try dsimp only at hSw);try simp only [smO6x45];first|(go_simp;done)|(go_simp;with_reducible rfl))
   try simp only [smO6x45,Act.put,List.setIfInBounds_toArray,List.set_cons_zero,List.set_cons_succ]
   refine wpAnyH_take (i:=46) (oi:=smO6x46) (v:=?_) rfl gK gK gK (fun _ _ _ h=>h) (Or.inl ⟨by rfl,?_⟩) (by assumption) ?_
   rotate_left
   ·(intro W hSw;(try dsimp only at hSw);try simp only [smO6x46];first|(go_simp;done)|(go_simp;with_reducible rfl))
   try simp only [smO6x46,Act.put,List.setIfInBounds_toArray,List.set_cons_zero,List.set_cons_succ]
   refine wpAnyH_take (i:=47) (oi:=smO6x47) (v:=?_) rfl gK gK gK (fun _ _ _ h=>h) (Or.inl ⟨by rfl,?_⟩) (by assumption) ?_
   rotate_left
   ·(intro W hSw;(try dsimp only at hSw);have C:=CX.out _ hSw;have D:=DX.out _ hSw;have cl:=C.lt;have dl:=D.lt;obtain ⟨c0,c1,c2,c3,c4,c5,c6,c7⟩:=C;obtain ⟨d0,d1,d2,d3,d4,d5,d6,d7⟩:=D;dsimp only at c0 c1 c2 c3 c4 c5 c6 c7 d0 d1 d2 d3 d4 d5 d6 d7;try simp only [smO6x47];first|(go_simp;done)|(go_simp;with_reducible rfl))
   try simp only [smO6x47,Act.put,List.setIfInBounds_toArray,List.set_cons_zero,List.set_cons_succ]
   refine wpAnyH_ready (rs:=[48]) gK (by simp) ?_
   refine AllReadyH.cons (o:=smO6x48) rfl (fun K hK=>?_) AllReadyH.nil
   try simp only [smO6x48]
   go_simp
   go_wp2_with fail
   have hH2:Below wo.heap.size wo _:=hHeld
   refine (SM _).mono ?_
   rintro e w3 ⟨rfl,b3⟩
   have hb3:Below wo.heap.size wo w3:=z0a hH2 b3
   clear hH2
   refine hK.out _ _ ?_ (fun hHeld=>?_)
   ·((try dsimp only);exact hb3)
   clear hK K
   try simp only [Act.put,sA,sB,sC]
   refine wpAnyH_take (i:=49) (oi:=smO6x49) (v:=?_) rfl gK gK gK (fun _ _ _ h=>h) (Or.inl ⟨by rfl,?_⟩) (by assumption) ?_
   rotate_left
   ·(intro W hSw;(try dsimp only at hSw);try simp only [smO6x49];first|(go_simp;done)|(go_simp;with_reducible rfl))
   try simp only [smO6x49,Act.put,List.setIfInBounds_toArray,List.set_cons_zero,List.set_cons_succ]
   refine wpAnyH_take (i:=50) (oi:=smO6x50) (v:=?_) rfl gK gK gK (fun _ _ _ h=>h) (Or.inl ⟨by rfl,?_⟩) (by assumption) ?_
   rotate_left
   ·(intro W hSw;(try dsimp only at hSw);try simp only [smO6x50];first|(go_simp;done)|(go_simp;with_reducible rfl))
   try simp only [smO6x50,Act.put,List.setIfInBounds_toArray,List.set_cons_zero,List.set_cons_succ]
   refine wpAnyH_take (i:=51) (oi:=smO6x51) (v:=?_) rfl gK gK gK (fun _ _ _ h=>h) (Or.inl ⟨by rfl,?_⟩) (by assumption) ?_
   rotate_left
   ·(intro W hSw;(try dsimp only at hSw);try simp only [smO6x51];first|(go_simp;done)|(go_simp;with_reducible rfl))
   try simp only [smO6x51,Act.put,List.setIfInBounds_toArray,List.set_cons_zero,List.set_cons_succ]
   refine wpAnyH_take (i:=52) (oi:=smO6x52) (v:=?_) rfl gK gK gK (fun _ _ _ h=>h) (Or.inl ⟨by rfl,?_⟩) (by assumption) ?_
   rotate_left
   ·(intro W hSw;(try dsimp only at hSw);try simp only [smO6x52];first|(go_simp;done)|(go_simp;with_reducible rfl))
   try simp only [smO6x52,Act.put,List.setIfInBounds_toArray,List.set_cons_zero,List.set_cons_succ]
   refine wpAnyH_take (i:=53) (oi:=smO6x53) (v:=?_) rfl gK gK gK (fun _ _ _ h=>h) (Or.inl ⟨by rfl,?_⟩) (by assumption) ?_
   rotate_left
   ·(intro W hSw;(try dsimp only at hSw);try simp only [smO6x53];first|(go_simp;done)|(go_simp;with_reducible rfl))
   try simp only [smO6x53,Act.put,List.setIfInBounds_toArray,List.set_cons_zero,List.set_cons_succ]
   refine wpAnyH_take (i:=54) (oi:=smO6x54) (v:=?_) rfl gK gK gK (fun _ _ _ h=>h) (Or.inl ⟨by rfl,?_⟩) (by assumption) ?_
   rotate_left
   ·(intro W hSw;(try dsimp only at hSw);try simp only [smO6x54];first|(go_simp;done)|(go_simp;with_reducible rfl))
   try simp only [smO6x54,Act.put,List.setIfInBounds_toArray,List.set_cons_zero,List.set_cons_succ]
   refine wpAnyH_take (i:=55) (oi:=smO6x55) (v:=?_) rfl gK gK gK (fun _ _ _ h=>h) (Or.inl ⟨by rfl,?_⟩) (by assumption) ?_
   rotate_left
   ·(intro W hSw;(try dsimp only at hSw);try simp only [smO6x55];first|(go_simp;done)|(go_simp;with_reducible rfl))
   try simp only [smO6x55,Act.put,List.setIfInBounds_toArray,List.set_cons_zero,List.set_cons_succ]
   refine wpAnyH_take (i:=56) (oi:=smO6x56) (v:=?_) rfl gK gK gK (fun _ _ _ h=>h) (Or.inl ⟨by rfl,?_⟩) (by assumption) ?_
   rotate_left
   ·(intro W hSw;(try dsimp only at hSw);have C:=CX.out _ hSw;have D:=DX.out _ hSw;have cl:=C.lt;have dl:=D.lt;obtain ⟨c0,c1,c2,c3,c4,c5,c6,c7⟩:=C;obtain ⟨d0,d1,d2,d3,d4,d5,d6,d7⟩:=D;dsimp only at c0 c1 c2 c3 c4 c5 c6 c7 d0 d1 d2 d3 d4 d5 d6 d7;try simp only [smO6x56];first|(go_simp;done)|(go_simp;with_reducible rfl))
   try simp only [smO6x56,Act.put,List.setIfInBounds_toArray,List.set_cons_zero,List.set_cons_succ]
   refine wpAnyH_take (i:=57) (oi:=smO6x57) (v:=?_) rfl gK gK gK (fun _ _ _ h=>h) (Or.inl ⟨by rfl,?_⟩) (by assumption) ?_
   rotate_left
   ·(intro W hSw;(try dsimp only at hSw);try simp only [smO6x57];first|(go_simp;done)|(go_simp;with_reducible rfl))
   try simp only [smO6x57,Act.put,List.setIfInBounds_toArray,List.set_cons_zero,List.set_cons_succ]
   refine wpAnyH_take (i:=58) (oi:=smO6x58) (v:=?_) rfl gK gK gK (fun _ _ _ h=>h) (Or.inl ⟨by rfl,?_⟩) (by assumption) ?_
   rotate_left
   ·(intro W hSw;(try dsimp only at hSw);try simp only [smO6x58];first|(go_simp;done)|(go_simp;with_reducible rfl))
   try simp only [smO6x58,Act.put,List.setIfInBounds_toArray,List.set_cons_zero,List.set_cons_succ]
   refine wpAnyH_take (i:=59) (oi:=smO6x59) (v:=?_) rfl gK gK gK (fun _ _ _ h=>h) (Or.inl ⟨by rfl,?_⟩) (by assumption) ?_
   rotate_left
   ·(intro W hSw;(try dsimp only at hSw);try simp only [smO6x59];first|(go_simp;done)|(go_simp;with_reducible rfl))
   try simp only [smO6x59,Act.put,List.setIfInBounds_toArray,List.set_cons_zero,List.set_cons_succ]
   refine wpAnyH_take (i:=60) (oi:=smO6x60) (v:=?_) rfl gK gK gK (fun _ _ _ h=>h) (Or.inl ⟨by rfl,?_⟩) (by assumption) ?_
   rotate_left
   ·(intro W hSw;(try dsimp only at hSw);try simp only [smO6x60];first|(go_simp;done)|(go_simp;with_reducible rfl))
   try simp only [smO6x60,Act.put,List.setIfInBounds_toArray,List.set_cons_zero,List.set_cons_succ]
   refine wpAnyH_take (i:=61) (oi:=smO6x61) (v:=?_) rfl gK gK gK (fun _ _ _ h=>h) (Or.inl ⟨by rfl,?_⟩) (by assumption) ?_
   rotate_left
   ·(intro W hSw;(try dsimp only at hSw);have C:=CX.out _ hSw;have D:=DX.out _ hSw;have cl:=C.lt;have dl:=D.lt;obtain ⟨c0,c1,c2,c3,c4,c5,c6,c7⟩:=C;obtain ⟨d0,d1,d2,d3,d4,d5,d6,d7⟩:=D;dsimp only at c0 c1 c2 c3 c4 c5 c6 c7 d0 d1 d2 d3 d4 d5 d6 d7;try simp only [smO6x61];first|(go_simp;done)|(go_simp;with_reducible rfl))
   try simp only [smO6x61,Act.put,List.setIfInBounds_toArray,List.set_cons_zero,List.set_cons_succ]
   refine wpAnyH_take (i:=62) (oi:=smO6x62) (v:=?_) rfl gK gK gK (fun _ _ _ h=>h) (Or.inl ⟨by rfl,?_⟩) (by assumption) ?_
   rotate_left
   ·(intro W hSw;(try dsimp only at hSw);try simp only [smO6x62];first|(go_simp;done)|(go_simp;with_reducible rfl))
   try simp only [smO6x62,Act.put,List.setIfInBounds_toArray,List.set_cons_zero,List.set_cons_succ]
   refine wpAnyH_take (i:=63) (oi:=smO6x63) (v:=?_) rfl gK gK gK (fun _ _ _ h=>h) (Or.inl ⟨by rfl,?_⟩) (by assumption) ?_
   rotate_left
   ·(intro W hSw;(try dsimp only at hSw);try simp only [smO6x63];first|(go_simp;done)|(go_simp;with_reducible rfl))
   try simp only [smO6x63,Act.put,List.setIfInBounds_toArray,List.set_cons_zero,List.set_cons_succ]
   refine wpAnyH_done gK ?_ _
   go_wp2
   exact ⟨⟨k+1,by rw [cst1],by omega,z0a hb hb3⟩,by simp [intOf];omega⟩
  ·have hlt':¬ (k:Int)<(n:Int):=by omega
   go_wp2
   go_ret
   exact ⟨rfl,hb⟩
theorem own6_any (ao:Option Addr) (cap:Nat) (xs:List Nd) (w:World) (hv:Nw w ao xs) (hn:xs.length*88≤140737488351232) :
    Calls Tryz.prog 23 #[.slice ao xs.length cap] w fun e w'=>(∃ ao' cap',e=.returned (.slice ao' xs.length cap')∧Nw w' ao' xs∧Nowns w' w.heap.size (.slice ao' xs.length cap') xs)∧Below w.heap.size w w':=by
  obtain ⟨i0,hi,hz0,hz1,hz2⟩:=info_parts infoNd
  obtain ⟨n,hnn⟩:∃ n,xs.length=n:=⟨_,rfl⟩
  rw [hnn] at hn ⊢
  have HN:Hid (xs.length=n):=hnn
  clear hnn
  go_enter Tryz.func23,Tryz.ntmps23
  go_wp2
  go_loopw [3,4] (fun r3 r4 wr=>∃ k:Nat,r4=.int .i64 (k:Int)∧k≤n∧Nowns wr w.heap.size r3 (xs.take k)∧Below w.heap.size w wr) (fun _ r _=>n - (intOf r).toNat)
  case atStart=>exact ⟨0,rfl,Nat.zero_le _,World.ownsRow_nil _ _ _ _,Below.refl _ _⟩
  case round =>
    obtain ⟨k,rfl,hk,ho,hB⟩:=hrel
    have sB:=hB.size
    by_cases hlt:k<n
    · have hlt':(k:Int)<(n:Int):=by omega
      have k0:(0:Int)≤(k:Int):=by omega
      have hkl:k<xs.length:=by rw [HN.out];exact hlt
      obtain ⟨b,off,rfl,hc⟩:=hv (by omega)
      obtain ⟨c0,c1,c2,c3,c4,c5,c6,c7⟩:=((hc k (by omega)).later hB)
      have hg:=(hc k (by omega)).lt
      have hg':b<wr.heap.size:=by omega
      have htk:xs.take (k+1)=xs.take k++[xs[k]]:=List.take_succ_eq_append_getElem hkl
      have hlk:(xs.take k).length=k:=by rw [List.length_take];omega
      obtain ⟨x,he⟩:∃ x:Nd,x=xs[k]:=⟨_,rfl⟩
      rw [← he] at c0 c1 c2 c3 c4 c5 c6 c7 htk
      have HT:Hid (xs.take (k+1)=xs.take k++[x]):=htk
      have HL:Hid ((xs.take k).length=k):=hlk
      have ho':wr.ownsRow w.heap.size 99 8 u3 k (z6f (xs.take k)):=by rw [← hlk];rw [hlk];have:=ho;unfold Nowns at this;rw [hlk] at this;exact this
      obtain ⟨xo,xt,xn,xv,xa⟩:=x
      clear hc he htk hlk ho
      go_wp2_with fail
      go_region_held3 (fun W=>W.cell? ⟨b,off+k*8,none⟩=some (.int .i64 xo)∧W.cell? ⟨b,off+k*8+1,none⟩=some (.string ⟨xt.toArray⟩)∧W.cell? ⟨b,off+k*8+2,none⟩=some (.string ⟨xn.toArray⟩)∧W.cell? ⟨b,off+k*8+3,none⟩=some (.int .i64 xv.k)∧W.cell? ⟨b,off+k*8+4,none⟩=some (.int .i64 xv.n)∧W.cell? ⟨b,off+k*8+5,none⟩=some (.int .i64 xv.m)∧W.cell? ⟨b,off+k*8+6,none⟩=some (.string ⟨xv.b.toArray⟩)∧W.cell? ⟨b,off+k*8+7,none⟩=some (.int .i64 xa))
        (first
          | go_keep
          | (go_split_ands
             refine ⟨?_,?_,?_,?_,?_,?_,?_,?_⟩
             · (rw [hgrow.cell_far _ (by simp;omega) (by intro h;have:=(World.ownsRow.lt ho' _ h.symm).1;simp at this;omega)];assumption)
             · (rw [hgrow.cell_far _ (by simp;omega) (by intro h;have:=(World.ownsRow.lt ho' _ h.symm).1;simp at this;omega)];assumption)
             · (rw [hgrow.cell_far _ (by simp;omega) (by intro h;have:=(World.ownsRow.lt ho' _ h.symm).1;simp at this;omega)];assumption)
             · (rw [hgrow.cell_far _ (by simp;omega) (by intro h;have:=(World.ownsRow.lt ho' _ h.symm).1;simp at this;omega)];assumption)
             · (rw [hgrow.cell_far _ (by simp;omega) (by intro h;have:=(World.ownsRow.lt ho' _ h.symm).1;simp at this;omega)];assumption)
             · (rw [hgrow.cell_far _ (by simp;omega) (by intro h;have:=(World.ownsRow.lt ho' _ h.symm).1;simp at this;omega)];assumption)
             · (rw [hgrow.cell_far _ (by simp;omega) (by intro h;have:=(World.ownsRow.lt ho' _ h.symm).1;simp at this;omega)];assumption)
             · (rw [hgrow.cell_far _ (by simp;omega) (by intro h;have:=(World.ownsRow.lt ho' _ h.symm).1;simp at this;omega)];assumption)))
        ((refine step_append_lies _ (by rfl) _ _ _ (by rfl) w.heap.size 99 i0 _ 8 88 Tryz.underlying54 hi hz0 hz1 hz2 rfl (by omega) _ k (z6f (xs.take k)) (by rfl) ((World.ownsRow.alloc ho' _).drew)
            ⟨wr.heap.size,0,none⟩ 1 1 (ncs ⟨xo,xt,xn,xv,xa⟩).toList (by rfl) (by rfl) (World.news_of_block (cs:=ncs ⟨xo,xt,xn,xv,xa⟩) (t:=99) (fr:=(0,0)) (heap_alloc_new wr _)) (one_nd ⟨xo,xt,xn,xv,xa⟩)
            (by omega) (by unfold maxLen;omega) (by omega) (by simp;omega) (wr.heap.size+1) (by simp) ?_;intro gg cap w2 hown2 hgrow hat hlt1))
      have hb2:Below w.heap.size w w2:=((hB.alloc sB _).drew.grown hgrow (by simp;omega) (fun k hk=>(World.ownsRow.lt ho' k hk).1))
      have ho2:=Nowns.push (x:=⟨xo,xt,xn,xv,xa⟩) hown2 (by rw [HL.out])
      rw [← HT.out] at ho2
      clear hown2 hgrow ho' hat
      go_wp2
      exact ⟨⟨k+1,by rw [z7b],by omega,ho2,hb2⟩,by simp [intOf];omega⟩
    · have hlt':¬ (k:Int)<(n:Int):=by omega
      have hkn:k=n:=by omega
      rw [List.take_of_length_le (by rw [HN.out];omega)] at ho
      obtain ⟨ao',cap',hve,hw⟩:=ho.lies
      rw [HN.out] at hve
      subst hve
      go_wp2
      go_ret
      first|exact ⟨⟨ao',cap',rfl,hw,ho⟩,hB⟩|exact ⟨⟨ao',⟨cap',rfl,ho⟩,hw⟩,hB⟩|exact ⟨⟨ao',hw,cap',rfl,ho⟩,hB⟩
end Go.Proofs.YtibbenhplmmmiaaGreatDoor

namespace Go.Proofs.YtibbenhplmmmiaaGreatDoor
open Go.ChangeShapes Go.RowKit
theorem trodAll_five {H:Type} {enc:TypeId × Value→H} {P:Program} {w:World} {base:Nat} {spare:Nat→Bool} {held:Bool} {t0 t1 t2 t3 t4:TypeId} {args:Array Value} {ds:List (DataW H)} {ps:List MemPlace} (h:DataW.TrodAll enc P w base spare held [t0,t1,t2,t3,t4] args.toList ds ps) :
  ∃ v0 v1 v2 v3 v4 d0 d1 d2 d3 d4 p0 p1 p2 p3 p4,args=#[v0,v1,v2,v3,v4]∧ds=[d0,d1,d2,d3,d4]∧ps=p0++(p1++p2++p3++p4)∧DataW.Trod enc P w base spare held t0 v0 d0 p0∧DataW.Trod enc P w base spare held t1 v1 d1 p1∧DataW.Trod enc P w base spare held t2 v2 d2 p2∧DataW.Trod enc P w base spare held t3 v3 d3 p3∧DataW.Trod enc P w base spare held t4 v4 d4 p4:=by
 obtain ⟨v0,vs,d0,es,p0,q,ha,rfl,rfl,h0,hr⟩:=trodAll_cons h
 have hr':DataW.TrodAll enc P w base spare held [t1,t2,t3,t4] vs.toArray.toList es q:=by simpa using hr
 obtain ⟨v1,v2,v3,v4,d1,d2,d3,d4,p1,p2,p3,p4,hv,rfl,rfl,h1,h2,h3,h4⟩:=trodAll_four hr'
 refine ⟨v0,v1,v2,v3,v4,d0,d1,d2,d3,d4,p0,p1,p2,p3,p4,?_,rfl,rfl,h0,h1,h2,h3,h4⟩
 have e:vs=[v1,v2,v3,v4]:=by simpa using congrArg Array.toList hv
 rw [e] at ha
 exact Array.toList_inj.1 ha
theorem trodAll_mk5 {H:Type} {enc:TypeId × Value→H} {P:Program} {w:World} {base:Nat} {spare:Nat→Bool} {held:Bool} {t0 t1 t2 t3 t4:TypeId} {v0 v1 v2 v3 v4:Value} {d0 d1 d2 d3 d4:DataW H} {p0 p1 p2 p3 p4:List MemPlace} (h0:DataW.Trod enc P w base spare held t0 v0 d0 p0) (h1:DataW.Trod enc P w base spare held t1 v1 d1 p1)
  (h2:DataW.Trod enc P w base spare held t2 v2 d2 p2) (h3:DataW.Trod enc P w base spare held t3 v3 d3 p3) (h4:DataW.Trod enc P w base spare held t4 v4 d4 p4):DataW.TrodAll enc P w base spare held [t0,t1,t2,t3,t4] [v0,v1,v2,v3,v4] [d0,d1,d2,d3,d4] (p0++(p1++(p2++(p3++p4)))) :=
 ⟨p0,p1++(p2++(p3++p4)),h0,trodAll_mk4 h1 h2 h3 h4,rfl⟩
end Go.Proofs.YtibbenhplmmmiaaGreatDoor

namespace Go.Proofs.YtibbenhplmmmiaaGreatDoor
open Go.ChangeShapes Go.WideShapes Go.ChangeAt Go.WideMaps Go.WideElems Go.RowKit Go.Shelf Go.Lib
theorem xal_b:joinedFacts Tryz.pinned.checked.prog 5 Tryz.f5 Rows.evalAllSpec Rows.evalAllRow=true:=by kernel_rfl
end Go.Proofs.YtibbenhplmmmiaaGreatDoor
