import Derived.Test.YtmjenlogbkbgnaaGreatDoorC12
import Derived.Test.YtmjenlogbkbgnaaGreatDoorC13
import Derived.Test.YtmjenlogbkbgnaaGreatDoorC14
import Derived.Test.YtmjenlogbkbgnaaGreatDoorC15
namespace Go.Proofs.YtmjenlogbkbgnaaGreatDoor
open Go.RowKit Go.Shelf
set_option linter.unusedVariables false
set_option linter.unusedSimpArgs false
set_option maxRecDepth 100000
set_option maxHeartbeats 8000000
theorem typeOf_1 (w0 w:World) (b:Nat) (n l:Int) (a:Option Addr) (m cap:Nat) (R:Option Ch) (hR:R=if (decide (l=0) && decide (m=0)) then some (.leaf 1 0) else none) :
  Calls Tryz.prog 215 #[.pointer (some ⟨b,0,none⟩),oV 1 n l a m cap] w fun e w'=>TyPost R w0 e∧Below w.heap.size w w':=by
 have HW:=jH (TV.start w 1 n l a m cap zT)
 obtain ⟨b0,hb0⟩:∃ b0,b0=(decide (l=0) && decide (m=0)):=⟨_,rfl⟩
 have C188:Hid (∀ W,Calls Tryz.prog 212 #[plV l a m cap] W fun e w'=>e=.returned (.bool b0)∧Below W.heap.size W w'):=fun W=>noPlace_any _ _ _ _ W b0 hb0
 rw [← hb0] at hR
 clear hb0
 show Calls Tryz.prog 215 #[.pointer (some ⟨b,0,none⟩),.agg #[.int .u8 1,.int .i64 n,.int .i64 l,.slice a m cap]] w _
 cases b0 with
 | true =>
  have hR2:R=some (.leaf 1 0):=hR
  subst hR2
  clear hR
  go_enter Tryz.func215,Tryz.ntmps215
  go_wp2_with (first
   | (go_at_call 212;refine (C188.out _).mono ?_;rintro e w1 ⟨rfl,hb1⟩;have H1:=jH (HW.out.aft hb1);clear hb1)
   | ((with_reducible show wpList _ _ _ (Oper.mk none (Op.store 43 _ _) _ _ _ none::_) _ _);refine wpl_storeT1 (w.heap.size+1) zT ⟨1,false,0,0,none,0,0⟩ H1.out.a4 rfl rfl ?_;intro HFw hA9 hB9;have HF:=jH (H1.out.st hA9 hB9);clear hA9 hB9))
  exact bodyPost_ret (results_c2 (g:=⟨1,false,0,0,none,0,0⟩) Tryz.results215 rfl rfl HF.out.a4.ty) rfl ⟨⟨⟨1,false,0,0,none,0,0⟩,rfl,TyAt.mkLeaf 1 0 (by decide) (by decide) (by decide) none 0⟩,HF.out.bel⟩
 | false =>
  have hR2:R=none:=hR
  subst hR2
  clear hR
  go_enter Tryz.func215,Tryz.ntmps215
  go_wp2_with (first
   | (go_at_call 212;refine (C188.out _).mono ?_;rintro e w1 ⟨rfl,hb1⟩;have H1:=jH (HW.out.aft hb1);clear hb1)
   | ((with_reducible show wpList _ _ _ (Oper.mk none (Op.store 43 _ _) _ _ _ none::_) _ _);refine wpl_storeT1 (w.heap.size+1) zT ⟨1,false,0,0,none,0,0⟩ H1.out.a4 rfl rfl ?_;intro HFw hA9 hB9;have HF:=jH (H1.out.st hA9 hB9);clear hA9 hB9))
  exact bodyPost_ret (results_c2 (g:=⟨1,false,0,0,none,0,0⟩) Tryz.results215 rfl rfl HF.out.a4.ty) rfl ⟨⟨⟨1,false,0,0,none,0,0⟩,rfl⟩,HF.out.bel⟩
end Go.Proofs.YtmjenlogbkbgnaaGreatDoor
