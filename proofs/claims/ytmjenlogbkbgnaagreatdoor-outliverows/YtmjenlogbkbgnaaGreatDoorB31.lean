import Derived.Test.YtmjenlogbkbgnaaGreatDoorC19
namespace Go.Proofs.YtmjenlogbkbgnaaGreatDoor
open Go.RowKit Go.Shelf
set_option linter.unusedVariables false
set_option linter.unusedSimpArgs false
set_option maxRecDepth 100000
set_option maxHeartbeats 1000000
theorem Tryz.results53:Tryz.f53.results=#[.cell 0 43]:=rfl
theorem Tryz.results54:Tryz.f54.results=#[.cell 2 43]:=rfl
theorem Tryz.results55:Tryz.f55.results=#[.cell 2 115]:=rfl
theorem Tryz.results24:Tryz.f24.results=#[.cell 0 25]:=rfl
theorem i64_any (w:World):Calls Tryz.prog 53 #[] w fun e w'=>e=.returned (tyV 1 false 0 0 none 0 0)∧Below w.heap.size w w':=by
 go_enter Tryz.func53,Tryz.ntmps53
 go_wp2_with fail
 exact bodyPost_ret (results_c1 (g:=⟨1,false,0,0,none,0,0⟩) Tryz.results53 rfl (At.new w (Fv.o ⟨1,false,0,0,none,0,0⟩)).ty) rfl ⟨rfl,belA bR⟩
theorem ref_any (w:World) (m:Bool):Calls Tryz.prog 54 #[.bool m] w fun e w'=>∃ br,e=.returned (tyV 4 m (-1) 0 (some ⟨br,0,none⟩) 1 1)∧At w' br (Fv.o ⟨1,false,0,0,none,0,0⟩)∧w.heap.size≤br∧Below w.heap.size w w':=by
 have C:=jH (i64_any (w.alloc zT.o))
 have A2:=jH (At.new w zT.o)
 go_enter Tryz.func54,Tryz.ntmps54
 go_wp2_with (go_at_call 53;refine C.out.mono ?_;rintro e w1 ⟨rfl,hb1⟩;have HB1:=jH hb1;have B4:=A2.out.below hb1;have g0:=B4.tyF 0;have g1:=B4.tyF 1;have g2:=B4.tyF 2;have g3:=B4.tyF 3;have g4:=B4.tyF 4;obtain ⟨hl4,q0,q1,q2,q3,q4⟩:=B4.ty;simp only [Nat.zero_add] at q0 q1 q2 q3 q4;clear hb1)
 have hB:Below w.heap.size w w1:=below1 HB1.out
 have F1:C5 ((S5 w1 w.heap.size ⟨4,m,-1,0,some ⟨w1.heap.size,0,none⟩,1,1⟩).alloc (Fv.o ⟨1,false,0,0,none,0,0⟩)) w.heap.size 0 ⟨4,m,-1,0,some ⟨w1.heap.size,0,none⟩,1,1⟩:=((B4.set5 _).alloc _).ty
 have F2:At ((S5 w1 w.heap.size ⟨4,m,-1,0,some ⟨w1.heap.size,0,none⟩,1,1⟩).alloc (Fv.o ⟨1,false,0,0,none,0,0⟩)) w1.heap.size (Fv.o ⟨1,false,0,0,none,0,0⟩):=by
  have:=At.new (S5 w1 w.heap.size ⟨4,m,-1,0,some ⟨w1.heap.size,0,none⟩,1,1⟩) (Fv.o ⟨1,false,0,0,none,0,0⟩)
  rw [size_S5] at this
  exact this
 have F3:Below w.heap.size w ((S5 w1 w.heap.size ⟨4,m,-1,0,some ⟨w1.heap.size,0,none⟩,1,1⟩).alloc (Fv.o ⟨1,false,0,0,none,0,0⟩)):=belA (below_s5 hB (Nat.le_refl _) _)
 have hz:=hB.size
 change bodyPost _ _ _ _ _ ((S5 w1 w.heap.size ⟨4,m,-1,0,some ⟨w1.heap.size,0,none⟩,1,1⟩).alloc (Fv.o ⟨1,false,0,0,none,0,0⟩))
 generalize ((S5 w1 w.heap.size ⟨4,m,-1,0,some ⟨w1.heap.size,0,none⟩,1,1⟩).alloc (Fv.o ⟨1,false,0,0,none,0,0⟩))=W9 at F1 F2 F3 ⊢
 exact bodyPost_ret (results_c1 (g:=⟨4,m,-1,0,some ⟨w1.heap.size,0,none⟩,1,1⟩) Tryz.results54 rfl F1) rfl ⟨w1.heap.size,rfl,F2,hz,F3⟩
theorem results_o1 {fn:Func} {i:Nat} (h:fn.results=#[.cell i 115]) {tmps:Array Value} {W:World} {b4 k m cap:Nat} {n l:Int} {a:Option Addr} (ht:tmps.getD i undef=.pointer (some ⟨b4,0,none⟩)) (hC:At W b4 (oO k n l a m cap)):(results fn tmps).run Tryz.prog W=.ok (oV k n l a m cap) W:=by
 unfold At at hC
 have ht2:tmps[i]?.getD undef=.pointer (some ⟨b4,0,none⟩):=by rw [← ht];simp
 have e0:W.cell? ⟨b4,0,none⟩=some (.int .u8 (k:Int)):=by simp [World.cell?,hC]
 have e1:W.cell? ⟨b4,1,none⟩=some (.int .i64 n):=by simp [World.cell?,hC]
 have e2:W.cell? ⟨b4,2,none⟩=some (.int .i64 l):=by simp [World.cell?,hC]
 have e3:W.cell? ⟨b4,3,none⟩=some (.slice a m cap):=by simp [World.cell?,hC]
 simp only [results,h]
 simp [go_sem,ht2,e0,e1,e2,e3]
theorem con_any (w:World) (n:Int):Calls Tryz.prog 55 #[.int .i64 n] w fun e w'=>e=.returned (.agg #[.int .u8 1,.int .i64 n,.int .i64 0,.slice none 0 0])∧Below w.heap.size w w':=by
 go_enter Tryz.func55,Tryz.ntmps55
 go_wp2_with fail
 exact bodyPost_ret (results_o1 Tryz.results55 rfl (At.new w (oO 1 n 0 none 0 0))) rfl ⟨rfl,belA bR⟩
theorem wp_val {o:Oper} {a:Act} {w w':World} {K:Act→World→Prop} {Q:Exit→Act→World→Prop} {v:Value} (hr:(execOp a.eval o).run Tryz.prog w=.ok (.value v) w') (h:K (a.put o.dst v) w'):Oper.wp Tryz.prog o a w K Q:=by
 unfold Oper.wp
 rw [hr]
 exact h
end Go.Proofs.YtmjenlogbkbgnaaGreatDoor
