import Derived.Test.YtahdnfogdnondaaGreatDoorF
namespace Go.Proofs.YtahdnfogdnondaaGreatDoor
open Go.RowKit
set_option linter.unusedVariables false
set_option linter.unusedSimpArgs false

def kExprR (k : Nat) : Bool := decide ((24 ≤ k ∧ k ≤ 37) ∧ k ≠ 35)
set_option maxRecDepth 100000 in
theorem isItem_any (k : Nat) (w : World) : Calls Tryz.prog 132 #[.int .u8 (k : Int)] w fun e w' => e = .returned (.bool (kItem k)) ∧ w' = w := by
  by_cases h2e : k = 2
  · by_cases h4e : k = 4
    · have i2e : ((k : Int) == 2) = true := by simpa using (by omega : (k : Int) = 2)
      have j2e : (k == 2) = true := by simpa using h2e
      have i4e : ((k : Int) == 4) = true := by simpa using (by omega : (k : Int) = 4)
      have j4e : (k == 4) = true := by simpa using h4e
      first
        | (exfalso; omega)
        | (have e1 : kItem k = true := by unfold kItem; first | (apply decide_eq_true; omega) | (apply decide_eq_false; omega)
           rw [e1]
           go_enter Tryz.func132, Tryz.ntmps132
           go_wp2
           go_ret
           first | exact ⟨rfl, rfl⟩ | exact ⟨by simp_all, rfl⟩)
        | (have e1 : kItem k = false := by unfold kItem; first | (apply decide_eq_true; omega) | (apply decide_eq_false; omega)
           rw [e1]
           go_enter Tryz.func132, Tryz.ntmps132
           go_wp2
           go_ret
           first | exact ⟨rfl, rfl⟩ | exact ⟨by simp_all, rfl⟩)
    · have i2e : ((k : Int) == 2) = true := by simpa using (by omega : (k : Int) = 2)
      have j2e : (k == 2) = true := by simpa using h2e
      have i4e : ((k : Int) == 4) = false := by simpa using (by omega : ¬ (k : Int) = 4)
      have j4e : (k == 4) = false := by simpa using h4e
      first
        | (exfalso; omega)
        | (have e1 : kItem k = true := by unfold kItem; first | (apply decide_eq_true; omega) | (apply decide_eq_false; omega)
           rw [e1]
           go_enter Tryz.func132, Tryz.ntmps132
           go_wp2
           go_ret
           first | exact ⟨rfl, rfl⟩ | exact ⟨by simp_all, rfl⟩)
        | (have e1 : kItem k = false := by unfold kItem; first | (apply decide_eq_true; omega) | (apply decide_eq_false; omega)
           rw [e1]
           go_enter Tryz.func132, Tryz.ntmps132
           go_wp2
           go_ret
           first | exact ⟨rfl, rfl⟩ | exact ⟨by simp_all, rfl⟩)
  · by_cases h4e : k = 4
    · have i2e : ((k : Int) == 2) = false := by simpa using (by omega : ¬ (k : Int) = 2)
      have j2e : (k == 2) = false := by simpa using h2e
      have i4e : ((k : Int) == 4) = true := by simpa using (by omega : (k : Int) = 4)
      have j4e : (k == 4) = true := by simpa using h4e
      first
        | (exfalso; omega)
        | (have e1 : kItem k = true := by unfold kItem; first | (apply decide_eq_true; omega) | (apply decide_eq_false; omega)
           rw [e1]
           go_enter Tryz.func132, Tryz.ntmps132
           go_wp2
           go_ret
           first | exact ⟨rfl, rfl⟩ | exact ⟨by simp_all, rfl⟩)
        | (have e1 : kItem k = false := by unfold kItem; first | (apply decide_eq_true; omega) | (apply decide_eq_false; omega)
           rw [e1]
           go_enter Tryz.func132, Tryz.ntmps132
           go_wp2
           go_ret
           first | exact ⟨rfl, rfl⟩ | exact ⟨by simp_all, rfl⟩)
    · have i2e : ((k : Int) == 2) = false := by simpa using (by omega : ¬ (k : Int) = 2)
      have j2e : (k == 2) = false := by simpa using h2e
      have i4e : ((k : Int) == 4) = false := by simpa using (by omega : ¬ (k : Int) = 4)
      have j4e : (k == 4) = false := by simpa using h4e
      first
        | (exfalso; omega)
        | (have e1 : kItem k = true := by unfold kItem; first | (apply decide_eq_true; omega) | (apply decide_eq_false; omega)
           rw [e1]
           go_enter Tryz.func132, Tryz.ntmps132
           go_wp2
           go_ret
           first | exact ⟨rfl, rfl⟩ | exact ⟨by simp_all, rfl⟩)
        | (have e1 : kItem k = false := by unfold kItem; first | (apply decide_eq_true; omega) | (apply decide_eq_false; omega)
           rw [e1]
           go_enter Tryz.func132, Tryz.ntmps132
           go_wp2
           go_ret
           first | exact ⟨rfl, rfl⟩ | exact ⟨by simp_all, rfl⟩)
set_option maxRecDepth 100000 in
theorem isType_any (k : Nat) (w : World) : Calls Tryz.prog 136 #[.int .u8 (k : Int)] w fun e w' => e = .returned (.bool (kType k)) ∧ w' = w := by
  by_cases h8g : 8 ≤ k
  · by_cases h12l : k ≤ 12
    · have i8g : (8 : Int) ≤ (k : Int) := by omega
      have j8g : decide ((8 : Int) ≤ (k : Int)) = true := decide_eq_true i8g
      have i12l : (k : Int) ≤ 12 := by omega
      have j12l : decide ((k : Int) ≤ 12) = true := decide_eq_true i12l
      first
        | (exfalso; omega)
        | (have e1 : kType k = true := by unfold kType; first | (apply decide_eq_true; omega) | (apply decide_eq_false; omega)
           rw [e1]
           go_enter Tryz.func136, Tryz.ntmps136
           go_wp2
           go_ret
           first | exact ⟨rfl, rfl⟩ | exact ⟨by simp_all, rfl⟩)
        | (have e1 : kType k = false := by unfold kType; first | (apply decide_eq_true; omega) | (apply decide_eq_false; omega)
           rw [e1]
           go_enter Tryz.func136, Tryz.ntmps136
           go_wp2
           go_ret
           first | exact ⟨rfl, rfl⟩ | exact ⟨by simp_all, rfl⟩)
    · have i8g : (8 : Int) ≤ (k : Int) := by omega
      have j8g : decide ((8 : Int) ≤ (k : Int)) = true := decide_eq_true i8g
      have i12l : ¬ (k : Int) ≤ 12 := by omega
      have j12l : decide ((k : Int) ≤ 12) = false := decide_eq_false i12l
      first
        | (exfalso; omega)
        | (have e1 : kType k = true := by unfold kType; first | (apply decide_eq_true; omega) | (apply decide_eq_false; omega)
           rw [e1]
           go_enter Tryz.func136, Tryz.ntmps136
           go_wp2
           go_ret
           first | exact ⟨rfl, rfl⟩ | exact ⟨by simp_all, rfl⟩)
        | (have e1 : kType k = false := by unfold kType; first | (apply decide_eq_true; omega) | (apply decide_eq_false; omega)
           rw [e1]
           go_enter Tryz.func136, Tryz.ntmps136
           go_wp2
           go_ret
           first | exact ⟨rfl, rfl⟩ | exact ⟨by simp_all, rfl⟩)
  · by_cases h12l : k ≤ 12
    · have i8g : ¬ (8 : Int) ≤ (k : Int) := by omega
      have j8g : decide ((8 : Int) ≤ (k : Int)) = false := decide_eq_false i8g
      have i12l : (k : Int) ≤ 12 := by omega
      have j12l : decide ((k : Int) ≤ 12) = true := decide_eq_true i12l
      first
        | (exfalso; omega)
        | (have e1 : kType k = true := by unfold kType; first | (apply decide_eq_true; omega) | (apply decide_eq_false; omega)
           rw [e1]
           go_enter Tryz.func136, Tryz.ntmps136
           go_wp2
           go_ret
           first | exact ⟨rfl, rfl⟩ | exact ⟨by simp_all, rfl⟩)
        | (have e1 : kType k = false := by unfold kType; first | (apply decide_eq_true; omega) | (apply decide_eq_false; omega)
           rw [e1]
           go_enter Tryz.func136, Tryz.ntmps136
           go_wp2
           go_ret
           first | exact ⟨rfl, rfl⟩ | exact ⟨by simp_all, rfl⟩)
    · have i8g : ¬ (8 : Int) ≤ (k : Int) := by omega
      have j8g : decide ((8 : Int) ≤ (k : Int)) = false := decide_eq_false i8g
      have i12l : ¬ (k : Int) ≤ 12 := by omega
      have j12l : decide ((k : Int) ≤ 12) = false := decide_eq_false i12l
      first
        | (exfalso; omega)
        | (have e1 : kType k = true := by unfold kType; first | (apply decide_eq_true; omega) | (apply decide_eq_false; omega)
           rw [e1]
           go_enter Tryz.func136, Tryz.ntmps136
           go_wp2
           go_ret
           first | exact ⟨rfl, rfl⟩ | exact ⟨by simp_all, rfl⟩)
        | (have e1 : kType k = false := by unfold kType; first | (apply decide_eq_true; omega) | (apply decide_eq_false; omega)
           rw [e1]
           go_enter Tryz.func136, Tryz.ntmps136
           go_wp2
           go_ret
           first | exact ⟨rfl, rfl⟩ | exact ⟨by simp_all, rfl⟩)
set_option maxRecDepth 100000 in
theorem isStmt_any (k : Nat) (w : World) : Calls Tryz.prog 137 #[.int .u8 (k : Int)] w fun e w' => e = .returned (.bool (kStmt k)) ∧ w' = w := by
  by_cases h14g : 14 ≤ k
  · by_cases h23l : k ≤ 23
    · by_cases h13e : k = 13
      · have i14g : (14 : Int) ≤ (k : Int) := by omega
        have j14g : decide ((14 : Int) ≤ (k : Int)) = true := decide_eq_true i14g
        have i23l : (k : Int) ≤ 23 := by omega
        have j23l : decide ((k : Int) ≤ 23) = true := decide_eq_true i23l
        have i13e : ((k : Int) == 13) = true := by simpa using (by omega : (k : Int) = 13)
        have j13e : (k == 13) = true := by simpa using h13e
        first
          | (exfalso; omega)
          | (have e1 : kStmt k = true := by unfold kStmt; first | (apply decide_eq_true; omega) | (apply decide_eq_false; omega)
             rw [e1]
             go_enter Tryz.func137, Tryz.ntmps137
             go_wp2
             go_ret
             first | exact ⟨rfl, rfl⟩ | exact ⟨by simp_all, rfl⟩)
          | (have e1 : kStmt k = false := by unfold kStmt; first | (apply decide_eq_true; omega) | (apply decide_eq_false; omega)
             rw [e1]
             go_enter Tryz.func137, Tryz.ntmps137
             go_wp2
             go_ret
             first | exact ⟨rfl, rfl⟩ | exact ⟨by simp_all, rfl⟩)
      · have i14g : (14 : Int) ≤ (k : Int) := by omega
        have j14g : decide ((14 : Int) ≤ (k : Int)) = true := decide_eq_true i14g
        have i23l : (k : Int) ≤ 23 := by omega
        have j23l : decide ((k : Int) ≤ 23) = true := decide_eq_true i23l
        have i13e : ((k : Int) == 13) = false := by simpa using (by omega : ¬ (k : Int) = 13)
        have j13e : (k == 13) = false := by simpa using h13e
        first
          | (exfalso; omega)
          | (have e1 : kStmt k = true := by unfold kStmt; first | (apply decide_eq_true; omega) | (apply decide_eq_false; omega)
             rw [e1]
             go_enter Tryz.func137, Tryz.ntmps137
             go_wp2
             go_ret
             first | exact ⟨rfl, rfl⟩ | exact ⟨by simp_all, rfl⟩)
          | (have e1 : kStmt k = false := by unfold kStmt; first | (apply decide_eq_true; omega) | (apply decide_eq_false; omega)
             rw [e1]
             go_enter Tryz.func137, Tryz.ntmps137
             go_wp2
             go_ret
             first | exact ⟨rfl, rfl⟩ | exact ⟨by simp_all, rfl⟩)
    · by_cases h13e : k = 13
      · have i14g : (14 : Int) ≤ (k : Int) := by omega
        have j14g : decide ((14 : Int) ≤ (k : Int)) = true := decide_eq_true i14g
        have i23l : ¬ (k : Int) ≤ 23 := by omega
        have j23l : decide ((k : Int) ≤ 23) = false := decide_eq_false i23l
        have i13e : ((k : Int) == 13) = true := by simpa using (by omega : (k : Int) = 13)
        have j13e : (k == 13) = true := by simpa using h13e
        first
          | (exfalso; omega)
          | (have e1 : kStmt k = true := by unfold kStmt; first | (apply decide_eq_true; omega) | (apply decide_eq_false; omega)
             rw [e1]
             go_enter Tryz.func137, Tryz.ntmps137
             go_wp2
             go_ret
             first | exact ⟨rfl, rfl⟩ | exact ⟨by simp_all, rfl⟩)
          | (have e1 : kStmt k = false := by unfold kStmt; first | (apply decide_eq_true; omega) | (apply decide_eq_false; omega)
             rw [e1]
             go_enter Tryz.func137, Tryz.ntmps137
             go_wp2
             go_ret
             first | exact ⟨rfl, rfl⟩ | exact ⟨by simp_all, rfl⟩)
      · have i14g : (14 : Int) ≤ (k : Int) := by omega
        have j14g : decide ((14 : Int) ≤ (k : Int)) = true := decide_eq_true i14g
        have i23l : ¬ (k : Int) ≤ 23 := by omega
        have j23l : decide ((k : Int) ≤ 23) = false := decide_eq_false i23l
        have i13e : ((k : Int) == 13) = false := by simpa using (by omega : ¬ (k : Int) = 13)
        have j13e : (k == 13) = false := by simpa using h13e
        first
          | (exfalso; omega)
          | (have e1 : kStmt k = true := by unfold kStmt; first | (apply decide_eq_true; omega) | (apply decide_eq_false; omega)
             rw [e1]
             go_enter Tryz.func137, Tryz.ntmps137
             go_wp2
             go_ret
             first | exact ⟨rfl, rfl⟩ | exact ⟨by simp_all, rfl⟩)
          | (have e1 : kStmt k = false := by unfold kStmt; first | (apply decide_eq_true; omega) | (apply decide_eq_false; omega)
             rw [e1]
             go_enter Tryz.func137, Tryz.ntmps137
             go_wp2
             go_ret
             first | exact ⟨rfl, rfl⟩ | exact ⟨by simp_all, rfl⟩)
  · by_cases h23l : k ≤ 23
    · by_cases h13e : k = 13
      · have i14g : ¬ (14 : Int) ≤ (k : Int) := by omega
        have j14g : decide ((14 : Int) ≤ (k : Int)) = false := decide_eq_false i14g
        have i23l : (k : Int) ≤ 23 := by omega
        have j23l : decide ((k : Int) ≤ 23) = true := decide_eq_true i23l
        have i13e : ((k : Int) == 13) = true := by simpa using (by omega : (k : Int) = 13)
        have j13e : (k == 13) = true := by simpa using h13e
        first
          | (exfalso; omega)
          | (have e1 : kStmt k = true := by unfold kStmt; first | (apply decide_eq_true; omega) | (apply decide_eq_false; omega)
             rw [e1]
             go_enter Tryz.func137, Tryz.ntmps137
             go_wp2
             go_ret
             first | exact ⟨rfl, rfl⟩ | exact ⟨by simp_all, rfl⟩)
          | (have e1 : kStmt k = false := by unfold kStmt; first | (apply decide_eq_true; omega) | (apply decide_eq_false; omega)
             rw [e1]
             go_enter Tryz.func137, Tryz.ntmps137
             go_wp2
             go_ret
             first | exact ⟨rfl, rfl⟩ | exact ⟨by simp_all, rfl⟩)
      · have i14g : ¬ (14 : Int) ≤ (k : Int) := by omega
        have j14g : decide ((14 : Int) ≤ (k : Int)) = false := decide_eq_false i14g
        have i23l : (k : Int) ≤ 23 := by omega
        have j23l : decide ((k : Int) ≤ 23) = true := decide_eq_true i23l
        have i13e : ((k : Int) == 13) = false := by simpa using (by omega : ¬ (k : Int) = 13)
        have j13e : (k == 13) = false := by simpa using h13e
        first
          | (exfalso; omega)
          | (have e1 : kStmt k = true := by unfold kStmt; first | (apply decide_eq_true; omega) | (apply decide_eq_false; omega)
             rw [e1]
             go_enter Tryz.func137, Tryz.ntmps137
             go_wp2
             go_ret
             first | exact ⟨rfl, rfl⟩ | exact ⟨by simp_all, rfl⟩)
          | (have e1 : kStmt k = false := by unfold kStmt; first | (apply decide_eq_true; omega) | (apply decide_eq_false; omega)
             rw [e1]
             go_enter Tryz.func137, Tryz.ntmps137
             go_wp2
             go_ret
             first | exact ⟨rfl, rfl⟩ | exact ⟨by simp_all, rfl⟩)
    · by_cases h13e : k = 13
      · have i14g : ¬ (14 : Int) ≤ (k : Int) := by omega
        have j14g : decide ((14 : Int) ≤ (k : Int)) = false := decide_eq_false i14g
        have i23l : ¬ (k : Int) ≤ 23 := by omega
        have j23l : decide ((k : Int) ≤ 23) = false := decide_eq_false i23l
        have i13e : ((k : Int) == 13) = true := by simpa using (by omega : (k : Int) = 13)
        have j13e : (k == 13) = true := by simpa using h13e
        first
          | (exfalso; omega)
          | (have e1 : kStmt k = true := by unfold kStmt; first | (apply decide_eq_true; omega) | (apply decide_eq_false; omega)
             rw [e1]
             go_enter Tryz.func137, Tryz.ntmps137
             go_wp2
             go_ret
             first | exact ⟨rfl, rfl⟩ | exact ⟨by simp_all, rfl⟩)
          | (have e1 : kStmt k = false := by unfold kStmt; first | (apply decide_eq_true; omega) | (apply decide_eq_false; omega)
             rw [e1]
             go_enter Tryz.func137, Tryz.ntmps137
             go_wp2
             go_ret
             first | exact ⟨rfl, rfl⟩ | exact ⟨by simp_all, rfl⟩)
      · have i14g : ¬ (14 : Int) ≤ (k : Int) := by omega
        have j14g : decide ((14 : Int) ≤ (k : Int)) = false := decide_eq_false i14g
        have i23l : ¬ (k : Int) ≤ 23 := by omega
        have j23l : decide ((k : Int) ≤ 23) = false := decide_eq_false i23l
        have i13e : ((k : Int) == 13) = false := by simpa using (by omega : ¬ (k : Int) = 13)
        have j13e : (k == 13) = false := by simpa using h13e
        first
          | (exfalso; omega)
          | (have e1 : kStmt k = true := by unfold kStmt; first | (apply decide_eq_true; omega) | (apply decide_eq_false; omega)
             rw [e1]
             go_enter Tryz.func137, Tryz.ntmps137
             go_wp2
             go_ret
             first | exact ⟨rfl, rfl⟩ | exact ⟨by simp_all, rfl⟩)
          | (have e1 : kStmt k = false := by unfold kStmt; first | (apply decide_eq_true; omega) | (apply decide_eq_false; omega)
             rw [e1]
             go_enter Tryz.func137, Tryz.ntmps137
             go_wp2
             go_ret
             first | exact ⟨rfl, rfl⟩ | exact ⟨by simp_all, rfl⟩)
set_option maxRecDepth 100000 in
theorem isExpr_any (k : Nat) (w : World) : Calls Tryz.prog 140 #[.int .u8 (k : Int)] w fun e w' => e = .returned (.bool (kExpr k)) ∧ w' = w := by
  by_cases h24g : 24 ≤ k
  · by_cases h35e : k = 35
    · have i24g : (24 : Int) ≤ (k : Int) := by omega
      have j24g : decide ((24 : Int) ≤ (k : Int)) = true := decide_eq_true i24g
      have i35e : ((k : Int) == 35) = true := by simpa using (by omega : (k : Int) = 35)
      have j35e : (k == 35) = true := by simpa using h35e
      first
        | (exfalso; omega)
        | (have e1 : kExpr k = true := by unfold kExpr; first | (apply decide_eq_true; omega) | (apply decide_eq_false; omega)
           rw [e1]
           go_enter Tryz.func140, Tryz.ntmps140
           go_wp2
           go_ret
           first | exact ⟨rfl, rfl⟩ | exact ⟨by simp_all, rfl⟩)
        | (have e1 : kExpr k = false := by unfold kExpr; first | (apply decide_eq_true; omega) | (apply decide_eq_false; omega)
           rw [e1]
           go_enter Tryz.func140, Tryz.ntmps140
           go_wp2
           go_ret
           first | exact ⟨rfl, rfl⟩ | exact ⟨by simp_all, rfl⟩)
    · have i24g : (24 : Int) ≤ (k : Int) := by omega
      have j24g : decide ((24 : Int) ≤ (k : Int)) = true := decide_eq_true i24g
      have i35e : ((k : Int) == 35) = false := by simpa using (by omega : ¬ (k : Int) = 35)
      have j35e : (k == 35) = false := by simpa using h35e
      first
        | (exfalso; omega)
        | (have e1 : kExpr k = true := by unfold kExpr; first | (apply decide_eq_true; omega) | (apply decide_eq_false; omega)
           rw [e1]
           go_enter Tryz.func140, Tryz.ntmps140
           go_wp2
           go_ret
           first | exact ⟨rfl, rfl⟩ | exact ⟨by simp_all, rfl⟩)
        | (have e1 : kExpr k = false := by unfold kExpr; first | (apply decide_eq_true; omega) | (apply decide_eq_false; omega)
           rw [e1]
           go_enter Tryz.func140, Tryz.ntmps140
           go_wp2
           go_ret
           first | exact ⟨rfl, rfl⟩ | exact ⟨by simp_all, rfl⟩)
  · by_cases h35e : k = 35
    · have i24g : ¬ (24 : Int) ≤ (k : Int) := by omega
      have j24g : decide ((24 : Int) ≤ (k : Int)) = false := decide_eq_false i24g
      have i35e : ((k : Int) == 35) = true := by simpa using (by omega : (k : Int) = 35)
      have j35e : (k == 35) = true := by simpa using h35e
      first
        | (exfalso; omega)
        | (have e1 : kExpr k = true := by unfold kExpr; first | (apply decide_eq_true; omega) | (apply decide_eq_false; omega)
           rw [e1]
           go_enter Tryz.func140, Tryz.ntmps140
           go_wp2
           go_ret
           first | exact ⟨rfl, rfl⟩ | exact ⟨by simp_all, rfl⟩)
        | (have e1 : kExpr k = false := by unfold kExpr; first | (apply decide_eq_true; omega) | (apply decide_eq_false; omega)
           rw [e1]
           go_enter Tryz.func140, Tryz.ntmps140
           go_wp2
           go_ret
           first | exact ⟨rfl, rfl⟩ | exact ⟨by simp_all, rfl⟩)
    · have i24g : ¬ (24 : Int) ≤ (k : Int) := by omega
      have j24g : decide ((24 : Int) ≤ (k : Int)) = false := decide_eq_false i24g
      have i35e : ((k : Int) == 35) = false := by simpa using (by omega : ¬ (k : Int) = 35)
      have j35e : (k == 35) = false := by simpa using h35e
      first
        | (exfalso; omega)
        | (have e1 : kExpr k = true := by unfold kExpr; first | (apply decide_eq_true; omega) | (apply decide_eq_false; omega)
           rw [e1]
           go_enter Tryz.func140, Tryz.ntmps140
           go_wp2
           go_ret
           first | exact ⟨rfl, rfl⟩ | exact ⟨by simp_all, rfl⟩)
        | (have e1 : kExpr k = false := by unfold kExpr; first | (apply decide_eq_true; omega) | (apply decide_eq_false; omega)
           rw [e1]
           go_enter Tryz.func140, Tryz.ntmps140
           go_wp2
           go_ret
           first | exact ⟨rfl, rfl⟩ | exact ⟨by simp_all, rfl⟩)
set_option maxRecDepth 100000 in
theorem isElse_any (k : Nat) (w : World) : Calls Tryz.prog 152 #[.int .u8 (k : Int)] w fun e w' => e = .returned (.bool (kElse k)) ∧ w' = w := by
  by_cases h13e : k = 13
  · by_cases h16e : k = 16
    · have i13e : ((k : Int) == 13) = true := by simpa using (by omega : (k : Int) = 13)
      have j13e : (k == 13) = true := by simpa using h13e
      have i16e : ((k : Int) == 16) = true := by simpa using (by omega : (k : Int) = 16)
      have j16e : (k == 16) = true := by simpa using h16e
      first
        | (exfalso; omega)
        | (have e1 : kElse k = true := by unfold kElse; first | (apply decide_eq_true; omega) | (apply decide_eq_false; omega)
           rw [e1]
           go_enter Tryz.func152, Tryz.ntmps152
           go_wp2
           go_ret
           first | exact ⟨rfl, rfl⟩ | exact ⟨by simp_all, rfl⟩)
        | (have e1 : kElse k = false := by unfold kElse; first | (apply decide_eq_true; omega) | (apply decide_eq_false; omega)
           rw [e1]
           go_enter Tryz.func152, Tryz.ntmps152
           go_wp2
           go_ret
           first | exact ⟨rfl, rfl⟩ | exact ⟨by simp_all, rfl⟩)
    · have i13e : ((k : Int) == 13) = true := by simpa using (by omega : (k : Int) = 13)
      have j13e : (k == 13) = true := by simpa using h13e
      have i16e : ((k : Int) == 16) = false := by simpa using (by omega : ¬ (k : Int) = 16)
      have j16e : (k == 16) = false := by simpa using h16e
      first
        | (exfalso; omega)
        | (have e1 : kElse k = true := by unfold kElse; first | (apply decide_eq_true; omega) | (apply decide_eq_false; omega)
           rw [e1]
           go_enter Tryz.func152, Tryz.ntmps152
           go_wp2
           go_ret
           first | exact ⟨rfl, rfl⟩ | exact ⟨by simp_all, rfl⟩)
        | (have e1 : kElse k = false := by unfold kElse; first | (apply decide_eq_true; omega) | (apply decide_eq_false; omega)
           rw [e1]
           go_enter Tryz.func152, Tryz.ntmps152
           go_wp2
           go_ret
           first | exact ⟨rfl, rfl⟩ | exact ⟨by simp_all, rfl⟩)
  · by_cases h16e : k = 16
    · have i13e : ((k : Int) == 13) = false := by simpa using (by omega : ¬ (k : Int) = 13)
      have j13e : (k == 13) = false := by simpa using h13e
      have i16e : ((k : Int) == 16) = true := by simpa using (by omega : (k : Int) = 16)
      have j16e : (k == 16) = true := by simpa using h16e
      first
        | (exfalso; omega)
        | (have e1 : kElse k = true := by unfold kElse; first | (apply decide_eq_true; omega) | (apply decide_eq_false; omega)
           rw [e1]
           go_enter Tryz.func152, Tryz.ntmps152
           go_wp2
           go_ret
           first | exact ⟨rfl, rfl⟩ | exact ⟨by simp_all, rfl⟩)
        | (have e1 : kElse k = false := by unfold kElse; first | (apply decide_eq_true; omega) | (apply decide_eq_false; omega)
           rw [e1]
           go_enter Tryz.func152, Tryz.ntmps152
           go_wp2
           go_ret
           first | exact ⟨rfl, rfl⟩ | exact ⟨by simp_all, rfl⟩)
    · have i13e : ((k : Int) == 13) = false := by simpa using (by omega : ¬ (k : Int) = 13)
      have j13e : (k == 13) = false := by simpa using h13e
      have i16e : ((k : Int) == 16) = false := by simpa using (by omega : ¬ (k : Int) = 16)
      have j16e : (k == 16) = false := by simpa using h16e
      first
        | (exfalso; omega)
        | (have e1 : kElse k = true := by unfold kElse; first | (apply decide_eq_true; omega) | (apply decide_eq_false; omega)
           rw [e1]
           go_enter Tryz.func152, Tryz.ntmps152
           go_wp2
           go_ret
           first | exact ⟨rfl, rfl⟩ | exact ⟨by simp_all, rfl⟩)
        | (have e1 : kElse k = false := by unfold kElse; first | (apply decide_eq_true; omega) | (apply decide_eq_false; omega)
           rw [e1]
           go_enter Tryz.func152, Tryz.ntmps152
           go_wp2
           go_ret
           first | exact ⟨rfl, rfl⟩ | exact ⟨by simp_all, rfl⟩)
set_option maxRecDepth 100000 in
theorem risType_any (k : Nat) (w : World) : Calls Tryz.prog 40 #[.int .u8 (k : Int)] w fun e w' => e = .returned (.bool (kType k)) ∧ w' = w := by
  by_cases h8g : 8 ≤ k
  · by_cases h12l : k ≤ 12
    · have i8g : (8 : Int) ≤ (k : Int) := by omega
      have j8g : decide ((8 : Int) ≤ (k : Int)) = true := decide_eq_true i8g
      have i12l : (k : Int) ≤ 12 := by omega
      have j12l : decide ((k : Int) ≤ 12) = true := decide_eq_true i12l
      first
        | (exfalso; omega)
        | (have e1 : kType k = true := by unfold kType; first | (apply decide_eq_true; omega) | (apply decide_eq_false; omega)
           rw [e1]
           go_enter Tryz.func40, Tryz.ntmps40
           go_wp2
           go_ret
           first | exact ⟨rfl, rfl⟩ | exact ⟨by simp_all, rfl⟩)
        | (have e1 : kType k = false := by unfold kType; first | (apply decide_eq_true; omega) | (apply decide_eq_false; omega)
           rw [e1]
           go_enter Tryz.func40, Tryz.ntmps40
           go_wp2
           go_ret
           first | exact ⟨rfl, rfl⟩ | exact ⟨by simp_all, rfl⟩)
    · have i8g : (8 : Int) ≤ (k : Int) := by omega
      have j8g : decide ((8 : Int) ≤ (k : Int)) = true := decide_eq_true i8g
      have i12l : ¬ (k : Int) ≤ 12 := by omega
      have j12l : decide ((k : Int) ≤ 12) = false := decide_eq_false i12l
      first
        | (exfalso; omega)
        | (have e1 : kType k = true := by unfold kType; first | (apply decide_eq_true; omega) | (apply decide_eq_false; omega)
           rw [e1]
           go_enter Tryz.func40, Tryz.ntmps40
           go_wp2
           go_ret
           first | exact ⟨rfl, rfl⟩ | exact ⟨by simp_all, rfl⟩)
        | (have e1 : kType k = false := by unfold kType; first | (apply decide_eq_true; omega) | (apply decide_eq_false; omega)
           rw [e1]
           go_enter Tryz.func40, Tryz.ntmps40
           go_wp2
           go_ret
           first | exact ⟨rfl, rfl⟩ | exact ⟨by simp_all, rfl⟩)
  · by_cases h12l : k ≤ 12
    · have i8g : ¬ (8 : Int) ≤ (k : Int) := by omega
      have j8g : decide ((8 : Int) ≤ (k : Int)) = false := decide_eq_false i8g
      have i12l : (k : Int) ≤ 12 := by omega
      have j12l : decide ((k : Int) ≤ 12) = true := decide_eq_true i12l
      first
        | (exfalso; omega)
        | (have e1 : kType k = true := by unfold kType; first | (apply decide_eq_true; omega) | (apply decide_eq_false; omega)
           rw [e1]
           go_enter Tryz.func40, Tryz.ntmps40
           go_wp2
           go_ret
           first | exact ⟨rfl, rfl⟩ | exact ⟨by simp_all, rfl⟩)
        | (have e1 : kType k = false := by unfold kType; first | (apply decide_eq_true; omega) | (apply decide_eq_false; omega)
           rw [e1]
           go_enter Tryz.func40, Tryz.ntmps40
           go_wp2
           go_ret
           first | exact ⟨rfl, rfl⟩ | exact ⟨by simp_all, rfl⟩)
    · have i8g : ¬ (8 : Int) ≤ (k : Int) := by omega
      have j8g : decide ((8 : Int) ≤ (k : Int)) = false := decide_eq_false i8g
      have i12l : ¬ (k : Int) ≤ 12 := by omega
      have j12l : decide ((k : Int) ≤ 12) = false := decide_eq_false i12l
      first
        | (exfalso; omega)
        | (have e1 : kType k = true := by unfold kType; first | (apply decide_eq_true; omega) | (apply decide_eq_false; omega)
           rw [e1]
           go_enter Tryz.func40, Tryz.ntmps40
           go_wp2
           go_ret
           first | exact ⟨rfl, rfl⟩ | exact ⟨by simp_all, rfl⟩)
        | (have e1 : kType k = false := by unfold kType; first | (apply decide_eq_true; omega) | (apply decide_eq_false; omega)
           rw [e1]
           go_enter Tryz.func40, Tryz.ntmps40
           go_wp2
           go_ret
           first | exact ⟨rfl, rfl⟩ | exact ⟨by simp_all, rfl⟩)
set_option maxRecDepth 100000 in
theorem risExpr_any (k : Nat) (w : World) : Calls Tryz.prog 19 #[.int .u8 (k : Int)] w fun e w' => e = .returned (.bool (kExprR k)) ∧ w' = w := by
  by_cases h24g : 24 ≤ k
  · by_cases h37l : k ≤ 37
    · by_cases h35e : k = 35
      · have i24g : (24 : Int) ≤ (k : Int) := by omega
        have j24g : decide ((24 : Int) ≤ (k : Int)) = true := decide_eq_true i24g
        have i37l : (k : Int) ≤ 37 := by omega
        have j37l : decide ((k : Int) ≤ 37) = true := decide_eq_true i37l
        have i35e : ((k : Int) == 35) = true := by simpa using (by omega : (k : Int) = 35)
        have j35e : (k == 35) = true := by simpa using h35e
        first
          | (exfalso; omega)
          | (have e1 : kExprR k = true := by unfold kExprR; first | (apply decide_eq_true; omega) | (apply decide_eq_false; omega)
             rw [e1]
             go_enter Tryz.func19, Tryz.ntmps19
             go_wp2
             go_ret
             first | exact ⟨rfl, rfl⟩ | exact ⟨by simp_all, rfl⟩)
          | (have e1 : kExprR k = false := by unfold kExprR; first | (apply decide_eq_true; omega) | (apply decide_eq_false; omega)
             rw [e1]
             go_enter Tryz.func19, Tryz.ntmps19
             go_wp2
             go_ret
             first | exact ⟨rfl, rfl⟩ | exact ⟨by simp_all, rfl⟩)
      · have i24g : (24 : Int) ≤ (k : Int) := by omega
        have j24g : decide ((24 : Int) ≤ (k : Int)) = true := decide_eq_true i24g
        have i37l : (k : Int) ≤ 37 := by omega
        have j37l : decide ((k : Int) ≤ 37) = true := decide_eq_true i37l
        have i35e : ((k : Int) == 35) = false := by simpa using (by omega : ¬ (k : Int) = 35)
        have j35e : (k == 35) = false := by simpa using h35e
        first
          | (exfalso; omega)
          | (have e1 : kExprR k = true := by unfold kExprR; first | (apply decide_eq_true; omega) | (apply decide_eq_false; omega)
             rw [e1]
             go_enter Tryz.func19, Tryz.ntmps19
             go_wp2
             go_ret
             first | exact ⟨rfl, rfl⟩ | exact ⟨by simp_all, rfl⟩)
          | (have e1 : kExprR k = false := by unfold kExprR; first | (apply decide_eq_true; omega) | (apply decide_eq_false; omega)
             rw [e1]
             go_enter Tryz.func19, Tryz.ntmps19
             go_wp2
             go_ret
             first | exact ⟨rfl, rfl⟩ | exact ⟨by simp_all, rfl⟩)
    · by_cases h35e : k = 35
      · have i24g : (24 : Int) ≤ (k : Int) := by omega
        have j24g : decide ((24 : Int) ≤ (k : Int)) = true := decide_eq_true i24g
        have i37l : ¬ (k : Int) ≤ 37 := by omega
        have j37l : decide ((k : Int) ≤ 37) = false := decide_eq_false i37l
        have i35e : ((k : Int) == 35) = true := by simpa using (by omega : (k : Int) = 35)
        have j35e : (k == 35) = true := by simpa using h35e
        first
          | (exfalso; omega)
          | (have e1 : kExprR k = true := by unfold kExprR; first | (apply decide_eq_true; omega) | (apply decide_eq_false; omega)
             rw [e1]
             go_enter Tryz.func19, Tryz.ntmps19
             go_wp2
             go_ret
             first | exact ⟨rfl, rfl⟩ | exact ⟨by simp_all, rfl⟩)
          | (have e1 : kExprR k = false := by unfold kExprR; first | (apply decide_eq_true; omega) | (apply decide_eq_false; omega)
             rw [e1]
             go_enter Tryz.func19, Tryz.ntmps19
             go_wp2
             go_ret
             first | exact ⟨rfl, rfl⟩ | exact ⟨by simp_all, rfl⟩)
      · have i24g : (24 : Int) ≤ (k : Int) := by omega
        have j24g : decide ((24 : Int) ≤ (k : Int)) = true := decide_eq_true i24g
        have i37l : ¬ (k : Int) ≤ 37 := by omega
        have j37l : decide ((k : Int) ≤ 37) = false := decide_eq_false i37l
        have i35e : ((k : Int) == 35) = false := by simpa using (by omega : ¬ (k : Int) = 35)
        have j35e : (k == 35) = false := by simpa using h35e
        first
          | (exfalso; omega)
          | (have e1 : kExprR k = true := by unfold kExprR; first | (apply decide_eq_true; omega) | (apply decide_eq_false; omega)
             rw [e1]
             go_enter Tryz.func19, Tryz.ntmps19
             go_wp2
             go_ret
             first | exact ⟨rfl, rfl⟩ | exact ⟨by simp_all, rfl⟩)
          | (have e1 : kExprR k = false := by unfold kExprR; first | (apply decide_eq_true; omega) | (apply decide_eq_false; omega)
             rw [e1]
             go_enter Tryz.func19, Tryz.ntmps19
             go_wp2
             go_ret
             first | exact ⟨rfl, rfl⟩ | exact ⟨by simp_all, rfl⟩)
  · by_cases h37l : k ≤ 37
    · by_cases h35e : k = 35
      · have i24g : ¬ (24 : Int) ≤ (k : Int) := by omega
        have j24g : decide ((24 : Int) ≤ (k : Int)) = false := decide_eq_false i24g
        have i37l : (k : Int) ≤ 37 := by omega
        have j37l : decide ((k : Int) ≤ 37) = true := decide_eq_true i37l
        have i35e : ((k : Int) == 35) = true := by simpa using (by omega : (k : Int) = 35)
        have j35e : (k == 35) = true := by simpa using h35e
        first
          | (exfalso; omega)
          | (have e1 : kExprR k = true := by unfold kExprR; first | (apply decide_eq_true; omega) | (apply decide_eq_false; omega)
             rw [e1]
             go_enter Tryz.func19, Tryz.ntmps19
             go_wp2
             go_ret
             first | exact ⟨rfl, rfl⟩ | exact ⟨by simp_all, rfl⟩)
          | (have e1 : kExprR k = false := by unfold kExprR; first | (apply decide_eq_true; omega) | (apply decide_eq_false; omega)
             rw [e1]
             go_enter Tryz.func19, Tryz.ntmps19
             go_wp2
             go_ret
             first | exact ⟨rfl, rfl⟩ | exact ⟨by simp_all, rfl⟩)
      · have i24g : ¬ (24 : Int) ≤ (k : Int) := by omega
        have j24g : decide ((24 : Int) ≤ (k : Int)) = false := decide_eq_false i24g
        have i37l : (k : Int) ≤ 37 := by omega
        have j37l : decide ((k : Int) ≤ 37) = true := decide_eq_true i37l
        have i35e : ((k : Int) == 35) = false := by simpa using (by omega : ¬ (k : Int) = 35)
        have j35e : (k == 35) = false := by simpa using h35e
        first
          | (exfalso; omega)
          | (have e1 : kExprR k = true := by unfold kExprR; first | (apply decide_eq_true; omega) | (apply decide_eq_false; omega)
             rw [e1]
             go_enter Tryz.func19, Tryz.ntmps19
             go_wp2
             go_ret
             first | exact ⟨rfl, rfl⟩ | exact ⟨by simp_all, rfl⟩)
          | (have e1 : kExprR k = false := by unfold kExprR; first | (apply decide_eq_true; omega) | (apply decide_eq_false; omega)
             rw [e1]
             go_enter Tryz.func19, Tryz.ntmps19
             go_wp2
             go_ret
             first | exact ⟨rfl, rfl⟩ | exact ⟨by simp_all, rfl⟩)
    · by_cases h35e : k = 35
      · have i24g : ¬ (24 : Int) ≤ (k : Int) := by omega
        have j24g : decide ((24 : Int) ≤ (k : Int)) = false := decide_eq_false i24g
        have i37l : ¬ (k : Int) ≤ 37 := by omega
        have j37l : decide ((k : Int) ≤ 37) = false := decide_eq_false i37l
        have i35e : ((k : Int) == 35) = true := by simpa using (by omega : (k : Int) = 35)
        have j35e : (k == 35) = true := by simpa using h35e
        first
          | (exfalso; omega)
          | (have e1 : kExprR k = true := by unfold kExprR; first | (apply decide_eq_true; omega) | (apply decide_eq_false; omega)
             rw [e1]
             go_enter Tryz.func19, Tryz.ntmps19
             go_wp2
             go_ret
             first | exact ⟨rfl, rfl⟩ | exact ⟨by simp_all, rfl⟩)
          | (have e1 : kExprR k = false := by unfold kExprR; first | (apply decide_eq_true; omega) | (apply decide_eq_false; omega)
             rw [e1]
             go_enter Tryz.func19, Tryz.ntmps19
             go_wp2
             go_ret
             first | exact ⟨rfl, rfl⟩ | exact ⟨by simp_all, rfl⟩)
      · have i24g : ¬ (24 : Int) ≤ (k : Int) := by omega
        have j24g : decide ((24 : Int) ≤ (k : Int)) = false := decide_eq_false i24g
        have i37l : ¬ (k : Int) ≤ 37 := by omega
        have j37l : decide ((k : Int) ≤ 37) = false := decide_eq_false i37l
        have i35e : ((k : Int) == 35) = false := by simpa using (by omega : ¬ (k : Int) = 35)
        have j35e : (k == 35) = false := by simpa using h35e
        first
          | (exfalso; omega)
          | (have e1 : kExprR k = true := by unfold kExprR; first | (apply decide_eq_true; omega) | (apply decide_eq_false; omega)
             rw [e1]
             go_enter Tryz.func19, Tryz.ntmps19
             go_wp2
             go_ret
             first | exact ⟨rfl, rfl⟩ | exact ⟨by simp_all, rfl⟩)
          | (have e1 : kExprR k = false := by unfold kExprR; first | (apply decide_eq_true; omega) | (apply decide_eq_false; omega)
             rw [e1]
             go_enter Tryz.func19, Tryz.ntmps19
             go_wp2
             go_ret
             first | exact ⟨rfl, rfl⟩ | exact ⟨by simp_all, rfl⟩)
set_option maxRecDepth 100000 in
theorem risStmt_any (k : Nat) (w : World) : Calls Tryz.prog 44 #[.int .u8 (k : Int)] w fun e w' => e = .returned (.bool (kStmt k)) ∧ w' = w := by
  by_cases h14g : 14 ≤ k
  · by_cases h23l : k ≤ 23
    · by_cases h13e : k = 13
      · have i14g : (14 : Int) ≤ (k : Int) := by omega
        have j14g : decide ((14 : Int) ≤ (k : Int)) = true := decide_eq_true i14g
        have i23l : (k : Int) ≤ 23 := by omega
        have j23l : decide ((k : Int) ≤ 23) = true := decide_eq_true i23l
        have i13e : ((k : Int) == 13) = true := by simpa using (by omega : (k : Int) = 13)
        have j13e : (k == 13) = true := by simpa using h13e
        first
          | (exfalso; omega)
          | (have e1 : kStmt k = true := by unfold kStmt; first | (apply decide_eq_true; omega) | (apply decide_eq_false; omega)
             rw [e1]
             go_enter Tryz.func44, Tryz.ntmps44
             go_wp2
             go_ret
             first | exact ⟨rfl, rfl⟩ | exact ⟨by simp_all, rfl⟩)
          | (have e1 : kStmt k = false := by unfold kStmt; first | (apply decide_eq_true; omega) | (apply decide_eq_false; omega)
             rw [e1]
             go_enter Tryz.func44, Tryz.ntmps44
             go_wp2
             go_ret
             first | exact ⟨rfl, rfl⟩ | exact ⟨by simp_all, rfl⟩)
      · have i14g : (14 : Int) ≤ (k : Int) := by omega
        have j14g : decide ((14 : Int) ≤ (k : Int)) = true := decide_eq_true i14g
        have i23l : (k : Int) ≤ 23 := by omega
        have j23l : decide ((k : Int) ≤ 23) = true := decide_eq_true i23l
        have i13e : ((k : Int) == 13) = false := by simpa using (by omega : ¬ (k : Int) = 13)
        have j13e : (k == 13) = false := by simpa using h13e
        first
          | (exfalso; omega)
          | (have e1 : kStmt k = true := by unfold kStmt; first | (apply decide_eq_true; omega) | (apply decide_eq_false; omega)
             rw [e1]
             go_enter Tryz.func44, Tryz.ntmps44
             go_wp2
             go_ret
             first | exact ⟨rfl, rfl⟩ | exact ⟨by simp_all, rfl⟩)
          | (have e1 : kStmt k = false := by unfold kStmt; first | (apply decide_eq_true; omega) | (apply decide_eq_false; omega)
             rw [e1]
             go_enter Tryz.func44, Tryz.ntmps44
             go_wp2
             go_ret
             first | exact ⟨rfl, rfl⟩ | exact ⟨by simp_all, rfl⟩)
    · by_cases h13e : k = 13
      · have i14g : (14 : Int) ≤ (k : Int) := by omega
        have j14g : decide ((14 : Int) ≤ (k : Int)) = true := decide_eq_true i14g
        have i23l : ¬ (k : Int) ≤ 23 := by omega
        have j23l : decide ((k : Int) ≤ 23) = false := decide_eq_false i23l
        have i13e : ((k : Int) == 13) = true := by simpa using (by omega : (k : Int) = 13)
        have j13e : (k == 13) = true := by simpa using h13e
        first
          | (exfalso; omega)
          | (have e1 : kStmt k = true := by unfold kStmt; first | (apply decide_eq_true; omega) | (apply decide_eq_false; omega)
             rw [e1]
             go_enter Tryz.func44, Tryz.ntmps44
             go_wp2
             go_ret
             first | exact ⟨rfl, rfl⟩ | exact ⟨by simp_all, rfl⟩)
          | (have e1 : kStmt k = false := by unfold kStmt; first | (apply decide_eq_true; omega) | (apply decide_eq_false; omega)
             rw [e1]
             go_enter Tryz.func44, Tryz.ntmps44
             go_wp2
             go_ret
             first | exact ⟨rfl, rfl⟩ | exact ⟨by simp_all, rfl⟩)
      · have i14g : (14 : Int) ≤ (k : Int) := by omega
        have j14g : decide ((14 : Int) ≤ (k : Int)) = true := decide_eq_true i14g
        have i23l : ¬ (k : Int) ≤ 23 := by omega
        have j23l : decide ((k : Int) ≤ 23) = false := decide_eq_false i23l
        have i13e : ((k : Int) == 13) = false := by simpa using (by omega : ¬ (k : Int) = 13)
        have j13e : (k == 13) = false := by simpa using h13e
        first
          | (exfalso; omega)
          | (have e1 : kStmt k = true := by unfold kStmt; first | (apply decide_eq_true; omega) | (apply decide_eq_false; omega)
             rw [e1]
             go_enter Tryz.func44, Tryz.ntmps44
             go_wp2
             go_ret
             first | exact ⟨rfl, rfl⟩ | exact ⟨by simp_all, rfl⟩)
          | (have e1 : kStmt k = false := by unfold kStmt; first | (apply decide_eq_true; omega) | (apply decide_eq_false; omega)
             rw [e1]
             go_enter Tryz.func44, Tryz.ntmps44
             go_wp2
             go_ret
             first | exact ⟨rfl, rfl⟩ | exact ⟨by simp_all, rfl⟩)
  · by_cases h23l : k ≤ 23
    · by_cases h13e : k = 13
      · have i14g : ¬ (14 : Int) ≤ (k : Int) := by omega
        have j14g : decide ((14 : Int) ≤ (k : Int)) = false := decide_eq_false i14g
        have i23l : (k : Int) ≤ 23 := by omega
        have j23l : decide ((k : Int) ≤ 23) = true := decide_eq_true i23l
        have i13e : ((k : Int) == 13) = true := by simpa using (by omega : (k : Int) = 13)
        have j13e : (k == 13) = true := by simpa using h13e
        first
          | (exfalso; omega)
          | (have e1 : kStmt k = true := by unfold kStmt; first | (apply decide_eq_true; omega) | (apply decide_eq_false; omega)
             rw [e1]
             go_enter Tryz.func44, Tryz.ntmps44
             go_wp2
             go_ret
             first | exact ⟨rfl, rfl⟩ | exact ⟨by simp_all, rfl⟩)
          | (have e1 : kStmt k = false := by unfold kStmt; first | (apply decide_eq_true; omega) | (apply decide_eq_false; omega)
             rw [e1]
             go_enter Tryz.func44, Tryz.ntmps44
             go_wp2
             go_ret
             first | exact ⟨rfl, rfl⟩ | exact ⟨by simp_all, rfl⟩)
      · have i14g : ¬ (14 : Int) ≤ (k : Int) := by omega
        have j14g : decide ((14 : Int) ≤ (k : Int)) = false := decide_eq_false i14g
        have i23l : (k : Int) ≤ 23 := by omega
        have j23l : decide ((k : Int) ≤ 23) = true := decide_eq_true i23l
        have i13e : ((k : Int) == 13) = false := by simpa using (by omega : ¬ (k : Int) = 13)
        have j13e : (k == 13) = false := by simpa using h13e
        first
          | (exfalso; omega)
          | (have e1 : kStmt k = true := by unfold kStmt; first | (apply decide_eq_true; omega) | (apply decide_eq_false; omega)
             rw [e1]
             go_enter Tryz.func44, Tryz.ntmps44
             go_wp2
             go_ret
             first | exact ⟨rfl, rfl⟩ | exact ⟨by simp_all, rfl⟩)
          | (have e1 : kStmt k = false := by unfold kStmt; first | (apply decide_eq_true; omega) | (apply decide_eq_false; omega)
             rw [e1]
             go_enter Tryz.func44, Tryz.ntmps44
             go_wp2
             go_ret
             first | exact ⟨rfl, rfl⟩ | exact ⟨by simp_all, rfl⟩)
    · by_cases h13e : k = 13
      · have i14g : ¬ (14 : Int) ≤ (k : Int) := by omega
        have j14g : decide ((14 : Int) ≤ (k : Int)) = false := decide_eq_false i14g
        have i23l : ¬ (k : Int) ≤ 23 := by omega
        have j23l : decide ((k : Int) ≤ 23) = false := decide_eq_false i23l
        have i13e : ((k : Int) == 13) = true := by simpa using (by omega : (k : Int) = 13)
        have j13e : (k == 13) = true := by simpa using h13e
        first
          | (exfalso; omega)
          | (have e1 : kStmt k = true := by unfold kStmt; first | (apply decide_eq_true; omega) | (apply decide_eq_false; omega)
             rw [e1]
             go_enter Tryz.func44, Tryz.ntmps44
             go_wp2
             go_ret
             first | exact ⟨rfl, rfl⟩ | exact ⟨by simp_all, rfl⟩)
          | (have e1 : kStmt k = false := by unfold kStmt; first | (apply decide_eq_true; omega) | (apply decide_eq_false; omega)
             rw [e1]
             go_enter Tryz.func44, Tryz.ntmps44
             go_wp2
             go_ret
             first | exact ⟨rfl, rfl⟩ | exact ⟨by simp_all, rfl⟩)
      · have i14g : ¬ (14 : Int) ≤ (k : Int) := by omega
        have j14g : decide ((14 : Int) ≤ (k : Int)) = false := decide_eq_false i14g
        have i23l : ¬ (k : Int) ≤ 23 := by omega
        have j23l : decide ((k : Int) ≤ 23) = false := decide_eq_false i23l
        have i13e : ((k : Int) == 13) = false := by simpa using (by omega : ¬ (k : Int) = 13)
        have j13e : (k == 13) = false := by simpa using h13e
        first
          | (exfalso; omega)
          | (have e1 : kStmt k = true := by unfold kStmt; first | (apply decide_eq_true; omega) | (apply decide_eq_false; omega)
             rw [e1]
             go_enter Tryz.func44, Tryz.ntmps44
             go_wp2
             go_ret
             first | exact ⟨rfl, rfl⟩ | exact ⟨by simp_all, rfl⟩)
          | (have e1 : kStmt k = false := by unfold kStmt; first | (apply decide_eq_true; omega) | (apply decide_eq_false; omega)
             rw [e1]
             go_enter Tryz.func44, Tryz.ntmps44
             go_wp2
             go_ret
             first | exact ⟨rfl, rfl⟩ | exact ⟨by simp_all, rfl⟩)
theorem is1_any (k j b : Nat) (w : World) (h : At w b (One (.int .u8 (j : Int)) 41)) : Calls Tryz.prog 151 #[.int .u8 (k : Int), .pointer (some ⟨b, 0, none⟩)] w fun e w' => e = .returned (.bool (kIs j k)) ∧ w' = w := by
  obtain ⟨c0, f0⟩ := h.one
  go_enter Tryz.func151, Tryz.ntmps151
  go_wp2
  go_ret
  refine ⟨ret_bool ?_, rfl⟩
  unfold kIs
  by_cases h : k = j
  · subst h; simp
  · have h2 : ¬ (k : Int) = (j : Int) := by omega
    rw [decide_eq_false h]
    first | (simp [h, h2]; done) | (simp [h]; omega)
theorem is_any (j : Nat) (w : World) : Calls Tryz.prog 133 #[.int .u8 (j : Int)] w fun e w' => ∃ b, e = .returned (isV b) ∧ Cl w' (isV b) (kIs j) ∧ Below w.heap.size w w' := by
  go_enter Tryz.func133, Tryz.ntmps133
  go_wp2
  go_ret
  exact ⟨_, rfl, .one _ _ (At.new _ _), belA (Below.refl _ _)⟩
end Go.Proofs.YtahdnfogdnondaaGreatDoor
