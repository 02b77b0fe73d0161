import Derived.Test.YtkidcmglidnaoaaRc
import Derived.Test.YtkidcmglidnaoaaZp
namespace Go.Proofs.Ytkidcmglidnaoaa
open Go.RowKit Go.Shelf
attribute [local go_sem] Oper.semAt_some
set_option linter.unusedVariables false
set_option linter.unusedSimpArgs false
set_option maxRecDepth 100000 in
set_option maxHeartbeats 8000000 in
theorem all1_inP (nn l bx g n : Nat) (hnn : 1 ≤ nn) (L : List Int) (hL : L.length = n) (hn : n ≤ 20000) (J : Nat → World → Prop) (Jx : Nat → World → Prop) (W : World)
    (hK : ∀ i W1, J i W1 → Rw W1 g 3 (iCells L) ∧ At W1 bx (One (.slice (some ⟨g, 0, none⟩) n n) 35))
    (hY : ∀ i p c W1, J i W1 → (enumI L)[i]? = some (p, c) → YieldAt Fence.wide (nn - 1) Try.prog l #[.int .i64 p, .int .i64 c] W1 fun e W' =>
      (e = .returned (.bool true) ∧ J (i + 1) W') ∨ (e = .returned (.bool false) ∧ Jx i W'))
    (h0 : J 0 W) :
    CallsIn Fence.wide nn Try.prog 67 #[.func (.yield l) #[] #[], .pointer (some ⟨bx, 0, none⟩)] W fun e W' => (∃ v, e = .returned v) ∧ (J (enumI L).length W' ∨ ∃ x, Jx x W') := by
  rw [enumI_len, hL]
  have HL : Hid (L.length = n) := hL
  clear hL
  obtain ⟨hR0, hX0⟩ := hK 0 W h0
  obtain ⟨x0, xf⟩ := hX0.one
  refine callsIn_of_wp Try.func67 rfl trivial ?_ rfl
  simp only [Try.ntmps67, List.size_toArray, List.length_cons, List.length_nil, Nat.reduceAdd, Nat.reduceSub, Array.replicate_succ, Array.replicate_zero, List.push_toArray, List.append_toArray, List.nil_append, List.cons_append]
  gi_wp2
  gi_loopw [7] (fun i wr => ∃ k : Nat, k ≤ n ∧ i = .int .i64 k ∧ J k wr) (fun i _ => n - (intOf i).toNat)
  case atStart => exact ⟨0, Nat.zero_le _, rfl, h0⟩
  case round =>
    obtain ⟨k, hk, rfl, hj⟩ := hrel
    by_cases hlt : k < n
    · obtain ⟨hR, hX⟩ := hK k wr hj
      obtain ⟨c, hc⟩ : ∃ c, L[k]? = some c := ⟨_, List.getElem?_eq_getElem (by rw [HL.out]; exact hlt)⟩
      have c1 : wr.cell? ⟨g, k, none⟩ = some (.int .i64 c) := hR.cell (by rw [iCells, List.getElem?_map, hc]; rfl)
      have k0 : (0 : Int) ≤ (k : Int) := by omega
      have k1 : (k : Int) < (n : Int) := by omega
      have w3 : IntKind.i64.wrap ((k : Int) + 1) = (k : Int) + 1 := by rw [IntKind.wrap_i64]; omega
      obtain ⟨fn, tmps, assign, body, hy, hRR⟩ := hY k (k : Int) c wr hj (enumI_get.2 ⟨rfl, hc⟩)
      clear hR hX hc
      gi_wp2
      refine hRR.mono ?_
      clear hRR hy
      rintro e W3 (⟨rfl, hj3⟩ | ⟨rfl, hjx⟩)
      · gi_wp2
        exact ⟨⟨k + 1, by omega, by go_num, hj3⟩, by simp [intOf]; omega⟩
      · gi_wp2
        refine bodyPost_ret (results_none rfl _ _ _) rfl ?_
        exact ⟨⟨_, rfl⟩, .inr ⟨_, hjx⟩⟩
    · obtain rfl : k = n := by omega
      gi_wp2
      go_end0
      exact ⟨⟨_, rfl⟩, .inl hj⟩
theorem all1_tellsP (nn bx g n : Nat) (hnn : 1 ≤ nn) (L : List Int) (hL : L.length = n) (hn : n ≤ 20000) (w : World) :
    TellsP Fence.wide nn Try.prog 67 #[.pointer (some ⟨bx, 0, none⟩)] (enumI L) (fun W => Rw W g 3 (iCells L) ∧ At W bx (One (.slice (some ⟨g, 0, none⟩) n n) 35)) w :=
  fun l J Jx W hW hK hY h0 => all1_inP nn l bx g n hnn L hL hn J Jx W hK hY h0
end Go.Proofs.Ytkidcmglidnaoaa
