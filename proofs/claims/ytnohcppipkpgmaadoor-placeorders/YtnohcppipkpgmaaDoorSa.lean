import Derived.Test.YtnohcppipkpgmaaDoorRs
import Derived.Lib.AppendIntMem
namespace Go.Proofs.YtnohcppipkpgmaaDoor
open Go.RowKit Go.Shelf
set_option linter.unusedVariables false
set_option linter.unusedSimpArgs false

set_option maxRecDepth 100000 in
set_option maxHeartbeats 4000000 in
/-- fits, of places alone. -/
theorem fits_nil {w : World} {g : Nat} {xs : List (Pt × List Int)} (hX : PsAt w g xs) (hk : xs.length ≤ 10) (b : Bool) (hb : b = true ↔ ∀ x p, (x, p) ∈ xs → p.length ≤ 60) :
    Calls Tryd.prog 9 #[.slice none 0 0, .slice none 0 0, .slice (some ⟨g, 0, none⟩) xs.length xs.length] w fun e w' => e = .returned (.bool b) ∧ w' = w := by
  obtain ⟨k, hkk⟩ : ∃ k, k = xs.length := ⟨_, rfl⟩
  rw [← hkk] at hk ⊢
  have HK := hidD hkk
  have HX := hidD hX
  have HB := hidD hb
  clear hX hb hkk
  go_enter Tryd.func9, Tryd.ntmps9
  go_wp2_with fail
  go_loopw [7] (fun v V => v = .int .i64 0 ∧ V = w) (fun v _ => 0)
  case atStart => exact ⟨rfl, rfl⟩
  case round =>
    obtain ⟨rfl, rfl⟩ := hrel
    go_wp2_with fail
    go_loopw [9] (fun v V => v = .int .i64 0 ∧ V = wr) (fun v _ => 0)
    case atStart => exact ⟨rfl, rfl⟩
    case round =>
      obtain ⟨rfl, rfl⟩ := hrel
      go_wp2_with fail
      go_loopw [10] (fun v V => ∃ i : Nat, i ≤ k ∧ v = .int .i64 i ∧ (∀ j x p, j < i → xs[j]? = some (x, p) → p.length ≤ 60) ∧ V = wr) (fun v _ => k - (intOf v).toNat)
      case atStart => exact ⟨0, Nat.zero_le _, rfl, fun j x p hj => by omega, rfl⟩
      case round =>
        obtain ⟨i, hi, rfl, hall, rfl⟩ := hrel
        have HALL := hidD hall
        clear hall
        by_cases hlt : i < k
        · obtain ⟨⟨x, p⟩, hx⟩ : ∃ x, xs[i]? = some x := ⟨_, List.getElem?_eq_getElem (by have := HK.out; omega)⟩
          obtain ⟨c0, c1, hP⟩ := HX.out.cells i x p hx
          have hgl := HX.out.lt
          have HXX := hidD hx
          obtain ⟨l, pa, m, pcap⟩ := x
          have hm : m = p.length := hP.row.len
          have HM := hidD hm
          have i0 : (0 : Int) ≤ (i : Int) := by omega
          have i1 : (i : Int) < (k : Int) := by omega
          have i2 : (i : Int) ≤ 10 := by omega
          clear hx hP hm
          by_cases h60 : m ≤ 60
          · have j1 : ¬ (60 : Int) < (m : Int) := by omega
            go_wp2_with fail
            refine ⟨⟨i + 1, hlt, rfl, fun j x' p' hj hx' => ?_, trivial⟩, ?_⟩
            · by_cases e : j = i
              · subst e
                rw [HXX.out] at hx'
                cases hx'
                have := HM.out
                omega
              · exact HALL.out j x' p' (by omega) hx'
            · show k - ((i : Int) + 1).toNat < k - (i : Int).toNat
              omega
          · have j1 : (60 : Int) < (m : Int) := by omega
            have hbf : b = false := by
              cases hbb : b with
              | false => rfl
              | true =>
                have := HB.out.1 hbb _ p (List.mem_of_getElem? HXX.out)
                have := HM.out
                omega
            subst hbf
            go_wp2_with fail
            go_ret
            exact ⟨rfl, rfl⟩
        · obtain rfl : i = k := by omega
          have lt : ¬ (i : Int) < (i : Int) := by omega
          have hbt : b = true := HB.out.2 fun x p hx => by
            obtain ⟨j, hj⟩ := List.mem_iff_getElem?.1 hx
            exact HALL.out j x p (by have := (List.getElem?_eq_some_iff.1 hj).1; have := HK.out; omega) hj
          subst hbt
          go_wp2_with fail
          go_ret
          exact ⟨rfl, rfl⟩
def TabOk (w : World) : Prop := ∀ W, Below w.heap.size w W → Lib.TabIs Tryd.prog W "internal/strconv.uint64pow10" .u64 Lib.pow10Tab
theorem it_tab {w : World} (h : TabOk w) {n : Int} (h0 : -9223372036854775808 ≤ n) (h1 : n ≤ 9223372036854775807) : ItC w n := fun W hW =>
  (Tryd.strconv_Itoa n h0 h1 W (h W hW)).mono fun e w' k => ⟨k.1, by obtain ⟨q, os, rfl⟩ := k.2; exact Lib.below_grow _ _ (Nat.le_refl _) _ _⟩
theorem TabOk.bel {w W : World} (h : TabOk w) (hW : Below w.heap.size w W) : TabOk W := fun V hV => h V (below_aft hW hV)
theorem Text_tab {w W : World} (hT : TabOk w) (hW : Below w.heap.size w W) {x : Pt} {p : List Int} (h : PAt W x p) (hn : p.length ≤ 1000) : Calls Tryd.prog 29 #[x.v] W fun e w' => e = .returned (.string (str (txP x.l p))) ∧ Below W.heap.size W w' :=
  Text_any h hn (fun n h0 hn => it_tab (hT.bel hW) (by omega) (by
    rcases hn with rfl | hn
    · exact h.l1
    · exact (h.row.rng n hn).2))
end Go.Proofs.YtnohcppipkpgmaaDoor
