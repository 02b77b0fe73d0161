import Derived.Test.YtddjmhfcaeckgaaDoorE
import Derived.Test.YtddjmhfcaeckgaaDoorK
import Derived.Test.YtddjmhfcaeckgaaDoorM
import Derived.Test.YtddjmhfcaeckgaaDoorN
namespace Go.Proofs.YtddjmhfcaeckgaaDoor
open Go.RowKit
set_option linter.unusedVariables false
set_option linter.unusedSimpArgs false

/-- The width, the words and the error of what is answered where bits are turned by f. -/
def sx (x : Int) (zs ks : List Int) : Int := if allIn x ks && mayB x zs then x else 0
def sz (f : Int → Int → Int) (x : Int) (zs ks : List Int) : List Int := if allIn x ks && mayB x zs then turns f zs ks else []
def se (x : Int) (zs ks : List Int) : Int := if allIn x ks && mayB x zs then 0 else 2
theorem sz_len (f : Int → Int → Int) (x : Int) (zs ks : List Int) : (sz f x zs ks).length ≤ 17 := by
  unfold sz
  split
  · rename_i h
    simp at h
    have := mayB_width h.2
    rw [turns_len]
    omega
  · simp
theorem mine_none (w : World) (base : Nat) : Mine w base none 0 0 [] := World.ownsRow_nil _ _ _ _

theorem set_any (x : Int) (a : Option Addr) (n cap : Nat) (zs : List Int) (al : Option Addr) (m capl : Nat) (ks : List Int) (w : World) (hz : zs.length = n) (hm : n ≤ maxLen) (hc : Cells w a zs)
    (hk : ks.length = m) (hkm : m ≤ 5000) (hl : ICells w al ks) :
    Calls Tryd.prog 23 #[.agg #[.int .i64 x, .slice a n cap], .slice al m capl] w fun e w' => ∃ aa cc, e = .returned (.tuple #[.agg #[.int .i64 (sx x zs ks), .slice aa (sz (bits .or .u64) x zs ks).length cc], .int .i64 (se x zs ks)]) ∧ Mine w' w.heap.size aa (sz (bits .or .u64) x zs ks).length cc (sz (bits .or .u64) x zs ks) ∧ Below w.heap.size w w' := by
  cases hY : (allIn x ks && mayB x zs)
  · refine (set_no x a n cap zs al m capl ks w hz hm hc hk hkm hl hY).mono fun e w' h => ?_
    simp only [sx, sz, se, hY]
    exact ⟨none, 0, h.1, mine_none _ _, h.2⟩
  · simp at hY
    have hw := mayB_width hY.2
    refine (set_yes x a n cap zs al m capl ks w hz hc hk hkm hl hY.1 hY.2).mono fun e w' h => ?_
    obtain ⟨g, h1, h2, h3, h4⟩ := h
    simp only [sx, sz, se, hY.1, hY.2, Bool.and_self, if_true]
    rw [turns_len, hz]
    have hl' : (turns (bits .or .u64) zs ks).length = n := by rw [turns_len, hz]
    refine ⟨some ⟨g, 0, none⟩, n, h1, ?_, h4⟩
    have := h3.mine h2 (by unfold maxLen; omega)
    rw [hl'] at this
    exact this
theorem clear_any (x : Int) (a : Option Addr) (n cap : Nat) (zs : List Int) (al : Option Addr) (m capl : Nat) (ks : List Int) (w : World) (hz : zs.length = n) (hm : n ≤ maxLen) (hc : Cells w a zs)
    (hk : ks.length = m) (hkm : m ≤ 5000) (hl : ICells w al ks) :
    Calls Tryd.prog 25 #[.agg #[.int .i64 x, .slice a n cap], .slice al m capl] w fun e w' => ∃ aa cc, e = .returned (.tuple #[.agg #[.int .i64 (sx x zs ks), .slice aa (sz (bits .andNot .u64) x zs ks).length cc], .int .i64 (se x zs ks)]) ∧ Mine w' w.heap.size aa (sz (bits .andNot .u64) x zs ks).length cc (sz (bits .andNot .u64) x zs ks) ∧ Below w.heap.size w w' := by
  cases hY : (allIn x ks && mayB x zs)
  · refine (clear_no x a n cap zs al m capl ks w hz hm hc hk hkm hl hY).mono fun e w' h => ?_
    simp only [sx, sz, se, hY]
    exact ⟨none, 0, h.1, mine_none _ _, h.2⟩
  · simp at hY
    have hw := mayB_width hY.2
    refine (clear_yes x a n cap zs al m capl ks w hz hc hk hkm hl hY.1 hY.2).mono fun e w' h => ?_
    obtain ⟨g, h1, h2, h3, h4⟩ := h
    simp only [sx, sz, se, hY.1, hY.2, Bool.and_self, if_true]
    rw [turns_len, hz]
    have hl' : (turns (bits .andNot .u64) zs ks).length = n := by rw [turns_len, hz]
    refine ⟨some ⟨g, 0, none⟩, n, h1, ?_, h4⟩
    have := h3.mine h2 (by unfold maxLen; omega)
    rw [hl'] at this
    exact this
theorem turnS_any (x : Int) (a : Option Addr) (n cap : Nat) (zs : List Int) (al : Option Addr) (m capl : Nat) (ks : List Int) (w : World) (hz : zs.length = n) (hm : n ≤ maxLen) (hw : Words zs) (hnil : a = none → cap = 0) (hc : Cells w a zs)
    (hk : ks.length = m) (hkm : m ≤ 5000) (hl : ICells w al ks) :
    Calls Tryd.prog 24 #[.agg #[.int .i64 x, .slice a n cap], .slice al m capl, .bool true] w fun e w' => ∃ aa cc, e = .returned (.tuple #[.agg #[.int .i64 (sx x zs ks), .slice aa (sz (bits .or .u64) x zs ks).length cc], .int .i64 (se x zs ks)]) ∧ Mine w' w.heap.size aa (sz (bits .or .u64) x zs ks).length cc (sz (bits .or .u64) x zs ks) ∧ Below w.heap.size w w' := by
  cases hM : mayB x zs
  · refine (turn_no1 x a n cap zs al m capl true w hz hm hw hc hM).mono fun e w' h => ?_
    simp only [sx, sz, se, hM, Bool.and_false]
    exact ⟨none, 0, h.1, mine_none _ _, h.2⟩
  cases hY : allIn x ks
  · refine (turnSet_no x a n cap zs al m capl ks w hz hw hnil hc hk hkm hl hY hM).mono fun e w' h => ?_
    simp only [sx, sz, se, hY, Bool.false_and]
    exact ⟨none, 0, h.1, mine_none _ _, h.2⟩
  · refine (turnSet_yes x a n cap zs al m capl ks w hz hw hnil hc hk hkm hl hY hM).mono fun e w' h => ?_
    obtain ⟨aa, cc, h1, h2, h3⟩ := h
    simp only [sx, sz, se, hY, hM, Bool.and_self, if_true]
    rw [turns_len, hz]
    exact ⟨aa, cc, h1, h2, h3⟩
/-- Set, then turned, is cleared. -/
theorem andNot_eq (z b : Int) : bits .andNot .u64 z b = orXor z b := by
  have key : ∀ a b : BitVec 64, (a ||| b) ^^^ b = a &&& ~~~b := by
    intro a b
    ext i
    simp
    cases a[i] <;> cases b[i] <;> rfl
  have hwr : ∀ v : BitVec 64, BitVec.ofInt 64 (IntKind.u64.wrap (v.toNat : Int)) = v := by
    intro v
    have h := v.isLt
    rw [IntKind.wrap_u64, Int.emod_eq_of_lt (by omega) (by omega)]
    rw [BitVec.ofInt_natCast, BitVec.ofNat_toNat]
    simp
  have e1 : bits .or .u64 z b = IntKind.u64.wrap ((BitVec.ofInt 64 z ||| BitVec.ofInt 64 b).toNat : Int) := rfl
  have e2 : orXor z b = IntKind.u64.wrap ((BitVec.ofInt 64 (bits .or .u64 z b) ^^^ BitVec.ofInt 64 b).toNat : Int) := rfl
  have e3 : bits .andNot .u64 z b = IntKind.u64.wrap ((BitVec.ofInt 64 z &&& ~~~ BitVec.ofInt 64 b).toNat : Int) := rfl
  rw [e2, e1, hwr, key, e3]
theorem sz_eq (x : Int) (zs ks : List Int) : sz orXor x zs ks = sz (bits .andNot .u64) x zs ks := by
  have : orXor = bits .andNot .u64 := by funext z b; exact (andNot_eq z b).symm
  rw [this]
theorem turnC_any (x : Int) (a : Option Addr) (n cap : Nat) (zs : List Int) (al : Option Addr) (m capl : Nat) (ks : List Int) (w : World) (hz : zs.length = n) (hm : n ≤ maxLen) (hw : Words zs) (hnil : a = none → cap = 0) (hc : Cells w a zs)
    (hk : ks.length = m) (hkm : m ≤ 5000) (hl : ICells w al ks) :
    Calls Tryd.prog 24 #[.agg #[.int .i64 x, .slice a n cap], .slice al m capl, .bool false] w fun e w' => ∃ aa cc, e = .returned (.tuple #[.agg #[.int .i64 (sx x zs ks), .slice aa (sz (bits .andNot .u64) x zs ks).length cc], .int .i64 (se x zs ks)]) ∧ Mine w' w.heap.size aa (sz (bits .andNot .u64) x zs ks).length cc (sz (bits .andNot .u64) x zs ks) ∧ Below w.heap.size w w' := by
  rw [← sz_eq]
  cases hM : mayB x zs
  · refine (turn_no1 x a n cap zs al m capl false w hz hm hw hc hM).mono fun e w' h => ?_
    simp only [sx, sz, se, hM, Bool.and_false]
    exact ⟨none, 0, h.1, mine_none _ _, h.2⟩
  cases hY : allIn x ks
  · refine (turnClear_no x a n cap zs al m capl ks w hz hw hnil hc hk hkm hl hY hM).mono fun e w' h => ?_
    simp only [sx, sz, se, hY, Bool.false_and]
    exact ⟨none, 0, h.1, mine_none _ _, h.2⟩
  · refine (turnClear_yes x a n cap zs al m capl ks w hz hw hnil hc hk hkm hl hY hM).mono fun e w' h => ?_
    obtain ⟨aa, cc, h1, h2, h3⟩ := h
    simp only [sx, sz, se, hY, hM, Bool.and_self, if_true]
    rw [turns_len, hz]
    exact ⟨aa, cc, h1, h2, h3⟩
end Go.Proofs.YtddjmhfcaeckgaaDoor
