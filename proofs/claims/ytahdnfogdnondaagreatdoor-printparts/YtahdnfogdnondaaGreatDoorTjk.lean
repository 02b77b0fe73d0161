import Derived.Test.YtahdnfogdnondaaGreatDoorTh
import Derived.Test.YtahdnfogdnondaaGreatDoorTi
namespace Go.Proofs.YtahdnfogdnondaaGreatDoor
open Go.RowKit Go.Shelf
set_option linter.unusedVariables false
set_option linter.unusedSimpArgs false

/-- What the library's functions say. -/
structure LibC (w0 : World) : Prop where
  int : ∀ n : Int, -9223372036854775808 ≤ n → n ≤ 9223372036854775807 → ItC w0 n
  bool : ∀ (b : Bool) (W : World), Calls Tryz.prog 102 #[.bool b] W fun e w' => e = .returned (.string (str (if b = true then [116, 114, 117, 101] else [102, 97, 108, 115, 101]))) ∧ w' = W
  pre : ∀ (x : List UInt8) (W : World), Calls Tryz.prog 53 #[.string (str x), .string ⟨#[38]⟩] W fun e w' => e = .returned (.bool (decide (x.head? = some 38))) ∧ w' = W
  join : ∀ (ts : List (List UInt8)) (n : Nat) (W : World) (g : Nat), n = ts.length → ts.length ≤ 20000 → (jn [44, 32] ts).length ≤ 100000000 → Rw W g 9 (ts.map fun t => .string (str t)) → Calls Tryz.prog 95 #[.slice (some ⟨g, 0, none⟩) n n, .string ⟨#[44, 32]⟩] W fun e w' => e = .returned (.string (str (jn [44, 32] ts))) ∧ Below W.heap.size W w'
/-- A tree in memory. -/
structure TM (w0 : World) (a : Option Addr) (T : List Nd) : Prop where
  t : TAt w0 a T
  n : T.length ≤ 20000
  s : ∀ d ∈ T, d.x.s.length ≤ 1000
  i : ∀ d ∈ T, -9223372036854775808 ≤ d.x.n ∧ d.x.n ≤ 9223372036854775807
theorem LvC.tx {w0 : World} {T : List Nd} {a : Option Addr} {cap o : Nat} {t : Nat × List UInt8} (h : Kid w0 T a cap o t) (hM : TM w0 a T) {d : Nd} (hd : T[o]? = some d) (hk : d.x.k ≠ 35) : TxC 35 w0 T a cap o (brk t 1) := whole_any (h.lv hM.t hM.n hd hk (by omega))
theorem TM.bin {w0 w : World} {a : Option Addr} {T : List Nd} (hM : TM w0 a T) (cap : Nat) {o : Nat} {d : Nd} (hd : T[o]? = some d) (hw : Below w0.heap.size w0 w) : BIn w0 w T a cap o d := ⟨hM.t, hw, hM.n, hd⟩
/-- The children of a node: where they stand, what they say. -/
def Kids (w0 : World) (T : List Nd) (a : Option Addr) (cap : Nat) (l : List Int) (ks : List Nat) (cs : List (Nat × List UInt8)) : Prop :=
  ∀ (i : Nat) (t : Nat × List UInt8), cs[i]? = some t → ∃ (q : Nat) (d : Nd), l[i]? = some (q : Int) ∧ T[q]? = some d ∧ ks[i]? = some d.x.k ∧ Kid w0 T a cap q t
theorem kexpr_ne {k : Nat} (h : kExpr k = true) : k ≠ 35 := by
  unfold kExpr at h
  simp at h
  omega
theorem one_kid {w0 : World} {T : List Nd} {a : Option Addr} {cap : Nat} {c : Fo} {o j : Nat} (hK : Kids w0 T a cap (c.starts o) c.kinds (txs c)) (hj : c.kinds = [j]) :
    ∃ (q : Nat) (d : Nd) (t : Nat × List UInt8), c.starts o = [(q : Int)] ∧ (txs c)[0]? = some t ∧ T[q]? = some d ∧ d.x.k = j ∧ Kid w0 T a cap q t := by
  have hl := txs_len c
  rw [hj] at hl
  obtain ⟨t, ht⟩ : ∃ t, (txs c)[0]? = some t := ⟨_, List.getElem?_eq_getElem (by rw [hl]; simp)⟩
  obtain ⟨q, d, h1, h2, h3, h4⟩ := hK 0 t ht
  have hs := Fo.len_starts c o
  rw [hj] at hs h3
  refine ⟨q, d, t, ?_, ht, h2, by simpa using h3.symm, h4⟩
  match hc : c.starts o, hs, h1 with
  | [y], _, h1 => simp at h1; rw [h1]
theorem two_kids {w0 : World} {T : List Nd} {a : Option Addr} {cap : Nat} {c : Fo} {o j1 j2 : Nat} (hK : Kids w0 T a cap (c.starts o) c.kinds (txs c)) (hj : c.kinds = [j1, j2]) :
    ∃ (q : Nat) (d : Nd) (t : Nat × List UInt8) (q2 : Nat) (d2 : Nd) (t2 : Nat × List UInt8), c.starts o = [(q : Int), (q2 : Int)] ∧ (txs c)[0]? = some t ∧ (txs c)[1]? = some t2 ∧ T[q]? = some d ∧ d.x.k = j1 ∧ Kid w0 T a cap q t ∧ T[q2]? = some d2 ∧ d2.x.k = j2 ∧ Kid w0 T a cap q2 t2 := by
  have hl := txs_len c
  rw [hj] at hl
  obtain ⟨t, ht⟩ : ∃ t, (txs c)[0]? = some t := ⟨_, List.getElem?_eq_getElem (by rw [hl]; simp)⟩
  obtain ⟨t2, ht2⟩ : ∃ t, (txs c)[1]? = some t := ⟨_, List.getElem?_eq_getElem (by rw [hl]; simp)⟩
  obtain ⟨q, d, h1, h2, h3, h4⟩ := hK 0 t ht
  obtain ⟨q2, d2, g1, g2, g3, g4⟩ := hK 1 t2 ht2
  have hs := Fo.len_starts c o
  rw [hj] at hs h3 g3
  refine ⟨q, d, t, q2, d2, t2, ?_, ht, ht2, h2, by simpa using h3.symm, h4, g2, by simpa using g3.symm, g4⟩
  match hc : c.starts o, hs, h1, g1 with
  | [y, z], _, h1, g1 => simp at h1 g1; rw [h1, g1]
theorem brk_le {t : Nat × List UInt8} (h : t.2.length ≤ 10000000) (n : Nat) : (brk t n).length ≤ 10000002 := by
  have := brk_len t n
  omega
/-- A list of children told by a function. -/
theorem list_kids {w0 : World} (hLib : LibC w0) {T : List Nd} {a : Option Addr} {cap : Nat} (hM : TM w0 a T) {g0 off0 : Nat} (ha : a = some ⟨g0, off0, none⟩) (fn : Nat) (hfn : fn = 35 ∨ fn = 76) {l : List Int} {ks : List Nat} {cs : List (Nat × List UInt8)} (hK : Kids w0 T a cap l ks cs) (hlen : l.length = cs.length) (h8 : cs.length ≤ 8) (F : Nat × List UInt8 → List UInt8)
    (hF : ∀ (i : Nat) (t : Nat × List UInt8) (q : Nat) (d : Nd), cs[i]? = some t → ks[i]? = some d.x.k → T[q]? = some d → Kid w0 T a cap q t → TxC fn w0 T a cap q (F t))
    (hle : (jn [44, 32] (cs.map F)).length ≤ 100000000) (al : Option Addr) (capl : Nat) (W : World) (hW : Below w0.heap.size w0 W) (hrow : IRow W al l) :
    Calls Tryz.prog 75 #[.string ⟨#[44, 32]⟩, .slice al l.length capl, .func (.func fn) #[.slice a T.length cap] #[]] W fun e w' => e = .returned (.string (str (jn [44, 32] (cs.map F)))) ∧ Below W.heap.size W w' := by
  subst ha
  refine list_any fn hfn g0 off0 T.length cap l al capl (cs.map F) W hrow (by omega) (by rw [hlen, List.length_map]) _ (fun k q t hq ht W' hW' => ?_) (fun W' g hR => hLib.join (cs.map F) l.length W' g (by rw [List.length_map, hlen]) (by rw [List.length_map]; omega) hle hR)
  rw [List.getElem?_map] at ht
  cases hc : cs[k]? with
  | none => rw [hc] at ht; cases ht
  | some u =>
    rw [hc] at ht
    simp at ht
    subst ht
    obtain ⟨q', d, h1, h2, h3, h4⟩ := hK k u hc
    rw [hq] at h1
    cases h1
    exact hF k u q' d hc h3 h2 h4 W' (below_aft hW hW')
end Go.Proofs.YtahdnfogdnondaaGreatDoor
namespace Go.Proofs.YtahdnfogdnondaaGreatDoor
open Go.RowKit Go.Shelf
set_option linter.unusedVariables false
set_option linter.unusedSimpArgs false

set_option maxHeartbeats 1000000 in
/-- bare tells an expression's text, given its children's. -/
theorem bare_node {w0 : World} (hLib : LibC w0) {T : List Nd} {a : Option Addr} {cap : Nat} (hM : TM w0 a T) {o : Nat} {x : Nx} {c : Fo} (hd : T[o]? = some ⟨x, c.starts (o + 1)⟩) (hx : kX x.k = true) (hk : x.k ≠ 35) (ho : okP x c.kinds = true) (hK : Kids w0 T a cap (c.starts (o + 1)) c.kinds (txs c)) (hle : (bareN x (txs c)).length ≤ 10000000) :
    TxC 88 w0 T a cap o (bareN x (txs c)) := fun w hw => by
  have hB := hM.bin cap hd hw
  have hmem : (⟨x, c.starts (o + 1)⟩ : Nd) ∈ T := List.mem_of_getElem? hd
  have hs0 : x.s.length ≤ 1000000 := by have := hM.s _ hmem; show x.s.length ≤ 1000000; have h : x.s.length ≤ 1000 := this; omega
  have hi := hM.i _ hmem
  obtain ⟨f1, f2, f3, f4, f5, f6, f7⟩ := cf_expr hx (ok_cf ho)
  have hk2 : 24 ≤ x.k := by
    unfold kX kExpr at hx
    simp at hx
    omega
  obtain ⟨g, off, ha, -⟩ := nd_at hM.t hd
  have hls := Fo.len_starts c (o + 1)
  have hlt := txs_len c
  have kc : x.k = 24 ∨ x.k = 25 ∨ x.k = 26 ∨ x.k = 37 ∨ (x.k = 27 ∨ x.k = 28 ∨ x.k = 29 ∨ x.k = 30 ∨ x.k = 31 ∨ x.k = 36) ∨ x.k = 32 ∨ x.k = 33 ∨ x.k = 34 := by omega
  rcases kc with k | k | k | k | k | k | k | k
  · exact bare_24 hB (txs c) k (hLib.int _ hi.1 hi.2)
  · by_cases h1 : x.n = 1
    · exact bare_25t hB (txs c) k h1 hLib.bool
    · exact bare_25f hB (txs c) k h1 hLib.bool
  · exact bare_26 hB (txs c) k
  · exact bare_37 hB (txs c) k
  · obtain ⟨j, hj, hje⟩ := f2 (by omega)
    obtain ⟨q, d, t, h1, h2, h3, h4, h5⟩ := one_kid hK hj
    have hne : d.x.k ≠ 35 := by rw [h4]; exact kexpr_ne hje
    have hL : ∀ n, n ≤ 8 → LvC w0 T a cap (q : Int) n (brk t n) := fun n hn => h5.lv hM.t hM.n h3 hne hn
    have hb := fun n => brk_le h5.le n
    rcases k with k | k | k | k | k | k
    · exact bare_27 hB (txs c) k hs0 q h1 t h2 (hb 7) (hL 7 (by omega))
    · exact bare_28 hB (txs c) k q h1 t h2 (hb 6) (hL 6 (by omega))
    · exact bare_29 hB (txs c) k q h1 t h2 (hL 6 (by omega)) (fun W => referring_any _ _ (hb 6) (hLib.pre _) W)
    · exact bare_30 hB (txs c) k q h1 t h2 (hb 6) (hL 6 (by omega))
    · exact bare_31 hB (txs c) k q h1 t h2 (hb 6) (hL 6 (by omega))
    · exact bare_36 hB (txs c) k q h1 t h2 (hb 1) (LvC.tx h5 hM h3 hne)
  · obtain ⟨j1, j2, hj, e1, e2⟩ := f3 k
    obtain ⟨q, d, t, q2, d2, t2, h1, h2, h3, h4, h5, h6, h7, h8, h9⟩ := two_kids hK hj
    have hne : d.x.k ≠ 35 := by rw [h5]; exact kexpr_ne e1
    have hne2 : d2.x.k ≠ 35 := by rw [h8]; exact kexpr_ne e2
    exact bare_32 hB (txs c) k hs0 q q2 h1 t t2 h2 h3 h6.le h9.le (fun n hn => h6.lv hM.t hM.n h4 hne hn) (fun n hn => h9.lv hM.t hM.n h7 hne2 hn)
  · obtain ⟨e8, e9⟩ := f4 k
    have hjl : (jn [44, 32] ((txs c).map fun c => brk c 1)).length ≤ 100000000 := by
      have : bareN x (txs c) = x.s ++ [40] ++ jn [44, 32] ((txs c).map fun c => brk c 1) ++ [41] := by
        unfold bareN
        simp only [k, Nat.reduceEqDiff, ↓reduceIte]
      rw [this] at hle
      simp at hle
      omega
    refine bare_33 hB (txs c) k hs0 hjl (fun al capl W hW hrow => ?_)
    exact list_kids hLib hM ha 35 (.inl rfl) hK (by rw [hls, hlt]) (by rw [hlt]; exact e8) (fun c => brk c 1) (fun i t q d g1 g2 g3 g4 => LvC.tx g4 hM g3 (kexpr_ne (e9 _ (List.mem_of_getElem? g2)))) hjl al capl W hW hrow
  · obtain ⟨e8, e9⟩ := f5 k
    have hjl : (jn [44, 32] ((txs c).map (·.2))).length ≤ 100000000 := by
      have : bareN x (txs c) = x.s ++ [32, 123, 32] ++ jn [44, 32] ((txs c).map (·.2)) ++ [32, 125] := by
        unfold bareN
        simp only [k, Nat.reduceEqDiff, ↓reduceIte]
      rw [this] at hle
      simp at hle
      omega
    refine bare_34 hB (txs c) k hs0 hjl (fun al capl W hW hrow => ?_)
    exact list_kids hLib hM ha 76 (.inr rfl) hK (by rw [hls, hlt]) (by rw [hlt]; exact e8) (·.2) (fun i t q d g1 g2 g3 g4 => by
      obtain ⟨d', k1, -, -, -, k5⟩ := g4.nd
      rw [g3] at k1
      cases k1
      exact k5 (e9 _ (List.mem_of_getElem? g2))) hjl al capl W hW hrow
/-- named tells the text of what has a name within an expression. -/
theorem named_node {w0 : World} {T : List Nd} {a : Option Addr} {cap : Nat} (hM : TM w0 a T) {o : Nat} {x : Nx} {c : Fo} (hd : T[o]? = some ⟨x, c.starts (o + 1)⟩) (hk : x.k = 35) (ho : okP x c.kinds = true) (hK : Kids w0 T a cap (c.starts (o + 1)) c.kinds (txs c)) :
    TxC 76 w0 T a cap o (bareN x (txs c)) := fun w hw => by
  have hB := hM.bin cap hd hw
  have hmem : (⟨x, c.starts (o + 1)⟩ : Nd) ∈ T := List.mem_of_getElem? hd
  have hs0 : x.s.length ≤ 1000000 := by have h : x.s.length ≤ 1000 := hM.s _ hmem; omega
  obtain ⟨f1, f2, f3, f4, f5, f6, f7⟩ := cf_expr (by rw [hk]; rfl) (ok_cf ho)
  obtain ⟨j, hj, hje⟩ := f2 (by omega)
  obtain ⟨q, d, t, h1, h2, h3, h4, h5⟩ := one_kid hK hj
  have hne : d.x.k ≠ 35 := by rw [h4]; exact kexpr_ne hje
  exact named_35 hB (txs c) hk hs0 q h1 t h2 (brk_le h5.le 1) (LvC.tx h5 hM h3 hne)
theorem Fo.flat_len (f : Fo) (o : Nat) : (f.flat o).length = f.size := Fo.len_flat f o
/-- All trees beside one another in a segment of the tree. -/
theorem kids_any {w0 : World} (hLib : LibC w0) {T : List Nd} {a : Option Addr} {cap : Nat} (hM : TM w0 a T) : ∀ (f : Fo) (o : Nat), (T.drop o).take f.size = f.flat o → f.all okP = true → (∀ k ∈ f.kinds, kX k = true) → wtF f ≤ 9000000 → Kids w0 T a cap (f.starts o) f.kinds (txs f)
  | .nil, o, _, _, _, _ => fun i t h => by simp [txs] at h
  | .cons x c r, o, hs, ha, hk, hw => fun i t h => by
    obtain ⟨s1, s2, s3⟩ := seg_head (Fo.len_flat c (o + 1)) (Fo.len_flat r (o + 1 + c.size)) hs
    simp only [Fo.all, Bool.and_eq_true] at ha
    have hx : kX x.k = true := hk _ (by simp [Fo.kinds])
    obtain ⟨c1, -⟩ := cf_expr hx (ok_cf ha.1.1)
    have hwc : wtF c ≤ 9000000 := by rw [wtF] at hw; omega
    have hwr : wtF r ≤ 9000000 := by rw [wtF] at hw; omega
    have hKc := kids_any hLib hM (cap := cap) c (o + 1) s2 ha.1.2 c1 hwc
    have hKr := kids_any hLib hM (cap := cap) r (o + 1 + c.size) s3 ha.2 (fun k hk' => hk k (by simp [Fo.kinds, hk'])) hwr
    have hN : ∀ d ∈ (Fo.cons x c r).flat o, -9223372036854775808 ≤ d.x.n ∧ d.x.n ≤ 9223372036854775807 := fun d hd => hM.i d (by
      rw [← hs] at hd
      exact List.mem_of_mem_drop (List.mem_of_mem_take hd))
    match i, h with
    | 0, h =>
      have hle := txs_le hN h
      simp only [txs, List.getElem?_cons_zero, Option.some.injEq] at h
      subst h
      refine ⟨o, ⟨x, c.starts (o + 1)⟩, rfl, s1, rfl, ⟨⟨_, s1, rfl, hx, fun hne => ?_, fun he => ?_⟩, by omega⟩⟩
      · exact bare_node hLib hM s1 hx hne ha.1.1 hKc (by have : (bareN x (txs c)).length + 4 ≤ _ := hle; omega)
      · exact named_node hM s1 he ha.1.1 hKc
    | j + 1, h =>
      simp only [txs, List.getElem?_cons_succ] at h
      obtain ⟨q, d, h1, h2, h3, h4⟩ := hKr j t h
      exact ⟨q, d, h1, h2, h3, h4⟩
end Go.Proofs.YtahdnfogdnondaaGreatDoor
