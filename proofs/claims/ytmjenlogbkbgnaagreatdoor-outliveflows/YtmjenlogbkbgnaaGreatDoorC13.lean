import Derived.Test.YtmjenlogbkbgnaaGreatDoorC12
namespace Go.Proofs.YtmjenlogbkbgnaaGreatDoor
open Go.RowKit Go.Shelf
set_option linter.unusedVariables false
set_option linter.unusedSimpArgs false
set_option maxRecDepth 100000
set_option maxHeartbeats 8000000
theorem typeOf_2 (w0 w:World) (b:Nat) (n l:Int) (a:Option Addr) (m cap:Nat) (R:Option Ch) (hR:R=if (decide (l=0) && decide (m=0)) && (decide (n=0) || decide (n=1)) then some (.leaf 2 0) else none) :
  Calls Tryz.prog 215 #[.pointer (some ⟨b,0,none⟩),oV 2 n l a m cap] w fun e w'=>TyPost R w0 e∧Below w.heap.size w w':=by
 have HW:=jH (TV.start w 2 n l a m cap zT)
 obtain ⟨b0,hb0⟩:∃ b0,b0=(decide (l=0) && decide (m=0)):=⟨_,rfl⟩
 have C188:Hid (∀ W,Calls Tryz.prog 212 #[plV l a m cap] W fun e w'=>e=.returned (.bool b0)∧Below W.heap.size W w'):=fun W=>noPlace_any _ _ _ _ W b0 hb0
 rw [← hb0] at hR
 clear hb0
 show Calls Tryz.prog 215 #[.pointer (some ⟨b,0,none⟩),.agg #[.int .u8 2,.int .i64 n,.int .i64 l,.slice a m cap]] w _
 cases b0 with
 | false =>
  have hR2:R=none:=hR
  subst hR2
  clear hR
  have e0:True:=trivial
  have e1:True:=trivial
  have hS0:TS w 2 n l a m cap (((w.alloc (oO 2 n l a m cap)).alloc zT.o).drew):=⟨zT,HW.out.a3,HW.out.a4,belN HW.out.bel 1⟩
  clear HW
  go_enter Tryz.func215,Tryz.ntmps215
  go_upto_region 5 with fail
  refine beginH (S:=fun V=>TS w 2 n l a m cap V) (fun _ _ _ _ _ h=>h) (by kernel_rfl) hS0 (fun hq hH=>?_)
  refine tz 0 20 (.agg #[.int .u8 2,.bool false,.int .i64 0,.int .i64 0,.slice none 0 0]) hq rfl rfl hH ?_
  simp only [pb,pc]
  refine tz 1 21 (.pointer (some ⟨w.heap.size,2,none⟩)) hq rfl rfl hH ?_
  simp only [pb,pc]
  refine tq 2 22 (.agg #[.int .i64 l,.slice a m cap]) hq rfl rfl (fun W hSw=>by (obtain ⟨f0,hTV⟩:=hSw;obtain ⟨c0,c1,c2,c3⟩:=hTV.a3.ov;clear hTV;go_simp;try first|rfl|simp [e0,e1])) hH ?_
  simp only [pb,pc]
  refine aR1 3 rfl (fun K hK=>?_)
  go_simp
  refine (C188.out _).mono ?_
  rintro e v1 ⟨rfl,hb1⟩
  have hS1:TS w 2 n l a m cap v1:=TS.aft hS0 hb1
  go_wp2_with fail
  refine hK.out _ _ hS1 (fun hH=>?_)
  clear hK K
  try simp only [Act.put,List.setIfInBounds_toArray,pb,pc]
  skip
  clear hb1
  refine tz 4 24 (.bool false) hq rfl rfl hH ?_
  simp only [pb,pc]
  refine sq 5 25 hq rfl rfl hH ?_
  simp only [pb,pc]
  refine sq 6 26 hq rfl rfl hH ?_
  simp only [pb,pc]
  refine sq 7 27 hq rfl rfl hH ?_
  simp only [pb,pc]
  refine sq 8 28 hq rfl rfl hH ?_
  simp only [pb,pc]
  refine sq 9 29 hq rfl rfl hH ?_
  simp only [pb,pc]
  refine sq 10 30 hq rfl rfl hH ?_
  simp only [pb,pc]
  refine sq 11 31 hq rfl rfl hH ?_
  simp only [pb,pc]
  refine sq 12 32 hq rfl rfl hH ?_
  simp only [pb,pc]
  refine tz 13 33 (.bool false) hq rfl rfl hH ?_
  simp only [pb,pc]
  refine aR1 14 rfl (fun K hK=>?_)
  obtain ⟨f0,hTV⟩:=hS1
  refine wp_storeT1 (w.heap.size+1) f0 ⟨2,false,0,0,none,0,0⟩ rfl rfl hTV.a4 rfl rfl ?_
  intro v2 hA9 hB9
  have HF:=jH (hTV.st hA9 hB9)
  clear hTV hA9 hB9
  refine hK.out _ _ ⟨_,HF.out⟩ (fun hH=>?_)
  clear hK K
  try simp only [Act.put,List.setIfInBounds_toArray,pb,pc]
  refine tz 15 5 (.bool false) hq rfl rfl hH ?_
  simp only [pb,pc]
  refine wpAnyH_done (by kernel_rfl) ?_ _
  go_wp2_with fail
  exact bodyPost_ret (results_c2 (g:=⟨2,false,0,0,none,0,0⟩) Tryz.results215 rfl rfl HF.out.a4.ty) rfl ⟨⟨⟨2,false,0,0,none,0,0⟩,rfl⟩,HF.out.bel⟩
 | true =>
  by_cases hn0:n=0
  ·have hR2:R=some (.leaf 2 0):=by rw [hR,decide_eq_true hn0];rfl
   have e0:(n == 0)=true:=by simpa using hn0
   have e1:True:=trivial
   subst hR2
   clear hR hn0
   have hS0:TS w 2 n l a m cap (((w.alloc (oO 2 n l a m cap)).alloc zT.o).drew):=⟨zT,HW.out.a3,HW.out.a4,belN HW.out.bel 1⟩
   clear HW
   go_enter Tryz.func215,Tryz.ntmps215
   go_upto_region 5 with fail
   refine beginH (S:=fun V=>TS w 2 n l a m cap V) (fun _ _ _ _ _ h=>h) (by kernel_rfl) hS0 (fun hq hH=>?_)
   refine tz 0 20 (.agg #[.int .u8 2,.bool false,.int .i64 0,.int .i64 0,.slice none 0 0]) hq rfl rfl hH ?_
   simp only [pb,pc]
   refine tz 1 21 (.pointer (some ⟨w.heap.size,2,none⟩)) hq rfl rfl hH ?_
   simp only [pb,pc]
   refine tq 2 22 (.agg #[.int .i64 l,.slice a m cap]) hq rfl rfl (fun W hSw=>by (obtain ⟨f0,hTV⟩:=hSw;obtain ⟨c0,c1,c2,c3⟩:=hTV.a3.ov;clear hTV;go_simp;try first|rfl|simp [e0,e1])) hH ?_
   simp only [pb,pc]
   refine aR1 3 rfl (fun K hK=>?_)
   go_simp
   refine (C188.out _).mono ?_
   rintro e v1 ⟨rfl,hb1⟩
   have hS1:TS w 2 n l a m cap v1:=TS.aft hS0 hb1
   go_wp2_with fail
   refine hK.out _ _ hS1 (fun hH=>?_)
   clear hK K
   try simp only [Act.put,List.setIfInBounds_toArray,pb,pc]
   skip
   clear hb1
   refine tz 4 24 (.bool true) hq rfl rfl hH ?_
   simp only [pb,pc]
   refine tz 5 25 (.pointer (some ⟨w.heap.size,1,none⟩)) hq rfl rfl hH ?_
   simp only [pb,pc]
   refine tq 6 26 (.int .i64 n) hq rfl rfl (fun W hSw=>by (obtain ⟨f0,hTV⟩:=hSw;obtain ⟨c0,c1,c2,c3⟩:=hTV.a3.ov;clear hTV;go_simp;try first|rfl|simp [e0,e1])) hH ?_
   simp only [pb,pc]
   refine tq 7 27 (.bool true) hq rfl rfl (fun W hSw=>by (obtain ⟨f0,hTV⟩:=hSw;obtain ⟨c0,c1,c2,c3⟩:=hTV.a3.ov;clear hTV;go_simp;try first|rfl|simp [e0,e1])) hH ?_
   simp only [pb,pc]
   refine tz 8 28 (.bool true) hq rfl rfl hH ?_
   simp only [pb,pc]
   refine sq 9 29 hq rfl rfl hH ?_
   simp only [pb,pc]
   refine sq 10 30 hq rfl rfl hH ?_
   simp only [pb,pc]
   refine sq 11 31 hq rfl rfl hH ?_
   simp only [pb,pc]
   refine tz 12 32 (.bool true) hq rfl rfl hH ?_
   simp only [pb,pc]
   refine tz 13 33 (.bool true) hq rfl rfl hH ?_
   simp only [pb,pc]
   refine aR1 14 rfl (fun K hK=>?_)
   obtain ⟨f0,hTV⟩:=hS1
   refine wp_storeT1 (w.heap.size+1) f0 ⟨2,false,0,0,none,0,0⟩ rfl rfl hTV.a4 rfl rfl ?_
   intro v2 hA9 hB9
   have HF:=jH (hTV.st hA9 hB9)
   clear hTV hA9 hB9
   refine hK.out _ _ ⟨_,HF.out⟩ (fun hH=>?_)
   clear hK K
   try simp only [Act.put,List.setIfInBounds_toArray,pb,pc]
   refine tz 15 5 (.bool true) hq rfl rfl hH ?_
   simp only [pb,pc]
   refine wpAnyH_done (by kernel_rfl) ?_ _
   go_wp2_with fail
   exact bodyPost_ret (results_c2 (g:=⟨2,false,0,0,none,0,0⟩) Tryz.results215 rfl rfl HF.out.a4.ty) rfl ⟨⟨⟨2,false,0,0,none,0,0⟩,rfl,TyAt.mkLeaf 2 0 (by decide) (by decide) (by decide) none 0⟩,HF.out.bel⟩
  ·have e0:(n == 0)=false:=by simpa using hn0
   by_cases hn1:n=1
   ·have hR2:R=some (.leaf 2 0):=by rw [hR,decide_eq_true hn1];simp
    have e1:(n == 1)=true:=by simpa using hn1
    subst hR2
    clear hR hn0 hn1
    have hS0:TS w 2 n l a m cap (((w.alloc (oO 2 n l a m cap)).alloc zT.o).drew):=⟨zT,HW.out.a3,HW.out.a4,belN HW.out.bel 1⟩
    clear HW
    go_enter Tryz.func215,Tryz.ntmps215
    go_upto_region 5 with fail
    refine beginH (S:=fun V=>TS w 2 n l a m cap V) (fun _ _ _ _ _ h=>h) (by kernel_rfl) hS0 (fun hq hH=>?_)
    refine tz 0 20 (.agg #[.int .u8 2,.bool false,.int .i64 0,.int .i64 0,.slice none 0 0]) hq rfl rfl hH ?_
    simp only [pb,pc]
    refine tz 1 21 (.pointer (some ⟨w.heap.size,2,none⟩)) hq rfl rfl hH ?_
    simp only [pb,pc]
    refine tq 2 22 (.agg #[.int .i64 l,.slice a m cap]) hq rfl rfl (fun W hSw=>by (obtain ⟨f0,hTV⟩:=hSw;obtain ⟨c0,c1,c2,c3⟩:=hTV.a3.ov;clear hTV;go_simp;try first|rfl|simp [e0,e1])) hH ?_
    simp only [pb,pc]
    refine aR1 3 rfl (fun K hK=>?_)
    go_simp
    refine (C188.out _).mono ?_
    rintro e v1 ⟨rfl,hb1⟩
    have hS1:TS w 2 n l a m cap v1:=TS.aft hS0 hb1
    go_wp2_with fail
    refine hK.out _ _ hS1 (fun hH=>?_)
    clear hK K
    try simp only [Act.put,List.setIfInBounds_toArray,pb,pc]
    skip
    clear hb1
    refine tz 4 24 (.bool true) hq rfl rfl hH ?_
    simp only [pb,pc]
    refine tz 5 25 (.pointer (some ⟨w.heap.size,1,none⟩)) hq rfl rfl hH ?_
    simp only [pb,pc]
    refine tq 6 26 (.int .i64 n) hq rfl rfl (fun W hSw=>by (obtain ⟨f0,hTV⟩:=hSw;obtain ⟨c0,c1,c2,c3⟩:=hTV.a3.ov;clear hTV;go_simp;try first|rfl|simp [e0,e1])) hH ?_
    simp only [pb,pc]
    refine tq 7 27 (.bool false) hq rfl rfl (fun W hSw=>by (obtain ⟨f0,hTV⟩:=hSw;obtain ⟨c0,c1,c2,c3⟩:=hTV.a3.ov;clear hTV;go_simp;try first|rfl|simp [e0,e1])) hH ?_
    simp only [pb,pc]
    refine tz 8 28 (.bool false) hq rfl rfl hH ?_
    simp only [pb,pc]
    refine tz 9 29 (.pointer (some ⟨w.heap.size,1,none⟩)) hq rfl rfl hH ?_
    simp only [pb,pc]
    refine tq 10 30 (.int .i64 n) hq rfl rfl (fun W hSw=>by (obtain ⟨f0,hTV⟩:=hSw;obtain ⟨c0,c1,c2,c3⟩:=hTV.a3.ov;clear hTV;go_simp;try first|rfl|simp [e0,e1])) hH ?_
    simp only [pb,pc]
    refine tq 11 31 (.bool true) hq rfl rfl (fun W hSw=>by (obtain ⟨f0,hTV⟩:=hSw;obtain ⟨c0,c1,c2,c3⟩:=hTV.a3.ov;clear hTV;go_simp;try first|rfl|simp [e0,e1])) hH ?_
    simp only [pb,pc]
    refine tz 12 32 (.bool true) hq rfl rfl hH ?_
    simp only [pb,pc]
    refine tz 13 33 (.bool true) hq rfl rfl hH ?_
    simp only [pb,pc]
    refine aR1 14 rfl (fun K hK=>?_)
    obtain ⟨f0,hTV⟩:=hS1
    refine wp_storeT1 (w.heap.size+1) f0 ⟨2,false,0,0,none,0,0⟩ rfl rfl hTV.a4 rfl rfl ?_
    intro v2 hA9 hB9
    have HF:=jH (hTV.st hA9 hB9)
    clear hTV hA9 hB9
    refine hK.out _ _ ⟨_,HF.out⟩ (fun hH=>?_)
    clear hK K
    try simp only [Act.put,List.setIfInBounds_toArray,pb,pc]
    refine tz 15 5 (.bool true) hq rfl rfl hH ?_
    simp only [pb,pc]
    refine wpAnyH_done (by kernel_rfl) ?_ _
    go_wp2_with fail
    exact bodyPost_ret (results_c2 (g:=⟨2,false,0,0,none,0,0⟩) Tryz.results215 rfl rfl HF.out.a4.ty) rfl ⟨⟨⟨2,false,0,0,none,0,0⟩,rfl,TyAt.mkLeaf 2 0 (by decide) (by decide) (by decide) none 0⟩,HF.out.bel⟩
   ·have hR2:R=none:=by rw [hR,decide_eq_false hn0,decide_eq_false hn1];rfl
    have e1:(n == 1)=false:=by simpa using hn1
    subst hR2
    clear hR hn0 hn1
    have hS0:TS w 2 n l a m cap (((w.alloc (oO 2 n l a m cap)).alloc zT.o).drew):=⟨zT,HW.out.a3,HW.out.a4,belN HW.out.bel 1⟩
    clear HW
    go_enter Tryz.func215,Tryz.ntmps215
    go_upto_region 5 with fail
    refine beginH (S:=fun V=>TS w 2 n l a m cap V) (fun _ _ _ _ _ h=>h) (by kernel_rfl) hS0 (fun hq hH=>?_)
    refine tz 0 20 (.agg #[.int .u8 2,.bool false,.int .i64 0,.int .i64 0,.slice none 0 0]) hq rfl rfl hH ?_
    simp only [pb,pc]
    refine tz 1 21 (.pointer (some ⟨w.heap.size,2,none⟩)) hq rfl rfl hH ?_
    simp only [pb,pc]
    refine tq 2 22 (.agg #[.int .i64 l,.slice a m cap]) hq rfl rfl (fun W hSw=>by (obtain ⟨f0,hTV⟩:=hSw;obtain ⟨c0,c1,c2,c3⟩:=hTV.a3.ov;clear hTV;go_simp;try first|rfl|simp [e0,e1])) hH ?_
    simp only [pb,pc]
    refine aR1 3 rfl (fun K hK=>?_)
    go_simp
    refine (C188.out _).mono ?_
    rintro e v1 ⟨rfl,hb1⟩
    have hS1:TS w 2 n l a m cap v1:=TS.aft hS0 hb1
    go_wp2_with fail
    refine hK.out _ _ hS1 (fun hH=>?_)
    clear hK K
    try simp only [Act.put,List.setIfInBounds_toArray,pb,pc]
    skip
    clear hb1
    refine tz 4 24 (.bool true) hq rfl rfl hH ?_
    simp only [pb,pc]
    refine tz 5 25 (.pointer (some ⟨w.heap.size,1,none⟩)) hq rfl rfl hH ?_
    simp only [pb,pc]
    refine tq 6 26 (.int .i64 n) hq rfl rfl (fun W hSw=>by (obtain ⟨f0,hTV⟩:=hSw;obtain ⟨c0,c1,c2,c3⟩:=hTV.a3.ov;clear hTV;go_simp;try first|rfl|simp [e0,e1])) hH ?_
    simp only [pb,pc]
    refine tq 7 27 (.bool false) hq rfl rfl (fun W hSw=>by (obtain ⟨f0,hTV⟩:=hSw;obtain ⟨c0,c1,c2,c3⟩:=hTV.a3.ov;clear hTV;go_simp;try first|rfl|simp [e0,e1])) hH ?_
    simp only [pb,pc]
    refine tz 8 28 (.bool false) hq rfl rfl hH ?_
    simp only [pb,pc]
    refine tz 9 29 (.pointer (some ⟨w.heap.size,1,none⟩)) hq rfl rfl hH ?_
    simp only [pb,pc]
    refine tq 10 30 (.int .i64 n) hq rfl rfl (fun W hSw=>by (obtain ⟨f0,hTV⟩:=hSw;obtain ⟨c0,c1,c2,c3⟩:=hTV.a3.ov;clear hTV;go_simp;try first|rfl|simp [e0,e1])) hH ?_
    simp only [pb,pc]
    refine tq 11 31 (.bool false) hq rfl rfl (fun W hSw=>by (obtain ⟨f0,hTV⟩:=hSw;obtain ⟨c0,c1,c2,c3⟩:=hTV.a3.ov;clear hTV;go_simp;try first|rfl|simp [e0,e1])) hH ?_
    simp only [pb,pc]
    refine tz 12 32 (.bool false) hq rfl rfl hH ?_
    simp only [pb,pc]
    refine tz 13 33 (.bool false) hq rfl rfl hH ?_
    simp only [pb,pc]
    refine aR1 14 rfl (fun K hK=>?_)
    obtain ⟨f0,hTV⟩:=hS1
    refine wp_storeT1 (w.heap.size+1) f0 ⟨2,false,0,0,none,0,0⟩ rfl rfl hTV.a4 rfl rfl ?_
    intro v2 hA9 hB9
    have HF:=jH (hTV.st hA9 hB9)
    clear hTV hA9 hB9
    refine hK.out _ _ ⟨_,HF.out⟩ (fun hH=>?_)
    clear hK K
    try simp only [Act.put,List.setIfInBounds_toArray,pb,pc]
    refine tz 15 5 (.bool false) hq rfl rfl hH ?_
    simp only [pb,pc]
    refine wpAnyH_done (by kernel_rfl) ?_ _
    go_wp2_with fail
    exact bodyPost_ret (results_c2 (g:=⟨2,false,0,0,none,0,0⟩) Tryz.results215 rfl rfl HF.out.a4.ty) rfl ⟨⟨⟨2,false,0,0,none,0,0⟩,rfl⟩,HF.out.bel⟩
end Go.Proofs.YtmjenlogbkbgnaaGreatDoor
