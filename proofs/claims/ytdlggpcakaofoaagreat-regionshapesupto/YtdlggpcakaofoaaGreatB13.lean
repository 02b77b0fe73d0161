import Derived.Test.YtdlggpcakaofoaaGreatB12
namespace Go.Proofs.YtdlggpcakaofoaaGreat
open Go.RowKit Go.Shelf
set_option linter.unusedVariables false
set_option linter.unusedSimpArgs false
set_option maxRecDepth 100000
set_option maxHeartbeats 8000000
theorem wp_storeT1 {w:World} {o:Oper} {a:Act} {K:Act→World→Prop} {Q:Exit→Act→World→Prop} {x y:Nat} (b:Nat) (f0 f:Fv) (ho:o.op=.store 46 (.tmp x) (.tmp y)) (hd:o.dst=none) (hA:At w b f0.o)
  (hx:a.eval (.tmp x)=.pointer (some ⟨b,0,none⟩)) (hy:a.eval (.tmp y)=f.v) (h:∀ w',At w' b f.o→But b w w'→K a w'):o.wp Tryz.prog a w K Q:=by
 have g0:=hA.tyF 0
 have g1:=hA.tyF 1
 have g2:=hA.tyF 2
 have g3:=hA.tyF 3
 have g4:=hA.tyF 4
 obtain ⟨hl,q0,q1,q2,q3,q4⟩:=hA.ty
 simp only [Nat.zero_add] at q0 q1 q2 q3 q4
 have hx2:a.tmps[x]?.getD undef=.pointer (some ⟨b,0,none⟩):=by rw [← hx];simp [Act.eval]
 have hy2:a.tmps[y]?.getD undef=f.v:=by rw [← hy];simp [Act.eval]
 unfold Oper.wp
 simp [execOp,ho,hd,hx2,hy2,go_sem,q0,q1,q2,q3,q4,g0,g1,g2,g3,g4]
 exact h _ (hA.set5 f) (but_s5 _ _ f)
theorem wpl_storeT1 {w:World} {ops:Array Oper} {rest:List Oper} {a:Act} {Q:Exit→Act→World→Prop} {x y:Nat} {ty:TypeId} {pos:String} {after:Array Edge} (b:Nat) (f0 f:Fv) (hA:At w b f0.o)
  (hx:a.eval (.tmp x)=.pointer (some ⟨b,0,none⟩)) (hy:a.eval (.tmp y)=f.v) (h:∀ w',At w' b f.o→But b w w'→wpList Tryz.prog ops Q rest a w'):wpList Tryz.prog ops Q (⟨none,.store 46 (.tmp x) (.tmp y),ty,pos,after,none⟩::rest) a w :=
 wpl_storeT b f0 f hA hx hy (fun w' e=>by subst e;exact h _ (hA.set5 f) (but_s5 _ _ f))
theorem Tryz.results167:Tryz.f167.results=#[.cell 4 46,.tmp 5]:=rfl
structure TV (w V:World) (k:Nat) (n l:Int) (a:Option Addr) (m cap:Nat) (f0:Fv):Prop where
 a3:At V w.heap.size (oO k n l a m cap)
 a4:At V (w.heap.size+1) f0.o
 bel:Below w.heap.size w V
theorem TV.start (w:World) (k:Nat) (n l:Int) (a:Option Addr) (m cap:Nat) (f0:Fv):TV w ((w.alloc (oO k n l a m cap)).alloc f0.o) k n l a m cap f0:=⟨(At.new _ _).alloc _,at_snd _ _ _,belA (belA bR)⟩
theorem TV.st {w V V':World} {k:Nat} {n l:Int} {a:Option Addr} {m cap:Nat} {f0 f:Fv} (h:TV w V k n l a m cap f0) (hA:At V' (w.heap.size+1) f.o) (hb:But (w.heap.size+1) V V'):TV w V' k n l a m cap f :=
 ⟨h.a3.grown hb (by simp),hA,belBut h.bel hb (by omega) h.bel.size⟩
theorem TV.aft {w V V':World} {k:Nat} {n l:Int} {a:Option Addr} {m cap:Nat} {f0:Fv} (h:TV w V k n l a m cap f0) (hb:Below V.heap.size V V'):TV w V' k n l a m cap f0:=⟨h.a3.below hb,h.a4.below hb,jB h.bel hb⟩
def TS (w:World) (k:Nat) (n l:Int) (a:Option Addr) (m cap:Nat) (V:World):Prop:=∃ f0,TV w V k n l a m cap f0
theorem TS.aft {w V V':World} {k:Nat} {n l:Int} {a:Option Addr} {m cap:Nat} (h:TS w k n l a m cap V) (hb:Below V.heap.size V V'):TS w k n l a m cap V':=by obtain ⟨f0,h⟩:=h;exact ⟨f0,h.aft hb⟩
def TW (w:World) (k:Nat) (n l:Int) (a:Option Addr) (m cap bw:Nat) (y:Gy) (V:World):Prop:=∃ f0,TV w V k n l a m cap f0∧At V bw y.o∧w.heap.size+1<bw
theorem TW.aft {w V V':World} {k:Nat} {n l:Int} {a:Option Addr} {m cap bw:Nat} {y:Gy} (h:TW w k n l a m cap bw y V) (hb:Below V.heap.size V V'):TW w k n l a m cap bw y V':=by obtain ⟨f0,h,h1,h2⟩:=h;exact ⟨f0,h.aft hb,h1.below hb,h2⟩
def TyPost (R:Option Ch) (w:World) (e:Ending):Prop:=match R with
 | some c=>∃ f':Fv,e=.returned (.tuple #[f'.v,.bool true])∧TyAt w f' c.ty
 | none=>∃ f':Fv,e=.returned (.tuple #[f'.v,.bool false])
theorem typeOf_1 (w0 w:World) (b:Nat) (n l:Int) (a:Option Addr) (m cap:Nat) (R:Option Ch) (hR:R=if (decide (l=0) && decide (m=0)) then some (.leaf 1 0) else none) :
  Calls Tryz.prog 167 #[.pointer (some ⟨b,0,none⟩),oV 1 n l a m cap] w fun e w'=>TyPost R w0 e∧Below w.heap.size w w':=by
 have HW:=jH (TV.start w 1 n l a m cap zT)
 obtain ⟨b0,hb0⟩:∃ b0,b0=(decide (l=0) && decide (m=0)):=⟨_,rfl⟩
 have C188:Hid (∀ W,Calls Tryz.prog 164 #[plV l a m cap] W fun e w'=>e=.returned (.bool b0)∧Below W.heap.size W w'):=fun W=>noPlace_any _ _ _ _ W b0 hb0
 rw [← hb0] at hR
 clear hb0
 show Calls Tryz.prog 167 #[.pointer (some ⟨b,0,none⟩),.agg #[.int .u8 1,.int .i64 n,.int .i64 l,.slice a m cap]] w _
 cases b0 with
 | true =>
  have hR2:R=some (.leaf 1 0):=hR
  subst hR2
  clear hR
  go_enter Tryz.func167,Tryz.ntmps167
  go_wp2_with (first
   | (go_at_call 164;refine (C188.out _).mono ?_;rintro e w1 ⟨rfl,hb1⟩;have H1:=jH (HW.out.aft hb1);clear hb1)
   | ((with_reducible show wpList _ _ _ (Oper.mk none (Op.store 46 _ _) _ _ _ none::_) _ _);refine wpl_storeT1 (w.heap.size+1) zT ⟨1,false,0,0,none,0,0⟩ H1.out.a4 rfl rfl ?_;intro HFw hA9 hB9;have HF:=jH (H1.out.st hA9 hB9);clear hA9 hB9))
  exact bodyPost_ret (results_c2 (g:=⟨1,false,0,0,none,0,0⟩) Tryz.results167 rfl rfl HF.out.a4.ty) rfl ⟨⟨⟨1,false,0,0,none,0,0⟩,rfl,TyAt.mkLeaf 1 0 (by decide) (by decide) (by decide) none 0⟩,HF.out.bel⟩
 | false =>
  have hR2:R=none:=hR
  subst hR2
  clear hR
  go_enter Tryz.func167,Tryz.ntmps167
  go_wp2_with (first
   | (go_at_call 164;refine (C188.out _).mono ?_;rintro e w1 ⟨rfl,hb1⟩;have H1:=jH (HW.out.aft hb1);clear hb1)
   | ((with_reducible show wpList _ _ _ (Oper.mk none (Op.store 46 _ _) _ _ _ none::_) _ _);refine wpl_storeT1 (w.heap.size+1) zT ⟨1,false,0,0,none,0,0⟩ H1.out.a4 rfl rfl ?_;intro HFw hA9 hB9;have HF:=jH (H1.out.st hA9 hB9);clear hA9 hB9))
  exact bodyPost_ret (results_c2 (g:=⟨1,false,0,0,none,0,0⟩) Tryz.results167 rfl rfl HF.out.a4.ty) rfl ⟨⟨⟨1,false,0,0,none,0,0⟩,rfl⟩,HF.out.bel⟩
theorem typeOf_2 (w0 w:World) (b:Nat) (n l:Int) (a:Option Addr) (m cap:Nat) (R:Option Ch) (hR:R=if (decide (l=0) && decide (m=0)) && (decide (n=0) || decide (n=1)) then some (.leaf 2 0) else none) :
  Calls Tryz.prog 167 #[.pointer (some ⟨b,0,none⟩),oV 2 n l a m cap] w fun e w'=>TyPost R w0 e∧Below w.heap.size w w':=by
 have HW:=jH (TV.start w 2 n l a m cap zT)
 obtain ⟨b0,hb0⟩:∃ b0,b0=(decide (l=0) && decide (m=0)):=⟨_,rfl⟩
 have C188:Hid (∀ W,Calls Tryz.prog 164 #[plV l a m cap] W fun e w'=>e=.returned (.bool b0)∧Below W.heap.size W w'):=fun W=>noPlace_any _ _ _ _ W b0 hb0
 rw [← hb0] at hR
 clear hb0
 show Calls Tryz.prog 167 #[.pointer (some ⟨b,0,none⟩),.agg #[.int .u8 2,.int .i64 n,.int .i64 l,.slice a m cap]] w _
 cases b0 with
 | false =>
  have hR2:R=none:=hR
  subst hR2
  clear hR
  have e0:True:=trivial
  have e1:True:=trivial
  have hS0:TS w 2 n l a m cap (((w.alloc (oO 2 n l a m cap)).alloc zT.o).drew):=⟨zT,HW.out.a3,HW.out.a4,belN HW.out.bel 1⟩
  clear HW
  go_enter Tryz.func167,Tryz.ntmps167
  go_upto_region 5 with fail
  refine beginH (S:=fun V=>TS w 2 n l a m cap V) (fun _ _ _ _ _ h=>h) (by kernel_rfl) hS0 (fun hq hH=>?_)
  refine tz 0 20 (.agg #[.int .u8 2,.bool false,.int .i64 0,.int .i64 0,.slice none 0 0]) hq rfl rfl hH ?_
  simp only [pb,pc]
  refine tz 1 21 (.pointer (some ⟨w.heap.size,2,none⟩)) hq rfl rfl hH ?_
  simp only [pb,pc]
  refine tq 2 22 (.agg #[.int .i64 l,.slice a m cap]) hq rfl rfl (fun W hSw=>by (obtain ⟨f0,hTV⟩:=hSw;obtain ⟨c0,c1,c2,c3⟩:=hTV.a3.ov;clear hTV;go_simp;try first|rfl|simp [e0,e1])) hH ?_
  simp only [pb,pc]
  refine aR1 3 rfl (fun K hK=>?_)
  go_simp
  refine (C188.out _).mono ?_
  rintro e v1 ⟨rfl,hb1⟩
  have hS1:TS w 2 n l a m cap v1:=TS.aft hS0 hb1
  go_wp2_with fail
  refine hK.out _ _ hS1 (fun hH=>?_)
  clear hK K
  try simp only [Act.put,List.setIfInBounds_toArray,pb,pc]
  skip
  clear hb1
  refine tz 4 24 (.bool false) hq rfl rfl hH ?_
  simp only [pb,pc]
  refine sq 5 25 hq rfl rfl hH ?_
  simp only [pb,pc]
  refine sq 6 26 hq rfl rfl hH ?_
  simp only [pb,pc]
  refine sq 7 27 hq rfl rfl hH ?_
  simp only [pb,pc]
  refine sq 8 28 hq rfl rfl hH ?_
  simp only [pb,pc]
  refine sq 9 29 hq rfl rfl hH ?_
  simp only [pb,pc]
  refine sq 10 30 hq rfl rfl hH ?_
  simp only [pb,pc]
  refine sq 11 31 hq rfl rfl hH ?_
  simp only [pb,pc]
  refine sq 12 32 hq rfl rfl hH ?_
  simp only [pb,pc]
  refine tz 13 33 (.bool false) hq rfl rfl hH ?_
  simp only [pb,pc]
  refine aR1 14 rfl (fun K hK=>?_)
  obtain ⟨f0,hTV⟩:=hS1
  refine wp_storeT1 (w.heap.size+1) f0 ⟨2,false,0,0,none,0,0⟩ rfl rfl hTV.a4 rfl rfl ?_
  intro v2 hA9 hB9
  have HF:=jH (hTV.st hA9 hB9)
  clear hTV hA9 hB9
  refine hK.out _ _ ⟨_,HF.out⟩ (fun hH=>?_)
  clear hK K
  try simp only [Act.put,List.setIfInBounds_toArray,pb,pc]
  refine tz 15 5 (.bool false) hq rfl rfl hH ?_
  simp only [pb,pc]
  refine wpAnyH_done (by kernel_rfl) ?_ _
  go_wp2_with fail
  exact bodyPost_ret (results_c2 (g:=⟨2,false,0,0,none,0,0⟩) Tryz.results167 rfl rfl HF.out.a4.ty) rfl ⟨⟨⟨2,false,0,0,none,0,0⟩,rfl⟩,HF.out.bel⟩
 | true =>
  by_cases hn0:n=0
  ·have hR2:R=some (.leaf 2 0):=by rw [hR,decide_eq_true hn0];rfl
   have e0:(n == 0)=true:=by simpa using hn0
   have e1:True:=trivial
   subst hR2
   clear hR hn0
   have hS0:TS w 2 n l a m cap (((w.alloc (oO 2 n l a m cap)).alloc zT.o).drew):=⟨zT,HW.out.a3,HW.out.a4,belN HW.out.bel 1⟩
   clear HW
   go_enter Tryz.func167,Tryz.ntmps167
   go_upto_region 5 with fail
   refine beginH (S:=fun V=>TS w 2 n l a m cap V) (fun _ _ _ _ _ h=>h) (by kernel_rfl) hS0 (fun hq hH=>?_)
   refine tz 0 20 (.agg #[.int .u8 2,.bool false,.int .i64 0,.int .i64 0,.slice none 0 0]) hq rfl rfl hH ?_
   simp only [pb,pc]
   refine tz 1 21 (.pointer (some ⟨w.heap.size,2,none⟩)) hq rfl rfl hH ?_
   simp only [pb,pc]
   refine tq 2 22 (.agg #[.int .i64 l,.slice a m cap]) hq rfl rfl (fun W hSw=>by (obtain ⟨f0,hTV⟩:=hSw;obtain ⟨c0,c1,c2,c3⟩:=hTV.a3.ov;clear hTV;go_simp;try first|rfl|simp [e0,e1])) hH ?_
   simp only [pb,pc]
   refine aR1 3 rfl (fun K hK=>?_)
   go_simp
   refine (C188.out _).mono ?_
   rintro e v1 ⟨rfl,hb1⟩
   have hS1:TS w 2 n l a m cap v1:=TS.aft hS0 hb1
   go_wp2_with fail
   refine hK.out _ _ hS1 (fun hH=>?_)
   clear hK K
   try simp only [Act.put,List.setIfInBounds_toArray,pb,pc]
   skip
   clear hb1
   refine tz 4 24 (.bool true) hq rfl rfl hH ?_
   simp only [pb,pc]
   refine tz 5 25 (.pointer (some ⟨w.heap.size,1,none⟩)) hq rfl rfl hH ?_
   simp only [pb,pc]
   refine tq 6 26 (.int .i64 n) hq rfl rfl (fun W hSw=>by (obtain ⟨f0,hTV⟩:=hSw;obtain ⟨c0,c1,c2,c3⟩:=hTV.a3.ov;clear hTV;go_simp;try first|rfl|simp [e0,e1])) hH ?_
   simp only [pb,pc]
   refine tq 7 27 (.bool true) hq rfl rfl (fun W hSw=>by (obtain ⟨f0,hTV⟩:=hSw;obtain ⟨c0,c1,c2,c3⟩:=hTV.a3.ov;clear hTV;go_simp;try first|rfl|simp [e0,e1])) hH ?_
   simp only [pb,pc]
   refine tz 8 28 (.bool true) hq rfl rfl hH ?_
   simp only [pb,pc]
   refine sq 9 29 hq rfl rfl hH ?_
   simp only [pb,pc]
   refine sq 10 30 hq rfl rfl hH ?_
   simp only [pb,pc]
   refine sq 11 31 hq rfl rfl hH ?_
   simp only [pb,pc]
   refine tz 12 32 (.bool true) hq rfl rfl hH ?_
   simp only [pb,pc]
   refine tz 13 33 (.bool true) hq rfl rfl hH ?_
   simp only [pb,pc]
   refine aR1 14 rfl (fun K hK=>?_)
   obtain ⟨f0,hTV⟩:=hS1
   refine wp_storeT1 (w.heap.size+1) f0 ⟨2,false,0,0,none,0,0⟩ rfl rfl hTV.a4 rfl rfl ?_
   intro v2 hA9 hB9
   have HF:=jH (hTV.st hA9 hB9)
   clear hTV hA9 hB9
   refine hK.out _ _ ⟨_,HF.out⟩ (fun hH=>?_)
   clear hK K
   try simp only [Act.put,List.setIfInBounds_toArray,pb,pc]
   refine tz 15 5 (.bool true) hq rfl rfl hH ?_
   simp only [pb,pc]
   refine wpAnyH_done (by kernel_rfl) ?_ _
   go_wp2_with fail
   exact bodyPost_ret (results_c2 (g:=⟨2,false,0,0,none,0,0⟩) Tryz.results167 rfl rfl HF.out.a4.ty) rfl ⟨⟨⟨2,false,0,0,none,0,0⟩,rfl,TyAt.mkLeaf 2 0 (by decide) (by decide) (by decide) none 0⟩,HF.out.bel⟩
  ·have e0:(n == 0)=false:=by simpa using hn0
   by_cases hn1:n=1
   ·have hR2:R=some (.leaf 2 0):=by rw [hR,decide_eq_true hn1];simp
    have e1:(n == 1)=true:=by simpa using hn1
    subst hR2
    clear hR hn0 hn1
    have hS0:TS w 2 n l a m cap (((w.alloc (oO 2 n l a m cap)).alloc zT.o).drew):=⟨zT,HW.out.a3,HW.out.a4,belN HW.out.bel 1⟩
    clear HW
    go_enter Tryz.func167,Tryz.ntmps167
    go_upto_region 5 with fail
    refine beginH (S:=fun V=>TS w 2 n l a m cap V) (fun _ _ _ _ _ h=>h) (by kernel_rfl) hS0 (fun hq hH=>?_)
    refine tz 0 20 (.agg #[.int .u8 2,.bool false,.int .i64 0,.int .i64 0,.slice none 0 0]) hq rfl rfl hH ?_
    simp only [pb,pc]
    refine tz 1 21 (.pointer (some ⟨w.heap.size,2,none⟩)) hq rfl rfl hH ?_
    simp only [pb,pc]
    refine tq 2 22 (.agg #[.int .i64 l,.slice a m cap]) hq rfl rfl (fun W hSw=>by (obtain ⟨f0,hTV⟩:=hSw;obtain ⟨c0,c1,c2,c3⟩:=hTV.a3.ov;clear hTV;go_simp;try first|rfl|simp [e0,e1])) hH ?_
    simp only [pb,pc]
    refine aR1 3 rfl (fun K hK=>?_)
    go_simp
    refine (C188.out _).mono ?_
    rintro e v1 ⟨rfl,hb1⟩
    have hS1:TS w 2 n l a m cap v1:=TS.aft hS0 hb1
    go_wp2_with fail
    refine hK.out _ _ hS1 (fun hH=>?_)
    clear hK K
    try simp only [Act.put,List.setIfInBounds_toArray,pb,pc]
    skip
    clear hb1
    refine tz 4 24 (.bool true) hq rfl rfl hH ?_
    simp only [pb,pc]
    refine tz 5 25 (.pointer (some ⟨w.heap.size,1,none⟩)) hq rfl rfl hH ?_
    simp only [pb,pc]
    refine tq 6 26 (.int .i64 n) hq rfl rfl (fun W hSw=>by (obtain ⟨f0,hTV⟩:=hSw;obtain ⟨c0,c1,c2,c3⟩:=hTV.a3.ov;clear hTV;go_simp;try first|rfl|simp [e0,e1])) hH ?_
    simp only [pb,pc]
    refine tq 7 27 (.bool false) hq rfl rfl (fun W hSw=>by (obtain ⟨f0,hTV⟩:=hSw;obtain ⟨c0,c1,c2,c3⟩:=hTV.a3.ov;clear hTV;go_simp;try first|rfl|simp [e0,e1])) hH ?_
    simp only [pb,pc]
    refine tz 8 28 (.bool false) hq rfl rfl hH ?_
    simp only [pb,pc]
    refine tz 9 29 (.pointer (some ⟨w.heap.size,1,none⟩)) hq rfl rfl hH ?_
    simp only [pb,pc]
    refine tq 10 30 (.int .i64 n) hq rfl rfl (fun W hSw=>by (obtain ⟨f0,hTV⟩:=hSw;obtain ⟨c0,c1,c2,c3⟩:=hTV.a3.ov;clear hTV;go_simp;try first|rfl|simp [e0,e1])) hH ?_
    simp only [pb,pc]
    refine tq 11 31 (.bool true) hq rfl rfl (fun W hSw=>by (obtain ⟨f0,hTV⟩:=hSw;obtain ⟨c0,c1,c2,c3⟩:=hTV.a3.ov;clear hTV;go_simp;try first|rfl|simp [e0,e1])) hH ?_
    simp only [pb,pc]
    refine tz 12 32 (.bool true) hq rfl rfl hH ?_
    simp only [pb,pc]
    refine tz 13 33 (.bool true) hq rfl rfl hH ?_
    simp only [pb,pc]
    refine aR1 14 rfl (fun K hK=>?_)
    obtain ⟨f0,hTV⟩:=hS1
    refine wp_storeT1 (w.heap.size+1) f0 ⟨2,false,0,0,none,0,0⟩ rfl rfl hTV.a4 rfl rfl ?_
    intro v2 hA9 hB9
    have HF:=jH (hTV.st hA9 hB9)
    clear hTV hA9 hB9
    refine hK.out _ _ ⟨_,HF.out⟩ (fun hH=>?_)
    clear hK K
    try simp only [Act.put,List.setIfInBounds_toArray,pb,pc]
    refine tz 15 5 (.bool true) hq rfl rfl hH ?_
    simp only [pb,pc]
    refine wpAnyH_done (by kernel_rfl) ?_ _
    go_wp2_with fail
    exact bodyPost_ret (results_c2 (g:=⟨2,false,0,0,none,0,0⟩) Tryz.results167 rfl rfl HF.out.a4.ty) rfl ⟨⟨⟨2,false,0,0,none,0,0⟩,rfl,TyAt.mkLeaf 2 0 (by decide) (by decide) (by decide) none 0⟩,HF.out.bel⟩
   ·have hR2:R=none:=by rw [hR,decide_eq_false hn0,decide_eq_false hn1];rfl
    have e1:(n == 1)=false:=by simpa using hn1
    subst hR2
    clear hR hn0 hn1
    have hS0:TS w 2 n l a m cap (((w.alloc (oO 2 n l a m cap)).alloc zT.o).drew):=⟨zT,HW.out.a3,HW.out.a4,belN HW.out.bel 1⟩
    clear HW
    go_enter Tryz.func167,Tryz.ntmps167
    go_upto_region 5 with fail
    refine beginH (S:=fun V=>TS w 2 n l a m cap V) (fun _ _ _ _ _ h=>h) (by kernel_rfl) hS0 (fun hq hH=>?_)
    refine tz 0 20 (.agg #[.int .u8 2,.bool false,.int .i64 0,.int .i64 0,.slice none 0 0]) hq rfl rfl hH ?_
    simp only [pb,pc]
    refine tz 1 21 (.pointer (some ⟨w.heap.size,2,none⟩)) hq rfl rfl hH ?_
    simp only [pb,pc]
    refine tq 2 22 (.agg #[.int .i64 l,.slice a m cap]) hq rfl rfl (fun W hSw=>by (obtain ⟨f0,hTV⟩:=hSw;obtain ⟨c0,c1,c2,c3⟩:=hTV.a3.ov;clear hTV;go_simp;try first|rfl|simp [e0,e1])) hH ?_
    simp only [pb,pc]
    refine aR1 3 rfl (fun K hK=>?_)
    go_simp
    refine (C188.out _).mono ?_
    rintro e v1 ⟨rfl,hb1⟩
    have hS1:TS w 2 n l a m cap v1:=TS.aft hS0 hb1
    go_wp2_with fail
    refine hK.out _ _ hS1 (fun hH=>?_)
    clear hK K
    try simp only [Act.put,List.setIfInBounds_toArray,pb,pc]
    skip
    clear hb1
    refine tz 4 24 (.bool true) hq rfl rfl hH ?_
    simp only [pb,pc]
    refine tz 5 25 (.pointer (some ⟨w.heap.size,1,none⟩)) hq rfl rfl hH ?_
    simp only [pb,pc]
    refine tq 6 26 (.int .i64 n) hq rfl rfl (fun W hSw=>by (obtain ⟨f0,hTV⟩:=hSw;obtain ⟨c0,c1,c2,c3⟩:=hTV.a3.ov;clear hTV;go_simp;try first|rfl|simp [e0,e1])) hH ?_
    simp only [pb,pc]
    refine tq 7 27 (.bool false) hq rfl rfl (fun W hSw=>by (obtain ⟨f0,hTV⟩:=hSw;obtain ⟨c0,c1,c2,c3⟩:=hTV.a3.ov;clear hTV;go_simp;try first|rfl|simp [e0,e1])) hH ?_
    simp only [pb,pc]
    refine tz 8 28 (.bool false) hq rfl rfl hH ?_
    simp only [pb,pc]
    refine tz 9 29 (.pointer (some ⟨w.heap.size,1,none⟩)) hq rfl rfl hH ?_
    simp only [pb,pc]
    refine tq 10 30 (.int .i64 n) hq rfl rfl (fun W hSw=>by (obtain ⟨f0,hTV⟩:=hSw;obtain ⟨c0,c1,c2,c3⟩:=hTV.a3.ov;clear hTV;go_simp;try first|rfl|simp [e0,e1])) hH ?_
    simp only [pb,pc]
    refine tq 11 31 (.bool false) hq rfl rfl (fun W hSw=>by (obtain ⟨f0,hTV⟩:=hSw;obtain ⟨c0,c1,c2,c3⟩:=hTV.a3.ov;clear hTV;go_simp;try first|rfl|simp [e0,e1])) hH ?_
    simp only [pb,pc]
    refine tz 12 32 (.bool false) hq rfl rfl hH ?_
    simp only [pb,pc]
    refine tz 13 33 (.bool false) hq rfl rfl hH ?_
    simp only [pb,pc]
    refine aR1 14 rfl (fun K hK=>?_)
    obtain ⟨f0,hTV⟩:=hS1
    refine wp_storeT1 (w.heap.size+1) f0 ⟨2,false,0,0,none,0,0⟩ rfl rfl hTV.a4 rfl rfl ?_
    intro v2 hA9 hB9
    have HF:=jH (hTV.st hA9 hB9)
    clear hTV hA9 hB9
    refine hK.out _ _ ⟨_,HF.out⟩ (fun hH=>?_)
    clear hK K
    try simp only [Act.put,List.setIfInBounds_toArray,pb,pc]
    refine tz 15 5 (.bool false) hq rfl rfl hH ?_
    simp only [pb,pc]
    refine wpAnyH_done (by kernel_rfl) ?_ _
    go_wp2_with fail
    exact bodyPost_ret (results_c2 (g:=⟨2,false,0,0,none,0,0⟩) Tryz.results167 rfl rfl HF.out.a4.ty) rfl ⟨⟨⟨2,false,0,0,none,0,0⟩,rfl⟩,HF.out.bel⟩
theorem TV.other {w V V':World} {k:Nat} {n l:Int} {a:Option Addr} {m cap bx:Nat} {f0:Fv} (h:TV w V k n l a m cap f0) (hb:But bx V V') (hx:w.heap.size+1<bx):TV w V' k n l a m cap f0 :=
 ⟨h.a3.grown hb (by simp;omega),h.a4.grown hb (by simp;omega),belBut h.bel hb (by omega) h.bel.size⟩
theorem typeOf_3 (w0 w:World) (hB0:Below w0.heap.size w0 w) (b:Nat) (n l:Int) (a:Option Addr) (m cap:Nat) (RW:Option (Ch × List Int)) (cw:∀ W,Below w.heap.size w W→Calls Tryz.prog 142 #[.pointer (some ⟨b,0,none⟩),plV l a m cap] W fun e w'=>GwPost RW w0 e∧Below W.heap.size W w') (hok:∀ y,RW=some y→Ok y.1)
  (R:Option Ch) (hR:R=RW.bind fun y=>if decide (n=0) && copB y.1 then some y.1 else none) :
  Calls Tryz.prog 167 #[.pointer (some ⟨b,0,none⟩),oV 3 n l a m cap] w fun e w'=>TyPost R w0 e∧Below w.heap.size w w':=by
 have HW:=jH (TV.start w 3 n l a m cap zT)
 have CW:=jH cw
 show Calls Tryz.prog 167 #[.pointer (some ⟨b,0,none⟩),.agg #[.int .u8 3,.int .i64 n,.int .i64 l,.slice a m cap]] w _
 cases RW with
 | none =>
  have hR2:R=none:=hR
  subst hR2
  have e0:True:=trivial
  have CW:Hid (∀ W,Below w.heap.size w W→Calls Tryz.prog 142 #[.pointer (some ⟨b,0,none⟩),plV l a m cap] W fun e w'=>(∃ y:Gy,e=.returned (.tuple #[y.v,.bool false]))∧Below W.heap.size W w'):=cw
  clear hR hok cw hB0
  go_enter Tryz.func167,Tryz.ntmps167
  go_upto_region 8 with (first
   | (go_at_call 142;refine (CW.out _ HW.out.bel).mono ?_;rintro e w1 ⟨⟨⟨⟨kk,mm,rr,ss,aa,nn,cc⟩,br,bs⟩,rfl⟩,hb1⟩;have H1:=jH (HW.out.aft hb1);clear hb1)
   | ((with_reducible show wpList _ _ _ (Oper.mk none (Op.store 162 _ _) _ _ _ none::_) _ _);refine wpl_storeG w1.heap.size zG ⟨⟨kk,mm,rr,ss,aa,nn,cc⟩,br,bs⟩ (At.new w1 _) rfl rfl ?_;intro wb hA9 hB9;have HLO:Hid (w.heap.size+1<w1.heap.size):=H1.out.a4.lt;have HT:=jH ((H1.out.aft (belA (o:=zG.o) bR)).other hB9 HLO.out);have HY:=jH hA9;clear hA9 hB9 H1))
  obtain ⟨bw,hbw⟩:∃ bw,bw=w1.heap.size:=⟨_,rfl⟩
  rw [← hbw] at HY HLO ⊢
  clear hbw HW CW
  have hS0:TW w 3 n l a m cap bw ⟨⟨kk,mm,rr,ss,aa,nn,cc⟩,br,bs⟩ (wb.drew):=⟨zT,⟨HT.out.a3,HT.out.a4,belN HT.out.bel 1⟩,HY.out,HLO.out⟩
  clear HT HY HLO
  refine beginH (S:=fun V=>TW w 3 n l a m cap bw ⟨⟨kk,mm,rr,ss,aa,nn,cc⟩,br,bs⟩ V) (fun _ _ _ _ _ h=>h) (by kernel_rfl) hS0 (fun hq hH=>?_)
  refine tz 0 43 (.pointer (some ⟨bw,0,none⟩)) hq rfl rfl hH ?_
  simp only [pb,pc]
  refine tq 1 44 (.agg #[.int .u8 (kk:Int),.bool mm,.int .i64 rr,.int .i64 ss,.slice aa nn cc]) hq rfl rfl (fun W hSw=>by (obtain ⟨f0,hTV,hW9,hlt9⟩:=hSw;obtain ⟨c0,c1,c2,c3⟩:=hTV.a3.ov;obtain ⟨⟨-,d0,d1,d2,d3,d4⟩,d5,d6⟩:=hW9.gy;simp only [Nat.zero_add] at d0 d1 d2 d3 d4;clear hTV hW9 hlt9;go_simp;try first|rfl|simp [e0])) hH ?_
  simp only [pb,pc]
  refine tz 2 45 (.bool false) hq rfl rfl hH ?_
  simp only [pb,pc]
  refine tz 3 46 (.bool false) hq rfl rfl hH ?_
  simp only [pb,pc]
  refine sq 4 47 hq rfl rfl hH ?_
  simp only [pb,pc]
  refine sq 5 48 hq rfl rfl hH ?_
  simp only [pb,pc]
  refine sq 6 49 hq rfl rfl hH ?_
  simp only [pb,pc]
  refine tz 7 50 (.bool false) hq rfl rfl hH ?_
  simp only [pb,pc]
  refine tz 8 51 (.bool false) hq rfl rfl hH ?_
  simp only [pb,pc]
  refine sq 9 52 hq rfl rfl hH ?_
  simp only [pb,pc]
  refine sq 10 53 hq rfl rfl hH ?_
  simp only [pb,pc]
  refine sq 11 54 hq rfl rfl hH ?_
  simp only [pb,pc]
  refine tz 12 55 (.bool false) hq rfl rfl hH ?_
  simp only [pb,pc]
  refine aR1 13 rfl (fun K hK=>?_)
  obtain ⟨f0,hTV,hW9,hlt9⟩:=hS0
  refine wp_storeT1 (w.heap.size+1) f0 ⟨kk,mm,rr,ss,aa,nn,cc⟩ rfl rfl hTV.a4 rfl rfl ?_
  intro v2 hA9 hB9
  have HF:=jH (hTV.st hA9 hB9)
  have HW9:=jH (hW9.grown hB9 (by simp;omega))
  have HL9:=jH hlt9
  clear hTV hA9 hB9 hW9 hlt9
  refine hK.out _ _ ⟨_,HF.out,HW9.out,HL9.out⟩ (fun hH=>?_)
  clear hK K
  try simp only [Act.put,List.setIfInBounds_toArray,pb,pc]
  refine tz 14 5 (.bool false) hq rfl rfl hH ?_
  simp only [pb,pc]
  refine wpAnyH_done (by kernel_rfl) ?_ _
  go_wp2_with fail
  exact bodyPost_ret (results_c2 (g:=⟨kk,mm,rr,ss,aa,nn,cc⟩) Tryz.results167 rfl rfl HF.out.a4.ty) rfl ⟨⟨⟨kk,mm,rr,ss,aa,nn,cc⟩,rfl⟩,HF.out.bel⟩
 | some y =>
  obtain ⟨c,gs⟩:=y
  have HOK:=jH (hok _ rfl)
  obtain ⟨br,hbr⟩:∃ x,x=byRef gs:=⟨_,rfl⟩
  obtain ⟨bs,hbs⟩:∃ x,x=byShr gs:=⟨_,rfl⟩
  obtain ⟨cp,hcp⟩:∃ x,x=copB c:=⟨_,rfl⟩
  have CW:Hid (∀ W,Below w.heap.size w W→Calls Tryz.prog 142 #[.pointer (some ⟨b,0,none⟩),plV l a m cap] W fun e w'=>(∃ f':Fv,e=.returned (.tuple #[Gy.v ⟨f',br,bs⟩,.bool true])∧TyAt w0 f' c.ty)∧Below W.heap.size W w'):=by rw [hbr,hbs];exact cw
  have CP:Hid (∀ (W:World) (f:Fv),TyAt w0 f c.ty→Below w.heap.size w W→Calls Tryz.prog 173 #[f.v] W fun e w'=>e=.returned (.bool cp)∧Below W.heap.size W w'):=fun W f hf hW=>by rw [hcp];exact Copies_yes c f W HOK.out (hf.bel (jB hB0 hW))
  have hR':R=if (decide (n=0) && cp) then some c else none:=by rw [hR,hcp];rfl
  clear cw hR hok hcp hbr hbs
  by_cases hn:n=0
  ·have e0:(n == 0)=true:=by simpa using hn
   rw [decide_eq_true hn] at hR'
   clear hn
   cases cp with
   | true =>
    have hR2:R=some c:=hR'
    subst hR2
    clear hR'
    go_enter Tryz.func167,Tryz.ntmps167
    go_upto_region 8 with (first
     | (go_at_call 142;refine (CW.out _ HW.out.bel).mono ?_;rintro e w1 ⟨⟨⟨kk,mm,rr,ss,aa,nn,cc⟩,rfl,hf'⟩,hb1⟩;have H1:=jH (HW.out.aft hb1);have HTf:=jH hf';clear hf';clear hb1)
     | ((with_reducible show wpList _ _ _ (Oper.mk none (Op.store 162 _ _) _ _ _ none::_) _ _);refine wpl_storeG w1.heap.size zG ⟨⟨kk,mm,rr,ss,aa,nn,cc⟩,br,bs⟩ (At.new w1 _) rfl rfl ?_;intro wb hA9 hB9;have HLO:Hid (w.heap.size+1<w1.heap.size):=H1.out.a4.lt;have HT:=jH ((H1.out.aft (belA (o:=zG.o) bR)).other hB9 HLO.out);have HY:=jH hA9;clear hA9 hB9 H1))
    obtain ⟨bw,hbw⟩:∃ bw,bw=w1.heap.size:=⟨_,rfl⟩
    rw [← hbw] at HY HLO ⊢
    clear hbw HW CW
    have C36:Hid (∀ W,TW w 3 n l a m cap bw ⟨⟨kk,mm,rr,ss,aa,nn,cc⟩,br,bs⟩ W→Calls Tryz.prog 173 #[tyV kk mm rr ss aa nn cc] W fun e w'=>e=.returned (.bool true)∧Below W.heap.size W w'):=fun W hW=>CP.out W ⟨kk,mm,rr,ss,aa,nn,cc⟩ HTf.out (by obtain ⟨f0,hTV,-⟩:=hW;exact hTV.bel)
    clear CP
    have hS0:TW w 3 n l a m cap bw ⟨⟨kk,mm,rr,ss,aa,nn,cc⟩,br,bs⟩ (wb.drew):=⟨zT,⟨HT.out.a3,HT.out.a4,belN HT.out.bel 1⟩,HY.out,HLO.out⟩
    clear HT HY HLO
    refine beginH (S:=fun V=>TW w 3 n l a m cap bw ⟨⟨kk,mm,rr,ss,aa,nn,cc⟩,br,bs⟩ V) (fun _ _ _ _ _ h=>h) (by kernel_rfl) hS0 (fun hq hH=>?_)
    refine tz 0 43 (.pointer (some ⟨bw,0,none⟩)) hq rfl rfl hH ?_
    simp only [pb,pc]
    refine tq 1 44 (.agg #[.int .u8 (kk:Int),.bool mm,.int .i64 rr,.int .i64 ss,.slice aa nn cc]) hq rfl rfl (fun W hSw=>by (obtain ⟨f0,hTV,hW9,hlt9⟩:=hSw;obtain ⟨c0,c1,c2,c3⟩:=hTV.a3.ov;obtain ⟨⟨-,d0,d1,d2,d3,d4⟩,d5,d6⟩:=hW9.gy;simp only [Nat.zero_add] at d0 d1 d2 d3 d4;clear hTV hW9 hlt9;go_simp;try first|rfl|simp [e0])) hH ?_
    simp only [pb,pc]
    refine tz 2 45 (.bool true) hq rfl rfl hH ?_
    simp only [pb,pc]
    refine tz 3 46 (.bool true) hq rfl rfl hH ?_
    simp only [pb,pc]
    refine tz 4 47 (.pointer (some ⟨w.heap.size,1,none⟩)) hq rfl rfl hH ?_
    simp only [pb,pc]
    refine tq 5 48 (.int .i64 n) hq rfl rfl (fun W hSw=>by (obtain ⟨f0,hTV,hW9,hlt9⟩:=hSw;obtain ⟨c0,c1,c2,c3⟩:=hTV.a3.ov;obtain ⟨⟨-,d0,d1,d2,d3,d4⟩,d5,d6⟩:=hW9.gy;simp only [Nat.zero_add] at d0 d1 d2 d3 d4;clear hTV hW9 hlt9;go_simp;try first|rfl|simp [e0])) hH ?_
    simp only [pb,pc]
    refine tq 6 49 (.bool true) hq rfl rfl (fun W hSw=>by (obtain ⟨f0,hTV,hW9,hlt9⟩:=hSw;obtain ⟨c0,c1,c2,c3⟩:=hTV.a3.ov;obtain ⟨⟨-,d0,d1,d2,d3,d4⟩,d5,d6⟩:=hW9.gy;simp only [Nat.zero_add] at d0 d1 d2 d3 d4;clear hTV hW9 hlt9;go_simp;try first|rfl|simp [e0])) hH ?_
    simp only [pb,pc]
    refine tz 7 50 (.bool true) hq rfl rfl hH ?_
    simp only [pb,pc]
    refine tz 8 51 (.bool true) hq rfl rfl hH ?_
    simp only [pb,pc]
    refine tz 9 52 (.pointer (some ⟨bw,0,none⟩)) hq rfl rfl hH ?_
    simp only [pb,pc]
    refine tq 10 53 (.agg #[.int .u8 (kk:Int),.bool mm,.int .i64 rr,.int .i64 ss,.slice aa nn cc]) hq rfl rfl (fun W hSw=>by (obtain ⟨f0,hTV,hW9,hlt9⟩:=hSw;obtain ⟨c0,c1,c2,c3⟩:=hTV.a3.ov;obtain ⟨⟨-,d0,d1,d2,d3,d4⟩,d5,d6⟩:=hW9.gy;simp only [Nat.zero_add] at d0 d1 d2 d3 d4;clear hTV hW9 hlt9;go_simp;try first|rfl|simp [e0])) hH ?_
    simp only [pb,pc]
    refine aR1 11 rfl (fun K hK=>?_)
    go_simp
    refine (C36.out _ (by exact hS0)).mono ?_
    rintro e v1 ⟨rfl,hb1⟩
    have hS1:TW w 3 n l a m cap bw ⟨⟨kk,mm,rr,ss,aa,nn,cc⟩,br,bs⟩ v1:=TW.aft hS0 hb1
    go_wp2_with fail
    refine hK.out _ _ hS1 (fun hH=>?_)
    clear hK K
    try simp only [Act.put,List.setIfInBounds_toArray,pb,pc]
    skip
    clear hb1
    refine tz 12 55 (.bool true) hq rfl rfl hH ?_
    simp only [pb,pc]
    refine aR1 13 rfl (fun K hK=>?_)
    obtain ⟨f0,hTV,hW9,hlt9⟩:=hS1
    refine wp_storeT1 (w.heap.size+1) f0 ⟨kk,mm,rr,ss,aa,nn,cc⟩ rfl rfl hTV.a4 rfl rfl ?_
    intro v2 hA9 hB9
    have HF:=jH (hTV.st hA9 hB9)
    have HW9:=jH (hW9.grown hB9 (by simp;omega))
    have HL9:=jH hlt9
    clear hTV hA9 hB9 hW9 hlt9
    refine hK.out _ _ ⟨_,HF.out,HW9.out,HL9.out⟩ (fun hH=>?_)
    clear hK K
    try simp only [Act.put,List.setIfInBounds_toArray,pb,pc]
    refine tz 14 5 (.bool true) hq rfl rfl hH ?_
    simp only [pb,pc]
    refine wpAnyH_done (by kernel_rfl) ?_ _
    go_wp2_with fail
    exact bodyPost_ret (results_c2 (g:=⟨kk,mm,rr,ss,aa,nn,cc⟩) Tryz.results167 rfl rfl HF.out.a4.ty) rfl ⟨⟨⟨kk,mm,rr,ss,aa,nn,cc⟩,rfl,HTf.out⟩,HF.out.bel⟩
   | false =>
    have hR2:R=none:=hR'
    subst hR2
    clear hR'
    go_enter Tryz.func167,Tryz.ntmps167
    go_upto_region 8 with (first
     | (go_at_call 142;refine (CW.out _ HW.out.bel).mono ?_;rintro e w1 ⟨⟨⟨kk,mm,rr,ss,aa,nn,cc⟩,rfl,hf'⟩,hb1⟩;have H1:=jH (HW.out.aft hb1);have HTf:=jH hf';clear hf';clear hb1)
     | ((with_reducible show wpList _ _ _ (Oper.mk none (Op.store 162 _ _) _ _ _ none::_) _ _);refine wpl_storeG w1.heap.size zG ⟨⟨kk,mm,rr,ss,aa,nn,cc⟩,br,bs⟩ (At.new w1 _) rfl rfl ?_;intro wb hA9 hB9;have HLO:Hid (w.heap.size+1<w1.heap.size):=H1.out.a4.lt;have HT:=jH ((H1.out.aft (belA (o:=zG.o) bR)).other hB9 HLO.out);have HY:=jH hA9;clear hA9 hB9 H1))
    obtain ⟨bw,hbw⟩:∃ bw,bw=w1.heap.size:=⟨_,rfl⟩
    rw [← hbw] at HY HLO ⊢
    clear hbw HW CW
    have C36:Hid (∀ W,TW w 3 n l a m cap bw ⟨⟨kk,mm,rr,ss,aa,nn,cc⟩,br,bs⟩ W→Calls Tryz.prog 173 #[tyV kk mm rr ss aa nn cc] W fun e w'=>e=.returned (.bool false)∧Below W.heap.size W w'):=fun W hW=>CP.out W ⟨kk,mm,rr,ss,aa,nn,cc⟩ HTf.out (by obtain ⟨f0,hTV,-⟩:=hW;exact hTV.bel)
    clear CP
    have hS0:TW w 3 n l a m cap bw ⟨⟨kk,mm,rr,ss,aa,nn,cc⟩,br,bs⟩ (wb.drew):=⟨zT,⟨HT.out.a3,HT.out.a4,belN HT.out.bel 1⟩,HY.out,HLO.out⟩
    clear HT HY HLO
    refine beginH (S:=fun V=>TW w 3 n l a m cap bw ⟨⟨kk,mm,rr,ss,aa,nn,cc⟩,br,bs⟩ V) (fun _ _ _ _ _ h=>h) (by kernel_rfl) hS0 (fun hq hH=>?_)
    refine tz 0 43 (.pointer (some ⟨bw,0,none⟩)) hq rfl rfl hH ?_
    simp only [pb,pc]
    refine tq 1 44 (.agg #[.int .u8 (kk:Int),.bool mm,.int .i64 rr,.int .i64 ss,.slice aa nn cc]) hq rfl rfl (fun W hSw=>by (obtain ⟨f0,hTV,hW9,hlt9⟩:=hSw;obtain ⟨c0,c1,c2,c3⟩:=hTV.a3.ov;obtain ⟨⟨-,d0,d1,d2,d3,d4⟩,d5,d6⟩:=hW9.gy;simp only [Nat.zero_add] at d0 d1 d2 d3 d4;clear hTV hW9 hlt9;go_simp;try first|rfl|simp [e0])) hH ?_
    simp only [pb,pc]
    refine tz 2 45 (.bool true) hq rfl rfl hH ?_
    simp only [pb,pc]
    refine tz 3 46 (.bool true) hq rfl rfl hH ?_
    simp only [pb,pc]
    refine tz 4 47 (.pointer (some ⟨w.heap.size,1,none⟩)) hq rfl rfl hH ?_
    simp only [pb,pc]
    refine tq 5 48 (.int .i64 n) hq rfl rfl (fun W hSw=>by (obtain ⟨f0,hTV,hW9,hlt9⟩:=hSw;obtain ⟨c0,c1,c2,c3⟩:=hTV.a3.ov;obtain ⟨⟨-,d0,d1,d2,d3,d4⟩,d5,d6⟩:=hW9.gy;simp only [Nat.zero_add] at d0 d1 d2 d3 d4;clear hTV hW9 hlt9;go_simp;try first|rfl|simp [e0])) hH ?_
    simp only [pb,pc]
    refine tq 6 49 (.bool true) hq rfl rfl (fun W hSw=>by (obtain ⟨f0,hTV,hW9,hlt9⟩:=hSw;obtain ⟨c0,c1,c2,c3⟩:=hTV.a3.ov;obtain ⟨⟨-,d0,d1,d2,d3,d4⟩,d5,d6⟩:=hW9.gy;simp only [Nat.zero_add] at d0 d1 d2 d3 d4;clear hTV hW9 hlt9;go_simp;try first|rfl|simp [e0])) hH ?_
    simp only [pb,pc]
    refine tz 7 50 (.bool true) hq rfl rfl hH ?_
    simp only [pb,pc]
    refine tz 8 51 (.bool true) hq rfl rfl hH ?_
    simp only [pb,pc]
    refine tz 9 52 (.pointer (some ⟨bw,0,none⟩)) hq rfl rfl hH ?_
    simp only [pb,pc]
    refine tq 10 53 (.agg #[.int .u8 (kk:Int),.bool mm,.int .i64 rr,.int .i64 ss,.slice aa nn cc]) hq rfl rfl (fun W hSw=>by (obtain ⟨f0,hTV,hW9,hlt9⟩:=hSw;obtain ⟨c0,c1,c2,c3⟩:=hTV.a3.ov;obtain ⟨⟨-,d0,d1,d2,d3,d4⟩,d5,d6⟩:=hW9.gy;simp only [Nat.zero_add] at d0 d1 d2 d3 d4;clear hTV hW9 hlt9;go_simp;try first|rfl|simp [e0])) hH ?_
    simp only [pb,pc]
    refine aR1 11 rfl (fun K hK=>?_)
    go_simp
    refine (C36.out _ (by exact hS0)).mono ?_
    rintro e v1 ⟨rfl,hb1⟩
    have hS1:TW w 3 n l a m cap bw ⟨⟨kk,mm,rr,ss,aa,nn,cc⟩,br,bs⟩ v1:=TW.aft hS0 hb1
    go_wp2_with fail
    refine hK.out _ _ hS1 (fun hH=>?_)
    clear hK K
    try simp only [Act.put,List.setIfInBounds_toArray,pb,pc]
    skip
    clear hb1
    refine tz 12 55 (.bool false) hq rfl rfl hH ?_
    simp only [pb,pc]
    refine aR1 13 rfl (fun K hK=>?_)
    obtain ⟨f0,hTV,hW9,hlt9⟩:=hS1
    refine wp_storeT1 (w.heap.size+1) f0 ⟨kk,mm,rr,ss,aa,nn,cc⟩ rfl rfl hTV.a4 rfl rfl ?_
    intro v2 hA9 hB9
    have HF:=jH (hTV.st hA9 hB9)
    have HW9:=jH (hW9.grown hB9 (by simp;omega))
    have HL9:=jH hlt9
    clear hTV hA9 hB9 hW9 hlt9
    refine hK.out _ _ ⟨_,HF.out,HW9.out,HL9.out⟩ (fun hH=>?_)
    clear hK K
    try simp only [Act.put,List.setIfInBounds_toArray,pb,pc]
    refine tz 14 5 (.bool false) hq rfl rfl hH ?_
    simp only [pb,pc]
    refine wpAnyH_done (by kernel_rfl) ?_ _
    go_wp2_with fail
    exact bodyPost_ret (results_c2 (g:=⟨kk,mm,rr,ss,aa,nn,cc⟩) Tryz.results167 rfl rfl HF.out.a4.ty) rfl ⟨⟨⟨kk,mm,rr,ss,aa,nn,cc⟩,rfl⟩,HF.out.bel⟩
  ·have e0:(n == 0)=false:=by simpa using hn
   rw [decide_eq_false hn] at hR'
   clear hn
   have hR2:R=none:=hR'
   subst hR2
   clear hR'
   go_enter Tryz.func167,Tryz.ntmps167
   go_upto_region 8 with (first
    | (go_at_call 142;refine (CW.out _ HW.out.bel).mono ?_;rintro e w1 ⟨⟨⟨kk,mm,rr,ss,aa,nn,cc⟩,rfl,hf'⟩,hb1⟩;have H1:=jH (HW.out.aft hb1);have HTf:=jH hf';clear hf';clear hb1)
    | ((with_reducible show wpList _ _ _ (Oper.mk none (Op.store 162 _ _) _ _ _ none::_) _ _);refine wpl_storeG w1.heap.size zG ⟨⟨kk,mm,rr,ss,aa,nn,cc⟩,br,bs⟩ (At.new w1 _) rfl rfl ?_;intro wb hA9 hB9;have HLO:Hid (w.heap.size+1<w1.heap.size):=H1.out.a4.lt;have HT:=jH ((H1.out.aft (belA (o:=zG.o) bR)).other hB9 HLO.out);have HY:=jH hA9;clear hA9 hB9 H1))
   obtain ⟨bw,hbw⟩:∃ bw,bw=w1.heap.size:=⟨_,rfl⟩
   rw [← hbw] at HY HLO ⊢
   clear hbw HW CW
   have C36:Hid (∀ W,TW w 3 n l a m cap bw ⟨⟨kk,mm,rr,ss,aa,nn,cc⟩,br,bs⟩ W→Calls Tryz.prog 173 #[tyV kk mm rr ss aa nn cc] W fun e w'=>e=.returned (.bool cp)∧Below W.heap.size W w'):=fun W hW=>CP.out W ⟨kk,mm,rr,ss,aa,nn,cc⟩ HTf.out (by obtain ⟨f0,hTV,-⟩:=hW;exact hTV.bel)
   clear CP
   have hS0:TW w 3 n l a m cap bw ⟨⟨kk,mm,rr,ss,aa,nn,cc⟩,br,bs⟩ (wb.drew):=⟨zT,⟨HT.out.a3,HT.out.a4,belN HT.out.bel 1⟩,HY.out,HLO.out⟩
   clear HT HY HLO
   refine beginH (S:=fun V=>TW w 3 n l a m cap bw ⟨⟨kk,mm,rr,ss,aa,nn,cc⟩,br,bs⟩ V) (fun _ _ _ _ _ h=>h) (by kernel_rfl) hS0 (fun hq hH=>?_)
   refine tz 0 43 (.pointer (some ⟨bw,0,none⟩)) hq rfl rfl hH ?_
   simp only [pb,pc]
   refine tq 1 44 (.agg #[.int .u8 (kk:Int),.bool mm,.int .i64 rr,.int .i64 ss,.slice aa nn cc]) hq rfl rfl (fun W hSw=>by (obtain ⟨f0,hTV,hW9,hlt9⟩:=hSw;obtain ⟨c0,c1,c2,c3⟩:=hTV.a3.ov;obtain ⟨⟨-,d0,d1,d2,d3,d4⟩,d5,d6⟩:=hW9.gy;simp only [Nat.zero_add] at d0 d1 d2 d3 d4;clear hTV hW9 hlt9;go_simp;try first|rfl|simp [e0])) hH ?_
   simp only [pb,pc]
   refine tz 2 45 (.bool true) hq rfl rfl hH ?_
   simp only [pb,pc]
   refine tz 3 46 (.bool true) hq rfl rfl hH ?_
   simp only [pb,pc]
   refine tz 4 47 (.pointer (some ⟨w.heap.size,1,none⟩)) hq rfl rfl hH ?_
   simp only [pb,pc]
   refine tq 5 48 (.int .i64 n) hq rfl rfl (fun W hSw=>by (obtain ⟨f0,hTV,hW9,hlt9⟩:=hSw;obtain ⟨c0,c1,c2,c3⟩:=hTV.a3.ov;obtain ⟨⟨-,d0,d1,d2,d3,d4⟩,d5,d6⟩:=hW9.gy;simp only [Nat.zero_add] at d0 d1 d2 d3 d4;clear hTV hW9 hlt9;go_simp;try first|rfl|simp [e0])) hH ?_
   simp only [pb,pc]
   refine tq 6 49 (.bool false) hq rfl rfl (fun W hSw=>by (obtain ⟨f0,hTV,hW9,hlt9⟩:=hSw;obtain ⟨c0,c1,c2,c3⟩:=hTV.a3.ov;obtain ⟨⟨-,d0,d1,d2,d3,d4⟩,d5,d6⟩:=hW9.gy;simp only [Nat.zero_add] at d0 d1 d2 d3 d4;clear hTV hW9 hlt9;go_simp;try first|rfl|simp [e0])) hH ?_
   simp only [pb,pc]
   refine tz 7 50 (.bool false) hq rfl rfl hH ?_
   simp only [pb,pc]
   refine tz 8 51 (.bool false) hq rfl rfl hH ?_
   simp only [pb,pc]
   refine sq 9 52 hq rfl rfl hH ?_
   simp only [pb,pc]
   refine sq 10 53 hq rfl rfl hH ?_
   simp only [pb,pc]
   refine sq 11 54 hq rfl rfl hH ?_
   simp only [pb,pc]
   refine tz 12 55 (.bool false) hq rfl rfl hH ?_
   simp only [pb,pc]
   refine aR1 13 rfl (fun K hK=>?_)
   obtain ⟨f0,hTV,hW9,hlt9⟩:=hS0
   refine wp_storeT1 (w.heap.size+1) f0 ⟨kk,mm,rr,ss,aa,nn,cc⟩ rfl rfl hTV.a4 rfl rfl ?_
   intro v2 hA9 hB9
   have HF:=jH (hTV.st hA9 hB9)
   have HW9:=jH (hW9.grown hB9 (by simp;omega))
   have HL9:=jH hlt9
   clear hTV hA9 hB9 hW9 hlt9
   refine hK.out _ _ ⟨_,HF.out,HW9.out,HL9.out⟩ (fun hH=>?_)
   clear hK K
   try simp only [Act.put,List.setIfInBounds_toArray,pb,pc]
   refine tz 14 5 (.bool false) hq rfl rfl hH ?_
   simp only [pb,pc]
   refine wpAnyH_done (by kernel_rfl) ?_ _
   go_wp2_with fail
   exact bodyPost_ret (results_c2 (g:=⟨kk,mm,rr,ss,aa,nn,cc⟩) Tryz.results167 rfl rfl HF.out.a4.ty) rfl ⟨⟨⟨kk,mm,rr,ss,aa,nn,cc⟩,rfl⟩,HF.out.bel⟩
theorem typeOf_4 (w0 w:World) (hB0:Below w0.heap.size w0 w) (b:Nat) (n l:Int) (a:Option Addr) (m cap:Nat) (RW:Option (Ch × List Int)) (cw:∀ W,Below w.heap.size w W→Calls Tryz.prog 142 #[.pointer (some ⟨b,0,none⟩),plV l a m cap] W fun e w'=>GwPost RW w0 e∧Below W.heap.size W w') (hok:∀ y,RW=some y→Ok y.1)
  (R:Option Ch) (hR:R=RW.bind fun y=>if decide (n=0) && !copB y.1 && !byRef y.2 then some y.1 else none) :
  Calls Tryz.prog 167 #[.pointer (some ⟨b,0,none⟩),oV 4 n l a m cap] w fun e w'=>TyPost R w0 e∧Below w.heap.size w w':=by
 have HW:=jH (TV.start w 4 n l a m cap zT)
 have CW:=jH cw
 show Calls Tryz.prog 167 #[.pointer (some ⟨b,0,none⟩),.agg #[.int .u8 4,.int .i64 n,.int .i64 l,.slice a m cap]] w _
 cases RW with
 | none =>
  have hR2:R=none:=hR
  subst hR2
  have e0:True:=trivial
  have CW:Hid (∀ W,Below w.heap.size w W→Calls Tryz.prog 142 #[.pointer (some ⟨b,0,none⟩),plV l a m cap] W fun e w'=>(∃ y:Gy,e=.returned (.tuple #[y.v,.bool false]))∧Below W.heap.size W w'):=cw
  clear hR hok cw hB0
  go_enter Tryz.func167,Tryz.ntmps167
  go_upto_region 11 with (first
   | (go_at_call 142;refine (CW.out _ HW.out.bel).mono ?_;rintro e w1 ⟨⟨⟨⟨kk,mm,rr,ss,aa,nn,cc⟩,br,bs⟩,rfl⟩,hb1⟩;have H1:=jH (HW.out.aft hb1);clear hb1)
   | ((with_reducible show wpList _ _ _ (Oper.mk none (Op.store 162 _ _) _ _ _ none::_) _ _);refine wpl_storeG w1.heap.size zG ⟨⟨kk,mm,rr,ss,aa,nn,cc⟩,br,bs⟩ (At.new w1 _) rfl rfl ?_;intro wb hA9 hB9;have HLO:Hid (w.heap.size+1<w1.heap.size):=H1.out.a4.lt;have HT:=jH ((H1.out.aft (belA (o:=zG.o) bR)).other hB9 HLO.out);have HY:=jH hA9;clear hA9 hB9 H1))
  obtain ⟨bw,hbw⟩:∃ bw,bw=w1.heap.size:=⟨_,rfl⟩
  rw [← hbw] at HY HLO ⊢
  clear hbw HW CW
  have hS0:TW w 4 n l a m cap bw ⟨⟨kk,mm,rr,ss,aa,nn,cc⟩,br,bs⟩ (wb.drew):=⟨zT,⟨HT.out.a3,HT.out.a4,belN HT.out.bel 1⟩,HY.out,HLO.out⟩
  clear HT HY HLO
  refine beginH (S:=fun V=>TW w 4 n l a m cap bw ⟨⟨kk,mm,rr,ss,aa,nn,cc⟩,br,bs⟩ V) (fun _ _ _ _ _ h=>h) (by kernel_rfl) hS0 (fun hq hH=>?_)
  refine tz 0 65 (.pointer (some ⟨bw,0,none⟩)) hq rfl rfl hH ?_
  simp only [pb,pc]
  refine tq 1 66 (.agg #[.int .u8 (kk:Int),.bool mm,.int .i64 rr,.int .i64 ss,.slice aa nn cc]) hq rfl rfl (fun W hSw=>by (obtain ⟨f0,hTV,hW9,hlt9⟩:=hSw;obtain ⟨c0,c1,c2,c3⟩:=hTV.a3.ov;obtain ⟨⟨-,d0,d1,d2,d3,d4⟩,d5,d6⟩:=hW9.gy;simp only [Nat.zero_add] at d0 d1 d2 d3 d4;clear hTV hW9 hlt9;go_simp;try first|rfl|simp [e0])) hH ?_
  simp only [pb,pc]
  refine tz 2 67 (.bool false) hq rfl rfl hH ?_
  simp only [pb,pc]
  refine tz 3 68 (.bool false) hq rfl rfl hH ?_
  simp only [pb,pc]
  refine sq 4 69 hq rfl rfl hH ?_
  simp only [pb,pc]
  refine sq 5 70 hq rfl rfl hH ?_
  simp only [pb,pc]
  refine sq 6 71 hq rfl rfl hH ?_
  simp only [pb,pc]
  refine tz 7 72 (.bool false) hq rfl rfl hH ?_
  simp only [pb,pc]
  refine tz 8 73 (.bool false) hq rfl rfl hH ?_
  simp only [pb,pc]
  refine sq 9 74 hq rfl rfl hH ?_
  simp only [pb,pc]
  refine sq 10 75 hq rfl rfl hH ?_
  simp only [pb,pc]
  refine sq 11 76 hq rfl rfl hH ?_
  simp only [pb,pc]
  refine sq 12 77 hq rfl rfl hH ?_
  simp only [pb,pc]
  refine tz 13 78 (.bool false) hq rfl rfl hH ?_
  simp only [pb,pc]
  refine tz 14 79 (.bool false) hq rfl rfl hH ?_
  simp only [pb,pc]
  refine sq 15 80 hq rfl rfl hH ?_
  simp only [pb,pc]
  refine sq 16 81 hq rfl rfl hH ?_
  simp only [pb,pc]
  refine sq 17 82 hq rfl rfl hH ?_
  simp only [pb,pc]
  refine tz 18 83 (.bool false) hq rfl rfl hH ?_
  simp only [pb,pc]
  refine aR1 19 rfl (fun K hK=>?_)
  obtain ⟨f0,hTV,hW9,hlt9⟩:=hS0
  refine wp_storeT1 (w.heap.size+1) f0 ⟨kk,mm,rr,ss,aa,nn,cc⟩ rfl rfl hTV.a4 rfl rfl ?_
  intro v2 hA9 hB9
  have HF:=jH (hTV.st hA9 hB9)
  have HW9:=jH (hW9.grown hB9 (by simp;omega))
  have HL9:=jH hlt9
  clear hTV hA9 hB9 hW9 hlt9
  refine hK.out _ _ ⟨_,HF.out,HW9.out,HL9.out⟩ (fun hH=>?_)
  clear hK K
  try simp only [Act.put,List.setIfInBounds_toArray,pb,pc]
  refine tz 20 5 (.bool false) hq rfl rfl hH ?_
  simp only [pb,pc]
  refine wpAnyH_done (by kernel_rfl) ?_ _
  go_wp2_with fail
  exact bodyPost_ret (results_c2 (g:=⟨kk,mm,rr,ss,aa,nn,cc⟩) Tryz.results167 rfl rfl HF.out.a4.ty) rfl ⟨⟨⟨kk,mm,rr,ss,aa,nn,cc⟩,rfl⟩,HF.out.bel⟩
 | some y =>
  obtain ⟨c,gs⟩:=y
  have HOK:=jH (hok _ rfl)
  obtain ⟨br,hbr⟩:∃ x,x=byRef gs:=⟨_,rfl⟩
  obtain ⟨bs,hbs⟩:∃ x,x=byShr gs:=⟨_,rfl⟩
  obtain ⟨cp,hcp⟩:∃ x,x=copB c:=⟨_,rfl⟩
  have CW:Hid (∀ W,Below w.heap.size w W→Calls Tryz.prog 142 #[.pointer (some ⟨b,0,none⟩),plV l a m cap] W fun e w'=>(∃ f':Fv,e=.returned (.tuple #[Gy.v ⟨f',br,bs⟩,.bool true])∧TyAt w0 f' c.ty)∧Below W.heap.size W w'):=by rw [hbr,hbs];exact cw
  have CP:Hid (∀ (W:World) (f:Fv),TyAt w0 f c.ty→Below w.heap.size w W→Calls Tryz.prog 173 #[f.v] W fun e w'=>e=.returned (.bool cp)∧Below W.heap.size W w'):=fun W f hf hW=>by rw [hcp];exact Copies_yes c f W HOK.out (hf.bel (jB hB0 hW))
  have hR':R=if (decide (n=0) && !cp && !br) then some c else none:=by rw [hR,hcp,hbr];rfl
  clear cw hR hok hcp hbr hbs
  by_cases hn:n=0
  ·have e0:(n == 0)=true:=by simpa using hn
   rw [decide_eq_true hn] at hR'
   clear hn
   cases cp with
   | true =>
    have hR2:R=none:=hR'
    subst hR2
    clear hR'
    go_enter Tryz.func167,Tryz.ntmps167
    go_upto_region 11 with (first
     | (go_at_call 142;refine (CW.out _ HW.out.bel).mono ?_;rintro e w1 ⟨⟨⟨kk,mm,rr,ss,aa,nn,cc⟩,rfl,hf'⟩,hb1⟩;have H1:=jH (HW.out.aft hb1);have HTf:=jH hf';clear hf';clear hb1)
     | ((with_reducible show wpList _ _ _ (Oper.mk none (Op.store 162 _ _) _ _ _ none::_) _ _);refine wpl_storeG w1.heap.size zG ⟨⟨kk,mm,rr,ss,aa,nn,cc⟩,br,bs⟩ (At.new w1 _) rfl rfl ?_;intro wb hA9 hB9;have HLO:Hid (w.heap.size+1<w1.heap.size):=H1.out.a4.lt;have HT:=jH ((H1.out.aft (belA (o:=zG.o) bR)).other hB9 HLO.out);have HY:=jH hA9;clear hA9 hB9 H1))
    obtain ⟨bw,hbw⟩:∃ bw,bw=w1.heap.size:=⟨_,rfl⟩
    rw [← hbw] at HY HLO ⊢
    clear hbw HW CW
    have C36:Hid (∀ W,TW w 4 n l a m cap bw ⟨⟨kk,mm,rr,ss,aa,nn,cc⟩,br,bs⟩ W→Calls Tryz.prog 173 #[tyV kk mm rr ss aa nn cc] W fun e w'=>e=.returned (.bool true)∧Below W.heap.size W w'):=fun W hW=>CP.out W ⟨kk,mm,rr,ss,aa,nn,cc⟩ HTf.out (by obtain ⟨f0,hTV,-⟩:=hW;exact hTV.bel)
    clear CP
    have hS0:TW w 4 n l a m cap bw ⟨⟨kk,mm,rr,ss,aa,nn,cc⟩,br,bs⟩ (wb.drew):=⟨zT,⟨HT.out.a3,HT.out.a4,belN HT.out.bel 1⟩,HY.out,HLO.out⟩
    clear HT HY HLO
    refine beginH (S:=fun V=>TW w 4 n l a m cap bw ⟨⟨kk,mm,rr,ss,aa,nn,cc⟩,br,bs⟩ V) (fun _ _ _ _ _ h=>h) (by kernel_rfl) hS0 (fun hq hH=>?_)
    refine tz 0 65 (.pointer (some ⟨bw,0,none⟩)) hq rfl rfl hH ?_
    simp only [pb,pc]
    refine tq 1 66 (.agg #[.int .u8 (kk:Int),.bool mm,.int .i64 rr,.int .i64 ss,.slice aa nn cc]) hq rfl rfl (fun W hSw=>by (obtain ⟨f0,hTV,hW9,hlt9⟩:=hSw;obtain ⟨c0,c1,c2,c3⟩:=hTV.a3.ov;obtain ⟨⟨-,d0,d1,d2,d3,d4⟩,d5,d6⟩:=hW9.gy;simp only [Nat.zero_add] at d0 d1 d2 d3 d4;clear hTV hW9 hlt9;go_simp;try first|rfl|simp [e0])) hH ?_
    simp only [pb,pc]
    refine tz 2 67 (.bool true) hq rfl rfl hH ?_
    simp only [pb,pc]
    refine tz 3 68 (.bool true) hq rfl rfl hH ?_
    simp only [pb,pc]
    refine tz 4 69 (.pointer (some ⟨w.heap.size,1,none⟩)) hq rfl rfl hH ?_
    simp only [pb,pc]
    refine tq 5 70 (.int .i64 n) hq rfl rfl (fun W hSw=>by (obtain ⟨f0,hTV,hW9,hlt9⟩:=hSw;obtain ⟨c0,c1,c2,c3⟩:=hTV.a3.ov;obtain ⟨⟨-,d0,d1,d2,d3,d4⟩,d5,d6⟩:=hW9.gy;simp only [Nat.zero_add] at d0 d1 d2 d3 d4;clear hTV hW9 hlt9;go_simp;try first|rfl|simp [e0])) hH ?_
    simp only [pb,pc]
    refine tq 6 71 (.bool true) hq rfl rfl (fun W hSw=>by (obtain ⟨f0,hTV,hW9,hlt9⟩:=hSw;obtain ⟨c0,c1,c2,c3⟩:=hTV.a3.ov;obtain ⟨⟨-,d0,d1,d2,d3,d4⟩,d5,d6⟩:=hW9.gy;simp only [Nat.zero_add] at d0 d1 d2 d3 d4;clear hTV hW9 hlt9;go_simp;try first|rfl|simp [e0])) hH ?_
    simp only [pb,pc]
    refine tz 7 72 (.bool true) hq rfl rfl hH ?_
    simp only [pb,pc]
    refine tz 8 73 (.bool true) hq rfl rfl hH ?_
    simp only [pb,pc]
    refine tz 9 74 (.pointer (some ⟨bw,0,none⟩)) hq rfl rfl hH ?_
    simp only [pb,pc]
    refine tq 10 75 (.agg #[.int .u8 (kk:Int),.bool mm,.int .i64 rr,.int .i64 ss,.slice aa nn cc]) hq rfl rfl (fun W hSw=>by (obtain ⟨f0,hTV,hW9,hlt9⟩:=hSw;obtain ⟨c0,c1,c2,c3⟩:=hTV.a3.ov;obtain ⟨⟨-,d0,d1,d2,d3,d4⟩,d5,d6⟩:=hW9.gy;simp only [Nat.zero_add] at d0 d1 d2 d3 d4;clear hTV hW9 hlt9;go_simp;try first|rfl|simp [e0])) hH ?_
    simp only [pb,pc]
    refine aR1 11 rfl (fun K hK=>?_)
    go_simp
    refine (C36.out _ (by exact hS0)).mono ?_
    rintro e v1 ⟨rfl,hb1⟩
    have hS1:TW w 4 n l a m cap bw ⟨⟨kk,mm,rr,ss,aa,nn,cc⟩,br,bs⟩ v1:=TW.aft hS0 hb1
    go_wp2_with fail
    refine hK.out _ _ hS1 (fun hH=>?_)
    clear hK K
    try simp only [Act.put,List.setIfInBounds_toArray,pb,pc]
    skip
    clear hb1
    refine tq 12 77 (.bool false) hq rfl rfl (fun W hSw=>by (obtain ⟨f0,hTV,hW9,hlt9⟩:=hSw;obtain ⟨c0,c1,c2,c3⟩:=hTV.a3.ov;obtain ⟨⟨-,d0,d1,d2,d3,d4⟩,d5,d6⟩:=hW9.gy;simp only [Nat.zero_add] at d0 d1 d2 d3 d4;clear hTV hW9 hlt9;go_simp;try first|rfl|simp [e0])) hH ?_
    simp only [pb,pc]
    refine tz 13 78 (.bool false) hq rfl rfl hH ?_
    simp only [pb,pc]
    refine tz 14 79 (.bool false) hq rfl rfl hH ?_
    simp only [pb,pc]
    refine sq 15 80 hq rfl rfl hH ?_
    simp only [pb,pc]
    refine sq 16 81 hq rfl rfl hH ?_
    simp only [pb,pc]
    refine sq 17 82 hq rfl rfl hH ?_
    simp only [pb,pc]
    refine tz 18 83 (.bool false) hq rfl rfl hH ?_
    simp only [pb,pc]
    refine aR1 19 rfl (fun K hK=>?_)
    obtain ⟨f0,hTV,hW9,hlt9⟩:=hS1
    refine wp_storeT1 (w.heap.size+1) f0 ⟨kk,mm,rr,ss,aa,nn,cc⟩ rfl rfl hTV.a4 rfl rfl ?_
    intro v2 hA9 hB9
    have HF:=jH (hTV.st hA9 hB9)
    have HW9:=jH (hW9.grown hB9 (by simp;omega))
    have HL9:=jH hlt9
    clear hTV hA9 hB9 hW9 hlt9
    refine hK.out _ _ ⟨_,HF.out,HW9.out,HL9.out⟩ (fun hH=>?_)
    clear hK K
    try simp only [Act.put,List.setIfInBounds_toArray,pb,pc]
    refine tz 20 5 (.bool false) hq rfl rfl hH ?_
    simp only [pb,pc]
    refine wpAnyH_done (by kernel_rfl) ?_ _
    go_wp2_with fail
    exact bodyPost_ret (results_c2 (g:=⟨kk,mm,rr,ss,aa,nn,cc⟩) Tryz.results167 rfl rfl HF.out.a4.ty) rfl ⟨⟨⟨kk,mm,rr,ss,aa,nn,cc⟩,rfl⟩,HF.out.bel⟩
   | false =>
    cases br with
    | true =>
     have hR2:R=none:=hR'
     subst hR2
     clear hR'
     go_enter Tryz.func167,Tryz.ntmps167
     go_upto_region 11 with (first
      | (go_at_call 142;refine (CW.out _ HW.out.bel).mono ?_;rintro e w1 ⟨⟨⟨kk,mm,rr,ss,aa,nn,cc⟩,rfl,hf'⟩,hb1⟩;have H1:=jH (HW.out.aft hb1);have HTf:=jH hf';clear hf';clear hb1)
      | ((with_reducible show wpList _ _ _ (Oper.mk none (Op.store 162 _ _) _ _ _ none::_) _ _);refine wpl_storeG w1.heap.size zG ⟨⟨kk,mm,rr,ss,aa,nn,cc⟩,true,bs⟩ (At.new w1 _) rfl rfl ?_;intro wb hA9 hB9;have HLO:Hid (w.heap.size+1<w1.heap.size):=H1.out.a4.lt;have HT:=jH ((H1.out.aft (belA (o:=zG.o) bR)).other hB9 HLO.out);have HY:=jH hA9;clear hA9 hB9 H1))
     obtain ⟨bw,hbw⟩:∃ bw,bw=w1.heap.size:=⟨_,rfl⟩
     rw [← hbw] at HY HLO ⊢
     clear hbw HW CW
     have C36:Hid (∀ W,TW w 4 n l a m cap bw ⟨⟨kk,mm,rr,ss,aa,nn,cc⟩,true,bs⟩ W→Calls Tryz.prog 173 #[tyV kk mm rr ss aa nn cc] W fun e w'=>e=.returned (.bool false)∧Below W.heap.size W w'):=fun W hW=>CP.out W ⟨kk,mm,rr,ss,aa,nn,cc⟩ HTf.out (by obtain ⟨f0,hTV,-⟩:=hW;exact hTV.bel)
     clear CP
     have hS0:TW w 4 n l a m cap bw ⟨⟨kk,mm,rr,ss,aa,nn,cc⟩,true,bs⟩ (wb.drew):=⟨zT,⟨HT.out.a3,HT.out.a4,belN HT.out.bel 1⟩,HY.out,HLO.out⟩
     clear HT HY HLO
     refine beginH (S:=fun V=>TW w 4 n l a m cap bw ⟨⟨kk,mm,rr,ss,aa,nn,cc⟩,true,bs⟩ V) (fun _ _ _ _ _ h=>h) (by kernel_rfl) hS0 (fun hq hH=>?_)
     refine tz 0 65 (.pointer (some ⟨bw,0,none⟩)) hq rfl rfl hH ?_
     simp only [pb,pc]
     refine tq 1 66 (.agg #[.int .u8 (kk:Int),.bool mm,.int .i64 rr,.int .i64 ss,.slice aa nn cc]) hq rfl rfl (fun W hSw=>by (obtain ⟨f0,hTV,hW9,hlt9⟩:=hSw;obtain ⟨c0,c1,c2,c3⟩:=hTV.a3.ov;obtain ⟨⟨-,d0,d1,d2,d3,d4⟩,d5,d6⟩:=hW9.gy;simp only [Nat.zero_add] at d0 d1 d2 d3 d4;clear hTV hW9 hlt9;go_simp;try first|rfl|simp [e0])) hH ?_
     simp only [pb,pc]
     refine tz 2 67 (.bool true) hq rfl rfl hH ?_
     simp only [pb,pc]
     refine tz 3 68 (.bool true) hq rfl rfl hH ?_
     simp only [pb,pc]
     refine tz 4 69 (.pointer (some ⟨w.heap.size,1,none⟩)) hq rfl rfl hH ?_
     simp only [pb,pc]
     refine tq 5 70 (.int .i64 n) hq rfl rfl (fun W hSw=>by (obtain ⟨f0,hTV,hW9,hlt9⟩:=hSw;obtain ⟨c0,c1,c2,c3⟩:=hTV.a3.ov;obtain ⟨⟨-,d0,d1,d2,d3,d4⟩,d5,d6⟩:=hW9.gy;simp only [Nat.zero_add] at d0 d1 d2 d3 d4;clear hTV hW9 hlt9;go_simp;try first|rfl|simp [e0])) hH ?_
     simp only [pb,pc]
     refine tq 6 71 (.bool true) hq rfl rfl (fun W hSw=>by (obtain ⟨f0,hTV,hW9,hlt9⟩:=hSw;obtain ⟨c0,c1,c2,c3⟩:=hTV.a3.ov;obtain ⟨⟨-,d0,d1,d2,d3,d4⟩,d5,d6⟩:=hW9.gy;simp only [Nat.zero_add] at d0 d1 d2 d3 d4;clear hTV hW9 hlt9;go_simp;try first|rfl|simp [e0])) hH ?_
     simp only [pb,pc]
     refine tz 7 72 (.bool true) hq rfl rfl hH ?_
     simp only [pb,pc]
     refine tz 8 73 (.bool true) hq rfl rfl hH ?_
     simp only [pb,pc]
     refine tz 9 74 (.pointer (some ⟨bw,0,none⟩)) hq rfl rfl hH ?_
     simp only [pb,pc]
     refine tq 10 75 (.agg #[.int .u8 (kk:Int),.bool mm,.int .i64 rr,.int .i64 ss,.slice aa nn cc]) hq rfl rfl (fun W hSw=>by (obtain ⟨f0,hTV,hW9,hlt9⟩:=hSw;obtain ⟨c0,c1,c2,c3⟩:=hTV.a3.ov;obtain ⟨⟨-,d0,d1,d2,d3,d4⟩,d5,d6⟩:=hW9.gy;simp only [Nat.zero_add] at d0 d1 d2 d3 d4;clear hTV hW9 hlt9;go_simp;try first|rfl|simp [e0])) hH ?_
     simp only [pb,pc]
     refine aR1 11 rfl (fun K hK=>?_)
     go_simp
     refine (C36.out _ (by exact hS0)).mono ?_
     rintro e v1 ⟨rfl,hb1⟩
     have hS1:TW w 4 n l a m cap bw ⟨⟨kk,mm,rr,ss,aa,nn,cc⟩,true,bs⟩ v1:=TW.aft hS0 hb1
     go_wp2_with fail
     refine hK.out _ _ hS1 (fun hH=>?_)
     clear hK K
     try simp only [Act.put,List.setIfInBounds_toArray,pb,pc]
     skip
     clear hb1
     refine tq 12 77 (.bool true) hq rfl rfl (fun W hSw=>by (obtain ⟨f0,hTV,hW9,hlt9⟩:=hSw;obtain ⟨c0,c1,c2,c3⟩:=hTV.a3.ov;obtain ⟨⟨-,d0,d1,d2,d3,d4⟩,d5,d6⟩:=hW9.gy;simp only [Nat.zero_add] at d0 d1 d2 d3 d4;clear hTV hW9 hlt9;go_simp;try first|rfl|simp [e0])) hH ?_
     simp only [pb,pc]
     refine tz 13 78 (.bool true) hq rfl rfl hH ?_
     simp only [pb,pc]
     refine tz 14 79 (.bool true) hq rfl rfl hH ?_
     simp only [pb,pc]
     refine tz 15 80 (.pointer (some ⟨bw,5,none⟩)) hq rfl rfl hH ?_
     simp only [pb,pc]
     refine tq 16 81 (.bool true) hq rfl rfl (fun W hSw=>by (obtain ⟨f0,hTV,hW9,hlt9⟩:=hSw;obtain ⟨c0,c1,c2,c3⟩:=hTV.a3.ov;obtain ⟨⟨-,d0,d1,d2,d3,d4⟩,d5,d6⟩:=hW9.gy;simp only [Nat.zero_add] at d0 d1 d2 d3 d4;clear hTV hW9 hlt9;go_simp;try first|rfl|simp [e0])) hH ?_
     simp only [pb,pc]
     refine tq 17 82 (.bool false) hq rfl rfl (fun W hSw=>by (obtain ⟨f0,hTV,hW9,hlt9⟩:=hSw;obtain ⟨c0,c1,c2,c3⟩:=hTV.a3.ov;obtain ⟨⟨-,d0,d1,d2,d3,d4⟩,d5,d6⟩:=hW9.gy;simp only [Nat.zero_add] at d0 d1 d2 d3 d4;clear hTV hW9 hlt9;go_simp;try first|rfl|simp [e0])) hH ?_
     simp only [pb,pc]
     refine tz 18 83 (.bool false) hq rfl rfl hH ?_
     simp only [pb,pc]
     refine aR1 19 rfl (fun K hK=>?_)
     obtain ⟨f0,hTV,hW9,hlt9⟩:=hS1
     refine wp_storeT1 (w.heap.size+1) f0 ⟨kk,mm,rr,ss,aa,nn,cc⟩ rfl rfl hTV.a4 rfl rfl ?_
     intro v2 hA9 hB9
     have HF:=jH (hTV.st hA9 hB9)
     have HW9:=jH (hW9.grown hB9 (by simp;omega))
     have HL9:=jH hlt9
     clear hTV hA9 hB9 hW9 hlt9
     refine hK.out _ _ ⟨_,HF.out,HW9.out,HL9.out⟩ (fun hH=>?_)
     clear hK K
     try simp only [Act.put,List.setIfInBounds_toArray,pb,pc]
     refine tz 20 5 (.bool false) hq rfl rfl hH ?_
     simp only [pb,pc]
     refine wpAnyH_done (by kernel_rfl) ?_ _
     go_wp2_with fail
     exact bodyPost_ret (results_c2 (g:=⟨kk,mm,rr,ss,aa,nn,cc⟩) Tryz.results167 rfl rfl HF.out.a4.ty) rfl ⟨⟨⟨kk,mm,rr,ss,aa,nn,cc⟩,rfl⟩,HF.out.bel⟩
    | false =>
     have hR2:R=some c:=hR'
     subst hR2
     clear hR'
     go_enter Tryz.func167,Tryz.ntmps167
     go_upto_region 11 with (first
      | (go_at_call 142;refine (CW.out _ HW.out.bel).mono ?_;rintro e w1 ⟨⟨⟨kk,mm,rr,ss,aa,nn,cc⟩,rfl,hf'⟩,hb1⟩;have H1:=jH (HW.out.aft hb1);have HTf:=jH hf';clear hf';clear hb1)
      | ((with_reducible show wpList _ _ _ (Oper.mk none (Op.store 162 _ _) _ _ _ none::_) _ _);refine wpl_storeG w1.heap.size zG ⟨⟨kk,mm,rr,ss,aa,nn,cc⟩,false,bs⟩ (At.new w1 _) rfl rfl ?_;intro wb hA9 hB9;have HLO:Hid (w.heap.size+1<w1.heap.size):=H1.out.a4.lt;have HT:=jH ((H1.out.aft (belA (o:=zG.o) bR)).other hB9 HLO.out);have HY:=jH hA9;clear hA9 hB9 H1))
     obtain ⟨bw,hbw⟩:∃ bw,bw=w1.heap.size:=⟨_,rfl⟩
     rw [← hbw] at HY HLO ⊢
     clear hbw HW CW
     have C36:Hid (∀ W,TW w 4 n l a m cap bw ⟨⟨kk,mm,rr,ss,aa,nn,cc⟩,false,bs⟩ W→Calls Tryz.prog 173 #[tyV kk mm rr ss aa nn cc] W fun e w'=>e=.returned (.bool false)∧Below W.heap.size W w'):=fun W hW=>CP.out W ⟨kk,mm,rr,ss,aa,nn,cc⟩ HTf.out (by obtain ⟨f0,hTV,-⟩:=hW;exact hTV.bel)
     clear CP
     have hS0:TW w 4 n l a m cap bw ⟨⟨kk,mm,rr,ss,aa,nn,cc⟩,false,bs⟩ (wb.drew):=⟨zT,⟨HT.out.a3,HT.out.a4,belN HT.out.bel 1⟩,HY.out,HLO.out⟩
     clear HT HY HLO
     refine beginH (S:=fun V=>TW w 4 n l a m cap bw ⟨⟨kk,mm,rr,ss,aa,nn,cc⟩,false,bs⟩ V) (fun _ _ _ _ _ h=>h) (by kernel_rfl) hS0 (fun hq hH=>?_)
     refine tz 0 65 (.pointer (some ⟨bw,0,none⟩)) hq rfl rfl hH ?_
     simp only [pb,pc]
     refine tq 1 66 (.agg #[.int .u8 (kk:Int),.bool mm,.int .i64 rr,.int .i64 ss,.slice aa nn cc]) hq rfl rfl (fun W hSw=>by (obtain ⟨f0,hTV,hW9,hlt9⟩:=hSw;obtain ⟨c0,c1,c2,c3⟩:=hTV.a3.ov;obtain ⟨⟨-,d0,d1,d2,d3,d4⟩,d5,d6⟩:=hW9.gy;simp only [Nat.zero_add] at d0 d1 d2 d3 d4;clear hTV hW9 hlt9;go_simp;try first|rfl|simp [e0])) hH ?_
     simp only [pb,pc]
     refine tz 2 67 (.bool true) hq rfl rfl hH ?_
     simp only [pb,pc]
     refine tz 3 68 (.bool true) hq rfl rfl hH ?_
     simp only [pb,pc]
     refine tz 4 69 (.pointer (some ⟨w.heap.size,1,none⟩)) hq rfl rfl hH ?_
     simp only [pb,pc]
     refine tq 5 70 (.int .i64 n) hq rfl rfl (fun W hSw=>by (obtain ⟨f0,hTV,hW9,hlt9⟩:=hSw;obtain ⟨c0,c1,c2,c3⟩:=hTV.a3.ov;obtain ⟨⟨-,d0,d1,d2,d3,d4⟩,d5,d6⟩:=hW9.gy;simp only [Nat.zero_add] at d0 d1 d2 d3 d4;clear hTV hW9 hlt9;go_simp;try first|rfl|simp [e0])) hH ?_
     simp only [pb,pc]
     refine tq 6 71 (.bool true) hq rfl rfl (fun W hSw=>by (obtain ⟨f0,hTV,hW9,hlt9⟩:=hSw;obtain ⟨c0,c1,c2,c3⟩:=hTV.a3.ov;obtain ⟨⟨-,d0,d1,d2,d3,d4⟩,d5,d6⟩:=hW9.gy;simp only [Nat.zero_add] at d0 d1 d2 d3 d4;clear hTV hW9 hlt9;go_simp;try first|rfl|simp [e0])) hH ?_
     simp only [pb,pc]
     refine tz 7 72 (.bool true) hq rfl rfl hH ?_
     simp only [pb,pc]
     refine tz 8 73 (.bool true) hq rfl rfl hH ?_
     simp only [pb,pc]
     refine tz 9 74 (.pointer (some ⟨bw,0,none⟩)) hq rfl rfl hH ?_
     simp only [pb,pc]
     refine tq 10 75 (.agg #[.int .u8 (kk:Int),.bool mm,.int .i64 rr,.int .i64 ss,.slice aa nn cc]) hq rfl rfl (fun W hSw=>by (obtain ⟨f0,hTV,hW9,hlt9⟩:=hSw;obtain ⟨c0,c1,c2,c3⟩:=hTV.a3.ov;obtain ⟨⟨-,d0,d1,d2,d3,d4⟩,d5,d6⟩:=hW9.gy;simp only [Nat.zero_add] at d0 d1 d2 d3 d4;clear hTV hW9 hlt9;go_simp;try first|rfl|simp [e0])) hH ?_
     simp only [pb,pc]
     refine aR1 11 rfl (fun K hK=>?_)
     go_simp
     refine (C36.out _ (by exact hS0)).mono ?_
     rintro e v1 ⟨rfl,hb1⟩
     have hS1:TW w 4 n l a m cap bw ⟨⟨kk,mm,rr,ss,aa,nn,cc⟩,false,bs⟩ v1:=TW.aft hS0 hb1
     go_wp2_with fail
     refine hK.out _ _ hS1 (fun hH=>?_)
     clear hK K
     try simp only [Act.put,List.setIfInBounds_toArray,pb,pc]
     skip
     clear hb1
     refine tq 12 77 (.bool true) hq rfl rfl (fun W hSw=>by (obtain ⟨f0,hTV,hW9,hlt9⟩:=hSw;obtain ⟨c0,c1,c2,c3⟩:=hTV.a3.ov;obtain ⟨⟨-,d0,d1,d2,d3,d4⟩,d5,d6⟩:=hW9.gy;simp only [Nat.zero_add] at d0 d1 d2 d3 d4;clear hTV hW9 hlt9;go_simp;try first|rfl|simp [e0])) hH ?_
     simp only [pb,pc]
     refine tz 13 78 (.bool true) hq rfl rfl hH ?_
     simp only [pb,pc]
     refine tz 14 79 (.bool true) hq rfl rfl hH ?_
     simp only [pb,pc]
     refine tz 15 80 (.pointer (some ⟨bw,5,none⟩)) hq rfl rfl hH ?_
     simp only [pb,pc]
     refine tq 16 81 (.bool false) hq rfl rfl (fun W hSw=>by (obtain ⟨f0,hTV,hW9,hlt9⟩:=hSw;obtain ⟨c0,c1,c2,c3⟩:=hTV.a3.ov;obtain ⟨⟨-,d0,d1,d2,d3,d4⟩,d5,d6⟩:=hW9.gy;simp only [Nat.zero_add] at d0 d1 d2 d3 d4;clear hTV hW9 hlt9;go_simp;try first|rfl|simp [e0])) hH ?_
     simp only [pb,pc]
     refine tq 17 82 (.bool true) hq rfl rfl (fun W hSw=>by (obtain ⟨f0,hTV,hW9,hlt9⟩:=hSw;obtain ⟨c0,c1,c2,c3⟩:=hTV.a3.ov;obtain ⟨⟨-,d0,d1,d2,d3,d4⟩,d5,d6⟩:=hW9.gy;simp only [Nat.zero_add] at d0 d1 d2 d3 d4;clear hTV hW9 hlt9;go_simp;try first|rfl|simp [e0])) hH ?_
     simp only [pb,pc]
     refine tz 18 83 (.bool true) hq rfl rfl hH ?_
     simp only [pb,pc]
     refine aR1 19 rfl (fun K hK=>?_)
     obtain ⟨f0,hTV,hW9,hlt9⟩:=hS1
     refine wp_storeT1 (w.heap.size+1) f0 ⟨kk,mm,rr,ss,aa,nn,cc⟩ rfl rfl hTV.a4 rfl rfl ?_
     intro v2 hA9 hB9
     have HF:=jH (hTV.st hA9 hB9)
     have HW9:=jH (hW9.grown hB9 (by simp;omega))
     have HL9:=jH hlt9
     clear hTV hA9 hB9 hW9 hlt9
     refine hK.out _ _ ⟨_,HF.out,HW9.out,HL9.out⟩ (fun hH=>?_)
     clear hK K
     try simp only [Act.put,List.setIfInBounds_toArray,pb,pc]
     refine tz 20 5 (.bool true) hq rfl rfl hH ?_
     simp only [pb,pc]
     refine wpAnyH_done (by kernel_rfl) ?_ _
     go_wp2_with fail
     exact bodyPost_ret (results_c2 (g:=⟨kk,mm,rr,ss,aa,nn,cc⟩) Tryz.results167 rfl rfl HF.out.a4.ty) rfl ⟨⟨⟨kk,mm,rr,ss,aa,nn,cc⟩,rfl,HTf.out⟩,HF.out.bel⟩
  ·have e0:(n == 0)=false:=by simpa using hn
   rw [decide_eq_false hn] at hR'
   clear hn
   have hR2:R=none:=hR'
   subst hR2
   clear hR'
   go_enter Tryz.func167,Tryz.ntmps167
   go_upto_region 11 with (first
    | (go_at_call 142;refine (CW.out _ HW.out.bel).mono ?_;rintro e w1 ⟨⟨⟨kk,mm,rr,ss,aa,nn,cc⟩,rfl,hf'⟩,hb1⟩;have H1:=jH (HW.out.aft hb1);have HTf:=jH hf';clear hf';clear hb1)
    | ((with_reducible show wpList _ _ _ (Oper.mk none (Op.store 162 _ _) _ _ _ none::_) _ _);refine wpl_storeG w1.heap.size zG ⟨⟨kk,mm,rr,ss,aa,nn,cc⟩,br,bs⟩ (At.new w1 _) rfl rfl ?_;intro wb hA9 hB9;have HLO:Hid (w.heap.size+1<w1.heap.size):=H1.out.a4.lt;have HT:=jH ((H1.out.aft (belA (o:=zG.o) bR)).other hB9 HLO.out);have HY:=jH hA9;clear hA9 hB9 H1))
   obtain ⟨bw,hbw⟩:∃ bw,bw=w1.heap.size:=⟨_,rfl⟩
   rw [← hbw] at HY HLO ⊢
   clear hbw HW CW
   have C36:Hid (∀ W,TW w 4 n l a m cap bw ⟨⟨kk,mm,rr,ss,aa,nn,cc⟩,br,bs⟩ W→Calls Tryz.prog 173 #[tyV kk mm rr ss aa nn cc] W fun e w'=>e=.returned (.bool cp)∧Below W.heap.size W w'):=fun W hW=>CP.out W ⟨kk,mm,rr,ss,aa,nn,cc⟩ HTf.out (by obtain ⟨f0,hTV,-⟩:=hW;exact hTV.bel)
   clear CP
   have hS0:TW w 4 n l a m cap bw ⟨⟨kk,mm,rr,ss,aa,nn,cc⟩,br,bs⟩ (wb.drew):=⟨zT,⟨HT.out.a3,HT.out.a4,belN HT.out.bel 1⟩,HY.out,HLO.out⟩
   clear HT HY HLO
   refine beginH (S:=fun V=>TW w 4 n l a m cap bw ⟨⟨kk,mm,rr,ss,aa,nn,cc⟩,br,bs⟩ V) (fun _ _ _ _ _ h=>h) (by kernel_rfl) hS0 (fun hq hH=>?_)
   refine tz 0 65 (.pointer (some ⟨bw,0,none⟩)) hq rfl rfl hH ?_
   simp only [pb,pc]
   refine tq 1 66 (.agg #[.int .u8 (kk:Int),.bool mm,.int .i64 rr,.int .i64 ss,.slice aa nn cc]) hq rfl rfl (fun W hSw=>by (obtain ⟨f0,hTV,hW9,hlt9⟩:=hSw;obtain ⟨c0,c1,c2,c3⟩:=hTV.a3.ov;obtain ⟨⟨-,d0,d1,d2,d3,d4⟩,d5,d6⟩:=hW9.gy;simp only [Nat.zero_add] at d0 d1 d2 d3 d4;clear hTV hW9 hlt9;go_simp;try first|rfl|simp [e0])) hH ?_
   simp only [pb,pc]
   refine tz 2 67 (.bool true) hq rfl rfl hH ?_
   simp only [pb,pc]
   refine tz 3 68 (.bool true) hq rfl rfl hH ?_
   simp only [pb,pc]
   refine tz 4 69 (.pointer (some ⟨w.heap.size,1,none⟩)) hq rfl rfl hH ?_
   simp only [pb,pc]
   refine tq 5 70 (.int .i64 n) hq rfl rfl (fun W hSw=>by (obtain ⟨f0,hTV,hW9,hlt9⟩:=hSw;obtain ⟨c0,c1,c2,c3⟩:=hTV.a3.ov;obtain ⟨⟨-,d0,d1,d2,d3,d4⟩,d5,d6⟩:=hW9.gy;simp only [Nat.zero_add] at d0 d1 d2 d3 d4;clear hTV hW9 hlt9;go_simp;try first|rfl|simp [e0])) hH ?_
   simp only [pb,pc]
   refine tq 6 71 (.bool false) hq rfl rfl (fun W hSw=>by (obtain ⟨f0,hTV,hW9,hlt9⟩:=hSw;obtain ⟨c0,c1,c2,c3⟩:=hTV.a3.ov;obtain ⟨⟨-,d0,d1,d2,d3,d4⟩,d5,d6⟩:=hW9.gy;simp only [Nat.zero_add] at d0 d1 d2 d3 d4;clear hTV hW9 hlt9;go_simp;try first|rfl|simp [e0])) hH ?_
   simp only [pb,pc]
   refine tz 7 72 (.bool false) hq rfl rfl hH ?_
   simp only [pb,pc]
   refine tz 8 73 (.bool false) hq rfl rfl hH ?_
   simp only [pb,pc]
   refine sq 9 74 hq rfl rfl hH ?_
   simp only [pb,pc]
   refine sq 10 75 hq rfl rfl hH ?_
   simp only [pb,pc]
   refine sq 11 76 hq rfl rfl hH ?_
   simp only [pb,pc]
   refine sq 12 77 hq rfl rfl hH ?_
   simp only [pb,pc]
   refine tz 13 78 (.bool false) hq rfl rfl hH ?_
   simp only [pb,pc]
   refine tz 14 79 (.bool false) hq rfl rfl hH ?_
   simp only [pb,pc]
   refine sq 15 80 hq rfl rfl hH ?_
   simp only [pb,pc]
   refine sq 16 81 hq rfl rfl hH ?_
   simp only [pb,pc]
   refine sq 17 82 hq rfl rfl hH ?_
   simp only [pb,pc]
   refine tz 18 83 (.bool false) hq rfl rfl hH ?_
   simp only [pb,pc]
   refine aR1 19 rfl (fun K hK=>?_)
   obtain ⟨f0,hTV,hW9,hlt9⟩:=hS0
   refine wp_storeT1 (w.heap.size+1) f0 ⟨kk,mm,rr,ss,aa,nn,cc⟩ rfl rfl hTV.a4 rfl rfl ?_
   intro v2 hA9 hB9
   have HF:=jH (hTV.st hA9 hB9)
   have HW9:=jH (hW9.grown hB9 (by simp;omega))
   have HL9:=jH hlt9
   clear hTV hA9 hB9 hW9 hlt9
   refine hK.out _ _ ⟨_,HF.out,HW9.out,HL9.out⟩ (fun hH=>?_)
   clear hK K
   try simp only [Act.put,List.setIfInBounds_toArray,pb,pc]
   refine tz 20 5 (.bool false) hq rfl rfl hH ?_
   simp only [pb,pc]
   refine wpAnyH_done (by kernel_rfl) ?_ _
   go_wp2_with fail
   exact bodyPost_ret (results_c2 (g:=⟨kk,mm,rr,ss,aa,nn,cc⟩) Tryz.results167 rfl rfl HF.out.a4.ty) rfl ⟨⟨⟨kk,mm,rr,ss,aa,nn,cc⟩,rfl⟩,HF.out.bel⟩
theorem typeOf_x (w0 w:World) (b k:Nat) (n l:Int) (a:Option Addr) (m cap:Nat) (hk:k=0∨4<k) :
  Calls Tryz.prog 167 #[.pointer (some ⟨b,0,none⟩),oV k n l a m cap] w fun e w'=>TyPost none w0 e∧Below w.heap.size w w':=by
 have HW:=jH (TV.start w k n l a m cap zT)
 have k1:¬ (k:Int)=1:=by omega
 have k2:¬ (k:Int)=2:=by omega
 have k3:¬ (k:Int)=3:=by omega
 have k4:¬ (k:Int)=4:=by omega
 clear hk
 show Calls Tryz.prog 167 #[.pointer (some ⟨b,0,none⟩),.agg #[.int .u8 (k:Int),.int .i64 n,.int .i64 l,.slice a m cap]] w _
 go_enter Tryz.func167,Tryz.ntmps167
 go_wp2_with ((with_reducible show wpList _ _ _ (Oper.mk none (Op.store 46 _ _) _ _ _ none::_) _ _);refine wpl_storeT1 (w.heap.size+1) zT zT HW.out.a4 rfl rfl ?_;intro HFw hA9 hB9;have HF:=jH (HW.out.st hA9 hB9);clear hA9 hB9)
 exact bodyPost_ret (results_c2 (g:=zT) Tryz.results167 rfl rfl HF.out.a4.ty) rfl ⟨⟨zT,rfl⟩,HF.out.bel⟩
end Go.Proofs.YtdlggpcakaofoaaGreat
