import Derived.Test.YtmjenlogbkbgnaaGreatDoorC12
namespace Go.Proofs.YtmjenlogbkbgnaaGreatDoor
open Go.RowKit Go.Shelf
set_option linter.unusedVariables false
set_option linter.unusedSimpArgs false
set_option maxRecDepth 100000
set_option maxHeartbeats 8000000
theorem typeOf_4 (w0 w:World) (hB0:Below w0.heap.size w0 w) (b:Nat) (n l:Int) (a:Option Addr) (m cap:Nat) (RW:Option (Ch × List Int)) (cw:∀ W,Below w.heap.size w W→Calls Tryz.prog 193 #[.pointer (some ⟨b,0,none⟩),plV l a m cap] W fun e w'=>GwPost RW w0 e∧Below W.heap.size W w') (hok:∀ y,RW=some y→Ok y.1)
  (R:Option Ch) (hR:R=RW.bind fun y=>if decide (n=0) && !copB y.1 && !byRef y.2 then some y.1 else none) :
  Calls Tryz.prog 215 #[.pointer (some ⟨b,0,none⟩),oV 4 n l a m cap] w fun e w'=>TyPost R w0 e∧Below w.heap.size w w':=by
 have HW:=jH (TV.start w 4 n l a m cap zT)
 have CW:=jH cw
 show Calls Tryz.prog 215 #[.pointer (some ⟨b,0,none⟩),.agg #[.int .u8 4,.int .i64 n,.int .i64 l,.slice a m cap]] w _
 cases RW with
 | none =>
  have hR2:R=none:=hR
  subst hR2
  have e0:True:=trivial
  have CW:Hid (∀ W,Below w.heap.size w W→Calls Tryz.prog 193 #[.pointer (some ⟨b,0,none⟩),plV l a m cap] W fun e w'=>(∃ y:Gy,e=.returned (.tuple #[y.v,.bool false]))∧Below W.heap.size W w'):=cw
  clear hR hok cw hB0
  go_enter Tryz.func215,Tryz.ntmps215
  go_upto_region 11 with (first
   | (go_at_call 193;refine (CW.out _ HW.out.bel).mono ?_;rintro e w1 ⟨⟨⟨⟨kk,mm,rr,ss,aa,nn,cc⟩,br,bs⟩,rfl⟩,hb1⟩;have H1:=jH (HW.out.aft hb1);clear hb1)
   | ((with_reducible show wpList _ _ _ (Oper.mk none (Op.store 246 _ _) _ _ _ none::_) _ _);refine wpl_storeG w1.heap.size zG ⟨⟨kk,mm,rr,ss,aa,nn,cc⟩,br,bs⟩ (At.new w1 _) rfl rfl ?_;intro wb hA9 hB9;have HLO:Hid (w.heap.size+1<w1.heap.size):=H1.out.a4.lt;have HT:=jH ((H1.out.aft (belA (o:=zG.o) bR)).other hB9 HLO.out);have HY:=jH hA9;clear hA9 hB9 H1))
  obtain ⟨bw,hbw⟩:∃ bw,bw=w1.heap.size:=⟨_,rfl⟩
  rw [← hbw] at HY HLO ⊢
  clear hbw HW CW
  have hS0:TW w 4 n l a m cap bw ⟨⟨kk,mm,rr,ss,aa,nn,cc⟩,br,bs⟩ (wb.drew):=⟨zT,⟨HT.out.a3,HT.out.a4,belN HT.out.bel 1⟩,HY.out,HLO.out⟩
  clear HT HY HLO
  refine beginH (S:=fun V=>TW w 4 n l a m cap bw ⟨⟨kk,mm,rr,ss,aa,nn,cc⟩,br,bs⟩ V) (fun _ _ _ _ _ h=>h) (by kernel_rfl) hS0 (fun hq hH=>?_)
  refine tz 0 65 (.pointer (some ⟨bw,0,none⟩)) hq rfl rfl hH ?_
  simp only [pb,pc]
  refine tq 1 66 (.agg #[.int .u8 (kk:Int),.bool mm,.int .i64 rr,.int .i64 ss,.slice aa nn cc]) hq rfl rfl (fun W hSw=>by (obtain ⟨f0,hTV,hW9,hlt9⟩:=hSw;obtain ⟨c0,c1,c2,c3⟩:=hTV.a3.ov;obtain ⟨⟨-,d0,d1,d2,d3,d4⟩,d5,d6⟩:=hW9.gy;simp only [Nat.zero_add] at d0 d1 d2 d3 d4;clear hTV hW9 hlt9;go_simp;try first|rfl|simp [e0])) hH ?_
  simp only [pb,pc]
  refine tz 2 67 (.bool false) hq rfl rfl hH ?_
  simp only [pb,pc]
  refine tz 3 68 (.bool false) hq rfl rfl hH ?_
  simp only [pb,pc]
  refine sq 4 69 hq rfl rfl hH ?_
  simp only [pb,pc]
  refine sq 5 70 hq rfl rfl hH ?_
  simp only [pb,pc]
  refine sq 6 71 hq rfl rfl hH ?_
  simp only [pb,pc]
  refine tz 7 72 (.bool false) hq rfl rfl hH ?_
  simp only [pb,pc]
  refine tz 8 73 (.bool false) hq rfl rfl hH ?_
  simp only [pb,pc]
  refine sq 9 74 hq rfl rfl hH ?_
  simp only [pb,pc]
  refine sq 10 75 hq rfl rfl hH ?_
  simp only [pb,pc]
  refine sq 11 76 hq rfl rfl hH ?_
  simp only [pb,pc]
  refine sq 12 77 hq rfl rfl hH ?_
  simp only [pb,pc]
  refine tz 13 78 (.bool false) hq rfl rfl hH ?_
  simp only [pb,pc]
  refine tz 14 79 (.bool false) hq rfl rfl hH ?_
  simp only [pb,pc]
  refine sq 15 80 hq rfl rfl hH ?_
  simp only [pb,pc]
  refine sq 16 81 hq rfl rfl hH ?_
  simp only [pb,pc]
  refine sq 17 82 hq rfl rfl hH ?_
  simp only [pb,pc]
  refine tz 18 83 (.bool false) hq rfl rfl hH ?_
  simp only [pb,pc]
  refine aR1 19 rfl (fun K hK=>?_)
  obtain ⟨f0,hTV,hW9,hlt9⟩:=hS0
  refine wp_storeT1 (w.heap.size+1) f0 ⟨kk,mm,rr,ss,aa,nn,cc⟩ rfl rfl hTV.a4 rfl rfl ?_
  intro v2 hA9 hB9
  have HF:=jH (hTV.st hA9 hB9)
  have HW9:=jH (hW9.grown hB9 (by simp;omega))
  have HL9:=jH hlt9
  clear hTV hA9 hB9 hW9 hlt9
  refine hK.out _ _ ⟨_,HF.out,HW9.out,HL9.out⟩ (fun hH=>?_)
  clear hK K
  try simp only [Act.put,List.setIfInBounds_toArray,pb,pc]
  refine tz 20 5 (.bool false) hq rfl rfl hH ?_
  simp only [pb,pc]
  refine wpAnyH_done (by kernel_rfl) ?_ _
  go_wp2_with fail
  exact bodyPost_ret (results_c2 (g:=⟨kk,mm,rr,ss,aa,nn,cc⟩) Tryz.results215 rfl rfl HF.out.a4.ty) rfl ⟨⟨⟨kk,mm,rr,ss,aa,nn,cc⟩,rfl⟩,HF.out.bel⟩
 | some y =>
  obtain ⟨c,gs⟩:=y
  have HOK:=jH (hok _ rfl)
  obtain ⟨br,hbr⟩:∃ x,x=byRef gs:=⟨_,rfl⟩
  obtain ⟨bs,hbs⟩:∃ x,x=byShr gs:=⟨_,rfl⟩
  obtain ⟨cp,hcp⟩:∃ x,x=copB c:=⟨_,rfl⟩
  have CW:Hid (∀ W,Below w.heap.size w W→Calls Tryz.prog 193 #[.pointer (some ⟨b,0,none⟩),plV l a m cap] W fun e w'=>(∃ f':Fv,e=.returned (.tuple #[Gy.v ⟨f',br,bs⟩,.bool true])∧TyAt w0 f' c.ty)∧Below W.heap.size W w'):=by rw [hbr,hbs];exact cw
  have CP:Hid (∀ (W:World) (f:Fv),TyAt w0 f c.ty→Below w.heap.size w W→Calls Tryz.prog 222 #[f.v] W fun e w'=>e=.returned (.bool cp)∧Below W.heap.size W w'):=fun W f hf hW=>by rw [hcp];exact Copies_yes c f W HOK.out (hf.bel (jB hB0 hW))
  have hR':R=if (decide (n=0) && !cp && !br) then some c else none:=by rw [hR,hcp,hbr];rfl
  clear cw hR hok hcp hbr hbs
  by_cases hn:n=0
  ·have e0:(n == 0)=true:=by simpa using hn
   rw [decide_eq_true hn] at hR'
   clear hn
   cases cp with
   | true =>
    have hR2:R=none:=hR'
    subst hR2
    clear hR'
    go_enter Tryz.func215,Tryz.ntmps215
    go_upto_region 11 with (first
     | (go_at_call 193;refine (CW.out _ HW.out.bel).mono ?_;rintro e w1 ⟨⟨⟨kk,mm,rr,ss,aa,nn,cc⟩,rfl,hf'⟩,hb1⟩;have H1:=jH (HW.out.aft hb1);have HTf:=jH hf';clear hf';clear hb1)
     | ((with_reducible show wpList _ _ _ (Oper.mk none (Op.store 246 _ _) _ _ _ none::_) _ _);refine wpl_storeG w1.heap.size zG ⟨⟨kk,mm,rr,ss,aa,nn,cc⟩,br,bs⟩ (At.new w1 _) rfl rfl ?_;intro wb hA9 hB9;have HLO:Hid (w.heap.size+1<w1.heap.size):=H1.out.a4.lt;have HT:=jH ((H1.out.aft (belA (o:=zG.o) bR)).other hB9 HLO.out);have HY:=jH hA9;clear hA9 hB9 H1))
    obtain ⟨bw,hbw⟩:∃ bw,bw=w1.heap.size:=⟨_,rfl⟩
    rw [← hbw] at HY HLO ⊢
    clear hbw HW CW
    have C36:Hid (∀ W,TW w 4 n l a m cap bw ⟨⟨kk,mm,rr,ss,aa,nn,cc⟩,br,bs⟩ W→Calls Tryz.prog 222 #[tyV kk mm rr ss aa nn cc] W fun e w'=>e=.returned (.bool true)∧Below W.heap.size W w'):=fun W hW=>CP.out W ⟨kk,mm,rr,ss,aa,nn,cc⟩ HTf.out (by obtain ⟨f0,hTV,-⟩:=hW;exact hTV.bel)
    clear CP
    have hS0:TW w 4 n l a m cap bw ⟨⟨kk,mm,rr,ss,aa,nn,cc⟩,br,bs⟩ (wb.drew):=⟨zT,⟨HT.out.a3,HT.out.a4,belN HT.out.bel 1⟩,HY.out,HLO.out⟩
    clear HT HY HLO
    refine beginH (S:=fun V=>TW w 4 n l a m cap bw ⟨⟨kk,mm,rr,ss,aa,nn,cc⟩,br,bs⟩ V) (fun _ _ _ _ _ h=>h) (by kernel_rfl) hS0 (fun hq hH=>?_)
    refine tz 0 65 (.pointer (some ⟨bw,0,none⟩)) hq rfl rfl hH ?_
    simp only [pb,pc]
    refine tq 1 66 (.agg #[.int .u8 (kk:Int),.bool mm,.int .i64 rr,.int .i64 ss,.slice aa nn cc]) hq rfl rfl (fun W hSw=>by (obtain ⟨f0,hTV,hW9,hlt9⟩:=hSw;obtain ⟨c0,c1,c2,c3⟩:=hTV.a3.ov;obtain ⟨⟨-,d0,d1,d2,d3,d4⟩,d5,d6⟩:=hW9.gy;simp only [Nat.zero_add] at d0 d1 d2 d3 d4;clear hTV hW9 hlt9;go_simp;try first|rfl|simp [e0])) hH ?_
    simp only [pb,pc]
    refine tz 2 67 (.bool true) hq rfl rfl hH ?_
    simp only [pb,pc]
    refine tz 3 68 (.bool true) hq rfl rfl hH ?_
    simp only [pb,pc]
    refine tz 4 69 (.pointer (some ⟨w.heap.size,1,none⟩)) hq rfl rfl hH ?_
    simp only [pb,pc]
    refine tq 5 70 (.int .i64 n) hq rfl rfl (fun W hSw=>by (obtain ⟨f0,hTV,hW9,hlt9⟩:=hSw;obtain ⟨c0,c1,c2,c3⟩:=hTV.a3.ov;obtain ⟨⟨-,d0,d1,d2,d3,d4⟩,d5,d6⟩:=hW9.gy;simp only [Nat.zero_add] at d0 d1 d2 d3 d4;clear hTV hW9 hlt9;go_simp;try first|rfl|simp [e0])) hH ?_
    simp only [pb,pc]
    refine tq 6 71 (.bool true) hq rfl rfl (fun W hSw=>by (obtain ⟨f0,hTV,hW9,hlt9⟩:=hSw;obtain ⟨c0,c1,c2,c3⟩:=hTV.a3.ov;obtain ⟨⟨-,d0,d1,d2,d3,d4⟩,d5,d6⟩:=hW9.gy;simp only [Nat.zero_add] at d0 d1 d2 d3 d4;clear hTV hW9 hlt9;go_simp;try first|rfl|simp [e0])) hH ?_
    simp only [pb,pc]
    refine tz 7 72 (.bool true) hq rfl rfl hH ?_
    simp only [pb,pc]
    refine tz 8 73 (.bool true) hq rfl rfl hH ?_
    simp only [pb,pc]
    refine tz 9 74 (.pointer (some ⟨bw,0,none⟩)) hq rfl rfl hH ?_
    simp only [pb,pc]
    refine tq 10 75 (.agg #[.int .u8 (kk:Int),.bool mm,.int .i64 rr,.int .i64 ss,.slice aa nn cc]) hq rfl rfl (fun W hSw=>by (obtain ⟨f0,hTV,hW9,hlt9⟩:=hSw;obtain ⟨c0,c1,c2,c3⟩:=hTV.a3.ov;obtain ⟨⟨-,d0,d1,d2,d3,d4⟩,d5,d6⟩:=hW9.gy;simp only [Nat.zero_add] at d0 d1 d2 d3 d4;clear hTV hW9 hlt9;go_simp;try first|rfl|simp [e0])) hH ?_
    simp only [pb,pc]
    refine aR1 11 rfl (fun K hK=>?_)
    go_simp
    refine (C36.out _ (by exact hS0)).mono ?_
    rintro e v1 ⟨rfl,hb1⟩
    have hS1:TW w 4 n l a m cap bw ⟨⟨kk,mm,rr,ss,aa,nn,cc⟩,br,bs⟩ v1:=TW.aft hS0 hb1
    go_wp2_with fail
    refine hK.out _ _ hS1 (fun hH=>?_)
    clear hK K
    try simp only [Act.put,List.setIfInBounds_toArray,pb,pc]
    skip
    clear hb1
    refine tq 12 77 (.bool false) hq rfl rfl (fun W hSw=>by (obtain ⟨f0,hTV,hW9,hlt9⟩:=hSw;obtain ⟨c0,c1,c2,c3⟩:=hTV.a3.ov;obtain ⟨⟨-,d0,d1,d2,d3,d4⟩,d5,d6⟩:=hW9.gy;simp only [Nat.zero_add] at d0 d1 d2 d3 d4;clear hTV hW9 hlt9;go_simp;try first|rfl|simp [e0])) hH ?_
    simp only [pb,pc]
    refine tz 13 78 (.bool false) hq rfl rfl hH ?_
    simp only [pb,pc]
    refine tz 14 79 (.bool false) hq rfl rfl hH ?_
    simp only [pb,pc]
    refine sq 15 80 hq rfl rfl hH ?_
    simp only [pb,pc]
    refine sq 16 81 hq rfl rfl hH ?_
    simp only [pb,pc]
    refine sq 17 82 hq rfl rfl hH ?_
    simp only [pb,pc]
    refine tz 18 83 (.bool false) hq rfl rfl hH ?_
    simp only [pb,pc]
    refine aR1 19 rfl (fun K hK=>?_)
    obtain ⟨f0,hTV,hW9,hlt9⟩:=hS1
    refine wp_storeT1 (w.heap.size+1) f0 ⟨kk,mm,rr,ss,aa,nn,cc⟩ rfl rfl hTV.a4 rfl rfl ?_
    intro v2 hA9 hB9
    have HF:=jH (hTV.st hA9 hB9)
    have HW9:=jH (hW9.grown hB9 (by simp;omega))
    have HL9:=jH hlt9
    clear hTV hA9 hB9 hW9 hlt9
    refine hK.out _ _ ⟨_,HF.out,HW9.out,HL9.out⟩ (fun hH=>?_)
    clear hK K
    try simp only [Act.put,List.setIfInBounds_toArray,pb,pc]
    refine tz 20 5 (.bool false) hq rfl rfl hH ?_
    simp only [pb,pc]
    refine wpAnyH_done (by kernel_rfl) ?_ _
    go_wp2_with fail
    exact bodyPost_ret (results_c2 (g:=⟨kk,mm,rr,ss,aa,nn,cc⟩) Tryz.results215 rfl rfl HF.out.a4.ty) rfl ⟨⟨⟨kk,mm,rr,ss,aa,nn,cc⟩,rfl⟩,HF.out.bel⟩
   | false =>
    cases br with
    | true =>
     have hR2:R=none:=hR'
     subst hR2
     clear hR'
     go_enter Tryz.func215,Tryz.ntmps215
     go_upto_region 11 with (first
      | (go_at_call 193;refine (CW.out _ HW.out.bel).mono ?_;rintro e w1 ⟨⟨⟨kk,mm,rr,ss,aa,nn,cc⟩,rfl,hf'⟩,hb1⟩;have H1:=jH (HW.out.aft hb1);have HTf:=jH hf';clear hf';clear hb1)
      | ((with_reducible show wpList _ _ _ (Oper.mk none (Op.store 246 _ _) _ _ _ none::_) _ _);refine wpl_storeG w1.heap.size zG ⟨⟨kk,mm,rr,ss,aa,nn,cc⟩,true,bs⟩ (At.new w1 _) rfl rfl ?_;intro wb hA9 hB9;have HLO:Hid (w.heap.size+1<w1.heap.size):=H1.out.a4.lt;have HT:=jH ((H1.out.aft (belA (o:=zG.o) bR)).other hB9 HLO.out);have HY:=jH hA9;clear hA9 hB9 H1))
     obtain ⟨bw,hbw⟩:∃ bw,bw=w1.heap.size:=⟨_,rfl⟩
     rw [← hbw] at HY HLO ⊢
     clear hbw HW CW
     have C36:Hid (∀ W,TW w 4 n l a m cap bw ⟨⟨kk,mm,rr,ss,aa,nn,cc⟩,true,bs⟩ W→Calls Tryz.prog 222 #[tyV kk mm rr ss aa nn cc] W fun e w'=>e=.returned (.bool false)∧Below W.heap.size W w'):=fun W hW=>CP.out W ⟨kk,mm,rr,ss,aa,nn,cc⟩ HTf.out (by obtain ⟨f0,hTV,-⟩:=hW;exact hTV.bel)
     clear CP
     have hS0:TW w 4 n l a m cap bw ⟨⟨kk,mm,rr,ss,aa,nn,cc⟩,true,bs⟩ (wb.drew):=⟨zT,⟨HT.out.a3,HT.out.a4,belN HT.out.bel 1⟩,HY.out,HLO.out⟩
     clear HT HY HLO
     refine beginH (S:=fun V=>TW w 4 n l a m cap bw ⟨⟨kk,mm,rr,ss,aa,nn,cc⟩,true,bs⟩ V) (fun _ _ _ _ _ h=>h) (by kernel_rfl) hS0 (fun hq hH=>?_)
     refine tz 0 65 (.pointer (some ⟨bw,0,none⟩)) hq rfl rfl hH ?_
     simp only [pb,pc]
     refine tq 1 66 (.agg #[.int .u8 (kk:Int),.bool mm,.int .i64 rr,.int .i64 ss,.slice aa nn cc]) hq rfl rfl (fun W hSw=>by (obtain ⟨f0,hTV,hW9,hlt9⟩:=hSw;obtain ⟨c0,c1,c2,c3⟩:=hTV.a3.ov;obtain ⟨⟨-,d0,d1,d2,d3,d4⟩,d5,d6⟩:=hW9.gy;simp only [Nat.zero_add] at d0 d1 d2 d3 d4;clear hTV hW9 hlt9;go_simp;try first|rfl|simp [e0])) hH ?_
     simp only [pb,pc]
     refine tz 2 67 (.bool true) hq rfl rfl hH ?_
     simp only [pb,pc]
     refine tz 3 68 (.bool true) hq rfl rfl hH ?_
     simp only [pb,pc]
     refine tz 4 69 (.pointer (some ⟨w.heap.size,1,none⟩)) hq rfl rfl hH ?_
     simp only [pb,pc]
     refine tq 5 70 (.int .i64 n) hq rfl rfl (fun W hSw=>by (obtain ⟨f0,hTV,hW9,hlt9⟩:=hSw;obtain ⟨c0,c1,c2,c3⟩:=hTV.a3.ov;obtain ⟨⟨-,d0,d1,d2,d3,d4⟩,d5,d6⟩:=hW9.gy;simp only [Nat.zero_add] at d0 d1 d2 d3 d4;clear hTV hW9 hlt9;go_simp;try first|rfl|simp [e0])) hH ?_
     simp only [pb,pc]
     refine tq 6 71 (.bool true) hq rfl rfl (fun W hSw=>by (obtain ⟨f0,hTV,hW9,hlt9⟩:=hSw;obtain ⟨c0,c1,c2,c3⟩:=hTV.a3.ov;obtain ⟨⟨-,d0,d1,d2,d3,d4⟩,d5,d6⟩:=hW9.gy;simp only [Nat.zero_add] at d0 d1 d2 d3 d4;clear hTV hW9 hlt9;go_simp;try first|rfl|simp [e0])) hH ?_
     simp only [pb,pc]
     refine tz 7 72 (.bool true) hq rfl rfl hH ?_
     simp only [pb,pc]
     refine tz 8 73 (.bool true) hq rfl rfl hH ?_
     simp only [pb,pc]
     refine tz 9 74 (.pointer (some ⟨bw,0,none⟩)) hq rfl rfl hH ?_
     simp only [pb,pc]
     refine tq 10 75 (.agg #[.int .u8 (kk:Int),.bool mm,.int .i64 rr,.int .i64 ss,.slice aa nn cc]) hq rfl rfl (fun W hSw=>by (obtain ⟨f0,hTV,hW9,hlt9⟩:=hSw;obtain ⟨c0,c1,c2,c3⟩:=hTV.a3.ov;obtain ⟨⟨-,d0,d1,d2,d3,d4⟩,d5,d6⟩:=hW9.gy;simp only [Nat.zero_add] at d0 d1 d2 d3 d4;clear hTV hW9 hlt9;go_simp;try first|rfl|simp [e0])) hH ?_
     simp only [pb,pc]
     refine aR1 11 rfl (fun K hK=>?_)
     go_simp
     refine (C36.out _ (by exact hS0)).mono ?_
     rintro e v1 ⟨rfl,hb1⟩
     have hS1:TW w 4 n l a m cap bw ⟨⟨kk,mm,rr,ss,aa,nn,cc⟩,true,bs⟩ v1:=TW.aft hS0 hb1
     go_wp2_with fail
     refine hK.out _ _ hS1 (fun hH=>?_)
     clear hK K
     try simp only [Act.put,List.setIfInBounds_toArray,pb,pc]
     skip
     clear hb1
     refine tq 12 77 (.bool true) hq rfl rfl (fun W hSw=>by (obtain ⟨f0,hTV,hW9,hlt9⟩:=hSw;obtain ⟨c0,c1,c2,c3⟩:=hTV.a3.ov;obtain ⟨⟨-,d0,d1,d2,d3,d4⟩,d5,d6⟩:=hW9.gy;simp only [Nat.zero_add] at d0 d1 d2 d3 d4;clear hTV hW9 hlt9;go_simp;try first|rfl|simp [e0])) hH ?_
     simp only [pb,pc]
     refine tz 13 78 (.bool true) hq rfl rfl hH ?_
     simp only [pb,pc]
     refine tz 14 79 (.bool true) hq rfl rfl hH ?_
     simp only [pb,pc]
     refine tz 15 80 (.pointer (some ⟨bw,5,none⟩)) hq rfl rfl hH ?_
     simp only [pb,pc]
     refine tq 16 81 (.bool true) hq rfl rfl (fun W hSw=>by (obtain ⟨f0,hTV,hW9,hlt9⟩:=hSw;obtain ⟨c0,c1,c2,c3⟩:=hTV.a3.ov;obtain ⟨⟨-,d0,d1,d2,d3,d4⟩,d5,d6⟩:=hW9.gy;simp only [Nat.zero_add] at d0 d1 d2 d3 d4;clear hTV hW9 hlt9;go_simp;try first|rfl|simp [e0])) hH ?_
     simp only [pb,pc]
     refine tq 17 82 (.bool false) hq rfl rfl (fun W hSw=>by (obtain ⟨f0,hTV,hW9,hlt9⟩:=hSw;obtain ⟨c0,c1,c2,c3⟩:=hTV.a3.ov;obtain ⟨⟨-,d0,d1,d2,d3,d4⟩,d5,d6⟩:=hW9.gy;simp only [Nat.zero_add] at d0 d1 d2 d3 d4;clear hTV hW9 hlt9;go_simp;try first|rfl|simp [e0])) hH ?_
     simp only [pb,pc]
     refine tz 18 83 (.bool false) hq rfl rfl hH ?_
     simp only [pb,pc]
     refine aR1 19 rfl (fun K hK=>?_)
     obtain ⟨f0,hTV,hW9,hlt9⟩:=hS1
     refine wp_storeT1 (w.heap.size+1) f0 ⟨kk,mm,rr,ss,aa,nn,cc⟩ rfl rfl hTV.a4 rfl rfl ?_
     intro v2 hA9 hB9
     have HF:=jH (hTV.st hA9 hB9)
     have HW9:=jH (hW9.grown hB9 (by simp;omega))
     have HL9:=jH hlt9
     clear hTV hA9 hB9 hW9 hlt9
     refine hK.out _ _ ⟨_,HF.out,HW9.out,HL9.out⟩ (fun hH=>?_)
     clear hK K
     try simp only [Act.put,List.setIfInBounds_toArray,pb,pc]
     refine tz 20 5 (.bool false) hq rfl rfl hH ?_
     simp only [pb,pc]
     refine wpAnyH_done (by kernel_rfl) ?_ _
     go_wp2_with fail
     exact bodyPost_ret (results_c2 (g:=⟨kk,mm,rr,ss,aa,nn,cc⟩) Tryz.results215 rfl rfl HF.out.a4.ty) rfl ⟨⟨⟨kk,mm,rr,ss,aa,nn,cc⟩,rfl⟩,HF.out.bel⟩
    | false =>
     have hR2:R=some c:=hR'
     subst hR2
     clear hR'
     go_enter Tryz.func215,Tryz.ntmps215
     go_upto_region 11 with (first
      | (go_at_call 193;refine (CW.out _ HW.out.bel).mono ?_;rintro e w1 ⟨⟨⟨kk,mm,rr,ss,aa,nn,cc⟩,rfl,hf'⟩,hb1⟩;have H1:=jH (HW.out.aft hb1);have HTf:=jH hf';clear hf';clear hb1)
      | ((with_reducible show wpList _ _ _ (Oper.mk none (Op.store 246 _ _) _ _ _ none::_) _ _);refine wpl_storeG w1.heap.size zG ⟨⟨kk,mm,rr,ss,aa,nn,cc⟩,false,bs⟩ (At.new w1 _) rfl rfl ?_;intro wb hA9 hB9;have HLO:Hid (w.heap.size+1<w1.heap.size):=H1.out.a4.lt;have HT:=jH ((H1.out.aft (belA (o:=zG.o) bR)).other hB9 HLO.out);have HY:=jH hA9;clear hA9 hB9 H1))
     obtain ⟨bw,hbw⟩:∃ bw,bw=w1.heap.size:=⟨_,rfl⟩
     rw [← hbw] at HY HLO ⊢
     clear hbw HW CW
     have C36:Hid (∀ W,TW w 4 n l a m cap bw ⟨⟨kk,mm,rr,ss,aa,nn,cc⟩,false,bs⟩ W→Calls Tryz.prog 222 #[tyV kk mm rr ss aa nn cc] W fun e w'=>e=.returned (.bool false)∧Below W.heap.size W w'):=fun W hW=>CP.out W ⟨kk,mm,rr,ss,aa,nn,cc⟩ HTf.out (by obtain ⟨f0,hTV,-⟩:=hW;exact hTV.bel)
     clear CP
     have hS0:TW w 4 n l a m cap bw ⟨⟨kk,mm,rr,ss,aa,nn,cc⟩,false,bs⟩ (wb.drew):=⟨zT,⟨HT.out.a3,HT.out.a4,belN HT.out.bel 1⟩,HY.out,HLO.out⟩
     clear HT HY HLO
     refine beginH (S:=fun V=>TW w 4 n l a m cap bw ⟨⟨kk,mm,rr,ss,aa,nn,cc⟩,false,bs⟩ V) (fun _ _ _ _ _ h=>h) (by kernel_rfl) hS0 (fun hq hH=>?_)
     refine tz 0 65 (.pointer (some ⟨bw,0,none⟩)) hq rfl rfl hH ?_
     simp only [pb,pc]
     refine tq 1 66 (.agg #[.int .u8 (kk:Int),.bool mm,.int .i64 rr,.int .i64 ss,.slice aa nn cc]) hq rfl rfl (fun W hSw=>by (obtain ⟨f0,hTV,hW9,hlt9⟩:=hSw;obtain ⟨c0,c1,c2,c3⟩:=hTV.a3.ov;obtain ⟨⟨-,d0,d1,d2,d3,d4⟩,d5,d6⟩:=hW9.gy;simp only [Nat.zero_add] at d0 d1 d2 d3 d4;clear hTV hW9 hlt9;go_simp;try first|rfl|simp [e0])) hH ?_
     simp only [pb,pc]
     refine tz 2 67 (.bool true) hq rfl rfl hH ?_
     simp only [pb,pc]
     refine tz 3 68 (.bool true) hq rfl rfl hH ?_
     simp only [pb,pc]
     refine tz 4 69 (.pointer (some ⟨w.heap.size,1,none⟩)) hq rfl rfl hH ?_
     simp only [pb,pc]
     refine tq 5 70 (.int .i64 n) hq rfl rfl (fun W hSw=>by (obtain ⟨f0,hTV,hW9,hlt9⟩:=hSw;obtain ⟨c0,c1,c2,c3⟩:=hTV.a3.ov;obtain ⟨⟨-,d0,d1,d2,d3,d4⟩,d5,d6⟩:=hW9.gy;simp only [Nat.zero_add] at d0 d1 d2 d3 d4;clear hTV hW9 hlt9;go_simp;try first|rfl|simp [e0])) hH ?_
     simp only [pb,pc]
     refine tq 6 71 (.bool true) hq rfl rfl (fun W hSw=>by (obtain ⟨f0,hTV,hW9,hlt9⟩:=hSw;obtain ⟨c0,c1,c2,c3⟩:=hTV.a3.ov;obtain ⟨⟨-,d0,d1,d2,d3,d4⟩,d5,d6⟩:=hW9.gy;simp only [Nat.zero_add] at d0 d1 d2 d3 d4;clear hTV hW9 hlt9;go_simp;try first|rfl|simp [e0])) hH ?_
     simp only [pb,pc]
     refine tz 7 72 (.bool true) hq rfl rfl hH ?_
     simp only [pb,pc]
     refine tz 8 73 (.bool true) hq rfl rfl hH ?_
     simp only [pb,pc]
     refine tz 9 74 (.pointer (some ⟨bw,0,none⟩)) hq rfl rfl hH ?_
     simp only [pb,pc]
     refine tq 10 75 (.agg #[.int .u8 (kk:Int),.bool mm,.int .i64 rr,.int .i64 ss,.slice aa nn cc]) hq rfl rfl (fun W hSw=>by (obtain ⟨f0,hTV,hW9,hlt9⟩:=hSw;obtain ⟨c0,c1,c2,c3⟩:=hTV.a3.ov;obtain ⟨⟨-,d0,d1,d2,d3,d4⟩,d5,d6⟩:=hW9.gy;simp only [Nat.zero_add] at d0 d1 d2 d3 d4;clear hTV hW9 hlt9;go_simp;try first|rfl|simp [e0])) hH ?_
     simp only [pb,pc]
     refine aR1 11 rfl (fun K hK=>?_)
     go_simp
     refine (C36.out _ (by exact hS0)).mono ?_
     rintro e v1 ⟨rfl,hb1⟩
     have hS1:TW w 4 n l a m cap bw ⟨⟨kk,mm,rr,ss,aa,nn,cc⟩,false,bs⟩ v1:=TW.aft hS0 hb1
     go_wp2_with fail
     refine hK.out _ _ hS1 (fun hH=>?_)
     clear hK K
     try simp only [Act.put,List.setIfInBounds_toArray,pb,pc]
     skip
     clear hb1
     refine tq 12 77 (.bool true) hq rfl rfl (fun W hSw=>by (obtain ⟨f0,hTV,hW9,hlt9⟩:=hSw;obtain ⟨c0,c1,c2,c3⟩:=hTV.a3.ov;obtain ⟨⟨-,d0,d1,d2,d3,d4⟩,d5,d6⟩:=hW9.gy;simp only [Nat.zero_add] at d0 d1 d2 d3 d4;clear hTV hW9 hlt9;go_simp;try first|rfl|simp [e0])) hH ?_
     simp only [pb,pc]
     refine tz 13 78 (.bool true) hq rfl rfl hH ?_
     simp only [pb,pc]
     refine tz 14 79 (.bool true) hq rfl rfl hH ?_
     simp only [pb,pc]
     refine tz 15 80 (.pointer (some ⟨bw,5,none⟩)) hq rfl rfl hH ?_
     simp only [pb,pc]
     refine tq 16 81 (.bool false) hq rfl rfl (fun W hSw=>by (obtain ⟨f0,hTV,hW9,hlt9⟩:=hSw;obtain ⟨c0,c1,c2,c3⟩:=hTV.a3.ov;obtain ⟨⟨-,d0,d1,d2,d3,d4⟩,d5,d6⟩:=hW9.gy;simp only [Nat.zero_add] at d0 d1 d2 d3 d4;clear hTV hW9 hlt9;go_simp;try first|rfl|simp [e0])) hH ?_
     simp only [pb,pc]
     refine tq 17 82 (.bool true) hq rfl rfl (fun W hSw=>by (obtain ⟨f0,hTV,hW9,hlt9⟩:=hSw;obtain ⟨c0,c1,c2,c3⟩:=hTV.a3.ov;obtain ⟨⟨-,d0,d1,d2,d3,d4⟩,d5,d6⟩:=hW9.gy;simp only [Nat.zero_add] at d0 d1 d2 d3 d4;clear hTV hW9 hlt9;go_simp;try first|rfl|simp [e0])) hH ?_
     simp only [pb,pc]
     refine tz 18 83 (.bool true) hq rfl rfl hH ?_
     simp only [pb,pc]
     refine aR1 19 rfl (fun K hK=>?_)
     obtain ⟨f0,hTV,hW9,hlt9⟩:=hS1
     refine wp_storeT1 (w.heap.size+1) f0 ⟨kk,mm,rr,ss,aa,nn,cc⟩ rfl rfl hTV.a4 rfl rfl ?_
     intro v2 hA9 hB9
     have HF:=jH (hTV.st hA9 hB9)
     have HW9:=jH (hW9.grown hB9 (by simp;omega))
     have HL9:=jH hlt9
     clear hTV hA9 hB9 hW9 hlt9
     refine hK.out _ _ ⟨_,HF.out,HW9.out,HL9.out⟩ (fun hH=>?_)
     clear hK K
     try simp only [Act.put,List.setIfInBounds_toArray,pb,pc]
     refine tz 20 5 (.bool true) hq rfl rfl hH ?_
     simp only [pb,pc]
     refine wpAnyH_done (by kernel_rfl) ?_ _
     go_wp2_with fail
     exact bodyPost_ret (results_c2 (g:=⟨kk,mm,rr,ss,aa,nn,cc⟩) Tryz.results215 rfl rfl HF.out.a4.ty) rfl ⟨⟨⟨kk,mm,rr,ss,aa,nn,cc⟩,rfl,HTf.out⟩,HF.out.bel⟩
  ·have e0:(n == 0)=false:=by simpa using hn
   rw [decide_eq_false hn] at hR'
   clear hn
   have hR2:R=none:=hR'
   subst hR2
   clear hR'
   go_enter Tryz.func215,Tryz.ntmps215
   go_upto_region 11 with (first
    | (go_at_call 193;refine (CW.out _ HW.out.bel).mono ?_;rintro e w1 ⟨⟨⟨kk,mm,rr,ss,aa,nn,cc⟩,rfl,hf'⟩,hb1⟩;have H1:=jH (HW.out.aft hb1);have HTf:=jH hf';clear hf';clear hb1)
    | ((with_reducible show wpList _ _ _ (Oper.mk none (Op.store 246 _ _) _ _ _ none::_) _ _);refine wpl_storeG w1.heap.size zG ⟨⟨kk,mm,rr,ss,aa,nn,cc⟩,br,bs⟩ (At.new w1 _) rfl rfl ?_;intro wb hA9 hB9;have HLO:Hid (w.heap.size+1<w1.heap.size):=H1.out.a4.lt;have HT:=jH ((H1.out.aft (belA (o:=zG.o) bR)).other hB9 HLO.out);have HY:=jH hA9;clear hA9 hB9 H1))
   obtain ⟨bw,hbw⟩:∃ bw,bw=w1.heap.size:=⟨_,rfl⟩
   rw [← hbw] at HY HLO ⊢
   clear hbw HW CW
   have C36:Hid (∀ W,TW w 4 n l a m cap bw ⟨⟨kk,mm,rr,ss,aa,nn,cc⟩,br,bs⟩ W→Calls Tryz.prog 222 #[tyV kk mm rr ss aa nn cc] W fun e w'=>e=.returned (.bool cp)∧Below W.heap.size W w'):=fun W hW=>CP.out W ⟨kk,mm,rr,ss,aa,nn,cc⟩ HTf.out (by obtain ⟨f0,hTV,-⟩:=hW;exact hTV.bel)
   clear CP
   have hS0:TW w 4 n l a m cap bw ⟨⟨kk,mm,rr,ss,aa,nn,cc⟩,br,bs⟩ (wb.drew):=⟨zT,⟨HT.out.a3,HT.out.a4,belN HT.out.bel 1⟩,HY.out,HLO.out⟩
   clear HT HY HLO
   refine beginH (S:=fun V=>TW w 4 n l a m cap bw ⟨⟨kk,mm,rr,ss,aa,nn,cc⟩,br,bs⟩ V) (fun _ _ _ _ _ h=>h) (by kernel_rfl) hS0 (fun hq hH=>?_)
   refine tz 0 65 (.pointer (some ⟨bw,0,none⟩)) hq rfl rfl hH ?_
   simp only [pb,pc]
   refine tq 1 66 (.agg #[.int .u8 (kk:Int),.bool mm,.int .i64 rr,.int .i64 ss,.slice aa nn cc]) hq rfl rfl (fun W hSw=>by (obtain ⟨f0,hTV,hW9,hlt9⟩:=hSw;obtain ⟨c0,c1,c2,c3⟩:=hTV.a3.ov;obtain ⟨⟨-,d0,d1,d2,d3,d4⟩,d5,d6⟩:=hW9.gy;simp only [Nat.zero_add] at d0 d1 d2 d3 d4;clear hTV hW9 hlt9;go_simp;try first|rfl|simp [e0])) hH ?_
   simp only [pb,pc]
   refine tz 2 67 (.bool true) hq rfl rfl hH ?_
   simp only [pb,pc]
   refine tz 3 68 (.bool true) hq rfl rfl hH ?_
   simp only [pb,pc]
   refine tz 4 69 (.pointer (some ⟨w.heap.size,1,none⟩)) hq rfl rfl hH ?_
   simp only [pb,pc]
   refine tq 5 70 (.int .i64 n) hq rfl rfl (fun W hSw=>by (obtain ⟨f0,hTV,hW9,hlt9⟩:=hSw;obtain ⟨c0,c1,c2,c3⟩:=hTV.a3.ov;obtain ⟨⟨-,d0,d1,d2,d3,d4⟩,d5,d6⟩:=hW9.gy;simp only [Nat.zero_add] at d0 d1 d2 d3 d4;clear hTV hW9 hlt9;go_simp;try first|rfl|simp [e0])) hH ?_
   simp only [pb,pc]
   refine tq 6 71 (.bool false) hq rfl rfl (fun W hSw=>by (obtain ⟨f0,hTV,hW9,hlt9⟩:=hSw;obtain ⟨c0,c1,c2,c3⟩:=hTV.a3.ov;obtain ⟨⟨-,d0,d1,d2,d3,d4⟩,d5,d6⟩:=hW9.gy;simp only [Nat.zero_add] at d0 d1 d2 d3 d4;clear hTV hW9 hlt9;go_simp;try first|rfl|simp [e0])) hH ?_
   simp only [pb,pc]
   refine tz 7 72 (.bool false) hq rfl rfl hH ?_
   simp only [pb,pc]
   refine tz 8 73 (.bool false) hq rfl rfl hH ?_
   simp only [pb,pc]
   refine sq 9 74 hq rfl rfl hH ?_
   simp only [pb,pc]
   refine sq 10 75 hq rfl rfl hH ?_
   simp only [pb,pc]
   refine sq 11 76 hq rfl rfl hH ?_
   simp only [pb,pc]
   refine sq 12 77 hq rfl rfl hH ?_
   simp only [pb,pc]
   refine tz 13 78 (.bool false) hq rfl rfl hH ?_
   simp only [pb,pc]
   refine tz 14 79 (.bool false) hq rfl rfl hH ?_
   simp only [pb,pc]
   refine sq 15 80 hq rfl rfl hH ?_
   simp only [pb,pc]
   refine sq 16 81 hq rfl rfl hH ?_
   simp only [pb,pc]
   refine sq 17 82 hq rfl rfl hH ?_
   simp only [pb,pc]
   refine tz 18 83 (.bool false) hq rfl rfl hH ?_
   simp only [pb,pc]
   refine aR1 19 rfl (fun K hK=>?_)
   obtain ⟨f0,hTV,hW9,hlt9⟩:=hS0
   refine wp_storeT1 (w.heap.size+1) f0 ⟨kk,mm,rr,ss,aa,nn,cc⟩ rfl rfl hTV.a4 rfl rfl ?_
   intro v2 hA9 hB9
   have HF:=jH (hTV.st hA9 hB9)
   have HW9:=jH (hW9.grown hB9 (by simp;omega))
   have HL9:=jH hlt9
   clear hTV hA9 hB9 hW9 hlt9
   refine hK.out _ _ ⟨_,HF.out,HW9.out,HL9.out⟩ (fun hH=>?_)
   clear hK K
   try simp only [Act.put,List.setIfInBounds_toArray,pb,pc]
   refine tz 20 5 (.bool false) hq rfl rfl hH ?_
   simp only [pb,pc]
   refine wpAnyH_done (by kernel_rfl) ?_ _
   go_wp2_with fail
   exact bodyPost_ret (results_c2 (g:=⟨kk,mm,rr,ss,aa,nn,cc⟩) Tryz.results215 rfl rfl HF.out.a4.ty) rfl ⟨⟨⟨kk,mm,rr,ss,aa,nn,cc⟩,rfl⟩,HF.out.bel⟩
end Go.Proofs.YtmjenlogbkbgnaaGreatDoor
