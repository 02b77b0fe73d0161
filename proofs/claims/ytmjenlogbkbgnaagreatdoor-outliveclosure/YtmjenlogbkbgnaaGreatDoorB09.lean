import Derived.Test.YtmjenlogbkbgnaaGreatDoorB08
import Derived.Deep.MidRow
namespace Go.Proofs.YtmjenlogbkbgnaaGreatDoor
open Go.RowKit Go.Shelf
set_option linter.unusedVariables false
set_option linter.unusedSimpArgs false
set_option maxRecDepth 100000
set_option maxHeartbeats 8000000
def PtC (w:World) (b:Nat) (op:Nat) (tl:Int) (ta:Option Addr) (tn tc ak:Nat) (an al:Int) (aa:Option Addr) (am ac bk:Nat) (bn bl:Int) (ba:Option Addr) (bm bc:Nat) (ra:Option Addr) (rn rc:Nat) (sg:ByteArray) (fl:Int) (fa:Option Addr) (fm fc:Nat) (mu:Bool) (fn st nx el ps:Int):Prop:=b<w.heap.size∧w.cell? ⟨b,0,none⟩=some (.int .u8 (op:Int))∧w.cell? ⟨b,1,none⟩=some (.int .i64 tl)∧w.cell? ⟨b,2,none⟩=some (.slice ta tn tc)∧w.cell? ⟨b,3,none⟩=some (.int .u8 (ak:Int))∧w.cell? ⟨b,4,none⟩=some (.int .i64 an)∧w.cell? ⟨b,5,none⟩=some (.int .i64 al)∧w.cell? ⟨b,6,none⟩=some (.slice aa am ac)∧w.cell? ⟨b,7,none⟩=some (.int .u8 (bk:Int))∧w.cell? ⟨b,8,none⟩=some (.int .i64 bn)∧w.cell? ⟨b,9,none⟩=some (.int .i64 bl)∧w.cell? ⟨b,10,none⟩=some (.slice ba bm bc)∧w.cell? ⟨b,11,none⟩=some (.slice ra rn rc)∧w.cell? ⟨b,12,none⟩=some (.string sg)∧w.cell? ⟨b,13,none⟩=some (.int .i64 fl)∧w.cell? ⟨b,14,none⟩=some (.slice fa fm fc)∧w.cell? ⟨b,15,none⟩=some (.bool mu)∧w.cell? ⟨b,16,none⟩=some (.int .i64 fn)∧w.cell? ⟨b,17,none⟩=some (.int .i64 st)∧w.cell? ⟨b,18,none⟩=some (.int .i64 nx)∧w.cell? ⟨b,19,none⟩=some (.int .i64 el)∧w.cell? ⟨b,20,none⟩=some (.int .i64 ps)
theorem PtC.bel {w w':World} {b:Nat} {op:Nat} {tl:Int} {ta:Option Addr} {tn tc ak:Nat} {an al:Int} {aa:Option Addr} {am ac bk:Nat} {bn bl:Int} {ba:Option Addr} {bm bc:Nat} {ra:Option Addr} {rn rc:Nat} {sg:ByteArray} {fl:Int} {fa:Option Addr} {fm fc:Nat} {mu:Bool} {fn st nx el ps:Int} (h:PtC w b op tl ta tn tc ak an al aa am ac bk bn bl ba bm bc ra rn rc sg fl fa fm fc mu fn st nx el ps) (hb:Below w.heap.size w w'):PtC w' b op tl ta tn tc ak an al aa am ac bk bn bl ba bm bc ra rn rc sg fl fa fm fc mu fn st nx el ps:=by
 obtain ⟨hl,c0,c1,c2,c3,c4,c5,c6,c7,c8,c9,c10,c11,c12,c13,c14,c15,c16,c17,c18,c19,c20⟩:=h
 have hc:∀ o,w'.cell? ⟨b,o,none⟩=w.cell? ⟨b,o,none⟩:=fun o=>by
  unfold World.cell?
  simp only [hb.block b hl]
 exact ⟨Nat.lt_of_lt_of_le hl hb.size,(hc _).trans c0,(hc _).trans c1,(hc _).trans c2,(hc _).trans c3,(hc _).trans c4,(hc _).trans c5,(hc _).trans c6,(hc _).trans c7,(hc _).trans c8,(hc _).trans c9,(hc _).trans c10,(hc _).trans c11,(hc _).trans c12,(hc _).trans c13,(hc _).trans c14,(hc _).trans c15,(hc _).trans c16,(hc _).trans c17,(hc _).trans c18,(hc _).trans c19,(hc _).trans c20⟩
def restV (op:Nat) (z:Nat→Bool):Bool:=(List.range 10).all fun i=>(fldO op).testBit i || z i
theorem restV_iff (op:Nat) (z:Nat→Bool):restV op z=true↔∀ i,i<10→(fldO op).testBit i=true∨z i=true:=by
 unfold restV
 simp only [List.all_eq_true,List.mem_range,Bool.or_eq_true]
theorem rest_key (op:Nat) (z:Nat→Bool):(bits BinOp.andNot IntKind.u16 (filN z 10:Int) (fldO op:Int) == 0)=restV op z:=by
 rw [Bool.eq_iff_iff,beq_iff_eq,andNot_u16,restV_iff]
 constructor
 ·intro h i hi
  cases hz:z i with
  | true=>exact .inr rfl
  | false=>exact .inl (h i (by omega) (by rw [filN_bit,hz];simp [hi]))
 ·intro h i hi hf
  rw [filN_bit] at hf
  simp at hf
  rcases h i hf.1 with h1|h1
  ·exact h1
  ·rw [hf.2] at h1;cases h1
theorem exec_load_mid {a:Act} {op:Oper} {w:World} (ty:TypeId) (x:Operand) (ho:op.op=.load ty x) (b o:Nat) (hx:a.eval x=.pointer (some ⟨b,o,none⟩)) (cs:List Value) (d:TypeDesc) (hc:w.rangeAt b o cs)
  (hu:Tryz.prog.underlying ty=some d) (hd:d.isRow=true) (hi:(Tryz.prog.info? ty).map (·.size)=some cs.length):(execOp a.eval op).run Tryz.prog w=.ok (.value (.agg cs.toArray)) w:=by
 unfold execOp
 simp only [ho,hx,Instr.loadAt,Instr.sureAddr,Sem.run_bind,Sem.run_pure,Result.andThen_ok,run_loadVar_mid w b o ty cs d hc hu hd hi]
theorem PtC.rng {w:World} {b:Nat} {op:Nat} {tl:Int} {ta:Option Addr} {tn tc ak:Nat} {an al:Int} {aa:Option Addr} {am ac bk:Nat} {bn bl:Int} {ba:Option Addr} {bm bc:Nat} {ra:Option Addr} {rn rc:Nat} {sg:ByteArray} {fl:Int} {fa:Option Addr} {fm fc:Nat} {mu:Bool} {fn st nx el ps:Int} (h:PtC w b op tl ta tn tc ak an al aa am ac bk bn bl ba bm bc ra rn rc sg fl fa fm fc mu fn st nx el ps):w.rangeAt b 0 [.int .u8 (op:Int),.int .i64 tl,.slice ta tn tc,.int .u8 (ak:Int),.int .i64 an,.int .i64 al,.slice aa am ac,.int .u8 (bk:Int),.int .i64 bn,.int .i64 bl,.slice ba bm bc,.slice ra rn rc,.string sg,.int .i64 fl,.slice fa fm fc,.bool mu,.int .i64 fn,.int .i64 st,.int .i64 nx,.int .i64 el,.int .i64 ps]:=by
 obtain ⟨hl,c0,c1,c2,c3,c4,c5,c6,c7,c8,c9,c10,c11,c12,c13,c14,c15,c16,c17,c18,c19,c20⟩:=h
 intro j v hj
 rw [Nat.zero_add]
 match j,hj with
 | 0,hj=>simp at hj;subst hj;exact c0
 | 1,hj=>simp at hj;subst hj;exact c1
 | 2,hj=>simp at hj;subst hj;exact c2
 | 3,hj=>simp at hj;subst hj;exact c3
 | 4,hj=>simp at hj;subst hj;exact c4
 | 5,hj=>simp at hj;subst hj;exact c5
 | 6,hj=>simp at hj;subst hj;exact c6
 | 7,hj=>simp at hj;subst hj;exact c7
 | 8,hj=>simp at hj;subst hj;exact c8
 | 9,hj=>simp at hj;subst hj;exact c9
 | 10,hj=>simp at hj;subst hj;exact c10
 | 11,hj=>simp at hj;subst hj;exact c11
 | 12,hj=>simp at hj;subst hj;exact c12
 | 13,hj=>simp at hj;subst hj;exact c13
 | 14,hj=>simp at hj;subst hj;exact c14
 | 15,hj=>simp at hj;subst hj;exact c15
 | 16,hj=>simp at hj;subst hj;exact c16
 | 17,hj=>simp at hj;subst hj;exact c17
 | 18,hj=>simp at hj;subst hj;exact c18
 | 19,hj=>simp at hj;subst hj;exact c19
 | 20,hj=>simp at hj;subst hj;exact c20
 | n+21,hj=>simp at hj
theorem size64:(Tryz.prog.info? 118).map (·.size)=some 21:=by kernel_rfl
theorem fieldsMay_any (op:Nat) (tl:Int) (ta:Option Addr) (tn tc ak:Nat) (an al:Int) (aa:Option Addr) (am ac bk:Nat) (bn bl:Int) (ba:Option Addr) (bm bc:Nat) (ra:Option Addr) (rn rc:Nat) (sg:ByteArray) (fl:Int) (fa:Option Addr) (fm fc:Nat) (mu:Bool) (fn st nx el ps:Int) (w:World) (b:Nat) (h:PtC w b op tl ta tn tc ak an al aa am ac bk bn bl ba bm bc ra rn rc sg fl fa fm fc mu fn st nx el ps) (z:Nat→Bool) (hz:z=zrs op tl ta tn tc ak an al aa am ac bk bn bl ba bm bc ra rn rc sg fl fa fm fc mu fn st nx el ps) (r:Bool) (hr:r=(restV op z && decide (0≤ps))):Calls Tryz.prog 174 #[.pointer (some ⟨b,0,none⟩)] w fun e w'=>e=.returned (.bool r)∧Below w.heap.size w w':=by
 have HP:=jH h
 have key:=rest_key op z
 obtain ⟨F,hF⟩:∃ F,F=filN z 10:=⟨_,rfl⟩
 obtain ⟨f,hf⟩:∃ f,f=fldO op:=⟨_,rfl⟩
 have C147:Hid (∀ W,Calls Tryz.prog 189 #[pV op tl ta tn tc ak an al aa am ac bk bn bl ba bm bc ra rn rc sg fl fa fm fc mu fn st nx el ps] W fun e w'=>e=.returned (.int .u16 (F:Int))∧Below W.heap.size W w'):=fun W=>by rw [hF];exact filled_any op tl ta tn tc ak an al aa am ac bk bn bl ba bm bc ra rn rc sg fl fa fm fc mu fn st nx el ps W z hz
 have C126:Hid (∀ W,Calls Tryz.prog 190 #[.int .u8 (op:Int)] W fun e w'=>e=.returned (.int .u16 (f:Int))∧Below W.heap.size W w'):=fun W=>by rw [hf];exact (fields_any op W).mono fun e w' k=>⟨k.1,by rw [k.2];exact Below.refl _ _⟩
 rw [← hF,← hf] at key
 obtain ⟨rv,hrv⟩:∃ rv,rv=restV op z:=⟨_,rfl⟩
 obtain ⟨qs,hqs⟩:∃ qs,qs=decide (0≤ps):=⟨_,rfl⟩
 rw [← hrv] at key hr
 rw [← hqs] at hr
 have hps:(decide (0≤ps))=qs:=hqs.symm
 clear h hz hF hf hrv hqs
 cases rv with
 | true =>
  have hr':r=qs:=hr
  subst hr'
  clear hr
  go_enter Tryz.func174,Tryz.ntmps174
  go_upto_region 1 with fail
  refine beginH (S:=fun V=>Below w.heap.size w V) (fun _ _ _ _ _ h=>h) (by kernel_rfl) (belN bR 1) (fun hq hH=>?_)
  refine tz 0 3 (.pointer (some ⟨b,0,none⟩)) hq rfl rfl hH ?_
  simp only [pb,pc]
  refine tz 1 4 (.pointer (some ⟨b,0,none⟩)) hq rfl rfl hH ?_
  simp only [pb,pc]
  refine tz 2 5 (.pointer (some ⟨b,0,none⟩)) hq rfl rfl hH ?_
  simp only [pb,pc]
  refine tq 3 6 (.agg #[.int .u8 (op:Int),.int .i64 tl,.slice ta tn tc,.int .u8 (ak:Int),.int .i64 an,.int .i64 al,.slice aa am ac,.int .u8 (bk:Int),.int .i64 bn,.int .i64 bl,.slice ba bm bc,.slice ra rn rc,.string sg,.int .i64 fl,.slice fa fm fc,.bool mu,.int .i64 fn,.int .i64 st,.int .i64 nx,.int .i64 el,.int .i64 ps]) hq rfl rfl (fun W hSw=>by (exact exec_load_mid 118 (.tmp 5) rfl b 0 (by go_simp) [.int .u8 (op:Int),.int .i64 tl,.slice ta tn tc,.int .u8 (ak:Int),.int .i64 an,.int .i64 al,.slice aa am ac,.int .u8 (bk:Int),.int .i64 bn,.int .i64 bl,.slice ba bm bc,.slice ra rn rc,.string sg,.int .i64 fl,.slice fa fm fc,.bool mu,.int .i64 fn,.int .i64 st,.int .i64 nx,.int .i64 el,.int .i64 ps] _ (HP.out.bel hSw).rng Tryz.underlying118 rfl size64)) hH ?_
  simp only [pb,pc]
  refine tz 5 8 (.pointer (some ⟨b,0,none⟩)) hq rfl rfl hH ?_
  simp only [pb,pc]
  refine tz 6 9 (.pointer (some ⟨b,0,none⟩)) hq rfl rfl hH ?_
  simp only [pb,pc]
  refine tz 7 10 (.pointer (some ⟨b,0,none⟩)) hq rfl rfl hH ?_
  simp only [pb,pc]
  refine tz 8 11 (.pointer (some ⟨b,0,none⟩)) hq rfl rfl hH ?_
  simp only [pb,pc]
  refine tq 9 12 (.int .u8 (op:Int)) hq rfl rfl (fun W hSw=>by (obtain ⟨-,c0,c1,c2,c3,c4,c5,c6,c7,c8,c9,c10,c11,c12,c13,c14,c15,c16,c17,c18,c19,c20⟩:=HP.out.bel hSw;go_simp;try first|rfl|simp [key,hps])) hH ?_
  simp only [pb,pc]
  refine aR1 4 rfl (fun K hK=>?_)
  go_simp
  refine (C147.out _).mono ?_
  rintro e v1 ⟨rfl,hb1⟩
  have hS1:Below w.heap.size w v1:=jB (belN bR 1) hb1
  go_wp2_with fail
  refine hK.out _ _ hS1 (fun hH=>?_)
  clear hK K
  try simp only [Act.put,List.setIfInBounds_toArray,pb,pc]
  have HS1:=jH hS1
  clear hb1 hS1
  refine aR1 10 rfl (fun K hK=>?_)
  go_simp
  refine (C126.out _).mono ?_
  rintro e v2 ⟨rfl,hb2⟩
  have hS2:Below w.heap.size w v2:=jB HS1.out hb2
  go_wp2_with fail
  refine hK.out _ _ hS2 (fun hH=>?_)
  clear hK K
  try simp only [Act.put,List.setIfInBounds_toArray,pb,pc]
  have HS2:=jH hS2
  clear hb2 hS2
  refine tq 11 14 (.int .u16 (bits BinOp.andNot IntKind.u16 (F:Int) (f:Int))) hq rfl rfl (fun W hSw=>by (obtain ⟨-,c0,c1,c2,c3,c4,c5,c6,c7,c8,c9,c10,c11,c12,c13,c14,c15,c16,c17,c18,c19,c20⟩:=HP.out.bel hSw;go_simp;try first|rfl|simp [key,hps])) hH ?_
  simp only [pb,pc]
  refine tq 12 15 (.bool true) hq rfl rfl (fun W hSw=>by (obtain ⟨-,c0,c1,c2,c3,c4,c5,c6,c7,c8,c9,c10,c11,c12,c13,c14,c15,c16,c17,c18,c19,c20⟩:=HP.out.bel hSw;go_simp;try first|rfl|simp [key,hps])) hH ?_
  simp only [pb,pc]
  refine tz 13 16 (.bool true) hq rfl rfl hH ?_
  simp only [pb,pc]
  refine tz 14 17 (.pointer (some ⟨b,0,none⟩)) hq rfl rfl hH ?_
  simp only [pb,pc]
  refine tz 15 18 (.pointer (some ⟨b,0,none⟩)) hq rfl rfl hH ?_
  simp only [pb,pc]
  refine tz 16 19 (.pointer (some ⟨b,0,none⟩)) hq rfl rfl hH ?_
  simp only [pb,pc]
  refine tz 17 20 (.pointer (some ⟨b,20,none⟩)) hq rfl rfl hH ?_
  simp only [pb,pc]
  refine tq 18 21 (.int .i64 ps) hq rfl rfl (fun W hSw=>by (obtain ⟨-,c0,c1,c2,c3,c4,c5,c6,c7,c8,c9,c10,c11,c12,c13,c14,c15,c16,c17,c18,c19,c20⟩:=HP.out.bel hSw;go_simp;try first|rfl|simp [key,hps])) hH ?_
  simp only [pb,pc]
  refine tq 19 22 (.bool r) hq rfl rfl (fun W hSw=>by (obtain ⟨-,c0,c1,c2,c3,c4,c5,c6,c7,c8,c9,c10,c11,c12,c13,c14,c15,c16,c17,c18,c19,c20⟩:=HP.out.bel hSw;go_simp;try first|rfl|simp [key,hps])) hH ?_
  simp only [pb,pc]
  refine tz 20 23 (.bool r) hq rfl rfl hH ?_
  simp only [pb,pc]
  refine tz 21 2 (.bool r) hq rfl rfl hH ?_
  simp only [pb,pc]
  refine wpAnyH_done (by kernel_rfl) ?_ _
  go_wp2_with fail
  go_ret
  exact ⟨rfl,HS2.out⟩
 | false =>
  have hr':r=false:=hr
  subst hr'
  clear hr
  go_enter Tryz.func174,Tryz.ntmps174
  go_upto_region 1 with fail
  refine beginH (S:=fun V=>Below w.heap.size w V) (fun _ _ _ _ _ h=>h) (by kernel_rfl) (belN bR 1) (fun hq hH=>?_)
  refine tz 0 3 (.pointer (some ⟨b,0,none⟩)) hq rfl rfl hH ?_
  simp only [pb,pc]
  refine tz 1 4 (.pointer (some ⟨b,0,none⟩)) hq rfl rfl hH ?_
  simp only [pb,pc]
  refine tz 2 5 (.pointer (some ⟨b,0,none⟩)) hq rfl rfl hH ?_
  simp only [pb,pc]
  refine tq 3 6 (.agg #[.int .u8 (op:Int),.int .i64 tl,.slice ta tn tc,.int .u8 (ak:Int),.int .i64 an,.int .i64 al,.slice aa am ac,.int .u8 (bk:Int),.int .i64 bn,.int .i64 bl,.slice ba bm bc,.slice ra rn rc,.string sg,.int .i64 fl,.slice fa fm fc,.bool mu,.int .i64 fn,.int .i64 st,.int .i64 nx,.int .i64 el,.int .i64 ps]) hq rfl rfl (fun W hSw=>by (exact exec_load_mid 118 (.tmp 5) rfl b 0 (by go_simp) [.int .u8 (op:Int),.int .i64 tl,.slice ta tn tc,.int .u8 (ak:Int),.int .i64 an,.int .i64 al,.slice aa am ac,.int .u8 (bk:Int),.int .i64 bn,.int .i64 bl,.slice ba bm bc,.slice ra rn rc,.string sg,.int .i64 fl,.slice fa fm fc,.bool mu,.int .i64 fn,.int .i64 st,.int .i64 nx,.int .i64 el,.int .i64 ps] _ (HP.out.bel hSw).rng Tryz.underlying118 rfl size64)) hH ?_
  simp only [pb,pc]
  refine tz 5 8 (.pointer (some ⟨b,0,none⟩)) hq rfl rfl hH ?_
  simp only [pb,pc]
  refine tz 6 9 (.pointer (some ⟨b,0,none⟩)) hq rfl rfl hH ?_
  simp only [pb,pc]
  refine tz 7 10 (.pointer (some ⟨b,0,none⟩)) hq rfl rfl hH ?_
  simp only [pb,pc]
  refine tz 8 11 (.pointer (some ⟨b,0,none⟩)) hq rfl rfl hH ?_
  simp only [pb,pc]
  refine tq 9 12 (.int .u8 (op:Int)) hq rfl rfl (fun W hSw=>by (obtain ⟨-,c0,c1,c2,c3,c4,c5,c6,c7,c8,c9,c10,c11,c12,c13,c14,c15,c16,c17,c18,c19,c20⟩:=HP.out.bel hSw;go_simp;try first|rfl|simp [key,hps])) hH ?_
  simp only [pb,pc]
  refine aR1 4 rfl (fun K hK=>?_)
  go_simp
  refine (C147.out _).mono ?_
  rintro e v1 ⟨rfl,hb1⟩
  have hS1:Below w.heap.size w v1:=jB (belN bR 1) hb1
  go_wp2_with fail
  refine hK.out _ _ hS1 (fun hH=>?_)
  clear hK K
  try simp only [Act.put,List.setIfInBounds_toArray,pb,pc]
  have HS1:=jH hS1
  clear hb1 hS1
  refine aR1 10 rfl (fun K hK=>?_)
  go_simp
  refine (C126.out _).mono ?_
  rintro e v2 ⟨rfl,hb2⟩
  have hS2:Below w.heap.size w v2:=jB HS1.out hb2
  go_wp2_with fail
  refine hK.out _ _ hS2 (fun hH=>?_)
  clear hK K
  try simp only [Act.put,List.setIfInBounds_toArray,pb,pc]
  have HS2:=jH hS2
  clear hb2 hS2
  refine tq 11 14 (.int .u16 (bits BinOp.andNot IntKind.u16 (F:Int) (f:Int))) hq rfl rfl (fun W hSw=>by (obtain ⟨-,c0,c1,c2,c3,c4,c5,c6,c7,c8,c9,c10,c11,c12,c13,c14,c15,c16,c17,c18,c19,c20⟩:=HP.out.bel hSw;go_simp;try first|rfl|simp [key,hps])) hH ?_
  simp only [pb,pc]
  refine tq 12 15 (.bool false) hq rfl rfl (fun W hSw=>by (obtain ⟨-,c0,c1,c2,c3,c4,c5,c6,c7,c8,c9,c10,c11,c12,c13,c14,c15,c16,c17,c18,c19,c20⟩:=HP.out.bel hSw;go_simp;try first|rfl|simp [key,hps])) hH ?_
  simp only [pb,pc]
  refine tz 13 16 (.bool false) hq rfl rfl hH ?_
  simp only [pb,pc]
  refine sq 14 17 hq rfl rfl hH ?_
  simp only [pb,pc]
  refine sq 15 18 hq rfl rfl hH ?_
  simp only [pb,pc]
  refine sq 16 19 hq rfl rfl hH ?_
  simp only [pb,pc]
  refine sq 17 20 hq rfl rfl hH ?_
  simp only [pb,pc]
  refine sq 18 21 hq rfl rfl hH ?_
  simp only [pb,pc]
  refine sq 19 22 hq rfl rfl hH ?_
  simp only [pb,pc]
  refine tz 20 23 (.bool false) hq rfl rfl hH ?_
  simp only [pb,pc]
  refine tz 21 2 (.bool false) hq rfl rfl hH ?_
  simp only [pb,pc]
  refine wpAnyH_done (by kernel_rfl) ?_ _
  go_wp2_with fail
  go_ret
  exact ⟨rfl,HS2.out⟩
theorem isPoint_any (w:World) (b:Nat) (qa:Option Addr) (np qcap:Nat) (h:w.cell? ⟨b,30,none⟩=some (.slice qa np qcap)) (q:Int) (r:Bool) (hr:r=(decide (0≤q) && decide (q<(np:Int)))):Calls Tryz.prog 191 #[.pointer (some ⟨b,0,none⟩),.int .i64 q] w fun e w'=>e=.returned (.bool r)∧w'=w:=by
 by_cases h1:0≤q
 ·by_cases h2:q<(np:Int)
  ·have e1:r=true:=by rw [hr,decide_eq_true h1,decide_eq_true h2];rfl
   subst e1
   clear hr
   go_enter Tryz.func191,Tryz.ntmps191
   go_wp2_with fail
   go_ret
   exact ⟨rfl,rfl⟩
  ·have e1:r=false:=by rw [hr,decide_eq_false h2,Bool.and_false]
   subst e1
   clear hr
   go_enter Tryz.func191,Tryz.ntmps191
   go_wp2_with fail
   go_ret
   exact ⟨rfl,rfl⟩
 ·have e1:r=false:=by rw [hr,decide_eq_false h1];rfl
  subst e1
  clear hr
  go_enter Tryz.func191,Tryz.ntmps191
  go_wp2_with fail
  go_ret
  exact ⟨rfl,rfl⟩
theorem goesOn_any (w:World) (b op:Nat) (nx el:Int) (qa:Option Addr) (np qcap:Nat) (h30:w.cell? ⟨b,30,none⟩=some (.slice qa np qcap)) (h0:w.cell? ⟨b,0,none⟩=some (.int .u8 (op:Int))) (h18:w.cell? ⟨b,18,none⟩=some (.int .i64 nx)) (h19:w.cell? ⟨b,19,none⟩=some (.int .i64 el))
  (r:Bool) (hr:r=(decide (0≤nx) && decide (nx<(np:Int)) && (decide (0≤el) && decide (el<(np:Int))) && (!decide (op=14) || decide (nx=0)))):Calls Tryz.prog 175 #[.pointer (some ⟨b,0,none⟩)] w fun e w'=>e=.returned (.bool r)∧w'=w:=by
 obtain ⟨ip,hip⟩:∃ ip:Int→Bool,∀ q,ip q=(decide (0≤q) && decide (q<(np:Int))):=⟨fun q=>(decide (0≤q) && decide (q<(np:Int))),fun _=>rfl⟩
 rw [← hip,← hip] at hr
 have C:Hid (∀ q,Calls Tryz.prog 191 #[.pointer (some ⟨b,0,none⟩),.int .i64 q] w fun e w'=>e=.returned (.bool (ip q))∧w'=w):=fun q=>isPoint_any w b qa np qcap h30 q _ (hip q)
 clear hip h30
 cases e1:ip nx with
 | false =>
  rw [e1] at hr
  have hr':r=false:=hr
  subst hr'
  clear hr
  go_enter Tryz.func175,Tryz.ntmps175
  go_wp2_with (go_at_call 191;refine (C.out _).mono ?_;rintro e w1 ⟨rfl,hw⟩;subst hw)
  go_ret
  exact ⟨rfl,rfl⟩
 | true =>
  cases e2:ip el with
  | false =>
   rw [e1,e2] at hr
   have hr':r=false:=hr
   subst hr'
   clear hr
   go_enter Tryz.func175,Tryz.ntmps175
   go_wp2_with (go_at_call 191;refine (C.out _).mono ?_;rintro e w1 ⟨rfl,hw⟩;subst hw)
   go_ret
   exact ⟨rfl,rfl⟩
  | true =>
   rw [e1,e2] at hr
   by_cases h14:op=14
   ·subst h14
    obtain ⟨x,hx⟩:∃ x,x=(nx == 0):=⟨_,rfl⟩
    have hr':r=x:=by rw [hr,hx];rfl
    subst hr'
    clear hr
    have hx':=hx.symm
    clear hx
    go_enter Tryz.func175,Tryz.ntmps175
    go_wp2_with (go_at_call 191;refine (C.out _).mono ?_;rintro e w1 ⟨rfl,hw⟩;subst hw)
    go_ret
    exact ⟨rfl,rfl⟩
   ·have hr':r=true:=by rw [hr,decide_eq_false h14];rfl
    have h15:¬ (op:Int)=14:=by omega
    subst hr'
    clear hr
    go_enter Tryz.func175,Tryz.ntmps175
    go_wp2_with (go_at_call 191;refine (C.out _).mono ?_;rintro e w1 ⟨rfl,hw⟩;subst hw)
    go_ret
    exact ⟨rfl,rfl⟩
end Go.Proofs.YtmjenlogbkbgnaaGreatDoor
