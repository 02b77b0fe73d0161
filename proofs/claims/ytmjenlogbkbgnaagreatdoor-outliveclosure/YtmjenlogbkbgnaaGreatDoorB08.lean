import Derived.Test.YtmjenlogbkbgnaaGreatDoorB07
import Derived.Deep.DeepCutAuto
namespace Go.Proofs.YtmjenlogbkbgnaaGreatDoor
open Go.RowKit Go.Shelf
set_option linter.unusedVariables false
set_option linter.unusedSimpArgs false
set_option maxRecDepth 100000
set_option maxHeartbeats 8000000
abbrev pV (op:Nat) (tl:Int) (ta:Option Addr) (tn tc ak:Nat) (an al:Int) (aa:Option Addr) (am ac bk:Nat) (bn bl:Int) (ba:Option Addr) (bm bc:Nat) (ra:Option Addr) (rn rc:Nat) (sg:ByteArray) (fl:Int) (fa:Option Addr) (fm fc:Nat) (mu:Bool) (fn st nx el ps:Int):Value:=.agg #[.int .u8 (op:Int),.int .i64 tl,.slice ta tn tc,.int .u8 (ak:Int),.int .i64 an,.int .i64 al,.slice aa am ac,.int .u8 (bk:Int),.int .i64 bn,.int .i64 bl,.slice ba bm bc,.slice ra rn rc,.string sg,.int .i64 fl,.slice fa fm fc,.bool mu,.int .i64 fn,.int .i64 st,.int .i64 nx,.int .i64 el,.int .i64 ps]
abbrev pO (op:Nat) (tl:Int) (ta:Option Addr) (tn tc ak:Nat) (an al:Int) (aa:Option Addr) (am ac bk:Nat) (bn bl:Int) (ba:Option Addr) (bm bc:Nat) (ra:Option Addr) (rn rc:Nat) (sg:ByteArray) (fl:Int) (fa:Option Addr) (fm fc:Nat) (mu:Bool) (fn st nx el ps:Int):Obj:=.cells #[.int .u8 (op:Int),.int .i64 tl,.slice ta tn tc,.int .u8 (ak:Int),.int .i64 an,.int .i64 al,.slice aa am ac,.int .u8 (bk:Int),.int .i64 bn,.int .i64 bl,.slice ba bm bc,.slice ra rn rc,.string sg,.int .i64 fl,.slice fa fm fc,.bool mu,.int .i64 fn,.int .i64 st,.int .i64 nx,.int .i64 el,.int .i64 ps] 118 (0,0)
theorem At.pt {w:World} {b:Nat} {op:Nat} {tl:Int} {ta:Option Addr} {tn tc ak:Nat} {an al:Int} {aa:Option Addr} {am ac bk:Nat} {bn bl:Int} {ba:Option Addr} {bm bc:Nat} {ra:Option Addr} {rn rc:Nat} {sg:ByteArray} {fl:Int} {fa:Option Addr} {fm fc:Nat} {mu:Bool} {fn st nx el ps:Int} (h:At w b (pO op tl ta tn tc ak an al aa am ac bk bn bl ba bm bc ra rn rc sg fl fa fm fc mu fn st nx el ps)):w.cell? ⟨b,0,none⟩=some (.int .u8 (op:Int))∧w.cell? ⟨b,1,none⟩=some (.int .i64 tl)∧w.cell? ⟨b,2,none⟩=some (.slice ta tn tc)∧w.cell? ⟨b,3,none⟩=some (.int .u8 (ak:Int))∧w.cell? ⟨b,4,none⟩=some (.int .i64 an)∧w.cell? ⟨b,5,none⟩=some (.int .i64 al)∧w.cell? ⟨b,6,none⟩=some (.slice aa am ac)∧w.cell? ⟨b,7,none⟩=some (.int .u8 (bk:Int))∧w.cell? ⟨b,8,none⟩=some (.int .i64 bn)∧w.cell? ⟨b,9,none⟩=some (.int .i64 bl)∧w.cell? ⟨b,10,none⟩=some (.slice ba bm bc)∧w.cell? ⟨b,11,none⟩=some (.slice ra rn rc)∧w.cell? ⟨b,12,none⟩=some (.string sg)∧w.cell? ⟨b,13,none⟩=some (.int .i64 fl)∧w.cell? ⟨b,14,none⟩=some (.slice fa fm fc)∧w.cell? ⟨b,15,none⟩=some (.bool mu)∧w.cell? ⟨b,16,none⟩=some (.int .i64 fn)∧w.cell? ⟨b,17,none⟩=some (.int .i64 st)∧w.cell? ⟨b,18,none⟩=some (.int .i64 nx)∧w.cell? ⟨b,19,none⟩=some (.int .i64 el)∧w.cell? ⟨b,20,none⟩=some (.int .i64 ps):=by
 unfold At at h
 exact ⟨by simp [World.cell?,h],by simp [World.cell?,h],by simp [World.cell?,h],by simp [World.cell?,h],by simp [World.cell?,h],by simp [World.cell?,h],by simp [World.cell?,h],by simp [World.cell?,h],by simp [World.cell?,h],by simp [World.cell?,h],by simp [World.cell?,h],by simp [World.cell?,h],by simp [World.cell?,h],by simp [World.cell?,h],by simp [World.cell?,h],by simp [World.cell?,h],by simp [World.cell?,h],by simp [World.cell?,h],by simp [World.cell?,h],by simp [World.cell?,h],by simp [World.cell?,h]⟩
def filN (z:Nat→Bool):Nat→Nat
 | 0=>0
 | i+1=>if z i then filN z i else filN z i ||| 2 ^ i
theorem filN_bit (z:Nat→Bool) (j:Nat):∀ i,(filN z i).testBit j=(decide (j<i) && !z j)
 | 0=>by simp [filN]
 | i+1=>by
  unfold filN
  split
  ·rename_i h
   rw [filN_bit z j i]
   by_cases hj:j=i
   ·subst hj;simp [h]
   ·have:decide (j<i+1)=decide (j<i):=by simp;omega
    rw [this]
  ·rename_i h
   rw [Nat.testBit_or,filN_bit z j i,Nat.testBit_two_pow]
   by_cases hj:j=i
   ·subst hj;simp at h;simp [h]
   ·have h1:decide (j<i+1)=decide (j<i):=by simp;omega
    have h2:decide (i=j)=false:=by simp;omega
    rw [h1,h2,Bool.or_false]
theorem filN_lt (z:Nat→Bool):∀ i,filN z i<2 ^ i
 | 0=>by simp [filN]
 | i+1=>by
  have h:=filN_lt z i
  unfold filN
  split
  ·rw [Nat.pow_succ];omega
  ·exact Nat.or_lt_two_pow (by rw [Nat.pow_succ];omega) (Nat.pow_lt_pow_right (by omega) (by omega))
theorem wrap_u16 (n:Nat) (h:n<65536):IntKind.u16.wrap (n:Int)=n:=by
 have h1:((n:Int) % 65536)=n:=by omega
 simp [IntKind.wrap,IntKind.bits,IntKind.signed]
 omega
theorem or_u16 (x y:Nat) (hx:x<65536) (hy:y<65536):bits BinOp.or IntKind.u16 (x:Int) (y:Int)=((x ||| y:Nat):Int):=by
 have hb:x ||| y<65536:=Nat.or_lt_two_pow (n:=16) hx hy
 have e1:(BitVec.ofInt 16 (x:Int) ||| BitVec.ofInt 16 (y:Int)).toNat=x ||| y:=by
  rw [BitVec.ofInt_natCast,BitVec.ofInt_natCast,BitVec.toNat_or,BitVec.toNat_ofNat,BitVec.toNat_ofNat,Nat.mod_eq_of_lt hx,Nat.mod_eq_of_lt hy]
 show IntKind.u16.wrap ((BitVec.ofInt 16 (x:Int) ||| BitVec.ofInt 16 (y:Int)).toNat:Int)=_
 rw [e1]
 exact wrap_u16 _ hb
theorem andNot_u16 (x y:Nat):(bits BinOp.andNot IntKind.u16 (x:Int) (y:Int)=0)↔∀ i,i<16→x.testBit i=true→y.testBit i=true:=by
 have h0:bits BinOp.andNot IntKind.u16 (x:Int) (y:Int)=(((BitVec.ofInt 16 (x:Int) &&& ~~~ BitVec.ofInt 16 (y:Int)).toNat:Nat):Int):=wrap_u16 _ (BitVec.isLt _)
 rw [h0]
 have h1:(((BitVec.ofInt 16 (x:Int) &&& ~~~ BitVec.ofInt 16 (y:Int)).toNat:Nat):Int)=0↔BitVec.ofInt 16 (x:Int) &&& ~~~ BitVec.ofInt 16 (y:Int)=0#16:=by
  rw [← BitVec.toNat_inj]
  simp only [BitVec.toNat_ofNat]
  omega
 rw [h1,BitVec.ofInt_natCast,BitVec.ofInt_natCast]
 constructor
 ·intro h i hi hx
  have h2:=congrArg (fun b=>b.getLsbD i) h
  simp only [BitVec.getLsbD_and,BitVec.getLsbD_not,BitVec.getLsbD_ofNat,BitVec.getLsbD_zero,hi,decide_true,Bool.true_and,hx] at h2
  simpa using h2
 ·intro h
  apply BitVec.eq_of_getLsbD_eq
  intro i hi
  simp only [BitVec.getLsbD_and,BitVec.getLsbD_not,BitVec.getLsbD_ofNat,BitVec.getLsbD_zero,hi,decide_true,Bool.true_and]
  have h3:=h i hi
  cases h4:x.testBit i with
  | false=>simp
  | true=>rw [h3 h4];simp
theorem toList_nil (s:ByteArray):(s.toList == [])=decide (s.size=0):=by
 have h:s.toList.length=s.size:=by rw [ByteArray.toList_eq];simp
 rw [← h]
 cases s.toList with
 | nil=>rfl
 | cons a l=>rfl
def zrs (op:Nat) (tl:Int) (ta:Option Addr) (tn tc ak:Nat) (an al:Int) (aa:Option Addr) (am ac bk:Nat) (bn bl:Int) (ba:Option Addr) (bm bc:Nat) (ra:Option Addr) (rn rc:Nat) (sg:ByteArray) (fl:Int) (fa:Option Addr) (fm fc:Nat) (mu:Bool) (fn st nx el ps:Int):Nat→Bool
 | 0=>(decide (tl=0) && decide (tn=0))
 | 1=>(decide (ak=0) && decide (an=0) && (decide (al=0) && decide (am=0)))
 | 2=>(decide (bk=0) && decide (bn=0) && (decide (bl=0) && decide (bm=0)))
 | 3=>decide (rn=0)
 | 4=>decide (sg.size=0)
 | 5=>(decide (fl=0) && decide (fm=0))
 | 6=>!mu
 | 7=>decide (fn=0)
 | 8=>decide (st=0)
 | 9=>decide (el=0)
 | _=>true
theorem idx10_0 (z0 z1 z2 z3 z4 z5 z6 z7 z8 z9:Bool) (W:World):(Instr.index 282 (.agg #[.int .u16 1,.bool z0,.int .u16 2,.bool z1,.int .u16 4,.bool z2,.int .u16 8,.bool z3,.int .u16 16,.bool z4,.int .u16 32,.bool z5,.int .u16 64,.bool z6,.int .u16 128,.bool z7,.int .u16 256,.bool z8,.int .u16 512,.bool z9]) (.int .i64 0)).run Tryz.prog W=.ok (.agg #[.int .u16 1,.bool z0]) W:=by kernel_rfl
theorem idx10_1 (z0 z1 z2 z3 z4 z5 z6 z7 z8 z9:Bool) (W:World):(Instr.index 282 (.agg #[.int .u16 1,.bool z0,.int .u16 2,.bool z1,.int .u16 4,.bool z2,.int .u16 8,.bool z3,.int .u16 16,.bool z4,.int .u16 32,.bool z5,.int .u16 64,.bool z6,.int .u16 128,.bool z7,.int .u16 256,.bool z8,.int .u16 512,.bool z9]) (.int .i64 1)).run Tryz.prog W=.ok (.agg #[.int .u16 2,.bool z1]) W:=by kernel_rfl
theorem idx10_2 (z0 z1 z2 z3 z4 z5 z6 z7 z8 z9:Bool) (W:World):(Instr.index 282 (.agg #[.int .u16 1,.bool z0,.int .u16 2,.bool z1,.int .u16 4,.bool z2,.int .u16 8,.bool z3,.int .u16 16,.bool z4,.int .u16 32,.bool z5,.int .u16 64,.bool z6,.int .u16 128,.bool z7,.int .u16 256,.bool z8,.int .u16 512,.bool z9]) (.int .i64 2)).run Tryz.prog W=.ok (.agg #[.int .u16 4,.bool z2]) W:=by kernel_rfl
theorem idx10_3 (z0 z1 z2 z3 z4 z5 z6 z7 z8 z9:Bool) (W:World):(Instr.index 282 (.agg #[.int .u16 1,.bool z0,.int .u16 2,.bool z1,.int .u16 4,.bool z2,.int .u16 8,.bool z3,.int .u16 16,.bool z4,.int .u16 32,.bool z5,.int .u16 64,.bool z6,.int .u16 128,.bool z7,.int .u16 256,.bool z8,.int .u16 512,.bool z9]) (.int .i64 3)).run Tryz.prog W=.ok (.agg #[.int .u16 8,.bool z3]) W:=by kernel_rfl
theorem idx10_4 (z0 z1 z2 z3 z4 z5 z6 z7 z8 z9:Bool) (W:World):(Instr.index 282 (.agg #[.int .u16 1,.bool z0,.int .u16 2,.bool z1,.int .u16 4,.bool z2,.int .u16 8,.bool z3,.int .u16 16,.bool z4,.int .u16 32,.bool z5,.int .u16 64,.bool z6,.int .u16 128,.bool z7,.int .u16 256,.bool z8,.int .u16 512,.bool z9]) (.int .i64 4)).run Tryz.prog W=.ok (.agg #[.int .u16 16,.bool z4]) W:=by kernel_rfl
theorem idx10_5 (z0 z1 z2 z3 z4 z5 z6 z7 z8 z9:Bool) (W:World):(Instr.index 282 (.agg #[.int .u16 1,.bool z0,.int .u16 2,.bool z1,.int .u16 4,.bool z2,.int .u16 8,.bool z3,.int .u16 16,.bool z4,.int .u16 32,.bool z5,.int .u16 64,.bool z6,.int .u16 128,.bool z7,.int .u16 256,.bool z8,.int .u16 512,.bool z9]) (.int .i64 5)).run Tryz.prog W=.ok (.agg #[.int .u16 32,.bool z5]) W:=by kernel_rfl
theorem idx10_6 (z0 z1 z2 z3 z4 z5 z6 z7 z8 z9:Bool) (W:World):(Instr.index 282 (.agg #[.int .u16 1,.bool z0,.int .u16 2,.bool z1,.int .u16 4,.bool z2,.int .u16 8,.bool z3,.int .u16 16,.bool z4,.int .u16 32,.bool z5,.int .u16 64,.bool z6,.int .u16 128,.bool z7,.int .u16 256,.bool z8,.int .u16 512,.bool z9]) (.int .i64 6)).run Tryz.prog W=.ok (.agg #[.int .u16 64,.bool z6]) W:=by kernel_rfl
theorem idx10_7 (z0 z1 z2 z3 z4 z5 z6 z7 z8 z9:Bool) (W:World):(Instr.index 282 (.agg #[.int .u16 1,.bool z0,.int .u16 2,.bool z1,.int .u16 4,.bool z2,.int .u16 8,.bool z3,.int .u16 16,.bool z4,.int .u16 32,.bool z5,.int .u16 64,.bool z6,.int .u16 128,.bool z7,.int .u16 256,.bool z8,.int .u16 512,.bool z9]) (.int .i64 7)).run Tryz.prog W=.ok (.agg #[.int .u16 128,.bool z7]) W:=by kernel_rfl
theorem idx10_8 (z0 z1 z2 z3 z4 z5 z6 z7 z8 z9:Bool) (W:World):(Instr.index 282 (.agg #[.int .u16 1,.bool z0,.int .u16 2,.bool z1,.int .u16 4,.bool z2,.int .u16 8,.bool z3,.int .u16 16,.bool z4,.int .u16 32,.bool z5,.int .u16 64,.bool z6,.int .u16 128,.bool z7,.int .u16 256,.bool z8,.int .u16 512,.bool z9]) (.int .i64 8)).run Tryz.prog W=.ok (.agg #[.int .u16 256,.bool z8]) W:=by kernel_rfl
theorem idx10_9 (z0 z1 z2 z3 z4 z5 z6 z7 z8 z9:Bool) (W:World):(Instr.index 282 (.agg #[.int .u16 1,.bool z0,.int .u16 2,.bool z1,.int .u16 4,.bool z2,.int .u16 8,.bool z3,.int .u16 16,.bool z4,.int .u16 32,.bool z5,.int .u16 64,.bool z6,.int .u16 128,.bool z7,.int .u16 256,.bool z8,.int .u16 512,.bool z9]) (.int .i64 9)).run Tryz.prog W=.ok (.agg #[.int .u16 512,.bool z9]) W:=by kernel_rfl
theorem filled_any (op:Nat) (tl:Int) (ta:Option Addr) (tn tc ak:Nat) (an al:Int) (aa:Option Addr) (am ac bk:Nat) (bn bl:Int) (ba:Option Addr) (bm bc:Nat) (ra:Option Addr) (rn rc:Nat) (sg:ByteArray) (fl:Int) (fa:Option Addr) (fm fc:Nat) (mu:Bool) (fn st nx el ps:Int) (w:World) (z:Nat→Bool) (hz:z=zrs op tl ta tn tc ak an al aa am ac bk bn bl ba bm bc ra rn rc sg fl fa fm fc mu fn st nx el ps):Calls Tryz.prog 189 #[pV op tl ta tn tc ak an al aa am ac bk bn bl ba bm bc ra rn rc sg fl fa fm fc mu fn st nx el ps] w fun e w'=>e=.returned (.int .u16 (filN z 10:Int))∧Below w.heap.size w w':=by
 obtain ⟨z0,hz0⟩:∃ x,x=z 0:=⟨_,rfl⟩
 obtain ⟨z1,hz1⟩:∃ x,x=z 1:=⟨_,rfl⟩
 obtain ⟨z2,hz2⟩:∃ x,x=z 2:=⟨_,rfl⟩
 obtain ⟨z3,hz3⟩:∃ x,x=z 3:=⟨_,rfl⟩
 obtain ⟨z4,hz4⟩:∃ x,x=z 4:=⟨_,rfl⟩
 obtain ⟨z5,hz5⟩:∃ x,x=z 5:=⟨_,rfl⟩
 obtain ⟨z6,hz6⟩:∃ x,x=z 6:=⟨_,rfl⟩
 obtain ⟨z7,hz7⟩:∃ x,x=z 7:=⟨_,rfl⟩
 obtain ⟨z8,hz8⟩:∃ x,x=z 8:=⟨_,rfl⟩
 obtain ⟨z9,hz9⟩:∃ x,x=z 9:=⟨_,rfl⟩
 have e0:z0=(decide (tl=0) && decide (tn=0)):=by rw [hz0,hz];rfl
 have e1:z1=(decide (ak=0) && decide (an=0) && (decide (al=0) && decide (am=0))):=by rw [hz1,hz];rfl
 have e2:z2=(decide (bk=0) && decide (bn=0) && (decide (bl=0) && decide (bm=0))):=by rw [hz2,hz];rfl
 have e3:z3=decide (rn=0):=by rw [hz3,hz];rfl
 have e4:z4=decide (sg.size=0):=by rw [hz4,hz];rfl
 have e5:z5=(decide (fl=0) && decide (fm=0)):=by rw [hz5,hz];rfl
 have e6:z6=!mu:=by rw [hz6,hz];rfl
 have e7:z7=decide (fn=0):=by rw [hz7,hz];rfl
 have e8:z8=decide (st=0):=by rw [hz8,hz];rfl
 have e9:z9=decide (el=0):=by rw [hz9,hz];rfl
 have HZ:Hid (z0=z 0∧z1=z 1∧z2=z 2∧z3=z 3∧z4=z 4∧z5=z 5∧z6=z 6∧z7=z 7∧z8=z 8∧z9=z 9):=⟨hz0,hz1,hz2,hz3,hz4,hz5,hz6,hz7,hz8,hz9⟩
 have C0:Hid (∀ W,Calls Tryz.prog 212 #[plV tl ta tn tc] W fun e w'=>e=.returned (.bool z0)∧Below W.heap.size W w'):=fun W=>noPlace_any _ _ _ _ W z0 e0
 have C1:Hid (∀ W,Calls Tryz.prog 213 #[oV ak an al aa am ac] W fun e w'=>e=.returned (.bool z1)∧Below W.heap.size W w'):=fun W=>noOpd_any _ _ _ _ _ _ W z1 e1
 have C2:Hid (∀ W,Calls Tryz.prog 213 #[oV bk bn bl ba bm bc] W fun e w'=>e=.returned (.bool z2)∧Below W.heap.size W w'):=fun W=>noOpd_any _ _ _ _ _ _ W z2 e2
 have C5':Hid (∀ W,Calls Tryz.prog 212 #[plV fl fa fm fc] W fun e w'=>e=.returned (.bool z5)∧Below W.heap.size W w'):=fun W=>noPlace_any _ _ _ _ W z5 e5
 have f3:((rn:Int) == 0)=z3:=by rw [e3];simp [Int.ofNat_inj,BEq.beq]
 have f4:(sg.toList == [])=z4:=by rw [toList_nil];exact e4.symm
 have f6:(!mu)=z6:=e6.symm
 have f7:(fn == 0)=z7:=by rw [e7];rfl
 have f8:(st == 0)=z8:=by rw [e8];rfl
 have f9:(el == 0)=z9:=by rw [e9];rfl
 have HB0:Hid (Below w.heap.size w (w.alloc (pO op tl ta tn tc ak an al aa am ac bk bn bl ba bm bc ra rn rc sg fl fa fm fc mu fn st nx el ps))):=belA bR
 have HA:Hid (At (w.alloc (pO op tl ta tn tc ak an al aa am ac bk bn bl ba bm bc ra rn rc sg fl fa fm fc mu fn st nx el ps)) w.heap.size (pO op tl ta tn tc ak an al aa am ac bk bn bl ba bm bc ra rn rc sg fl fa fm fc mu fn st nx el ps)):=At.new _ _
 clear hz0 hz1 hz2 hz3 hz4 hz5 hz6 hz7 hz8 hz9 e0 e1 e2 e3 e5 e6 e7 e8 e9 hz
 go_enter Tryz.func189,Tryz.ntmps189
 go_upto_region 2 with fail
 go_cut [47,48] (fun v u V=>v=.agg #[.int .u16 1,.bool z0,.int .u16 2,.bool z1,.int .u16 4,.bool z2,.int .u16 8,.bool z3,.int .u16 16,.bool z4,.int .u16 32,.bool z5,.int .u16 64,.bool z6,.int .u16 128,.bool z7,.int .u16 256,.bool z8,.int .u16 512,.bool z9]∧u=.int .i64 0∧Below w.heap.size w V)
 case first =>
  refine beginH (S:=fun V=>Below (w.alloc (pO op tl ta tn tc ak an al aa am ac bk bn bl ba bm bc ra rn rc sg fl fa fm fc mu fn st nx el ps)).heap.size (w.alloc (pO op tl ta tn tc ak an al aa am ac bk bn bl ba bm bc ra rn rc sg fl fa fm fc mu fn st nx el ps)) V) (fun _ _ _ _ _ h=>h) (by kernel_rfl) (belN bR 1) (fun hq hH=>?_)
  refine tz 0 6 (.pointer (some ⟨w.heap.size,1,none⟩)) hq rfl rfl hH ?_
  simp only [pb,pc]
  refine tq 1 7 (plV tl ta tn tc) hq rfl rfl (fun W hSw=>by (obtain ⟨c0,c1,c2,c3,c4,c5,c6,c7,c8,c9,c10,c11,c12,c13,c14,c15,c16,c17,c18,c19,c20⟩:=(HA.out.below hSw).pt;go_simp;try rfl)) hH ?_
  simp only [pb,pc]
  refine tz 4 10 (.pointer (some ⟨w.heap.size,3,none⟩)) hq rfl rfl hH ?_
  simp only [pb,pc]
  refine tq 5 11 (oV ak an al aa am ac) hq rfl rfl (fun W hSw=>by (obtain ⟨c0,c1,c2,c3,c4,c5,c6,c7,c8,c9,c10,c11,c12,c13,c14,c15,c16,c17,c18,c19,c20⟩:=(HA.out.below hSw).pt;go_simp;try rfl)) hH ?_
  simp only [pb,pc]
  refine tz 8 14 (.pointer (some ⟨w.heap.size,7,none⟩)) hq rfl rfl hH ?_
  simp only [pb,pc]
  refine tq 9 15 (oV bk bn bl ba bm bc) hq rfl rfl (fun W hSw=>by (obtain ⟨c0,c1,c2,c3,c4,c5,c6,c7,c8,c9,c10,c11,c12,c13,c14,c15,c16,c17,c18,c19,c20⟩:=(HA.out.below hSw).pt;go_simp;try rfl)) hH ?_
  simp only [pb,pc]
  refine tz 12 18 (.pointer (some ⟨w.heap.size,11,none⟩)) hq rfl rfl hH ?_
  simp only [pb,pc]
  refine tq 13 19 (.slice ra rn rc) hq rfl rfl (fun W hSw=>by (obtain ⟨c0,c1,c2,c3,c4,c5,c6,c7,c8,c9,c10,c11,c12,c13,c14,c15,c16,c17,c18,c19,c20⟩:=(HA.out.below hSw).pt;go_simp;try rfl)) hH ?_
  simp only [pb,pc]
  refine tz 14 20 (.int .i64 (rn:Int)) hq rfl rfl hH ?_
  simp only [pb,pc]
  refine tq 15 21 (.bool z3) hq rfl rfl (fun W hSw=>by (obtain ⟨c0,c1,c2,c3,c4,c5,c6,c7,c8,c9,c10,c11,c12,c13,c14,c15,c16,c17,c18,c19,c20⟩:=(HA.out.below hSw).pt;go_simp;try first|rfl|simp [f3,f4,f6,f7,f8,f9])) hH ?_
  simp only [pb,pc]
  refine tz 16 22 (.agg #[.int .u16 8,.bool z3]) hq rfl rfl hH ?_
  simp only [pb,pc]
  refine tz 17 23 (.pointer (some ⟨w.heap.size,12,none⟩)) hq rfl rfl hH ?_
  simp only [pb,pc]
  refine tq 18 24 (.string sg) hq rfl rfl (fun W hSw=>by (obtain ⟨c0,c1,c2,c3,c4,c5,c6,c7,c8,c9,c10,c11,c12,c13,c14,c15,c16,c17,c18,c19,c20⟩:=(HA.out.below hSw).pt;go_simp;try rfl)) hH ?_
  simp only [pb,pc]
  refine tq 19 25 (.bool z4) hq rfl rfl (fun W hSw=>by (obtain ⟨c0,c1,c2,c3,c4,c5,c6,c7,c8,c9,c10,c11,c12,c13,c14,c15,c16,c17,c18,c19,c20⟩:=(HA.out.below hSw).pt;go_simp;try first|rfl|simp [f3,f4,f6,f7,f8,f9])) hH ?_
  simp only [pb,pc]
  refine tz 20 26 (.agg #[.int .u16 16,.bool z4]) hq rfl rfl hH ?_
  simp only [pb,pc]
  refine tz 21 27 (.pointer (some ⟨w.heap.size,13,none⟩)) hq rfl rfl hH ?_
  simp only [pb,pc]
  refine tq 22 28 (plV fl fa fm fc) hq rfl rfl (fun W hSw=>by (obtain ⟨c0,c1,c2,c3,c4,c5,c6,c7,c8,c9,c10,c11,c12,c13,c14,c15,c16,c17,c18,c19,c20⟩:=(HA.out.below hSw).pt;go_simp;try rfl)) hH ?_
  simp only [pb,pc]
  refine tz 25 31 (.pointer (some ⟨w.heap.size,15,none⟩)) hq rfl rfl hH ?_
  simp only [pb,pc]
  refine tq 26 32 (.bool mu) hq rfl rfl (fun W hSw=>by (obtain ⟨c0,c1,c2,c3,c4,c5,c6,c7,c8,c9,c10,c11,c12,c13,c14,c15,c16,c17,c18,c19,c20⟩:=(HA.out.below hSw).pt;go_simp;try rfl)) hH ?_
  simp only [pb,pc]
  refine tq 27 33 (.bool z6) hq rfl rfl (fun W hSw=>by (obtain ⟨c0,c1,c2,c3,c4,c5,c6,c7,c8,c9,c10,c11,c12,c13,c14,c15,c16,c17,c18,c19,c20⟩:=(HA.out.below hSw).pt;go_simp;try first|rfl|simp [f3,f4,f6,f7,f8,f9])) hH ?_
  simp only [pb,pc]
  refine tz 28 34 (.agg #[.int .u16 64,.bool z6]) hq rfl rfl hH ?_
  simp only [pb,pc]
  refine tz 29 35 (.pointer (some ⟨w.heap.size,16,none⟩)) hq rfl rfl hH ?_
  simp only [pb,pc]
  refine tq 30 36 (.int .i64 fn) hq rfl rfl (fun W hSw=>by (obtain ⟨c0,c1,c2,c3,c4,c5,c6,c7,c8,c9,c10,c11,c12,c13,c14,c15,c16,c17,c18,c19,c20⟩:=(HA.out.below hSw).pt;go_simp;try rfl)) hH ?_
  simp only [pb,pc]
  refine tq 31 37 (.bool z7) hq rfl rfl (fun W hSw=>by (obtain ⟨c0,c1,c2,c3,c4,c5,c6,c7,c8,c9,c10,c11,c12,c13,c14,c15,c16,c17,c18,c19,c20⟩:=(HA.out.below hSw).pt;go_simp;try first|rfl|simp [f3,f4,f6,f7,f8,f9])) hH ?_
  simp only [pb,pc]
  refine tz 32 38 (.agg #[.int .u16 128,.bool z7]) hq rfl rfl hH ?_
  simp only [pb,pc]
  refine tz 33 39 (.pointer (some ⟨w.heap.size,17,none⟩)) hq rfl rfl hH ?_
  simp only [pb,pc]
  refine tq 34 40 (.int .i64 st) hq rfl rfl (fun W hSw=>by (obtain ⟨c0,c1,c2,c3,c4,c5,c6,c7,c8,c9,c10,c11,c12,c13,c14,c15,c16,c17,c18,c19,c20⟩:=(HA.out.below hSw).pt;go_simp;try rfl)) hH ?_
  simp only [pb,pc]
  refine tq 35 41 (.bool z8) hq rfl rfl (fun W hSw=>by (obtain ⟨c0,c1,c2,c3,c4,c5,c6,c7,c8,c9,c10,c11,c12,c13,c14,c15,c16,c17,c18,c19,c20⟩:=(HA.out.below hSw).pt;go_simp;try first|rfl|simp [f3,f4,f6,f7,f8,f9])) hH ?_
  simp only [pb,pc]
  refine tz 36 42 (.agg #[.int .u16 256,.bool z8]) hq rfl rfl hH ?_
  simp only [pb,pc]
  refine tz 37 43 (.pointer (some ⟨w.heap.size,19,none⟩)) hq rfl rfl hH ?_
  simp only [pb,pc]
  refine tq 38 44 (.int .i64 el) hq rfl rfl (fun W hSw=>by (obtain ⟨c0,c1,c2,c3,c4,c5,c6,c7,c8,c9,c10,c11,c12,c13,c14,c15,c16,c17,c18,c19,c20⟩:=(HA.out.below hSw).pt;go_simp;try rfl)) hH ?_
  simp only [pb,pc]
  refine tq 39 45 (.bool z9) hq rfl rfl (fun W hSw=>by (obtain ⟨c0,c1,c2,c3,c4,c5,c6,c7,c8,c9,c10,c11,c12,c13,c14,c15,c16,c17,c18,c19,c20⟩:=(HA.out.below hSw).pt;go_simp;try first|rfl|simp [f3,f4,f6,f7,f8,f9])) hH ?_
  simp only [pb,pc]
  refine tz 40 46 (.agg #[.int .u16 512,.bool z9]) hq rfl rfl hH ?_
  simp only [pb,pc]
  refine tz 42 48 (.int .i64 0) hq rfl rfl hH ?_
  simp only [pb,pc]
  refine aR1 2 rfl (fun K hK=>?_)
  go_simp
  refine (C0.out _).mono ?_
  rintro e v1 ⟨rfl,hb1⟩
  have hS1:Below (w.alloc (pO op tl ta tn tc ak an al aa am ac bk bn bl ba bm bc ra rn rc sg fl fa fm fc mu fn st nx el ps)).heap.size (w.alloc (pO op tl ta tn tc ak an al aa am ac bk bn bl ba bm bc ra rn rc sg fl fa fm fc mu fn st nx el ps)) v1:=jB (belN bR 1) hb1
  go_wp2_with fail
  refine hK.out _ _ hS1 (fun hH=>?_)
  clear hK K
  try simp only [Act.put,List.setIfInBounds_toArray,pb,pc]
  have HS1:=jH hS1
  clear hb1 hS1
  refine tz 3 9 (.agg #[.int .u16 1,.bool z0]) hq rfl rfl hH ?_
  simp only [pb,pc]
  refine aR1 6 rfl (fun K hK=>?_)
  go_simp
  refine (C1.out _).mono ?_
  rintro e v2 ⟨rfl,hb2⟩
  have hS2:Below (w.alloc (pO op tl ta tn tc ak an al aa am ac bk bn bl ba bm bc ra rn rc sg fl fa fm fc mu fn st nx el ps)).heap.size (w.alloc (pO op tl ta tn tc ak an al aa am ac bk bn bl ba bm bc ra rn rc sg fl fa fm fc mu fn st nx el ps)) v2:=jB HS1.out hb2
  go_wp2_with fail
  refine hK.out _ _ hS2 (fun hH=>?_)
  clear hK K
  try simp only [Act.put,List.setIfInBounds_toArray,pb,pc]
  have HS2:=jH hS2
  clear hb2 hS2
  refine tz 7 13 (.agg #[.int .u16 2,.bool z1]) hq rfl rfl hH ?_
  simp only [pb,pc]
  refine aR1 10 rfl (fun K hK=>?_)
  go_simp
  refine (C2.out _).mono ?_
  rintro e v3 ⟨rfl,hb3⟩
  have hS3:Below (w.alloc (pO op tl ta tn tc ak an al aa am ac bk bn bl ba bm bc ra rn rc sg fl fa fm fc mu fn st nx el ps)).heap.size (w.alloc (pO op tl ta tn tc ak an al aa am ac bk bn bl ba bm bc ra rn rc sg fl fa fm fc mu fn st nx el ps)) v3:=jB HS2.out hb3
  go_wp2_with fail
  refine hK.out _ _ hS3 (fun hH=>?_)
  clear hK K
  try simp only [Act.put,List.setIfInBounds_toArray,pb,pc]
  have HS3:=jH hS3
  clear hb3 hS3
  refine tz 11 17 (.agg #[.int .u16 4,.bool z2]) hq rfl rfl hH ?_
  simp only [pb,pc]
  refine aR1 23 rfl (fun K hK=>?_)
  go_simp
  refine (C5'.out _).mono ?_
  rintro e v4 ⟨rfl,hb4⟩
  have hS4:Below (w.alloc (pO op tl ta tn tc ak an al aa am ac bk bn bl ba bm bc ra rn rc sg fl fa fm fc mu fn st nx el ps)).heap.size (w.alloc (pO op tl ta tn tc ak an al aa am ac bk bn bl ba bm bc ra rn rc sg fl fa fm fc mu fn st nx el ps)) v4:=jB HS3.out hb4
  go_wp2_with fail
  refine hK.out _ _ hS4 (fun hH=>?_)
  clear hK K
  try simp only [Act.put,List.setIfInBounds_toArray,pb,pc]
  have HS4:=jH hS4
  clear hb4 hS4
  refine tz 24 30 (.agg #[.int .u16 32,.bool z5]) hq rfl rfl hH ?_
  simp only [pb,pc]
  refine tz 41 47 (.agg #[.int .u16 1,.bool z0,.int .u16 2,.bool z1,.int .u16 4,.bool z2,.int .u16 8,.bool z3,.int .u16 16,.bool z4,.int .u16 32,.bool z5,.int .u16 64,.bool z6,.int .u16 128,.bool z7,.int .u16 256,.bool z8,.int .u16 512,.bool z9]) hq rfl rfl hH ?_
  simp only [pb,pc]
  refine wpAnyH_done (by kernel_rfl) ?_ _
  go_wp2_with fail
  go_meet
  exact ⟨rfl,rfl,jB HB0.out HS4.out⟩
 case rest =>
  obtain ⟨rfl,rfl,hB⟩:=hcut
  clear HA C0 C1 C2 C5' f3 f4 f6 f7 f8 f9 e4
  go_wp2_with fail
  go_loopw [3,48] (fun u v V=>∃ k:Nat,k≤10∧v=.int .i64 (k:Int)∧u=.int .u16 (filN z k:Int)∧Below w.heap.size w V) (fun _ v _=>10 - (intOf v).toNat)
  case atStart=>exact ⟨0,by omega,rfl,rfl,hB⟩
  case round =>
   clear hB
   obtain ⟨k,hk,rfl,rfl,hB⟩:=hrel
   have HB:=jH hB
   clear hB
   match k,hk with
   | 0,_ =>
    have hzk:z0=z 0:=HZ.out.1
    rw [show ((0:Nat):Int)=0 from rfl]
    cases hh:z0 with
    | true =>
     have ho:filN z 1=filN z 0:=by
      show (if z 0 then filN z 0 else filN z 0 ||| 2 ^ 0)=_
      rw [← hzk,hh];rfl
     have hix:=idx10_0 true z1 z2 z3 z4 z5 z6 z7 z8 z9
     clear hzk
     go_wp2_with fail
     refine ⟨⟨1,by omega,rfl,by rw [ho],belA HB.out⟩,by decide⟩
    | false =>
     have ho:bits BinOp.or IntKind.u16 (filN z 0:Int) 1=(filN z 1:Int):=by
      have h1:=or_u16 (filN z 0) (2 ^ 0) (Nat.lt_of_lt_of_le (filN_lt z 0) (by decide)) (by decide)
      have h2:filN z 1=filN z 0 ||| 2 ^ 0:=by
       show (if z 0 then filN z 0 else filN z 0 ||| 2 ^ 0)=_
       rw [← hzk,hh];rfl
      rw [h2]
      exact h1
     have hix:=idx10_0 false z1 z2 z3 z4 z5 z6 z7 z8 z9
     clear hzk
     go_wp2_with fail
     refine ⟨⟨1,by omega,rfl,rfl,belA HB.out⟩,by decide⟩
   | 1,_ =>
    have hzk:z1=z 1:=HZ.out.2.1
    rw [show ((1:Nat):Int)=1 from rfl]
    cases hh:z1 with
    | true =>
     have ho:filN z 2=filN z 1:=by
      show (if z 1 then filN z 1 else filN z 1 ||| 2 ^ 1)=_
      rw [← hzk,hh];rfl
     have hix:=idx10_1 z0 true z2 z3 z4 z5 z6 z7 z8 z9
     clear hzk
     go_wp2_with fail
     refine ⟨⟨2,by omega,rfl,by rw [ho],belA HB.out⟩,by decide⟩
    | false =>
     have ho:bits BinOp.or IntKind.u16 (filN z 1:Int) 2=(filN z 2:Int):=by
      have h1:=or_u16 (filN z 1) (2 ^ 1) (Nat.lt_of_lt_of_le (filN_lt z 1) (by decide)) (by decide)
      have h2:filN z 2=filN z 1 ||| 2 ^ 1:=by
       show (if z 1 then filN z 1 else filN z 1 ||| 2 ^ 1)=_
       rw [← hzk,hh];rfl
      rw [h2]
      exact h1
     have hix:=idx10_1 z0 false z2 z3 z4 z5 z6 z7 z8 z9
     clear hzk
     go_wp2_with fail
     refine ⟨⟨2,by omega,rfl,rfl,belA HB.out⟩,by decide⟩
   | 2,_ =>
    have hzk:z2=z 2:=HZ.out.2.2.1
    rw [show ((2:Nat):Int)=2 from rfl]
    cases hh:z2 with
    | true =>
     have ho:filN z 3=filN z 2:=by
      show (if z 2 then filN z 2 else filN z 2 ||| 2 ^ 2)=_
      rw [← hzk,hh];rfl
     have hix:=idx10_2 z0 z1 true z3 z4 z5 z6 z7 z8 z9
     clear hzk
     go_wp2_with fail
     refine ⟨⟨3,by omega,rfl,by rw [ho],belA HB.out⟩,by decide⟩
    | false =>
     have ho:bits BinOp.or IntKind.u16 (filN z 2:Int) 4=(filN z 3:Int):=by
      have h1:=or_u16 (filN z 2) (2 ^ 2) (Nat.lt_of_lt_of_le (filN_lt z 2) (by decide)) (by decide)
      have h2:filN z 3=filN z 2 ||| 2 ^ 2:=by
       show (if z 2 then filN z 2 else filN z 2 ||| 2 ^ 2)=_
       rw [← hzk,hh];rfl
      rw [h2]
      exact h1
     have hix:=idx10_2 z0 z1 false z3 z4 z5 z6 z7 z8 z9
     clear hzk
     go_wp2_with fail
     refine ⟨⟨3,by omega,rfl,rfl,belA HB.out⟩,by decide⟩
   | 3,_ =>
    have hzk:z3=z 3:=HZ.out.2.2.2.1
    rw [show ((3:Nat):Int)=3 from rfl]
    cases hh:z3 with
    | true =>
     have ho:filN z 4=filN z 3:=by
      show (if z 3 then filN z 3 else filN z 3 ||| 2 ^ 3)=_
      rw [← hzk,hh];rfl
     have hix:=idx10_3 z0 z1 z2 true z4 z5 z6 z7 z8 z9
     clear hzk
     go_wp2_with fail
     refine ⟨⟨4,by omega,rfl,by rw [ho],belA HB.out⟩,by decide⟩
    | false =>
     have ho:bits BinOp.or IntKind.u16 (filN z 3:Int) 8=(filN z 4:Int):=by
      have h1:=or_u16 (filN z 3) (2 ^ 3) (Nat.lt_of_lt_of_le (filN_lt z 3) (by decide)) (by decide)
      have h2:filN z 4=filN z 3 ||| 2 ^ 3:=by
       show (if z 3 then filN z 3 else filN z 3 ||| 2 ^ 3)=_
       rw [← hzk,hh];rfl
      rw [h2]
      exact h1
     have hix:=idx10_3 z0 z1 z2 false z4 z5 z6 z7 z8 z9
     clear hzk
     go_wp2_with fail
     refine ⟨⟨4,by omega,rfl,rfl,belA HB.out⟩,by decide⟩
   | 4,_ =>
    have hzk:z4=z 4:=HZ.out.2.2.2.2.1
    rw [show ((4:Nat):Int)=4 from rfl]
    cases hh:z4 with
    | true =>
     have ho:filN z 5=filN z 4:=by
      show (if z 4 then filN z 4 else filN z 4 ||| 2 ^ 4)=_
      rw [← hzk,hh];rfl
     have hix:=idx10_4 z0 z1 z2 z3 true z5 z6 z7 z8 z9
     clear hzk
     go_wp2_with fail
     refine ⟨⟨5,by omega,rfl,by rw [ho],belA HB.out⟩,by decide⟩
    | false =>
     have ho:bits BinOp.or IntKind.u16 (filN z 4:Int) 16=(filN z 5:Int):=by
      have h1:=or_u16 (filN z 4) (2 ^ 4) (Nat.lt_of_lt_of_le (filN_lt z 4) (by decide)) (by decide)
      have h2:filN z 5=filN z 4 ||| 2 ^ 4:=by
       show (if z 4 then filN z 4 else filN z 4 ||| 2 ^ 4)=_
       rw [← hzk,hh];rfl
      rw [h2]
      exact h1
     have hix:=idx10_4 z0 z1 z2 z3 false z5 z6 z7 z8 z9
     clear hzk
     go_wp2_with fail
     refine ⟨⟨5,by omega,rfl,rfl,belA HB.out⟩,by decide⟩
   | 5,_ =>
    have hzk:z5=z 5:=HZ.out.2.2.2.2.2.1
    rw [show ((5:Nat):Int)=5 from rfl]
    cases hh:z5 with
    | true =>
     have ho:filN z 6=filN z 5:=by
      show (if z 5 then filN z 5 else filN z 5 ||| 2 ^ 5)=_
      rw [← hzk,hh];rfl
     have hix:=idx10_5 z0 z1 z2 z3 z4 true z6 z7 z8 z9
     clear hzk
     go_wp2_with fail
     refine ⟨⟨6,by omega,rfl,by rw [ho],belA HB.out⟩,by decide⟩
    | false =>
     have ho:bits BinOp.or IntKind.u16 (filN z 5:Int) 32=(filN z 6:Int):=by
      have h1:=or_u16 (filN z 5) (2 ^ 5) (Nat.lt_of_lt_of_le (filN_lt z 5) (by decide)) (by decide)
      have h2:filN z 6=filN z 5 ||| 2 ^ 5:=by
       show (if z 5 then filN z 5 else filN z 5 ||| 2 ^ 5)=_
       rw [← hzk,hh];rfl
      rw [h2]
      exact h1
     have hix:=idx10_5 z0 z1 z2 z3 z4 false z6 z7 z8 z9
     clear hzk
     go_wp2_with fail
     refine ⟨⟨6,by omega,rfl,rfl,belA HB.out⟩,by decide⟩
   | 6,_ =>
    have hzk:z6=z 6:=HZ.out.2.2.2.2.2.2.1
    rw [show ((6:Nat):Int)=6 from rfl]
    cases hh:z6 with
    | true =>
     have ho:filN z 7=filN z 6:=by
      show (if z 6 then filN z 6 else filN z 6 ||| 2 ^ 6)=_
      rw [← hzk,hh];rfl
     have hix:=idx10_6 z0 z1 z2 z3 z4 z5 true z7 z8 z9
     clear hzk
     go_wp2_with fail
     refine ⟨⟨7,by omega,rfl,by rw [ho],belA HB.out⟩,by decide⟩
    | false =>
     have ho:bits BinOp.or IntKind.u16 (filN z 6:Int) 64=(filN z 7:Int):=by
      have h1:=or_u16 (filN z 6) (2 ^ 6) (Nat.lt_of_lt_of_le (filN_lt z 6) (by decide)) (by decide)
      have h2:filN z 7=filN z 6 ||| 2 ^ 6:=by
       show (if z 6 then filN z 6 else filN z 6 ||| 2 ^ 6)=_
       rw [← hzk,hh];rfl
      rw [h2]
      exact h1
     have hix:=idx10_6 z0 z1 z2 z3 z4 z5 false z7 z8 z9
     clear hzk
     go_wp2_with fail
     refine ⟨⟨7,by omega,rfl,rfl,belA HB.out⟩,by decide⟩
   | 7,_ =>
    have hzk:z7=z 7:=HZ.out.2.2.2.2.2.2.2.1
    rw [show ((7:Nat):Int)=7 from rfl]
    cases hh:z7 with
    | true =>
     have ho:filN z 8=filN z 7:=by
      show (if z 7 then filN z 7 else filN z 7 ||| 2 ^ 7)=_
      rw [← hzk,hh];rfl
     have hix:=idx10_7 z0 z1 z2 z3 z4 z5 z6 true z8 z9
     clear hzk
     go_wp2_with fail
     refine ⟨⟨8,by omega,rfl,by rw [ho],belA HB.out⟩,by decide⟩
    | false =>
     have ho:bits BinOp.or IntKind.u16 (filN z 7:Int) 128=(filN z 8:Int):=by
      have h1:=or_u16 (filN z 7) (2 ^ 7) (Nat.lt_of_lt_of_le (filN_lt z 7) (by decide)) (by decide)
      have h2:filN z 8=filN z 7 ||| 2 ^ 7:=by
       show (if z 7 then filN z 7 else filN z 7 ||| 2 ^ 7)=_
       rw [← hzk,hh];rfl
      rw [h2]
      exact h1
     have hix:=idx10_7 z0 z1 z2 z3 z4 z5 z6 false z8 z9
     clear hzk
     go_wp2_with fail
     refine ⟨⟨8,by omega,rfl,rfl,belA HB.out⟩,by decide⟩
   | 8,_ =>
    have hzk:z8=z 8:=HZ.out.2.2.2.2.2.2.2.2.1
    rw [show ((8:Nat):Int)=8 from rfl]
    cases hh:z8 with
    | true =>
     have ho:filN z 9=filN z 8:=by
      show (if z 8 then filN z 8 else filN z 8 ||| 2 ^ 8)=_
      rw [← hzk,hh];rfl
     have hix:=idx10_8 z0 z1 z2 z3 z4 z5 z6 z7 true z9
     clear hzk
     go_wp2_with fail
     refine ⟨⟨9,by omega,rfl,by rw [ho],belA HB.out⟩,by decide⟩
    | false =>
     have ho:bits BinOp.or IntKind.u16 (filN z 8:Int) 256=(filN z 9:Int):=by
      have h1:=or_u16 (filN z 8) (2 ^ 8) (Nat.lt_of_lt_of_le (filN_lt z 8) (by decide)) (by decide)
      have h2:filN z 9=filN z 8 ||| 2 ^ 8:=by
       show (if z 8 then filN z 8 else filN z 8 ||| 2 ^ 8)=_
       rw [← hzk,hh];rfl
      rw [h2]
      exact h1
     have hix:=idx10_8 z0 z1 z2 z3 z4 z5 z6 z7 false z9
     clear hzk
     go_wp2_with fail
     refine ⟨⟨9,by omega,rfl,rfl,belA HB.out⟩,by decide⟩
   | 9,_ =>
    have hzk:z9=z 9:=HZ.out.2.2.2.2.2.2.2.2.2
    rw [show ((9:Nat):Int)=9 from rfl]
    cases hh:z9 with
    | true =>
     have ho:filN z 10=filN z 9:=by
      show (if z 9 then filN z 9 else filN z 9 ||| 2 ^ 9)=_
      rw [← hzk,hh];rfl
     have hix:=idx10_9 z0 z1 z2 z3 z4 z5 z6 z7 z8 true
     clear hzk
     go_wp2_with fail
     refine ⟨⟨10,by omega,rfl,by rw [ho],belA HB.out⟩,by decide⟩
    | false =>
     have ho:bits BinOp.or IntKind.u16 (filN z 9:Int) 512=(filN z 10:Int):=by
      have h1:=or_u16 (filN z 9) (2 ^ 9) (Nat.lt_of_lt_of_le (filN_lt z 9) (by decide)) (by decide)
      have h2:filN z 10=filN z 9 ||| 2 ^ 9:=by
       show (if z 9 then filN z 9 else filN z 9 ||| 2 ^ 9)=_
       rw [← hzk,hh];rfl
      rw [h2]
      exact h1
     have hix:=idx10_9 z0 z1 z2 z3 z4 z5 z6 z7 z8 false
     clear hzk
     go_wp2_with fail
     refine ⟨⟨10,by omega,rfl,rfl,belA HB.out⟩,by decide⟩
   | 10,_ =>
    rw [show ((10:Nat):Int)=10 from rfl]
    go_wp2_with fail
    go_ret
    exact ⟨rfl,HB.out⟩
   | n+11,h=>omega
end Go.Proofs.YtmjenlogbkbgnaaGreatDoor
