import Derived.Test.YtmjenlogbkbgnaaGreatDoorC02
import Derived.Test.YtmjenlogbkbgnaaGreatDoorB31
import Derived.BigRegion
namespace Go.Proofs.YtmjenlogbkbgnaaGreatDoor
open Go.RowKit Go.Shelf
set_option linter.unusedVariables false
set_option linter.unusedSimpArgs false
set_option maxRecDepth 100000
set_option maxHeartbeats 2000000
abbrev rwZ:Value:=.agg #[.int .i64 0,.slice none 0 0]
abbrev rwO:Obj:=.cells #[.int .i64 0,.slice none 0 0] 48
theorem At.rw {W:World} {b:Nat} (h:At W b rwO):W.cell? ⟨b,0,none⟩=some (.int .i64 0)∧W.cell? ⟨b,1,none⟩=some (.slice none 0 0):=by
 unfold At at h
 refine ⟨?_,?_⟩ <;> simp [World.cell?,h]
structure Z2 (W:World) (g:Nat):Prop where
 lt:g<W.heap.size
 c0:W.cell? ⟨g,0,none⟩=some (.int .i64 0)
 c1:W.cell? ⟨g,1,none⟩=some (.slice none 0 0)
 c2:W.cell? ⟨g,2,none⟩=some (.int .i64 0)
 c3:W.cell? ⟨g,3,none⟩=some (.slice none 0 0)
theorem Z2.bel {W W':World} {g:Nat} (h:Z2 W g) (k:Below W.heap.size W W'):Z2 W' g :=
 ⟨Nat.lt_of_lt_of_le h.lt k.size,(k.cell (p:=⟨g,0,none⟩) h.lt).trans h.c0,(k.cell (p:=⟨g,1,none⟩) h.lt).trans h.c1,(k.cell (p:=⟨g,2,none⟩) h.lt).trans h.c2,(k.cell (p:=⟨g,3,none⟩) h.lt).trans h.c3⟩
theorem Z2.drew {W:World} {g:Nat} (h:Z2 W g):Z2 W.drew g:=⟨h.lt,h.c0,h.c1,h.c2,h.c3⟩
theorem isRow_z (w:World):Calls Tryz.prog 74 #[rwZ] w fun e w'=>e=.returned (.bool true)∧Below w.heap.size w w':=by
 have HA:=jH (At.new w rwO)
 obtain ⟨x0,x1⟩:=HA.out.rw
 have q1:(64 - 1:Int).tdiv 64=0:=by decide
 have q2:(63:Int).tdiv 64=0:=by decide
 go_enter Tryz.func74,Tryz.ntmps74
 go_wp2_with fail
 go_ret
 exact ⟨rfl,belA bR⟩
theorem rows1_z (w:World) (b g cap:Nat) (hA:At w b (One (.slice (some ⟨g,0,none⟩) 2 cap) 44)) (hz:Z2 w g):Calls Tryz.prog 73 #[rwZ,.pointer (some ⟨b,0,none⟩)] w fun e w'=>e=.returned (.bool false)∧Below w.heap.size w w':=by
 have HB1:Hid (Below w.heap.size w (w.alloc rwO)):=jH (belA bR)
 have HA1:=jH (At.new w rwO)
 have HAb:=jH (hA.below HB1.out)
 have HZ:=jH (hz.bel HB1.out)
 have hlt:=hA.lt
 have C:=jH isRow_z
 clear hA hz
 go_enter Tryz.func73,Tryz.ntmps73
 go_upto_region 1 with fail
 refine beginH (S:=fun V=>At V w.heap.size rwO∧At V b (One (.slice (some ⟨g,0,none⟩) 2 cap) 44)∧Z2 V g) (fun _ _ _ _ _ h=>h) (by kernel_rfl) ⟨HA1.out.drew,HAb.out.drew,HZ.out.drew⟩ (fun hq hH=>?_)
 refine tz 0 4 (.pointer (some ⟨w.heap.size,0,none⟩)) hq rfl rfl hH ?_
 simp only [pb,pc]
 refine tq 1 5 (.int .i64 0) hq rfl rfl (fun W hSw=>by (obtain ⟨x0,x1⟩:=At.rw hSw.1;go_simp;try rfl)) hH ?_
 simp only [pb,pc]
 refine tq 2 6 (.slice (some ⟨g,0,none⟩) 2 cap) hq rfl rfl (fun W hSw=>by (obtain ⟨y0,-⟩:=At.one hSw.2.1;go_simp;try rfl)) hH ?_
 simp only [pb,pc]
 refine tz 3 7 (.pointer (some ⟨g,0,none⟩)) hq rfl rfl hH ?_
 simp only [pb,pc]
 refine tz 4 8 (.pointer (some ⟨g,0,none⟩)) hq rfl rfl hH ?_
 simp only [pb,pc]
 refine tq 5 9 (.int .i64 0) hq rfl rfl (fun W hSw=>by (obtain ⟨z5,z0,z1,z2,z3⟩:=hSw.2.2;go_simp;try rfl)) hH ?_
 simp only [pb,pc]
 refine tz 6 10 (.bool false) hq rfl rfl hH ?_
 simp only [pb,pc]
 refine tz 7 11 (.bool false) hq rfl rfl hH ?_
 simp only [pb,pc]
 refine tq 8 12 (rwZ) hq rfl rfl (fun W hSw=>by (obtain ⟨x0,x1⟩:=At.rw hSw.1;go_simp;try rfl)) hH ?_
 simp only [pb,pc]
 refine aR1 9 rfl (fun K hK=>?_)
 have C1:=jH (C.out (w.alloc rwO).drew)
 go_simp
 refine C1.out.mono ?_
 rintro e w2 ⟨rfl,hb⟩
 have HB2:=jH (jB (belN HB1.out 1) hb)
 have hH2:At w2 w.heap.size rwO∧At w2 b (One (.slice (some ⟨g,0,none⟩) 2 cap) 44)∧Z2 w2 g:=⟨hH.1.below hb,hH.2.1.below hb,hH.2.2.bel hb⟩
 clear hb C1
 go_wp2_with fail
 refine hK.out _ _ hH2 (fun hH=>?_)
 clear hK K hH2
 try simp only [Act.put,List.setIfInBounds_toArray,pb,pc]
 refine tz 10 14 (.bool false) hq rfl rfl hH ?_
 simp only [pb,pc]
 refine tz 11 15 (.bool false) hq rfl rfl hH ?_
 simp only [pb,pc]
 refine tz 12 3 (.bool false) hq rfl rfl hH ?_
 simp only [pb,pc]
 refine wpAnyH_done (by kernel_rfl) ?_ _
 clear hH hq
 go_wp2_with fail
 go_ret
 exact ⟨rfl,HB2.out⟩
theorem idxR_z (w:World) (b g cap:Nat) (hA:At w b (One (.slice (some ⟨g,0,none⟩) 2 cap) 44)) (hz:Z2 w g):Calls Tryz.prog 94 #[.slice (some ⟨g,0,none⟩) 2 cap,fnB 73 b] w fun e w'=>e=.returned (.int .i64 (-1))∧Below w.heap.size w w':=by
 have C:=jH (fun (V:World) (hV:Below w.heap.size w V)=>rows1_z V b g cap (hA.below hV) (hz.bel hV))
 have HZ:=jH hz
 have hen:∀ (args:Array Value) (W:World),(callFunc 73 args).run Tryz.prog W=.ok (.enter 73 args) W:=fun args W=>by kernel_rfl
 clear hA hz
 go_enter Tryz.func94,Tryz.ntmps94
 go_wp2_with fail
 go_loopw [8] (fun v V=>∃ i:Nat,i≤2∧v=.int .i64 (i:Int)∧Below w.heap.size w V) (fun v _=>2 - (intOf v).toNat)
 case atStart=>exact ⟨0,Nat.zero_le _,rfl,Below.refl _ _⟩
 case round =>
  obtain ⟨i,hi,rfl,hB⟩:=hrel
  have HB:=jH hB
  clear hB
  obtain ⟨z5,z0,z1,z2,z3⟩:=HZ.out.bel HB.out
  match i,hi with
  | 0,_ =>
   go_wp2_with ((refine (C.out _ HB.out).mono ?_);rintro e w1 ⟨rfl,hb⟩;have HB2:=jH (jB HB.out hb);clear hb)
   exact ⟨⟨1,by omega,rfl,HB2.out⟩,by decide⟩
  | 1,_ =>
   go_wp2_with ((refine (C.out _ HB.out).mono ?_);rintro e w1 ⟨rfl,hb⟩;have HB2:=jH (jB HB.out hb);clear hb)
   exact ⟨⟨2,by omega,rfl,HB2.out⟩,by decide⟩
  | 2,_ =>
   go_wp2_with fail
   go_ret
   exact ⟨rfl,HB.out⟩
theorem hasR_z (w:World) (b g cap:Nat) (hA:At w b (One (.slice (some ⟨g,0,none⟩) 2 cap) 44)) (hz:Z2 w g):Calls Tryz.prog 72 #[.slice (some ⟨g,0,none⟩) 2 cap,fnB 73 b] w fun e w'=>e=.returned (.bool false)∧Below w.heap.size w w':=by
 have C:=jH (idxR_z w b g cap hA hz)
 clear hA hz
 go_enter Tryz.func72,Tryz.ntmps72
 go_wp2_with (go_at_call 94;refine C.out.mono ?_;rintro e w1 ⟨rfl,hb⟩;have HB:=jH hb;clear hb)
 go_ret
 exact ⟨rfl,HB.out⟩
theorem areRows_z (w:World) (g cap:Nat) (hz:Z2 w g):Calls Tryz.prog 41 #[.slice (some ⟨g,0,none⟩) 2 cap] w fun e w'=>e=.returned (.bool true)∧Below w.heap.size w w':=by
 have C:=jH (hasR_z (w.alloc (One (.slice (some ⟨g,0,none⟩) 2 cap) 44)) w.heap.size g cap (At.new _ _) (hz.bel (belA bR)))
 clear hz
 go_enter Tryz.func41,Tryz.ntmps41
 go_wp2_with (go_at_call 72;refine C.out.mono ?_;rintro e w1 ⟨rfl,hb⟩;have HB:=jH (below1 hb);clear hb)
 go_ret
 exact ⟨rfl,HB.out⟩
theorem lack_z (w:World):Calls Tryz.prog 43 #[rwZ,rwZ] w fun e w'=>e=.returned (.tuple #[.int .i64 0,.bool false])∧Below w.heap.size w w':=by
 have HA:=jH ((At.new w rwO).alloc rwO)
 have HC:=jH (at_snd w rwO rwO)
 obtain ⟨x0,x1⟩:=HA.out.rw
 obtain ⟨y0,y1⟩:=HC.out.rw
 go_enter Tryz.func43,Tryz.ntmps43
 go_wp2_with fail
 go_loopw [12] (fun v V=>v=.int .i64 0∧Below w.heap.size w V) (fun v _=>0)
 case atStart=>exact ⟨rfl,belA (belA bR)⟩
 case round =>
  obtain ⟨rfl,hB⟩:=hrel
  go_wp2_with fail
  go_ret2
  exact ⟨rfl,hB⟩
theorem results_tmp4 {fn:Func} {t u v x:Tmp} (h:fn.results=#[.tmp t,.tmp u,.tmp v,.tmp x]) (tmps:Array Value) (P:Program) (w:World) :
  (results fn tmps).run P w=.ok (.tuple #[tmps.getD t undef,tmps.getD u undef,tmps.getD v undef,tmps.getD x undef]) w:=by
 simp [results,h]
theorem Closed_z (w:World) (a:Option Addr) (cap g cap2:Nat) (hP:PrR w a 1 cap [(1,0)]) (hz:Z2 w g):Calls Tryz.prog 17 #[.slice a 1 cap,.slice (some ⟨g,0,none⟩) 2 cap2] w fun e w'=>e=.returned (.tuple #[.int .i64 0,.int .i64 0,.bool true,.int .i64 0])∧Below w.heap.size w w':=by
 have C1:=jH (areRows_z w g cap2 hz)
 have C2:=jH (fun (V:World) (hV:Below w.heap.size w V)=>areBelow_any 2 a 1 cap [(1,0)] V (hP.bel hV))
 have ho:[((1:Int),(0:Int))].any (outB 2)=false:=by decide
 rw [ho] at C2
 have HP:=jH hP
 have HZ:=jH hz
 have CL:=jH lack_z
 clear hP hz ho
 go_enter Tryz.func17,Tryz.ntmps17
 go_wp2_with (first
  | (go_at_call 41;refine C1.out.mono ?_;rintro e w1 ⟨rfl,hb⟩;have HB1:=jH hb;clear hb)
  | (go_at_call 42;refine (C2.out _ HB1.out).mono ?_;rintro e w2 ⟨rfl,hb⟩;have HB2:=jH (jB HB1.out hb);clear hb))
 go_loopw [24] (fun v V=>∃ i:Nat,i≤1∧v=.int .i64 (i:Int)∧Below w.heap.size w V) (fun v _=>1 - (intOf v).toNat)
 case atStart=>exact ⟨0,Nat.zero_le _,rfl,HB2.out⟩
 case round =>
  obtain ⟨i,hi,rfl,hB⟩:=hrel
  have HB:=jH hB
  clear hB
  match i,hi with
  | 0,_ =>
   obtain ⟨ga,off,ea,hg,c0,c1⟩:=(HP.out.bel HB.out).nth (i:=0) (p:=(1,0)) rfl
   have ea2:a=some ⟨ga,off,none⟩:=ea
   subst ea2
   simp only [Nat.zero_mul,Nat.add_zero] at c0 c1
   clear ea
   go_upto_region 6 with fail
   refine beginH (S:=fun V=>At V wr.heap.size (.cells #[.int .i64 1,.int .i64 0] 36)∧Z2 V g) (fun _ _ _ _ _ h=>h) (by kernel_rfl) ⟨(At.new wr _).drew,(HZ.out.bel (belA HB.out)).drew⟩ (fun hq hH=>?_)
   refine tz 0 30 (.slice (some ⟨g,0,none⟩) 2 cap2) hq rfl rfl hH ?_
   simp only [pb,pc]
   refine tz 1 31 (.pointer (some ⟨wr.heap.size,0,none⟩)) hq rfl rfl hH ?_
   simp only [pb,pc]
   refine tq 2 32 (.int .i64 1) hq rfl rfl (fun W hSw=>by (have hA:=hSw.1;unfold At at hA;have c0:W.cell? ⟨wr.heap.size,0,none⟩=some (.int .i64 1):=(by simp [World.cell?,hA]);have c1:W.cell? ⟨wr.heap.size,1,none⟩=some (.int .i64 0):=(by simp [World.cell?,hA]);go_simp;try rfl)) hH ?_
   simp only [pb,pc]
   refine tz 3 33 (.pointer (some ⟨g,2,none⟩)) hq rfl rfl hH ?_
   simp only [pb,pc]
   refine tq 4 34 (rwZ) hq rfl rfl (fun W hSw=>by (obtain ⟨z5,z0,z1,z2,z3⟩:=hSw.2;go_simp;try rfl)) hH ?_
   simp only [pb,pc]
   refine tz 5 35 (.slice (some ⟨g,0,none⟩) 2 cap2) hq rfl rfl hH ?_
   simp only [pb,pc]
   refine tz 6 36 (.pointer (some ⟨wr.heap.size,1,none⟩)) hq rfl rfl hH ?_
   simp only [pb,pc]
   refine tq 7 37 (.int .i64 0) hq rfl rfl (fun W hSw=>by (have hA:=hSw.1;unfold At at hA;have c0:W.cell? ⟨wr.heap.size,0,none⟩=some (.int .i64 1):=(by simp [World.cell?,hA]);have c1:W.cell? ⟨wr.heap.size,1,none⟩=some (.int .i64 0):=(by simp [World.cell?,hA]);go_simp;try rfl)) hH ?_
   simp only [pb,pc]
   refine tz 8 38 (.pointer (some ⟨g,0,none⟩)) hq rfl rfl hH ?_
   simp only [pb,pc]
   refine tq 9 39 (rwZ) hq rfl rfl (fun W hSw=>by (obtain ⟨z5,z0,z1,z2,z3⟩:=hSw.2;go_simp;try rfl)) hH ?_
   simp only [pb,pc]
   refine aR1 10 rfl (fun K hK=>?_)
   have C3:=jH (CL.out (wr.alloc (.cells #[.int .i64 1,.int .i64 0] 36)).drew)
   go_simp
   refine C3.out.mono ?_
   rintro e w4 ⟨rfl,hb⟩
   have HB4:=jH (jB (belN (belA HB.out) 1) hb)
   have hH2:At w4 wr.heap.size (.cells #[.int .i64 1,.int .i64 0] 36)∧Z2 w4 g:=⟨hH.1.below hb,hH.2.bel hb⟩
   clear hb C3
   go_wp2_with fail
   refine hK.out _ _ hH2 (fun hH=>?_)
   clear hK K hH2
   try simp only [Act.put,List.setIfInBounds_toArray,pb,pc]
   refine tz 11 29 (.tuple #[.int .i64 0,.bool false]) hq rfl rfl hH ?_
   simp only [pb,pc]
   refine tz 12 41 (.int .i64 0) hq rfl rfl hH ?_
   simp only [pb,pc]
   refine tz 13 42 (.bool false) hq rfl rfl hH ?_
   simp only [pb,pc]
   refine tz 14 10 (.int .i64 0) hq rfl rfl hH ?_
   simp only [pb,pc]
   refine tz 15 11 (.bool false) hq rfl rfl hH ?_
   simp only [pb,pc]
   refine wpAnyH_done (by kernel_rfl) ?_ _
   clear hH hq
   go_wp2_with fail
   exact ⟨⟨1,by omega,rfl,HB4.out⟩,by decide⟩
  | 1,_ =>
   go_wp2_with fail
   (try simp only [Exit.inBlock,Exit.then])
   refine bodyPost_ret (results_tmp4 rfl _ _ _) rfl ?_
   exact ⟨rfl,HB.out⟩
theorem Tryz.results25:Tryz.f25.results=#[.cell 2 43]:=rfl
theorem m0_any (w:World) (n:Int) (hn:0≤n) (hn1:n≤100):Calls Tryz.prog 25 #[.int .i64 n] w fun e w'=>∃ br,e=.returned (tyV 4 false n 0 (some ⟨br,0,none⟩) 1 1)∧TyAt w' ⟨4,false,n,0,some ⟨br,0,none⟩,1,1⟩ (Ch.ref false n (.leaf 1 0)).ty∧Below w.heap.size w w':=by
 have C:=jH (ref_any (w.alloc (Fv.o zT)) false)
 go_enter Tryz.func25,Tryz.ntmps25
 go_wp2_with (first
  | (go_at_call 54;refine C.out.mono ?_;rintro e w1 ⟨br,rfl,ha,hlo,hb⟩;have HA:=jH ha;have HLO:=jH hlo;have HB:=jH (below1 hb);have HT:=jH ((At.new w zT.o).below hb);clear hb ha hlo)
  | (refine wpl_storeT1 w1.heap.size zT ⟨4,false,-1,0,some ⟨br,0,none⟩,1,1⟩ (At.new w1 zT.o) rfl rfl ?_;intro w2 ha hb;have HA2:=jH ha;have HT2:=jH ((HT.out.alloc zT.o).but hb (by have:=HT.out.lt;omega));have HBR:=jH ((HA.out.alloc zT.o).but hb (by have:=HA.out.lt;omega));have HB2:=jH (belBut (belA HB.out) hb HB.out.size (by have:=HB.out.size;simp only [World.size_alloc];omega));have f2:=HA2.out.tyF 2;obtain ⟨-,q0,q1,q2,q3,q4⟩:=HA2.out.ty;simp only [Nat.zero_add] at q0 q1 q2 q3 q4;have hb2:But w1.heap.size w2 (w2.setCell ⟨w1.heap.size,2,none⟩ (.int .i64 n)):=but_setCells _ [_] 2 _;have HT3:=jH (HT2.out.but hb2 (by have:=HT.out.lt;omega));have HBR3:=jH (HBR.out.but hb2 (by have:=HA.out.lt;omega));have HB3:=jH (belBut HB2.out hb2 HB.out.size (by have:=HB.out.size;have:=HA2.out.lt;omega));clear hb ha hb2)
  | (refine wpl_storeT1 w.heap.size zT ⟨4,false,n,0,some ⟨br,0,none⟩,1,1⟩ HT3.out rfl rfl ?_;intro w4 ha hb;have HF:=jH ha.ty;have HBR4:=jH (HBR3.out.but hb (by have:=HLO.out;simp only [World.size_alloc] at this;omega));have HB4:=jH (belBut HB3.out hb (Nat.le_refl _) (by have:=HB3.out.size;have:=HT3.out.lt;omega));clear hb ha))
 clear q0 q1 q2 q3 q4 f2
 exact bodyPost_ret (results_c1 (g:=⟨4,false,n,0,some ⟨br,0,none⟩,1,1⟩) Tryz.results25 rfl HF.out) rfl ⟨br,rfl,TyAt.mkOne 4 false n 0 (by omega) (by omega) (by omega) (by omega) (by omega) br 0 1 ⟨1,false,0,0,none,0,0⟩ _ HBR4.out.ty (TyAt.mkLeaf 1 0 (by omega) (by omega) (by omega) none 0),HB4.out⟩
end Go.Proofs.YtmjenlogbkbgnaaGreatDoor
