import Derived.Test.YtmjenlogbkbgnaaGreatDoorB19
import Derived.StillTailTactics
import Derived.Deep.AppendLies
namespace Go.Proofs.YtmjenlogbkbgnaaGreatDoor
open Go.RowKit Go.Shelf
set_option linter.unusedVariables false
set_option linter.unusedSimpArgs false
set_option maxRecDepth 100000
set_option maxHeartbeats 4000000
def KeepO (W W':World):Prop:=∀ (i t:Nat) (cs:Array Value),t≠28→t≠36→At W i (.cells cs t (0,0))→At W' i (.cells cs t (0,0))
theorem KeepO.kt {W W':World} (h:KeepO W W'):KeepT W W':=fun i f hA=>h i 43 _ (by decide) (by decide) hA
theorem KeepO.trans {A B C:World} (h:KeepO A B) (k:KeepO B C):KeepO A C:=fun i t cs h1 h2 hA=>k i t cs h1 h2 (h i t cs h1 h2 hA)
theorem keepO_bel {W W':World} (h:Below W.heap.size W W'):KeepO W W':=fun i t cs h1 h2 hA=>hA.below h
theorem keepO_two {W W':World} {o o':Obj} (h:KeepO ((W.alloc o).alloc o') W'):KeepO W W':=(keepO_bel (belA (belA bR))).trans h
theorem keepO_drew {W W':World} (h:KeepO (World.drew W) W'):KeepO W W':=(keepO_bel (belN bR 1)).trans h
structure TakeR (fn:Nat) (caps:List Value) (R:List (Int × Int)→Int × Int→Prop) (w0:World) (J:List (Int × Int)→World→Prop):Prop where
 enters:Enters fn
 keep:∀ l W W',J l W→Below W.heap.size W W'→J l W'
 bel:∀ l W,J l W→Below w0.heap.size w0 W
 call:∀ l r s W,R l (r,s)→-9223372036854775808≤r→r≤9223372036854775807→-9223372036854775808≤s→s≤9223372036854775807→J l W→Calls Tryz.prog fn ((.int .i64 r)::(.int .i64 s)::caps).toArray W fun e w'=>e=.returned (.tuple #[])∧J (l++[(r,s)]) w'∧KeepO W w'
theorem TakeR.alloc {fn:Nat} {caps:List Value} {R:List (Int × Int)→Int × Int→Prop} {w0:World} {J:List (Int × Int)→World→Prop} (h:TakeR fn caps R w0 J) (l:List (Int × Int)) (W:World) (o:Obj) (hJ:J l W):J l (W.alloc o):=h.keep l W _ hJ (belA bR)
theorem TakeR.drew {fn:Nat} {caps:List Value} {R:List (Int × Int)→Int × Int→Prop} {w0:World} {J:List (Int × Int)→World→Prop} (h:TakeR fn caps R w0 J) (l:List (Int × Int)) (W:World) (hJ:J l W):J l (World.drew W):=h.keep l W _ hJ (belN bR 1)
def okL (R:List (Int × Int)→Int × Int→Prop):List (Int × Int)→List (Int × Int)→Prop
 | _,[]=>True
 | l,x::xs=>R l x∧okL R (l++[x]) xs
theorem okL_app {R:List (Int × Int)→Int × Int→Prop}:∀ (xs l ys:List (Int × Int)),okL R l (xs++ys)→okL R (l++xs) ys
 | [],l,ys,h=>by simpa using h
 | x::xs,l,ys,h=>by
  have:=okL_app xs (l++[x]) ys h.2
  simpa using this
theorem okL_len (N:Nat):∀ (xs l:List (Int × Int)),l.length+xs.length≤N+1→okL (fun l _=>l.length≤N) l xs
 | [],l,h=>trivial
 | x::xs,l,h=>⟨by simp at h;omega,okL_len N xs (l++[x]) (by simp at h ⊢;omega)⟩
theorem flow_leaf1 {fn:Nat} {w0:World} {J:List (Int × Int)→World→Prop} {R:List (Int × Int)→Int × Int→Prop} {b:Nat} (hT:TakeR fn [.pointer (some ⟨b,0,none⟩)] R w0 J) (k:Nat) (s s':Int) (a a':Option Addr) (cap cap' k':Nat) (bm:Bool) (l:List (Int × Int)) (W:World) (k3:¬ (k:Int)=3) (k4:¬ (k:Int)=4) (hJ:J l W) :
  Calls Tryz.prog 37 #[tyV k false 0 s a 0 cap,tyV k' false 0 s' a' 0 cap',.bool bm,fnB fn b] W fun e w'=>e=.returned (.tuple #[])∧J l w'∧KeepO W w':=by
 have HJ:Hid (∀ o o',J l ((W.alloc o).alloc o')):=fun o o'=>hT.alloc _ _ _ (hT.alloc _ _ _ hJ)
 clear hJ hT
 go_enter Tryz.func37,Tryz.ntmps37
 go_wp2_with fail
 go_end0
 exact ⟨rfl,HJ.out _ _,keepO_bel (belA (belA bR))⟩
theorem flow_box1 {fn:Nat} {w0:World} {J:List (Int × Int)→World→Prop} {R:List (Int × Int)→Int × Int→Prop} {b:Nat} (hT:TakeR fn [.pointer (some ⟨b,0,none⟩)] R w0 J) (g off cap g' off' cap':Nat) (x x':Fv) (bm:Bool) (l l':List (Int × Int)) (W:World) (hx:C5 w0 g off x) (hx':C5 w0 g' off' x') (hJ:J l W)
  (IH0:∀ V,J l V→Calls Tryz.prog 37 #[x.v,x'.v,.bool bm,fnB fn b] V fun e w'=>e=.returned (.tuple #[])∧J l' w'∧KeepO V w') :
  Calls Tryz.prog 37 #[tyV 3 false 0 0 (some ⟨g,off,none⟩) 1 cap,tyV 3 false 0 0 (some ⟨g',off',none⟩) 1 cap',.bool bm,fnB fn b] W fun e w'=>e=.returned (.tuple #[])∧J l' w'∧KeepO W w':=by
 have hJ2:=hT.alloc _ _ (tyO 3 false 0 0 (some ⟨g',off',none⟩) 1 cap') (hT.alloc _ _ (tyO 3 false 0 0 (some ⟨g,off,none⟩) 1 cap) hJ)
 have IH:Hid (∀ V,J l V→Calls Tryz.prog 37 #[x.v,x'.v,.bool bm,fnB fn b] V fun e w'=>e=.returned (.tuple #[])∧J l' w'∧KeepO V w'):=IH0
 have HJ:Hid (J l (World.drew ((W.alloc (tyO 3 false 0 0 (some ⟨g,off,none⟩) 1 cap)).alloc (tyO 3 false 0 0 (some ⟨g',off',none⟩) 1 cap')))):=hT.drew _ _ hJ2
 obtain ⟨hg,p0,p1,p2,p3,p4⟩:=hx.below (hT.bel _ _ hJ)
 obtain ⟨hg',p0',p1',p2',p3',p4'⟩:=hx'.below (hT.bel _ _ hJ)
 clear hJ2 hJ hT IH0 hx hx'
 go_enter Tryz.func37,Tryz.ntmps37
 go_upto_region 3 with fail
 refine wp_region_still_tail 10 (by kernel_rfl) (by kernel_rfl) ?_
 simp only [List.take_succ_cons,List.take_zero,List.drop_succ_cons,List.drop_zero]
 change wpStill _ _ (World.drew _) (fun a'=>wpList _ _ _ _ a' (World.drew _)) _ _
 iterate 10 still_step
 refine wpStill_nil ?_
 go_wp2_with (go_at_call 37;refine (IH.out _ HJ.out).mono ?_;rintro e w1 ⟨rfl,hj1,hk1⟩;have HK1:=jH hk1;clear hk1)
 go_end0
 exact ⟨rfl,hj1,keepO_two (keepO_drew HK1.out)⟩
theorem flow_ref1 {fn:Nat} {w0:World} {J:List (Int × Int)→World→Prop} {R:List (Int × Int)→Int × Int→Prop} {b:Nat} (hT:TakeR fn [.pointer (some ⟨b,0,none⟩)] R w0 J) (m m':Bool) (r r':Int) (g off cap g' off' cap':Nat) (x x':Fv) (bm:Bool) (l l':List (Int × Int)) (W:World) (hx:∀ L V,J L V→KeepT W V→C5 V g off x) (hx':∀ L V,J L V→KeepT W V→C5 V g' off' x') (hJ:J l W) (hR1:R l (r,r')) (hR2:bm=true→R (l++[(r,r')]) (r',r))
  (r0:-9223372036854775808≤r) (r1:r≤9223372036854775807) (s0:-9223372036854775808≤r') (s1:r'≤9223372036854775807)
  (IH0:∀ V,J ((l++[(r,r')])++(if bm then [(r',r)] else [])) V→Calls Tryz.prog 37 #[x.v,x'.v,.bool (bm || m),fnB fn b] V fun e w'=>e=.returned (.tuple #[])∧J l' w'∧KeepO V w') :
  Calls Tryz.prog 37 #[tyV 4 m r 0 (some ⟨g,off,none⟩) 1 cap,tyV 4 m' r' 0 (some ⟨g',off',none⟩) 1 cap',.bool bm,fnB fn b] W fun e w'=>e=.returned (.tuple #[])∧J l' w'∧KeepO W w':=by
 have hJ2:=hT.alloc _ _ (tyO 4 m' r' 0 (some ⟨g',off',none⟩) 1 cap') (hT.alloc _ _ (tyO 4 m r 0 (some ⟨g,off,none⟩) 1 cap) hJ)
 have A1:At ((W.alloc (tyO 4 m r 0 (some ⟨g,off,none⟩) 1 cap)).alloc (tyO 4 m' r' 0 (some ⟨g',off',none⟩) 1 cap')) W.heap.size (Fv.o ⟨4,m,r,0,some ⟨g,off,none⟩,1,cap⟩):=(At.new _ _).alloc _
 have A2:At ((W.alloc (tyO 4 m r 0 (some ⟨g,off,none⟩) 1 cap)).alloc (tyO 4 m' r' 0 (some ⟨g',off',none⟩) 1 cap')) (W.heap.size+1) (Fv.o ⟨4,m',r',0,some ⟨g',off',none⟩,1,cap'⟩):=at_snd _ _ _
 have CT:Hid (Calls Tryz.prog fn (.int .i64 r::.int .i64 r'::[.pointer (some ⟨b,0,none⟩)]).toArray ((W.alloc (tyO 4 m r 0 (some ⟨g,off,none⟩) 1 cap)).alloc (tyO 4 m' r' 0 (some ⟨g',off',none⟩) 1 cap')) fun e w'=>e=.returned (.tuple #[])∧J (l++[(r,r')]) w'∧KeepO ((W.alloc (tyO 4 m r 0 (some ⟨g,off,none⟩) 1 cap)).alloc (tyO 4 m' r' 0 (some ⟨g',off',none⟩) 1 cap')) w'):=hT.call l r r' _ hR1 r0 r1 s0 s1 hJ2
 have CT2:Hid (bm=true→∀ w1,J (l++[(r,r')]) w1→Calls Tryz.prog fn (.int .i64 r'::.int .i64 r::[.pointer (some ⟨b,0,none⟩)]).toArray w1 fun e w'=>e=.returned (.tuple #[])∧J ((l++[(r,r')])++[(r',r)]) w'∧KeepO w1 w'):=fun hb w1 h1=>hT.call (l++[(r,r')]) r' r _ (hR2 hb) s0 s1 r0 r1 h1
 have PC:Hid (∀ L w1,J L w1→KeepT W w1→C5 (World.drew w1) g off x∧C5 (World.drew w1) g' off' x'∧J L (World.drew w1)):=fun L w1 h1 h2=>⟨(hx L w1 h1 h2).drew,(hx' L w1 h1 h2).drew,hT.drew _ _ h1⟩
 have hen:=hT.enters
 unfold Enters at hen
 have IH:=jH IH0
 clear hJ2 hJ hT hx hx' r0 r1 s0 s1 IH0 hR1 hR2
 cases bm with
 | false =>
  go_enter Tryz.func37,Tryz.ntmps37
  go_wp2_with fail
  refine CT.out.mono ?_
  rintro e w1 ⟨rfl,hj1,hko⟩
  have hk1:=hko.kt
  have HKO:=jH (keepO_two hko)
  clear hko
  obtain ⟨-,q0,q1,q2,q3,q4⟩:=(hk1 _ _ A1).ty
  obtain ⟨-,u0,u1,u2,u3,u4⟩:=(hk1 _ _ A2).ty
  obtain ⟨⟨hg,p0,p1,p2,p3,p4⟩,⟨hg',p0',p1',p2',p3',p4'⟩,hj2⟩:=PC.out _ w1 hj1 (keepT_two hk1)
  have HJ:=jH hj2
  clear hj1 hj2 hk1
  go_upto_region 8 with fail
  refine wp_region_still_tail 14 (by kernel_rfl) (by kernel_rfl) ?_
  simp only [List.take_succ_cons,List.take_zero,List.drop_succ_cons,List.drop_zero]
  change wpStill _ _ (World.drew _) (fun a'=>wpList _ _ _ _ a' (World.drew _)) _ _
  iterate 14 still_step
  refine wpStill_nil ?_
  go_wp2_with (go_at_call 37;refine (IH.out _ (by rw [if_neg (by decide),List.append_nil];exact HJ.out)).mono ?_;rintro e w2 ⟨rfl,hj2,hk2⟩;have HK2:=jH (HKO.out.trans (keepO_drew hk2));clear hk2)
  go_end0
  exact ⟨rfl,hj2,HK2.out⟩
 | true =>
  go_enter Tryz.func37,Tryz.ntmps37
  go_wp2_with fail
  refine CT.out.mono ?_
  rintro e w1 ⟨rfl,hj1,hko⟩
  have hk1:=hko.kt
  have HKO:=jH (keepO_two hko)
  clear hko
  have B1:=hk1 _ _ A1
  have B2:=hk1 _ _ A2
  obtain ⟨-,q0,q1,q2,q3,q4⟩:=B1.ty
  obtain ⟨-,u0,u1,u2,u3,u4⟩:=B2.ty
  have C2:=jH (CT2.out (by first|rfl|trivial) w1 hj1)
  have KT:=jH (keepT_two hk1)
  clear hj1 hk1
  go_wp2_with fail
  refine C2.out.mono ?_
  rintro e w2 ⟨rfl,hj1,hko⟩
  have hk1:=hko.kt
  have HKO2:=jH (HKO.out.trans hko)
  clear hko
  clear q0 q1 q2 q3 q4 u0 u1 u2 u3 u4
  obtain ⟨-,q0,q1,q2,q3,q4⟩:=(hk1 _ _ B1).ty
  obtain ⟨-,u0,u1,u2,u3,u4⟩:=(hk1 _ _ B2).ty
  obtain ⟨⟨hg,p0,p1,p2,p3,p4⟩,⟨hg',p0',p1',p2',p3',p4'⟩,hj2⟩:=PC.out _ w2 hj1 (KT.out.trans hk1)
  have HJ:=jH hj2
  clear hj1 hj2 hk1
  go_upto_region 8 with fail
  refine wp_region_still_tail 14 (by kernel_rfl) (by kernel_rfl) ?_
  simp only [List.take_succ_cons,List.take_zero,List.drop_succ_cons,List.drop_zero]
  change wpStill _ _ (World.drew _) (fun a'=>wpList _ _ _ _ a' (World.drew _)) _ _
  iterate 14 still_step
  refine wpStill_nil ?_
  go_wp2_with (go_at_call 37;refine (IH.out _ (by simp only [if_true];exact HJ.out)).mono ?_;rintro e w3 ⟨rfl,hj2,hk2⟩;have HK2:=jH (HKO2.out.trans (keepO_drew hk2));clear hk2)
  go_end0
  exact ⟨rfl,hj2,HK2.out⟩
theorem flow_any1 {fn:Nat} {w0:World} {J:List (Int × Int)→World→Prop} {R:List (Int × Int)→Int × Int→Prop} {b:Nat} (hT:TakeR fn [.pointer (some ⟨b,0,none⟩)] R w0 J):∀ (c d:Ch) (f f':Fv) (bm:Bool) (l:List (Int × Int)) (W:World),c.ok 32→alikeB c d=true→okL R l (asksL bm c d)→TyAt w0 f c.ty→TyAt w0 f' d.ty→J l W →
  Calls Tryz.prog 37 #[f.v,f'.v,.bool bm,fnB fn b] W fun e w'=>e=.returned (.tuple #[])∧J (l++asksL bm c d) w'∧KeepO W w':=by
 intro c
 induction c with
 | leaf k s =>
  intro d f f' bm l W hc ha hl h h' hJ
  cases d with
  | leaf k' s' =>
   obtain ⟨a,cap,rfl,-⟩:=h.leaf
   obtain ⟨a',cap',rfl,-⟩:=h'.leaf
   have hk:¬ (k:Int)=3∧¬ (k:Int)=4:=by
    have:(k=1∨k=2)∧s=0∨k=5∧0≤s∧s<32:=hc
    omega
   rw [show asksL bm (.leaf k s) (.leaf k' s')=[] from rfl,List.append_nil]
   exact flow_leaf1 hT k s s' a a' cap cap' k' bm l W hk.1 hk.2 hJ
  | box d=>cases ha
  | ref m r d=>cases ha
 | box c ih =>
  intro d f f' bm l W hc ha hl h h' hJ
  cases d with
  | leaf k' s'=>cases ha
  | box d =>
   obtain ⟨g,off,cap,x,rfl,hx,tx⟩:=h.box
   obtain ⟨g',off',cap',x',rfl,hx',tx'⟩:=h'.box
   exact flow_box1 hT g off cap g' off' cap' x x' bm l _ W hx hx' hJ (fun V hV=>ih d x x' bm l V hc ha hl tx tx' hV)
  | ref m r d=>cases ha
 | ref m r c ih =>
  intro d f f' bm l W hc ha hl h h' hJ
  cases d with
  | leaf k' s'=>cases ha
  | box d=>cases ha
  | ref m' r' d =>
   obtain ⟨g,off,cap,x,rfl,hx,tx,r0,r1⟩:=h.ref
   obtain ⟨g',off',cap',x',rfl,hx',tx',s0,s1⟩:=h'.ref
   have ha':alikeB c d=true:=by simp only [alikeB,Bool.and_eq_true] at ha;exact ha.2
   refine flow_ref1 hT m m' r r' g off cap g' off' cap' x x' bm l _ W (fun L V hV _=>hx.below (hT.bel _ _ hV)) (fun L V hV _=>hx'.below (hT.bel _ _ hV)) hJ hl.1 (fun hb=>by subst hb;exact hl.2.1) r0 r1 s0 s1 (fun V hV=>?_)
   have h2:okL R ((l++[(r,r')])++(if bm then [(r',r)] else [])) (asksL (bm || m) c d):=okL_app _ _ _ hl.2
   have:=ih d x x' (bm || m) _ V hc.2 ha' h2 tx tx' hV
   rw [show l++asksL bm (.ref m r c) (.ref m' r' d)=(l++[(r,r')])++(if bm then [(r',r)] else [])++asksL (bm || m) c d from by simp [asksL]]
   exact this
theorem flow_leaf2 {fn:Nat} {w0:World} {J:List (Int × Int)→World→Prop} {R:List (Int × Int)→Int × Int→Prop} {b b2:Nat} (hT:TakeR fn [.pointer (some ⟨b,0,none⟩),.pointer (some ⟨b2,0,none⟩)] R w0 J) (k:Nat) (s s':Int) (a a':Option Addr) (cap cap' k':Nat) (bm:Bool) (l:List (Int × Int)) (W:World) (k3:¬ (k:Int)=3) (k4:¬ (k:Int)=4) (hJ:J l W) :
  Calls Tryz.prog 37 #[tyV k false 0 s a 0 cap,tyV k' false 0 s' a' 0 cap',.bool bm,fnC fn b b2] W fun e w'=>e=.returned (.tuple #[])∧J l w'∧KeepO W w':=by
 have HJ:Hid (∀ o o',J l ((W.alloc o).alloc o')):=fun o o'=>hT.alloc _ _ _ (hT.alloc _ _ _ hJ)
 clear hJ hT
 go_enter Tryz.func37,Tryz.ntmps37
 go_wp2_with fail
 go_end0
 exact ⟨rfl,HJ.out _ _,keepO_bel (belA (belA bR))⟩
theorem flow_ref2 {fn:Nat} {w0:World} {J:List (Int × Int)→World→Prop} {R:List (Int × Int)→Int × Int→Prop} {b b2:Nat} (hT:TakeR fn [.pointer (some ⟨b,0,none⟩),.pointer (some ⟨b2,0,none⟩)] R w0 J) (m m':Bool) (r r':Int) (g off cap g' off' cap':Nat) (x x':Fv) (bm:Bool) (l l':List (Int × Int)) (W:World) (hx:∀ L V,J L V→KeepT W V→C5 V g off x) (hx':∀ L V,J L V→KeepT W V→C5 V g' off' x') (hJ:J l W) (hR1:R l (r,r')) (hR2:bm=true→R (l++[(r,r')]) (r',r))
  (r0:-9223372036854775808≤r) (r1:r≤9223372036854775807) (s0:-9223372036854775808≤r') (s1:r'≤9223372036854775807)
  (IH0:∀ V,J ((l++[(r,r')])++(if bm then [(r',r)] else [])) V→Calls Tryz.prog 37 #[x.v,x'.v,.bool (bm || m),fnC fn b b2] V fun e w'=>e=.returned (.tuple #[])∧J l' w'∧KeepO V w') :
  Calls Tryz.prog 37 #[tyV 4 m r 0 (some ⟨g,off,none⟩) 1 cap,tyV 4 m' r' 0 (some ⟨g',off',none⟩) 1 cap',.bool bm,fnC fn b b2] W fun e w'=>e=.returned (.tuple #[])∧J l' w'∧KeepO W w':=by
 have hJ2:=hT.alloc _ _ (tyO 4 m' r' 0 (some ⟨g',off',none⟩) 1 cap') (hT.alloc _ _ (tyO 4 m r 0 (some ⟨g,off,none⟩) 1 cap) hJ)
 have A1:At ((W.alloc (tyO 4 m r 0 (some ⟨g,off,none⟩) 1 cap)).alloc (tyO 4 m' r' 0 (some ⟨g',off',none⟩) 1 cap')) W.heap.size (Fv.o ⟨4,m,r,0,some ⟨g,off,none⟩,1,cap⟩):=(At.new _ _).alloc _
 have A2:At ((W.alloc (tyO 4 m r 0 (some ⟨g,off,none⟩) 1 cap)).alloc (tyO 4 m' r' 0 (some ⟨g',off',none⟩) 1 cap')) (W.heap.size+1) (Fv.o ⟨4,m',r',0,some ⟨g',off',none⟩,1,cap'⟩):=at_snd _ _ _
 have CT:Hid (Calls Tryz.prog fn (.int .i64 r::.int .i64 r'::[.pointer (some ⟨b,0,none⟩),.pointer (some ⟨b2,0,none⟩)]).toArray ((W.alloc (tyO 4 m r 0 (some ⟨g,off,none⟩) 1 cap)).alloc (tyO 4 m' r' 0 (some ⟨g',off',none⟩) 1 cap')) fun e w'=>e=.returned (.tuple #[])∧J (l++[(r,r')]) w'∧KeepO ((W.alloc (tyO 4 m r 0 (some ⟨g,off,none⟩) 1 cap)).alloc (tyO 4 m' r' 0 (some ⟨g',off',none⟩) 1 cap')) w'):=hT.call l r r' _ hR1 r0 r1 s0 s1 hJ2
 have CT2:Hid (bm=true→∀ w1,J (l++[(r,r')]) w1→Calls Tryz.prog fn (.int .i64 r'::.int .i64 r::[.pointer (some ⟨b,0,none⟩),.pointer (some ⟨b2,0,none⟩)]).toArray w1 fun e w'=>e=.returned (.tuple #[])∧J ((l++[(r,r')])++[(r',r)]) w'∧KeepO w1 w'):=fun hb w1 h1=>hT.call (l++[(r,r')]) r' r _ (hR2 hb) s0 s1 r0 r1 h1
 have PC:Hid (∀ L w1,J L w1→KeepT W w1→C5 (World.drew w1) g off x∧C5 (World.drew w1) g' off' x'∧J L (World.drew w1)):=fun L w1 h1 h2=>⟨(hx L w1 h1 h2).drew,(hx' L w1 h1 h2).drew,hT.drew _ _ h1⟩
 have hen:=hT.enters
 unfold Enters at hen
 have IH:=jH IH0
 clear hJ2 hJ hT hx hx' r0 r1 s0 s1 IH0 hR1 hR2
 cases bm with
 | false =>
  go_enter Tryz.func37,Tryz.ntmps37
  go_wp2_with fail
  refine CT.out.mono ?_
  rintro e w1 ⟨rfl,hj1,hko⟩
  have hk1:=hko.kt
  have HKO:=jH (keepO_two hko)
  clear hko
  obtain ⟨-,q0,q1,q2,q3,q4⟩:=(hk1 _ _ A1).ty
  obtain ⟨-,u0,u1,u2,u3,u4⟩:=(hk1 _ _ A2).ty
  obtain ⟨⟨hg,p0,p1,p2,p3,p4⟩,⟨hg',p0',p1',p2',p3',p4'⟩,hj2⟩:=PC.out _ w1 hj1 (keepT_two hk1)
  have HJ:=jH hj2
  clear hj1 hj2 hk1
  go_upto_region 8 with fail
  refine wp_region_still_tail 14 (by kernel_rfl) (by kernel_rfl) ?_
  simp only [List.take_succ_cons,List.take_zero,List.drop_succ_cons,List.drop_zero]
  change wpStill _ _ (World.drew _) (fun a'=>wpList _ _ _ _ a' (World.drew _)) _ _
  iterate 14 still_step
  refine wpStill_nil ?_
  go_wp2_with (go_at_call 37;refine (IH.out _ (by rw [if_neg (by decide),List.append_nil];exact HJ.out)).mono ?_;rintro e w2 ⟨rfl,hj2,hk2⟩;have HK2:=jH (HKO.out.trans (keepO_drew hk2));clear hk2)
  go_end0
  exact ⟨rfl,hj2,HK2.out⟩
 | true =>
  go_enter Tryz.func37,Tryz.ntmps37
  go_wp2_with fail
  refine CT.out.mono ?_
  rintro e w1 ⟨rfl,hj1,hko⟩
  have hk1:=hko.kt
  have HKO:=jH (keepO_two hko)
  clear hko
  have B1:=hk1 _ _ A1
  have B2:=hk1 _ _ A2
  obtain ⟨-,q0,q1,q2,q3,q4⟩:=B1.ty
  obtain ⟨-,u0,u1,u2,u3,u4⟩:=B2.ty
  have C2:=jH (CT2.out (by first|rfl|trivial) w1 hj1)
  have KT:=jH (keepT_two hk1)
  clear hj1 hk1
  go_wp2_with fail
  refine C2.out.mono ?_
  rintro e w2 ⟨rfl,hj1,hko⟩
  have hk1:=hko.kt
  have HKO2:=jH (HKO.out.trans hko)
  clear hko
  clear q0 q1 q2 q3 q4 u0 u1 u2 u3 u4
  obtain ⟨-,q0,q1,q2,q3,q4⟩:=(hk1 _ _ B1).ty
  obtain ⟨-,u0,u1,u2,u3,u4⟩:=(hk1 _ _ B2).ty
  obtain ⟨⟨hg,p0,p1,p2,p3,p4⟩,⟨hg',p0',p1',p2',p3',p4'⟩,hj2⟩:=PC.out _ w2 hj1 (KT.out.trans hk1)
  have HJ:=jH hj2
  clear hj1 hj2 hk1
  go_upto_region 8 with fail
  refine wp_region_still_tail 14 (by kernel_rfl) (by kernel_rfl) ?_
  simp only [List.take_succ_cons,List.take_zero,List.drop_succ_cons,List.drop_zero]
  change wpStill _ _ (World.drew _) (fun a'=>wpList _ _ _ _ a' (World.drew _)) _ _
  iterate 14 still_step
  refine wpStill_nil ?_
  go_wp2_with (go_at_call 37;refine (IH.out _ (by simp only [if_true];exact HJ.out)).mono ?_;rintro e w3 ⟨rfl,hj2,hk2⟩;have HK2:=jH (HKO2.out.trans (keepO_drew hk2));clear hk2)
  go_end0
  exact ⟨rfl,hj2,HK2.out⟩
theorem Tryz.info36:(Tryz.prog.info? 36).map (fun i=>(i.zero,i.size,i.bytes))=some (some (.agg #[.int .i64 0,.int .i64 0]),2,16):=by kernel_rfl
theorem newsP (V:World) (x y:Value) (t:Nat):∀ (j:Nat) (u:Value),([x,y]:List Value)[j]?=some u→(V.alloc (.cells #[x,y] t)).cell? ((⟨V.heap.size,0,none⟩:Addr).add j)=some u:=fun j u hu =>
 World.news_of_block (cs:=#[x,y]) (At.new V (.cells #[x,y] t)) j u hu
theorem keepO_grown {W W':World} {B s n:Nat} {v:Value} {xs:List Value} (h:W.ownsRow B 36 s v n xs) (hg:W.grownBy W' v.ownBlock):KeepO W W':=fun i t cs h1 h2 hA=>hA.grown hg (own_ne h hA (fun e=>h2 e.symm))
theorem at_type {W:World} {i b t u:Nat} {cs ds:Array Value} (h:At W i (.cells cs t)) (k:At W b (.cells ds u)) (e:i=b):t=u:=by
 subst e
 unfold At at h k
 rw [h] at k
 cases k
 rfl
def cC (l:List (Int × Int)):List Value:=l.flatMap fun p=>[.int .i64 p.1,.int .i64 p.2]
theorem cC_snoc (l:List (Int × Int)) (r s:Int):cC (l++[(r,s)])=cC l++[.int .i64 r,.int .i64 s]:=by simp [cC,List.flatMap_append]
def JL (w0:World) (b:Nat) (l:List (Int × Int)) (W:World):Prop:=∃ v,At W b (One v 28)∧W.ownsRow w0.heap.size 36 2 v l.length (cC l)∧Below w0.heap.size w0 W∧w0.heap.size≤b
theorem takeL (w0:World) (b:Nat):TakeR 57 [.pointer (some ⟨b,0,none⟩)] (fun l _=>l.length≤100000) w0 (JL w0 b) where
 enters:=fun args W=>by kernel_rfl
 keep:=fun l W W' ⟨v,h1,h2,h3,h4⟩ k=>⟨v,h1.below k,own_bel h2 k,jB h3 k,h4⟩
 bel:=fun l W ⟨v,h1,h2,h3,h4⟩=>h3
 call:=by
  rintro l r s W hl - - - - ⟨v,hA,hO,hB,hb⟩
  obtain ⟨i0,hi0,hz0,hz1,hz2⟩:=info_parts Tryz.info36
  obtain ⟨a,cap,rfl⟩:=own_sl hO
  show Calls Tryz.prog 57 #[.int .i64 r,.int .i64 s,.pointer (some ⟨b,0,none⟩)] W _
  have hsz:=hB.size
  have HO:=jH hO
  have HA:=jH hA
  have HB:=jH hB
  obtain ⟨c0,f0⟩:=hA.one
  have hlt:=hA.lt
  clear hA hO hB
  go_enter Tryz.func57,Tryz.ntmps57
  go_wp2_with (at_builtin;refine wpList_append_own _ rfl _ _ 28 rfl w0.heap.size 36 i0 (.agg #[.int .i64 0,.int .i64 0]) 2 16 Tryz.underlying28 hi0 hz0 hz1 hz2 rfl (by decide) (.slice a l.length cap) l.length _ rfl (HO.out.alloc _) ⟨W.heap.size,0,none⟩ 1 1 [.int .i64 r,.int .i64 s] rfl rfl (newsP W _ _ 36) (fun u hu=>by simp at hu;rcases hu with rfl|rfl <;> rfl) (by unfold maxLen;omega) (by omega) (by simp only [World.size_alloc];omega) ?_;intro v' w5 ho hg hn;obtain ⟨a6,c6,ev⟩:=own_sl ho;subst ev;have H1:=jH (At.grown (HA.out.alloc (.cells #[.int .i64 r,.int .i64 s] 36)) hg (own_ne (HO.out.alloc (.cells #[.int .i64 r,.int .i64 s] 36)) (HA.out.alloc _) (by decide)));have H2:=jH (keepO_grown (HO.out.alloc (.cells #[.int .i64 r,.int .i64 s] 36)) hg);have H3:=jH (Below.grown (HB.out.alloc hsz (.cells #[.int .i64 r,.int .i64 s] 36)) hg (HB.out.alloc hsz (.cells #[.int .i64 r,.int .i64 s] 36)).size (fun k hk=>own_lo HO.out k hk));obtain ⟨c1,f1⟩:=H1.out.one;have hlt5:=H1.out.lt;have HO2:=jH ho;clear ho hg hn)
  go_end0
  refine ⟨rfl,⟨_,H1.out.setOne _,?_,H3.out.setCell hb _,hb⟩,fun i t cs t1 t2 x=>(H2.out i t cs t1 t2 (x.alloc _)).set (fun e=>t1 (at_type (H2.out i t cs t1 t2 (x.alloc _)) H1.out e)) _⟩
  rw [List.length_append,cC_snoc]
  exact own_set HO2.out H1.out (by decide) _
theorem listed_c {fn:Nat} {b1 b2:Nat} (w:World) (L:List (Int × Int)) (hen:Enters fn) (hC:∀ W b,JL w b [] W→Calls Tryz.prog fn #[fnB 57 b,.pointer (some ⟨b1,0,none⟩),.pointer (some ⟨b2,0,none⟩)] W fun e w'=>e=.returned (.tuple #[])∧JL w b L w') :
  Calls Tryz.prog 27 #[fnC fn b1 b2] w fun e w'=>∃ v,e=.returned v∧w'.ownsRow w.heap.size 36 2 v L.length (cC L)∧Below w.heap.size w w':=by
 have C:=jH (hC (w.alloc (One (.slice none 0 0) 28)) w.heap.size ⟨_,At.new w _,World.ownsRow_nil _ _ _ _,belA bR,Nat.le_refl _⟩)
 unfold Enters at hen
 clear hC
 go_enter Tryz.func27,Tryz.ntmps27
 go_wp2_with fail
 refine C.out.mono ?_
 rintro e w1 ⟨rfl,v,hA,hO,hB,-⟩
 obtain ⟨c0,f0⟩:=hA.one
 have HO:=jH hO
 have HB:=jH hB
 clear hA hO hB
 go_wp2_with fail
 go_ret
 exact ⟨_,rfl,HO.out,HB.out⟩
theorem mayBe_any (t:Ty) (f:Fv) (w:World) (h:TyAt w f t):Calls Tryz.prog 35 #[f.v] w fun e w'=>e=.returned (.bool (isT t))∧Below w.heap.size w w':=by
 obtain ⟨er,her,C⟩:∃ er:Int,(decide (er=0))=isT t∧Calls Tryz.prog 69 #[f.v] (w.alloc f.o) fun e w'=>∃ f':Fv,e=.returned (.tuple #[f'.v,.int .i64 er])∧Below (w.alloc f.o).heap.size (w.alloc f.o) w':=by
  cases hb:isT t with
  | true =>
   obtain ⟨c,rfl,hc⟩:=ok_of hb
   exact ⟨0,rfl,(Own_yes c f _ hc (h.bel (bR.alloc (Nat.le_refl _) _))).mono fun e w' ⟨f',h1,h2⟩=>⟨f',h1,h2.bel⟩⟩
  | false=>exact ⟨2,rfl,(Own_no t f _ hb (h.bel (bR.alloc (Nat.le_refl _) _))).mono fun e w' ⟨f',h1,h2⟩=>⟨f',h1,h2.bel⟩⟩
 have C':=jH C
 rw [← her]
 clear her C h
 go_enter Tryz.func35,Tryz.ntmps35
 go_wp2_with (go_at_call 69;refine C'.out.mono ?_;rintro e w1 ⟨⟨fk,fm,fr,fs,fa,fn,fc⟩,rfl,hb1⟩;have HB1:=jH hb1;clear hb1)
 go_ret
 exact ⟨by by_cases h:er=0 <;> simp [h],belA (below1 HB1.out)⟩
def FlIs (t u:Ty) (L:List (Int × Int)) (er:Int):Prop :=
 (isT t=false∨isT u=false)∧L=[]∧er=2∨∃ c d,t=c.ty∧u=d.ty∧Ok c∧Ok d∧(alikeB c d=false∧L=[]∧er=150∨alikeB c d=true∧L=asksL false c d∧er=0)
theorem fl_ex (t u:Ty):∃ L er,FlIs t u L er:=by
 cases h1:isT t with
 | false=>exact ⟨[],2,.inl ⟨.inl h1,rfl,rfl⟩⟩
 | true =>
  cases h2:isT u with
  | false=>exact ⟨[],2,.inl ⟨.inr h2,rfl,rfl⟩⟩
  | true =>
   obtain ⟨c,rfl,hc⟩:=ok_of h1
   obtain ⟨d,rfl,hd⟩:=ok_of h2
   cases h3:alikeB c d with
   | false=>exact ⟨[],150,.inr ⟨c,d,rfl,rfl,hc,hd,.inl ⟨h3,rfl,rfl⟩⟩⟩
   | true=>exact ⟨_,0,.inr ⟨c,d,rfl,rfl,hc,hd,.inr ⟨h3,rfl,rfl⟩⟩⟩
theorem ty_old {w:World} {b:Nat} {f:Fv} (hA:At w b f.o) {W:World} (hB:Below w.heap.size w W):C5 W b 0 f:=(hA.below hB).ty
theorem flows1 (c d:Ch) (f f':Fv) (w:World) (b1 b2:Nat) (hc:c.ok 32) (hl:c.depth≤100) (ha:alikeB c d=true) (h:TyAt w f c.ty) (h':TyAt w f' d.ty) (hA:At w b1 f.o) (hA':At w b2 f'.o) (W:World) (b:Nat) (hJ:JL w b [] W) :
  Calls Tryz.prog 36 #[fnB 57 b,.pointer (some ⟨b1,0,none⟩),.pointer (some ⟨b2,0,none⟩)] W fun e w'=>e=.returned (.tuple #[])∧JL w b (asksL false c d) w':=by
 have C:=jH (flow_any1 (takeL w b) c d f f' false [] W hc ha (okL_len _ _ _ (by have:=asksL_len false c d;simp;omega)) h h' hJ)
 have hB:=(takeL w b).bel _ _ hJ
 obtain ⟨fk,fm,fr,fs,fa,fn,fc⟩:=f
 obtain ⟨gk,gm,gr,gs,ga,gn,gc⟩:=f'
 obtain ⟨-,p0,p1,p2,p3,p4⟩:=ty_old hA hB
 obtain ⟨-,q0,q1,q2,q3,q4⟩:=ty_old hA' hB
 clear hB hJ hA hA' h h'
 go_enter Tryz.func36,Tryz.ntmps36
 go_wp2_with (go_at_call 37;refine C.out.mono ?_;rintro e w1 ⟨rfl,hj,-⟩;have HJ:=jH hj;clear hj)
 go_end0
 exact ⟨rfl,by have:=HJ.out;simpa using this⟩
theorem Flows_any (t u:Ty) (L:List (Int × Int)) (er:Int) (hF:FlIs t u L er) (f f':Fv) (w:World) (h:TyAt w f t) (h':TyAt w f' u) :
  Calls Tryz.prog 15 #[f.v,f'.v] w fun e w'=>∃ v,e=.returned (.tuple #[v,.int .i64 er])∧w'.ownsRow w.heap.size 36 2 v L.length (cC L)∧Below w.heap.size w w':=by
 have B2:Below w.heap.size w ((w.alloc f.o).alloc f'.o):=belA (belA bR)
 have A1:At ((w.alloc f.o).alloc f'.o) w.heap.size f.o:=(At.new _ _).alloc _
 have A2:At ((w.alloc f.o).alloc f'.o) (w.heap.size+1) f'.o:=at_snd _ _ _
 have hC1:=jH (fun (V:World) (hV:Below w.heap.size w V)=>mayBe_any t f V (h.bel hV))
 have hC2:=jH (fun (V:World) (hV:Below w.heap.size w V)=>mayBe_any u f' V (h'.bel hV))
 rcases hF with ⟨hno,rfl,rfl⟩|⟨c,d,rfl,rfl,hc,hd,hA⟩
 ·cases e1:isT t with
  | false =>
   rw [e1] at hC1
   have C1:=jH (hC1.out _ B2)
   obtain ⟨fk,fm,fr,fs,fa,fn,fc⟩:=f
   obtain ⟨gk,gm,gr,gs,ga,gn,gc⟩:=f'
   have HB2:=jH B2
   clear hno h h' hC1 hC2 A1 A2 B2
   go_enter Tryz.func15,Tryz.ntmps15
   go_wp2_with (go_at_call 35;refine C1.out.mono ?_;rintro e w1 ⟨rfl,hb⟩;have HB3:=jH (jB HB2.out hb);clear hb)
   go_ret2
   exact ⟨_,rfl,World.ownsRow_nil _ _ _ _,HB3.out⟩
  | true =>
   have e2:isT u=false:=by rcases hno with h|h;rw [e1] at h;cases h;exact h
   rw [e1] at hC1
   rw [e2] at hC2
   have C1:=jH (hC1.out _ B2)
   obtain ⟨fk,fm,fr,fs,fa,fn,fc⟩:=f
   obtain ⟨gk,gm,gr,gs,ga,gn,gc⟩:=f'
   have HB2:=jH B2
   have HA2:=jH A2
   clear hno h h' hC1 A1 A2 B2
   go_enter Tryz.func15,Tryz.ntmps15
   go_wp2_with (go_at_call 35;refine C1.out.mono ?_;rintro e w1 ⟨rfl,hb⟩;have HB3:=jH (jB HB2.out hb);obtain ⟨-,q0,q1,q2,q3,q4⟩:=ty_old HA2.out hb;have C2:=jH (hC2.out _ HB3.out);clear hb C1)
   go_wp2_with (go_at_call 35;refine C2.out.mono ?_;rintro e w2 ⟨rfl,hb⟩;have HB4:=jH (jB HB3.out hb);clear hb)
   go_ret2
   exact ⟨_,rfl,World.ownsRow_nil _ _ _ _,HB4.out⟩
 ·have e1:=hc.is
  have e2:=hd.is
  rw [e1] at hC1
  rw [e2] at hC2
  have C1:=jH (hC1.out _ B2)
  have hC3:=jH (fun (V:World) (hV:Below w.heap.size w V)=>Alike_yes c d f f' V (h.bel hV) (h'.bel hV) hc hd)
  have HL:=jH (fun (V:World) (hV:Below ((w.alloc f.o).alloc f'.o).heap.size ((w.alloc f.o).alloc f'.o) V) (ha:alikeB c d=true)=>listed_c (fn:=36) (b1:=w.heap.size) (b2:=w.heap.size+1) V (asksL false c d) (fun args W=>by kernel_rfl) (fun W b hJ=>flows1 c d f f' V w.heap.size (w.heap.size+1) hc.1 (by have:=hc.2;omega) ha (h.bel (jB B2 hV)) (h'.bel (jB B2 hV)) (A1.below hV) (A2.below hV) W b hJ))
  obtain ⟨fk,fm,fr,fs,fa,fn,fc⟩:=f
  obtain ⟨gk,gm,gr,gs,ga,gn,gc⟩:=f'
  have HB2:=jH B2
  have HA1:=jH A1
  have HA2:=jH A2
  clear h h' hC1 A1 A2 B2
  go_enter Tryz.func15,Tryz.ntmps15
  go_wp2_with (go_at_call 35;refine C1.out.mono ?_;rintro e w1 ⟨rfl,hb⟩;have HB3:=jH (jB HB2.out hb);have HD3:=jH hb;obtain ⟨-,q0,q1,q2,q3,q4⟩:=ty_old HA2.out hb;have C2:=jH (hC2.out _ HB3.out);clear hb C1)
  go_wp2_with (go_at_call 35;refine C2.out.mono ?_;rintro e w2 ⟨rfl,hb⟩;have HB4:=jH (jB HB3.out hb);have HD4:=jH (jB HD3.out hb);clear hb q0 q1 q2 q3 q4 C2;obtain ⟨-,q0,q1,q2,q3,q4⟩:=ty_old HA2.out HD4.out;obtain ⟨-,p0,p1,p2,p3,p4⟩:=ty_old HA1.out HD4.out;have C3:=jH (hC3.out _ HB4.out))
  rcases hA with ⟨ha,rfl,rfl⟩|⟨ha,rfl,rfl⟩
  ·rw [ha] at C3
   go_wp2_with (go_at_call 21;refine C3.out.mono ?_;rintro e w3 ⟨rfl,hb⟩;have HB5:=jH (jB HB4.out hb);clear hb)
   go_ret2
   exact ⟨_,rfl,World.ownsRow_nil _ _ _ _,HB5.out⟩
  ·rw [ha] at C3
   go_wp2_with (go_at_call 21;refine C3.out.mono ?_;rintro e w3 ⟨rfl,hb⟩;have HB5:=jH (jB HB4.out hb);have C4:=jH (HL.out w3 (jB HD4.out hb) ha);clear hb C3)
   go_wp2_with (go_at_call 27;refine C4.out.mono ?_;rintro e w4 ⟨v,rfl,hO,hb⟩;have HB6:=jH (jB HB5.out hb);have HO:=jH (own_low hO HB5.out.size);clear hb hO)
   go_ret2
   exact ⟨_,rfl,HO.out,HB6.out⟩
structure PrR (w:World) (a:Option Addr) (n cap:Nat) (l:List (Int × Int)):Prop where
 len:n=l.length
 big:n≤maxLen
 cells:l≠[]→∃ g off,a=some ⟨g,off,none⟩∧g<w.heap.size∧∀ i p,l[i]?=some p→w.cell? ⟨g,off+i*2,none⟩=some (.int .i64 p.1)∧w.cell? ⟨g,off+i*2+1,none⟩=some (.int .i64 p.2)
theorem PrR.bel {w w':World} {a:Option Addr} {n cap:Nat} {l:List (Int × Int)} (h:PrR w a n cap l) (hb:Below w.heap.size w w'):PrR w' a n cap l:=⟨h.len,h.big,fun hl=>by
 obtain ⟨g,off,h1,h2,h3⟩:=h.cells hl
 exact ⟨g,off,h1,Nat.lt_of_lt_of_le h2 hb.size,fun i p hp=>⟨(hb.cell (p:=⟨g,off+i*2,none⟩) h2).trans (h3 i p hp).1,(hb.cell (p:=⟨g,off+i*2+1,none⟩) h2).trans (h3 i p hp).2⟩⟩⟩
theorem PrR.nth {w:World} {a:Option Addr} {n cap:Nat} {l:List (Int × Int)} (h:PrR w a n cap l) {i:Nat} {p:Int × Int} (hp:l[i]?=some p):∃ g off,a=some ⟨g,off,none⟩∧g<w.heap.size∧w.cell? ⟨g,off+i*2,none⟩=some (.int .i64 p.1)∧w.cell? ⟨g,off+i*2+1,none⟩=some (.int .i64 p.2):=by
 obtain ⟨g,off,h1,h2,h3⟩:=h.cells (fun e=>by subst e;simp at hp)
 exact ⟨g,off,h1,h2,h3 i p hp⟩
theorem cC_get (l:List (Int × Int)) (i:Nat) (p:Int × Int) (hp:l[i]?=some p):(cC l)[i*2]?=some (.int .i64 p.1)∧(cC l)[i*2+1]?=some (.int .i64 p.2):=by
 induction l generalizing i with
 | nil=>simp at hp
 | cons q l ih =>
  cases i with
  | zero=>simp at hp;subst hp;exact ⟨rfl,rfl⟩
  | succ i =>
   have:=ih i (by simpa using hp)
   rw [show (i+1)*2=i*2+1+1 by omega]
   exact this
theorem PrR.own {w:World} {B n:Nat} {v:Value} {l:List (Int × Int)} (h:w.ownsRow B 36 2 v l.length (cC l)):∃ a cap,v=.slice a l.length cap∧PrR w a l.length cap l:=by
 obtain ⟨a,cap,rfl⟩:=own_sl h
 refine ⟨a,cap,rfl,rfl,?_,fun hl=>?_⟩
 ·rcases h.2 with ⟨e,h0⟩|⟨g,cap',cur,e,-,-,h1,h2,-⟩
  ·omega
  ·omega
 ·have hn:0<l.length:=List.length_pos_iff.2 hl
  obtain ⟨g,cap',e⟩:=own_is h hn
  cases e
  obtain ⟨p0,h0⟩:∃ p,l[0]?=some p:=⟨_,List.getElem?_eq_getElem hn⟩
  refine ⟨g,0,rfl,(own_cell h (cC_get l 0 p0 h0).1).2,fun i p hp=>?_⟩
  rw [Nat.zero_add]
  exact ⟨(own_cell h (cC_get l i p hp).1).1,(own_cell h (cC_get l i p hp).2).1⟩
def blwB (n k:Int):Bool:=decide (0≤k) && decide (k<n)
theorem isBelow_any (n k:Int) (w:World):Calls Tryz.prog 46 #[.int .i64 n,.int .i64 k] w fun e w'=>e=.returned (.bool (blwB n k))∧w'=w:=by
 by_cases h0:0≤k
 ·by_cases h1:k<n
  ·have e:blwB n k=true:=by simp [blwB,h0,h1]
   rw [e]
   clear e
   go_enter Tryz.func46,Tryz.ntmps46
   go_wp2_with fail
   go_ret
   exact ⟨rfl,rfl⟩
  ·have e:blwB n k=false:=by simp [blwB,h1]
   rw [e]
   clear e
   go_enter Tryz.func46,Tryz.ntmps46
   go_wp2_with fail
   go_ret
   exact ⟨rfl,rfl⟩
 ·have e:blwB n k=false:=by simp [blwB,h0]
  rw [e]
  clear e
  go_enter Tryz.func46,Tryz.ntmps46
  go_wp2_with fail
  go_ret
  exact ⟨rfl,rfl⟩
def outB (n:Int) (p:Int × Int):Bool:=!blwB n p.1 || !blwB n p.2
abbrev prV (p:Int × Int):Value:=.agg #[.int .i64 p.1,.int .i64 p.2]
theorem out_any (n:Int) (p:Int × Int) (b:Nat) (w:World) (hA:At w b (One (.int .i64 n) 3)):Calls Tryz.prog 76 #[prV p,.pointer (some ⟨b,0,none⟩)] w fun e w'=>e=.returned (.bool (outB n p))∧Below w.heap.size w w':=by
 obtain ⟨x,y⟩:=p
 have C:=jH (isBelow_any n x)
 have C2:=jH (isBelow_any n y)
 obtain ⟨c0,f0⟩:=hA.one
 have hlt:=hA.lt
 have e:outB n (x,y)=(!blwB n x || !blwB n y):=rfl
 rw [e]
 clear hA e
 cases hx:blwB n x with
 | false =>
  rw [hx] at C
  clear hx
  go_enter Tryz.func76,Tryz.ntmps76
  go_wp2_with (go_at_call 46;refine (C.out _).mono ?_;rintro e w1 ⟨rfl,hw⟩;subst hw)
  go_ret
  exact ⟨rfl,belA bR⟩
 | true =>
  rw [hx] at C
  clear hx
  obtain ⟨r,hr⟩:∃ r,r=blwB n y:=⟨_,rfl⟩
  rw [← hr] at C2 ⊢
  clear hr
  go_enter Tryz.func76,Tryz.ntmps76
  go_wp2_with (first|(go_at_call 46;with_reducible refine (C.out _).mono ?_;rintro e w1 ⟨rfl,hw⟩;subst hw)|(go_at_call 46;refine (C2.out _).mono ?_;rintro e w1 ⟨rfl,hw⟩;subst hw))
  go_ret
  exact ⟨by simp,belA bR⟩
theorem idxC_any (n:Int) (b:Nat) (a:Option Addr) (m cap:Nat) (l:List (Int × Int)) (w:World) (h:PrR w a m cap l) (hA:At w b (One (.int .i64 n) 3)) :
  Calls Tryz.prog 95 #[.slice a m cap,fnB 76 b] w fun e w'=>∃ r:Int,e=.returned (.int .i64 r)∧decide (0≤r)=l.any (outB n)∧Below w.heap.size w w':=by
 have H:=jH h
 have HA:=jH hA
 have HL:=jH h.len
 have m0:(m:Int)≤9223372036854775807:=by have:=h.big;unfold maxLen at this;omega
 have hen:∀ (args:Array Value) (W:World),(callFunc 76 args).run Tryz.prog W=.ok (.enter 76 args) W:=fun args W=>by kernel_rfl
 clear h hA
 go_enter Tryz.func95,Tryz.ntmps95
 go_wp2_with fail
 go_loopw [8] (fun v V=>∃ i:Nat,i≤m∧v=.int .i64 (i:Int)∧(∀ (j:Nat) (p:Int × Int),j<i→l[j]?=some p→outB n p=false)∧Below w.heap.size w V) (fun v _=>m - (intOf v).toNat)
 case atStart=>exact ⟨0,Nat.zero_le _,rfl,fun j p h=>by omega,Below.refl _ _⟩
 case round =>
  obtain ⟨i,hi,rfl,h1,hB⟩:=hrel
  have HI:=jH h1
  have HB:=jH hB
  clear h1 hB
  by_cases hlt:i<m
  ·obtain ⟨p,hp⟩:∃ p,l[i]?=some p:=⟨_,List.getElem?_eq_getElem (by have:=HL.out;omega)⟩
   obtain ⟨g,off,ea,hg,c0,c1⟩:=(H.out.bel HB.out).nth hp
   have ea2:a=some ⟨g,off,none⟩:=ea
   subst ea2
   have C:=jH (fun (V:World) (hV:Below w.heap.size w V)=>out_any n p b V (HA.out.below hV))
   obtain ⟨x,y⟩:=p
   obtain ⟨r,hr⟩:∃ r,r=outB n (x,y):=⟨_,rfl⟩
   rw [← hr] at C
   have i0:(0:Int)≤(i:Int):=by omega
   have i1:(i:Int)<(m:Int):=by omega
   have HLT:=jH hlt
   have HP:=jH hp
   have HR:=jH hr
   clear hlt hp ea hi hr
   simp only at c0 c1
   cases r with
   | true =>
    go_wp2_with ((refine (C.out _ HB.out).mono ?_);rintro e w1 ⟨rfl,hb⟩;have HB2:=jH (jB HB.out hb);clear hb)
    go_ret
    refine ⟨_,rfl,?_,HB2.out⟩
    have:l.any (outB n)=true:=List.any_eq_true.2 ⟨_,List.mem_of_getElem? HP.out,HR.out.symm⟩
    rw [this]
    simp
   | false =>
    go_wp2_with ((refine (C.out _ HB.out).mono ?_);rintro e w1 ⟨rfl,hb⟩;have HB2:=jH (jB HB.out hb);clear hb)
    refine ⟨⟨i+1,HLT.out,rfl,fun j q hj hq=>?_,HB2.out⟩,?_⟩
    ·rcases Nat.lt_or_ge j i with h1|h1
     ·exact HI.out j q h1 hq
     ·obtain rfl:j=i:=by omega
      have:=HP.out
      rw [hq] at this
      cases this
      exact HR.out.symm
    ·show m - ((i:Int)+1).toNat<m - (i:Int).toNat
     have:=HLT.out
     omega
  ·obtain rfl:i=m:=by omega
   have lt:¬ (i:Int)<(i:Int):=by omega
   clear hlt hi
   go_wp2_with fail
   go_ret
   refine ⟨_,rfl,?_,HB.out⟩
   have:l.any (outB n)=false:=by
    rw [List.any_eq_false]
    intro p hp
    obtain ⟨j,hj⟩:=List.getElem?_of_mem hp
    have:=(List.getElem?_eq_some_iff.1 hj).1
    rw [HI.out j p (by have:=HL.out;omega) hj]
    simp
   rw [this]
   simp
theorem hasC_any (n:Int) (b:Nat) (a:Option Addr) (m cap:Nat) (l:List (Int × Int)) (w:World) (h:PrR w a m cap l) (hA:At w b (One (.int .i64 n) 3)) :
  Calls Tryz.prog 75 #[.slice a m cap,fnB 76 b] w fun e w'=>e=.returned (.bool (l.any (outB n)))∧Below w.heap.size w w':=by
 have C:=jH (idxC_any n b a m cap l w h hA)
 clear h hA
 go_enter Tryz.func75,Tryz.ntmps75
 go_wp2_with (go_at_call 95;refine C.out.mono ?_;rintro e w1 ⟨r,rfl,hr,hb⟩;have HR:=jH hr;have HB:=jH hb;clear hr hb)
 go_ret
 rw [← HR.out]
 exact ⟨rfl,HB.out⟩
theorem areBelow_any (n:Int) (a:Option Addr) (m cap:Nat) (l:List (Int × Int)) (w:World) (h:PrR w a m cap l) :
  Calls Tryz.prog 42 #[.int .i64 n,.slice a m cap] w fun e w'=>e=.returned (.bool (!l.any (outB n)))∧Below w.heap.size w w':=by
 have C:=jH (hasC_any n w.heap.size a m cap l (w.alloc (One (.int .i64 n) 3)) (h.bel (belA bR)) (At.new _ _))
 clear h
 go_enter Tryz.func42,Tryz.ntmps42
 go_wp2_with (go_at_call 75;refine C.out.mono ?_;rintro e w1 ⟨rfl,hb⟩;have HB:=jH (below1 hb);clear hb)
 go_ret
 exact ⟨rfl,HB.out⟩
end Go.Proofs.YtmjenlogbkbgnaaGreatDoor
