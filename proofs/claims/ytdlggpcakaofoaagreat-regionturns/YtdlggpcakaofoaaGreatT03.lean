import Derived.Test.YtdlggpcakaofoaaGreatT02
namespace Go.Proofs.YtdlggpcakaofoaaGreat
open Go.RowKit Go.Shelf
set_option linter.unusedVariables false
set_option linter.unusedSimpArgs false
set_option maxRecDepth 100000
set_option maxHeartbeats 4000000
theorem rtu_no (f:Fv) (v:Value) (w:World) (hI:∀ W,Below w.heap.size w W→Calls Tryz.prog 30 #[f.v] W fun e w'=>e=.returned (.bool false)∧Below W.heap.size W w'):Calls Tryz.prog 28 #[f.v,v] w fun e w'=>∃ f':Fv,e=.returned (.tuple #[f'.v,.int .i64 2])∧New w w' f' (.leaf 0 0):=by
 obtain ⟨k,m,r,s,a,n,cap⟩:=f
 have CI:Hid (Calls Tryz.prog 30 #[tyV k m r s a n cap] ((w.alloc (tyO k m r s a n cap)).alloc zT.o) fun e w'=>e=.returned (.bool false)∧Below ((w.alloc (tyO k m r s a n cap)).alloc zT.o).heap.size ((w.alloc (tyO k m r s a n cap)).alloc zT.o) w'):=jH (hI _ (belA (belA bR)))
 have A4:Hid (At ((w.alloc (tyO k m r s a n cap)).alloc zT.o) (w.heap.size+1) zT.o):=jH (at_snd _ _ _)
 show Calls Tryz.prog 28 #[tyV k m r s a n cap,v] w _
 clear hI
 go_enter Tryz.func28,Tryz.ntmps28
 go_wp2_with (go_at_call 30;refine CI.out.mono ?_;rintro e w1 ⟨rfl,hb1⟩;have HB1:=jH hb1;have B4:=A4.out.below hb1;have g0:=B4.tyF 0;have g1:=B4.tyF 1;have g2:=B4.tyF 2;have g3:=B4.tyF 3;have g4:=B4.tyF 4;obtain ⟨hl4,q0,q1,q2,q3,q4⟩:=B4.ty;simp only [Nat.zero_add] at q0 q1 q2 q3 q4;clear hb1)
 obtain ⟨F1,F2⟩:=new_zero (below2 HB1.out) (b:=w.heap.size+1) (by omega) B4
 exact bodyPost_ret (results_c2 (g:=zT) Tryz.results28 rfl rfl F1) rfl ⟨zT,rfl,F2⟩
theorem rtu_leaf (k:Nat) (s:Int) (a:Option Addr) (cap:Nat) (v:Value) (w:World) (k4:¬ (k:Int)=4) (hI:∀ W,Below w.heap.size w W→Calls Tryz.prog 30 #[tyV k false 0 s a 0 cap] W fun e w'=>e=.returned (.bool true)∧Below W.heap.size W w'):Calls Tryz.prog 28 #[tyV k false 0 s a 0 cap,v] w fun e w'=>∃ f':Fv,e=.returned (.tuple #[f'.v,.int .i64 0])∧New w w' f' (.leaf k s):=by
 have CI:Hid (Calls Tryz.prog 30 #[tyV k false 0 s a 0 cap] ((w.alloc (tyO k false 0 s a 0 cap)).alloc zT.o) fun e w'=>e=.returned (.bool true)∧Below ((w.alloc (tyO k false 0 s a 0 cap)).alloc zT.o).heap.size ((w.alloc (tyO k false 0 s a 0 cap)).alloc zT.o) w'):=jH (hI _ (belA (belA bR)))
 have A1:Hid (At ((w.alloc (tyO k false 0 s a 0 cap)).alloc zT.o) w.heap.size (Fv.o ⟨k,false,0,s,a,0,cap⟩)):=jH ((At.new _ _).alloc _)
 have A4:Hid (At ((w.alloc (tyO k false 0 s a 0 cap)).alloc zT.o) (w.heap.size+1) zT.o):=jH (at_snd _ _ _)
 clear hI
 go_enter Tryz.func28,Tryz.ntmps28
 go_upto_region 5 with (go_at_call 30;refine CI.out.mono ?_;rintro e w1 ⟨rfl,hb1⟩;have HB1:=jH hb1;have B1:=A1.out.below hb1;obtain ⟨hl1,p0,p1,p2,p3,p4⟩:=B1.ty;clear hb1)
 clear p0 p1 p2 p3 p4 hl1 CI
 have C1:Hid (At (w1.alloc (tyO k false 0 s none 0 0)) w.heap.size (Fv.o ⟨k,false,0,s,a,0,cap⟩)):=jH (B1.alloc _)
 have C4:Hid (At (w1.alloc (tyO k false 0 s none 0 0)) (w.heap.size+1) zT.o):=jH ((A4.out.below HB1.out).alloc _)
 have C6:Hid (At (w1.alloc (tyO k false 0 s none 0 0)) w1.heap.size (Fv.o ⟨k,false,0,s,none,0,0⟩)):=jH (At.new _ _)
 have HBB:Hid (Below w.heap.size w (w1.alloc (tyO k false 0 s none 0 0))):=jH (belA (below2 HB1.out))
 have hsz:w.heap.size+2≤w1.heap.size:=by have:=HB1.out.size;simp only [World.size_alloc] at this;omega
 have hszV:Hid ((w1.alloc (tyO k false 0 s none 0 0)).heap.size=w1.heap.size+1):=jH (by simp only [World.size_alloc])
 obtain ⟨b6,hb6⟩:∃ b6,b6=w1.heap.size:=⟨_,rfl⟩
 rw [← hb6] at C6 hsz hszV ⊢
 generalize (w1.alloc (tyO k false 0 s none 0 0))=V at C1 C4 C6 HBB hszV ⊢
 clear HB1 B1 A1 A4 hb6
 obtain ⟨hl1,p0,p1,p2,p3,p4⟩:=C1.out.ty
 have n6:b6≠w.heap.size:=by omega
 have n64:b6≠w.heap.size+1:=by omega
 have HSZ:=jH hsz
 clear hsz
 have B4:=C4.out
 have g0:=B4.tyF 0
 have g1:=B4.tyF 1
 have g2:=B4.tyF 2
 have g3:=B4.tyF 3
 have g4:=B4.tyF 4
 obtain ⟨hl4,q0,q1,q2,q3,q4⟩:=B4.ty
 simp only [Nat.zero_add] at q0 q1 q2 q3 q4
 have k6:=C6.out.tyF 4
 obtain ⟨hl6,o0,o1,o2,o3,o4⟩:=C6.out.ty
 simp only [Nat.zero_add] at o0 o1 o2 o3 o4
 go_wp2_with fail
 have F1:C5 (S5 V (w.heap.size+1) ⟨k,false,0,s,none,0,0⟩) (w.heap.size+1) 0 ⟨k,false,0,s,none,0,0⟩:=(B4.set5 ⟨k,false,0,s,none,0,0⟩).ty
 have F2:New w (S5 V (w.heap.size+1) ⟨k,false,0,s,none,0,0⟩) ⟨k,false,0,s,none,0,0⟩ (.leaf k s):=⟨OwnL.leaf k s none 0,below_s5 HBB.out (by omega) _⟩
 exact bodyPost_ret (results_c2 (g:=⟨k,false,0,s,none,0,0⟩) Tryz.results28 rfl rfl F1) rfl ⟨⟨k,false,0,s,none,0,0⟩,rfl,F2⟩
theorem rtu_box (g off cap:Nat) (x:Fv) (c:Ch) (xa:Option Addr) (xn xcap:Nat) (w:World) (hx:C5 w g off x) (hI:∀ W,Below w.heap.size w W→Calls Tryz.prog 30 #[tyV 3 false 0 0 (some ⟨g,off,none⟩) 1 cap] W fun e w'=>e=.returned (.bool true)∧Below W.heap.size W w')
  (IH0:∀ V,Below w.heap.size w V→Calls Tryz.prog 28 #[x.v,(.slice xa xn xcap)] V fun e w'=>∃ f':Fv,e=.returned (.tuple #[f'.v,.int .i64 0])∧New V w' f' c) :
  Calls Tryz.prog 28 #[tyV 3 false 0 0 (some ⟨g,off,none⟩) 1 cap,(.slice xa xn xcap)] w fun e w'=>∃ f':Fv,e=.returned (.tuple #[f'.v,.int .i64 0])∧New w w' f' (.box c):=by
 have IH:=jH IH0
 have HX:=jH hx
 clear IH0 hx
 have CI:Hid (Calls Tryz.prog 30 #[tyV 3 false 0 0 (some ⟨g,off,none⟩) 1 cap] ((w.alloc (tyO 3 false 0 0 (some ⟨g,off,none⟩) 1 cap)).alloc zT.o) fun e w'=>e=.returned (.bool true)∧Below ((w.alloc (tyO 3 false 0 0 (some ⟨g,off,none⟩) 1 cap)).alloc zT.o).heap.size ((w.alloc (tyO 3 false 0 0 (some ⟨g,off,none⟩) 1 cap)).alloc zT.o) w'):=jH (hI _ (belA (belA bR)))
 have A1:Hid (At ((w.alloc (tyO 3 false 0 0 (some ⟨g,off,none⟩) 1 cap)).alloc zT.o) w.heap.size (Fv.o ⟨3,false,0,0,(some ⟨g,off,none⟩),1,cap⟩)):=jH ((At.new _ _).alloc _)
 have A4:Hid (At ((w.alloc (tyO 3 false 0 0 (some ⟨g,off,none⟩) 1 cap)).alloc zT.o) (w.heap.size+1) zT.o):=jH (at_snd _ _ _)
 clear hI
 go_enter Tryz.func28,Tryz.ntmps28
 go_upto_region 5 with (go_at_call 30;refine CI.out.mono ?_;rintro e w1 ⟨rfl,hb1⟩;have HB1:=jH hb1;have B1:=A1.out.below hb1;obtain ⟨hl1,p0,p1,p2,p3,p4⟩:=B1.ty;clear hb1)
 clear p0 p1 p2 p3 p4 hl1 CI
 have C1:Hid (At (w1.alloc (tyO 3 false 0 0 none 0 0)) w.heap.size (Fv.o ⟨3,false,0,0,(some ⟨g,off,none⟩),1,cap⟩)):=jH (B1.alloc _)
 have C4:Hid (At (w1.alloc (tyO 3 false 0 0 none 0 0)) (w.heap.size+1) zT.o):=jH ((A4.out.below HB1.out).alloc _)
 have C6:Hid (At (w1.alloc (tyO 3 false 0 0 none 0 0)) w1.heap.size (Fv.o ⟨3,false,0,0,none,0,0⟩)):=jH (At.new _ _)
 have HBB:Hid (Below w.heap.size w (w1.alloc (tyO 3 false 0 0 none 0 0))):=jH (belA (below2 HB1.out))
 have hsz:w.heap.size+2≤w1.heap.size:=by have:=HB1.out.size;simp only [World.size_alloc] at this;omega
 have hszV:Hid ((w1.alloc (tyO 3 false 0 0 none 0 0)).heap.size=w1.heap.size+1):=jH (by simp only [World.size_alloc])
 obtain ⟨b6,hb6⟩:∃ b6,b6=w1.heap.size:=⟨_,rfl⟩
 rw [← hb6] at C6 hsz hszV ⊢
 generalize (w1.alloc (tyO 3 false 0 0 none 0 0))=V at C1 C4 C6 HBB hszV ⊢
 clear HB1 B1 A1 A4 hb6
 obtain ⟨hl1,p0,p1,p2,p3,p4⟩:=C1.out.ty
 have n6:b6≠w.heap.size:=by omega
 have n64:b6≠w.heap.size+1:=by omega
 have HSZ:=jH hsz
 clear hsz
 have D1:=C1
 have D4:=C4
 have D6:=C6
 have HBD:=HBB
 have hszD:=hszV
 obtain ⟨U,hU⟩:∃ U,U=V:=⟨_,rfl⟩
 subst hU
 obtain ⟨hgx0,x0,x1,x2,x3,x4⟩:=HX.out.below HBD.out
 obtain ⟨kx,mx,rx,sx,ax,nx,cx⟩:=x
 go_upto_region 11 with (go_at_call 28;refine (IH.out _ HBD.out).mono ?_;rintro e w2 ⟨⟨k2,m2,r2,s2,a2,n2,cap2⟩,rfl,hP⟩;have HP:=jH hP;have HE4:=jH (D4.out.below hP.bel);have HE6:=jH (D6.out.below hP.bel);clear hP x0 x1 x2 x3 x4 p0 p1 p2 p3 p4 hl1)
 have hw2:b6+1≤w2.heap.size:=by have:=HP.out.bel.size;have:=hszD.out;omega
 have G4:Hid (At (w2.alloc (tyO k2 m2 r2 s2 a2 n2 cap2)) (w.heap.size+1) zT.o):=jH (HE4.out.alloc _)
 have G6:Hid (At (w2.alloc (tyO k2 m2 r2 s2 a2 n2 cap2)) b6 (Fv.o ⟨3,false,0,0,none,0,0⟩)):=jH (HE6.out.alloc _)
 have G7:Hid (At (w2.alloc (tyO k2 m2 r2 s2 a2 n2 cap2)) w2.heap.size (Fv.o ⟨k2,m2,r2,s2,a2,n2,cap2⟩)):=jH (At.new _ _)
 have HBG:Hid (Below w.heap.size w (w2.alloc (tyO k2 m2 r2 s2 a2 n2 cap2))):=jH (belA (jB HBD.out HP.out.bel))
 have HOW:Hid (OwnL (w2.alloc (tyO k2 m2 r2 s2 a2 n2 cap2)) U.heap.size w2.heap.size ⟨k2,m2,r2,s2,a2,n2,cap2⟩ c):=jH (HP.out.own.bel (belA bR))
 have hzG:Hid ((w2.alloc (tyO k2 m2 r2 s2 a2 n2 cap2)).heap.size=w2.heap.size+1):=jH (by simp only [World.size_alloc])
 have hUw:U.heap.size≤w2.heap.size:=HP.out.bel.size
 obtain ⟨b7,hb7⟩:∃ b7,b7=w2.heap.size:=⟨_,rfl⟩
 rw [← hb7] at G7 HOW hzG hUw hw2 ⊢
 generalize (w2.alloc (tyO k2 m2 r2 s2 a2 n2 cap2))=U2 at G4 G6 G7 HBG HOW hzG ⊢
 have HHH:=jH (And.intro hUw (And.intro hszD.out (And.intro hw2 hzG.out)))
 have n67:b6≠b7:=by omega
 clear HP HE4 HE6 D1 D4 D6 HBD hb7 hUw hszD hw2 hzG
 obtain ⟨hl7,x0,x1,x2,x3,x4⟩:=G7.out.ty
 simp only [Nat.zero_add] at x0 x1 x2 x3 x4
 have k6:=G6.out.tyF 4
 obtain ⟨hl6,o0,o1,o2,o3,o4⟩:=G6.out.ty
 simp only [Nat.zero_add] at o0 o1 o2 o3 o4
 have B4:=G4.out
 have g0:=B4.tyF 0
 have g1:=B4.tyF 1
 have g2:=B4.tyF 2
 have g3:=B4.tyF 3
 have g4:=B4.tyF 4
 obtain ⟨hl4,q0,q1,q2,q3,q4⟩:=B4.ty
 simp only [Nat.zero_add] at q0 q1 q2 q3 q4
 go_wp2_with fail
 obtain ⟨h1,h2,h3,h4⟩:=HHH.out
 have h5:=HSZ.out
 obtain ⟨F1,F2,F3,F4,F5,F6⟩:=two_fin (W:=w) (b:=b6) (b':=w.heap.size+1) (f2:=⟨k2,m2,r2,s2,a2,n2,cap2⟩) ⟨3,false,0,0,some ⟨U2.heap.size,0,none⟩,1,1⟩ (.slice (some ⟨U2.heap.size,0,none⟩) 1 1) HOW.out (by omega) (by omega) (by omega) (by omega) n64 h1 (by omega) HBG.out G6.out B4
 exact bodyPost_ret (results_c2 (g:=⟨3,false,0,0,some ⟨U2.heap.size,0,none⟩,1,1⟩) Tryz.results28 rfl rfl F1) rfl ⟨⟨3,false,0,0,some ⟨U2.heap.size,0,none⟩,1,1⟩,rfl,⟨.box U2.heap.size ⟨k2,m2,r2,s2,a2,n2,cap2⟩ c F5 F6 F3 F2,F4⟩⟩
theorem rtu_box0 (g off cap:Nat) (x:Fv) (c:Ch) (xa:Option Addr) (xn xcap:Nat) (w:World) (hx:C5 w g off x) (hI:∀ W,Below w.heap.size w W→Calls Tryz.prog 30 #[tyV 3 false 0 0 (some ⟨g,off,none⟩) 1 cap] W fun e w'=>e=.returned (.bool true)∧Below W.heap.size W w')
  (IH0:∀ V,Below w.heap.size w V→Calls Tryz.prog 28 #[x.v,(.slice xa xn xcap)] V fun e w'=>∃ f':Fv,e=.returned (.tuple #[f'.v,.int .i64 2])∧New V w' f' (.leaf 0 0)) :
  Calls Tryz.prog 28 #[tyV 3 false 0 0 (some ⟨g,off,none⟩) 1 cap,(.slice xa xn xcap)] w fun e w'=>∃ f':Fv,e=.returned (.tuple #[f'.v,.int .i64 2])∧New w w' f' (.leaf 0 0):=by
 have IH:=jH IH0
 have HX:=jH hx
 clear IH0 hx
 have CI:Hid (Calls Tryz.prog 30 #[tyV 3 false 0 0 (some ⟨g,off,none⟩) 1 cap] ((w.alloc (tyO 3 false 0 0 (some ⟨g,off,none⟩) 1 cap)).alloc zT.o) fun e w'=>e=.returned (.bool true)∧Below ((w.alloc (tyO 3 false 0 0 (some ⟨g,off,none⟩) 1 cap)).alloc zT.o).heap.size ((w.alloc (tyO 3 false 0 0 (some ⟨g,off,none⟩) 1 cap)).alloc zT.o) w'):=jH (hI _ (belA (belA bR)))
 have A1:Hid (At ((w.alloc (tyO 3 false 0 0 (some ⟨g,off,none⟩) 1 cap)).alloc zT.o) w.heap.size (Fv.o ⟨3,false,0,0,(some ⟨g,off,none⟩),1,cap⟩)):=jH ((At.new _ _).alloc _)
 have A4:Hid (At ((w.alloc (tyO 3 false 0 0 (some ⟨g,off,none⟩) 1 cap)).alloc zT.o) (w.heap.size+1) zT.o):=jH (at_snd _ _ _)
 clear hI
 go_enter Tryz.func28,Tryz.ntmps28
 go_upto_region 5 with (go_at_call 30;refine CI.out.mono ?_;rintro e w1 ⟨rfl,hb1⟩;have HB1:=jH hb1;have B1:=A1.out.below hb1;obtain ⟨hl1,p0,p1,p2,p3,p4⟩:=B1.ty;clear hb1)
 clear p0 p1 p2 p3 p4 hl1 CI
 have C1:Hid (At (w1.alloc (tyO 3 false 0 0 none 0 0)) w.heap.size (Fv.o ⟨3,false,0,0,(some ⟨g,off,none⟩),1,cap⟩)):=jH (B1.alloc _)
 have C4:Hid (At (w1.alloc (tyO 3 false 0 0 none 0 0)) (w.heap.size+1) zT.o):=jH ((A4.out.below HB1.out).alloc _)
 have C6:Hid (At (w1.alloc (tyO 3 false 0 0 none 0 0)) w1.heap.size (Fv.o ⟨3,false,0,0,none,0,0⟩)):=jH (At.new _ _)
 have HBB:Hid (Below w.heap.size w (w1.alloc (tyO 3 false 0 0 none 0 0))):=jH (belA (below2 HB1.out))
 have hsz:w.heap.size+2≤w1.heap.size:=by have:=HB1.out.size;simp only [World.size_alloc] at this;omega
 have hszV:Hid ((w1.alloc (tyO 3 false 0 0 none 0 0)).heap.size=w1.heap.size+1):=jH (by simp only [World.size_alloc])
 obtain ⟨b6,hb6⟩:∃ b6,b6=w1.heap.size:=⟨_,rfl⟩
 rw [← hb6] at C6 hsz hszV ⊢
 generalize (w1.alloc (tyO 3 false 0 0 none 0 0))=V at C1 C4 C6 HBB hszV ⊢
 clear HB1 B1 A1 A4 hb6
 obtain ⟨hl1,p0,p1,p2,p3,p4⟩:=C1.out.ty
 have n6:b6≠w.heap.size:=by omega
 have n64:b6≠w.heap.size+1:=by omega
 have HSZ:=jH hsz
 clear hsz
 have D1:=C1
 have D4:=C4
 have D6:=C6
 have HBD:=HBB
 have hszD:=hszV
 obtain ⟨U,hU⟩:∃ U,U=V:=⟨_,rfl⟩
 subst hU
 obtain ⟨hgx0,x0,x1,x2,x3,x4⟩:=HX.out.below HBD.out
 obtain ⟨kx,mx,rx,sx,ax,nx,cx⟩:=x
 go_upto_region 11 with (go_at_call 28;refine (IH.out _ HBD.out).mono ?_;rintro e w2 ⟨⟨k2,m2,r2,s2,a2,n2,cap2⟩,rfl,hP⟩;have HP:=jH hP;have HE4:=jH (D4.out.below hP.bel);have HE6:=jH (D6.out.below hP.bel);clear hP x0 x1 x2 x3 x4 p0 p1 p2 p3 p4 hl1)
 have hw2:b6+1≤w2.heap.size:=by have:=HP.out.bel.size;have:=hszD.out;omega
 have G4:Hid (At (w2.alloc (tyO k2 m2 r2 s2 a2 n2 cap2)) (w.heap.size+1) zT.o):=jH (HE4.out.alloc _)
 have HBG:Hid (Below w.heap.size w (w2.alloc (tyO k2 m2 r2 s2 a2 n2 cap2))):=jH (belA (jB HBD.out HP.out.bel))
 generalize (w2.alloc (tyO k2 m2 r2 s2 a2 n2 cap2))=U2 at G4 HBG ⊢
 clear HP HE4 HE6 D1 D4 D6 HBD
 have B4:=G4.out
 have g0:=B4.tyF 0
 have g1:=B4.tyF 1
 have g2:=B4.tyF 2
 have g3:=B4.tyF 3
 have g4:=B4.tyF 4
 obtain ⟨hl4,q0,q1,q2,q3,q4⟩:=B4.ty
 simp only [Nat.zero_add] at q0 q1 q2 q3 q4
 go_wp2_with fail
 obtain ⟨F1,F2⟩:=new_zero HBG.out (b:=w.heap.size+1) (by omega) B4
 exact bodyPost_ret (results_c2 (g:=zT) Tryz.results28 rfl rfl F1) rfl ⟨zT,rfl,F2⟩
theorem rtu_ref (m:Bool) (r y:Int) (g off cap:Nat) (x:Fv) (c:Ch) (xa:Option Addr) (xn xcap:Nat) (w:World) (hx:C5 w g off x) (hI:∀ W,Below w.heap.size w W→Calls Tryz.prog 30 #[tyV 4 m r 0 (some ⟨g,off,none⟩) 1 cap] W fun e w'=>e=.returned (.bool true)∧Below W.heap.size W w') (hr0:0≤r) (hr1:r<(xn:Int)) (xg xo:Nat) (hxa:xa=some ⟨xg,xo,none⟩) (hxg:xg<w.heap.size) (hy:w.cell? ⟨xg,xo+r.toNat,none⟩=some (.int .i64 y)) (hn:(xn:Int)≤100000)
  (IH0:∀ V,Below w.heap.size w V→Calls Tryz.prog 28 #[x.v,(.slice xa xn xcap)] V fun e w'=>∃ f':Fv,e=.returned (.tuple #[f'.v,.int .i64 0])∧New V w' f' c) :
  Calls Tryz.prog 28 #[tyV 4 m r 0 (some ⟨g,off,none⟩) 1 cap,(.slice xa xn xcap)] w fun e w'=>∃ f':Fv,e=.returned (.tuple #[f'.v,.int .i64 0])∧New w w' f' (.ref m y c):=by
 have IH:=jH IH0
 have HX:=jH hx
 obtain ⟨rn,rfl⟩:=Int.eq_ofNat_of_zero_le hr0
 subst hxa
 rw [Int.toNat_natCast] at hy
 have HY:=jH hy
 have k0:(0:Int)≤(rn:Int):=by omega
 have k1:(rn:Int)<(xn:Int):=hr1
 have k2:¬ ((xn:Int)≤(rn:Int)):=by omega
 clear IH0 hx hy hr0 hr1
 have CI:Hid (Calls Tryz.prog 30 #[tyV 4 m (rn:Int) 0 (some ⟨g,off,none⟩) 1 cap] ((w.alloc (tyO 4 m (rn:Int) 0 (some ⟨g,off,none⟩) 1 cap)).alloc zT.o) fun e w'=>e=.returned (.bool true)∧Below ((w.alloc (tyO 4 m (rn:Int) 0 (some ⟨g,off,none⟩) 1 cap)).alloc zT.o).heap.size ((w.alloc (tyO 4 m (rn:Int) 0 (some ⟨g,off,none⟩) 1 cap)).alloc zT.o) w'):=jH (hI _ (belA (belA bR)))
 have A1:Hid (At ((w.alloc (tyO 4 m (rn:Int) 0 (some ⟨g,off,none⟩) 1 cap)).alloc zT.o) w.heap.size (Fv.o ⟨4,m,(rn:Int),0,(some ⟨g,off,none⟩),1,cap⟩)):=jH ((At.new _ _).alloc _)
 have A4:Hid (At ((w.alloc (tyO 4 m (rn:Int) 0 (some ⟨g,off,none⟩) 1 cap)).alloc zT.o) (w.heap.size+1) zT.o):=jH (at_snd _ _ _)
 clear hI
 go_enter Tryz.func28,Tryz.ntmps28
 go_upto_region 5 with (go_at_call 30;refine CI.out.mono ?_;rintro e w1 ⟨rfl,hb1⟩;have HB1:=jH hb1;have B1:=A1.out.below hb1;obtain ⟨hl1,p0,p1,p2,p3,p4⟩:=B1.ty;clear hb1)
 clear p0 p1 p2 p3 p4 hl1 CI
 have C1:Hid (At (w1.alloc (tyO 4 m (rn:Int) 0 none 0 0)) w.heap.size (Fv.o ⟨4,m,(rn:Int),0,(some ⟨g,off,none⟩),1,cap⟩)):=jH (B1.alloc _)
 have C4:Hid (At (w1.alloc (tyO 4 m (rn:Int) 0 none 0 0)) (w.heap.size+1) zT.o):=jH ((A4.out.below HB1.out).alloc _)
 have C6:Hid (At (w1.alloc (tyO 4 m (rn:Int) 0 none 0 0)) w1.heap.size (Fv.o ⟨4,m,(rn:Int),0,none,0,0⟩)):=jH (At.new _ _)
 have HBB:Hid (Below w.heap.size w (w1.alloc (tyO 4 m (rn:Int) 0 none 0 0))):=jH (belA (below2 HB1.out))
 have hsz:w.heap.size+2≤w1.heap.size:=by have:=HB1.out.size;simp only [World.size_alloc] at this;omega
 have hszV:Hid ((w1.alloc (tyO 4 m (rn:Int) 0 none 0 0)).heap.size=w1.heap.size+1):=jH (by simp only [World.size_alloc])
 obtain ⟨b6,hb6⟩:∃ b6,b6=w1.heap.size:=⟨_,rfl⟩
 rw [← hb6] at C6 hsz hszV ⊢
 generalize (w1.alloc (tyO 4 m (rn:Int) 0 none 0 0))=V at C1 C4 C6 HBB hszV ⊢
 clear HB1 B1 A1 A4 hb6
 obtain ⟨hl1,p0,p1,p2,p3,p4⟩:=C1.out.ty
 have n6:b6≠w.heap.size:=by omega
 have n64:b6≠w.heap.size+1:=by omega
 have HSZ:=jH hsz
 clear hsz
 have hcy:V.cell? ⟨xg,xo+rn,none⟩=some (.int .i64 y):=(HBB.out.cell (p:=⟨xg,xo+rn,none⟩) hxg).trans HY.out
 have hgx:xg<V.heap.size:=Nat.lt_of_lt_of_le hxg HBB.out.size
 have k6:=C6.out.tyF 2
 obtain ⟨hl6,o0,o1,o2,o3,o4⟩:=C6.out.ty
 simp only [Nat.zero_add] at o0 o1 o2 o3 o4
 go_upto_region 9 with fail
 have D1:Hid (At (V.setCell ⟨b6,2,none⟩ (.int .i64 y)) w.heap.size (Fv.o ⟨4,m,(rn:Int),0,some ⟨g,off,none⟩,1,cap⟩)):=jH (C1.out.set (by simpa using fun e=>n6 e.symm) _)
 have D4:Hid (At (V.setCell ⟨b6,2,none⟩ (.int .i64 y)) (w.heap.size+1) zT.o):=jH (C4.out.set (by simpa using fun e=>n64 e.symm) _)
 have D6:Hid (At (V.setCell ⟨b6,2,none⟩ (.int .i64 y)) b6 (Fv.o ⟨4,m,y,0,none,0,0⟩)):=jH (C6.out.cell2 y)
 have HBD:Hid (Below w.heap.size w (V.setCell ⟨b6,2,none⟩ (.int .i64 y))):=jH (HBB.out.setCell (p:=⟨b6,2,none⟩) (by have:=HSZ.out;simp only;omega) _)
 have hszD:Hid ((V.setCell ⟨b6,2,none⟩ (.int .i64 y)).heap.size=b6+1):=jH (by simp only [World.size_setCell];exact hszV.out)
 generalize (V.setCell ⟨b6,2,none⟩ (.int .i64 y))=U at D1 D4 D6 HBD hszD ⊢
 clear C1 C4 C6 HBB hszV p0 p1 p2 p3 p4 hl1 hcy hgx k6 hl6 o0 o1 o2 o3 o4
 obtain ⟨hl1,p0,p1,p2,p3,p4⟩:=D1.out.ty
 obtain ⟨hgx0,x0,x1,x2,x3,x4⟩:=HX.out.below HBD.out
 obtain ⟨kx,mx,rx,sx,ax,nx,cx⟩:=x
 go_upto_region 11 with (go_at_call 28;refine (IH.out _ HBD.out).mono ?_;rintro e w2 ⟨⟨k2,m2,r2,s2,a2,n2,cap2⟩,rfl,hP⟩;have HP:=jH hP;have HE4:=jH (D4.out.below hP.bel);have HE6:=jH (D6.out.below hP.bel);clear hP x0 x1 x2 x3 x4 p0 p1 p2 p3 p4 hl1)
 have hw2:b6+1≤w2.heap.size:=by have:=HP.out.bel.size;have:=hszD.out;omega
 have G4:Hid (At (w2.alloc (tyO k2 m2 r2 s2 a2 n2 cap2)) (w.heap.size+1) zT.o):=jH (HE4.out.alloc _)
 have G6:Hid (At (w2.alloc (tyO k2 m2 r2 s2 a2 n2 cap2)) b6 (Fv.o ⟨4,m,y,0,none,0,0⟩)):=jH (HE6.out.alloc _)
 have G7:Hid (At (w2.alloc (tyO k2 m2 r2 s2 a2 n2 cap2)) w2.heap.size (Fv.o ⟨k2,m2,r2,s2,a2,n2,cap2⟩)):=jH (At.new _ _)
 have HBG:Hid (Below w.heap.size w (w2.alloc (tyO k2 m2 r2 s2 a2 n2 cap2))):=jH (belA (jB HBD.out HP.out.bel))
 have HOW:Hid (OwnL (w2.alloc (tyO k2 m2 r2 s2 a2 n2 cap2)) U.heap.size w2.heap.size ⟨k2,m2,r2,s2,a2,n2,cap2⟩ c):=jH (HP.out.own.bel (belA bR))
 have hzG:Hid ((w2.alloc (tyO k2 m2 r2 s2 a2 n2 cap2)).heap.size=w2.heap.size+1):=jH (by simp only [World.size_alloc])
 have hUw:U.heap.size≤w2.heap.size:=HP.out.bel.size
 obtain ⟨b7,hb7⟩:∃ b7,b7=w2.heap.size:=⟨_,rfl⟩
 rw [← hb7] at G7 HOW hzG hUw hw2 ⊢
 generalize (w2.alloc (tyO k2 m2 r2 s2 a2 n2 cap2))=U2 at G4 G6 G7 HBG HOW hzG ⊢
 have HHH:=jH (And.intro hUw (And.intro hszD.out (And.intro hw2 hzG.out)))
 have n67:b6≠b7:=by omega
 clear HP HE4 HE6 D1 D4 D6 HBD hb7 hUw hszD hw2 hzG
 obtain ⟨hl7,x0,x1,x2,x3,x4⟩:=G7.out.ty
 simp only [Nat.zero_add] at x0 x1 x2 x3 x4
 have k6:=G6.out.tyF 4
 obtain ⟨hl6,o0,o1,o2,o3,o4⟩:=G6.out.ty
 simp only [Nat.zero_add] at o0 o1 o2 o3 o4
 have B4:=G4.out
 have g0:=B4.tyF 0
 have g1:=B4.tyF 1
 have g2:=B4.tyF 2
 have g3:=B4.tyF 3
 have g4:=B4.tyF 4
 obtain ⟨hl4,q0,q1,q2,q3,q4⟩:=B4.ty
 simp only [Nat.zero_add] at q0 q1 q2 q3 q4
 go_wp2_with fail
 obtain ⟨h1,h2,h3,h4⟩:=HHH.out
 have h5:=HSZ.out
 obtain ⟨F1,F2,F3,F4,F5,F6⟩:=two_fin (W:=w) (b:=b6) (b':=w.heap.size+1) (f2:=⟨k2,m2,r2,s2,a2,n2,cap2⟩) ⟨4,m,y,0,some ⟨U2.heap.size,0,none⟩,1,1⟩ (.slice (some ⟨U2.heap.size,0,none⟩) 1 1) HOW.out (by omega) (by omega) (by omega) (by omega) n64 h1 (by omega) HBG.out G6.out B4
 exact bodyPost_ret (results_c2 (g:=⟨4,m,y,0,some ⟨U2.heap.size,0,none⟩,1,1⟩) Tryz.results28 rfl rfl F1) rfl ⟨⟨4,m,y,0,some ⟨U2.heap.size,0,none⟩,1,1⟩,rfl,⟨.ref m y U2.heap.size ⟨k2,m2,r2,s2,a2,n2,cap2⟩ c F5 F6 F3 F2,F4⟩⟩
theorem rtu_ref0 (m:Bool) (r y:Int) (g off cap:Nat) (x:Fv) (c:Ch) (xa:Option Addr) (xn xcap:Nat) (w:World) (hx:C5 w g off x) (hI:∀ W,Below w.heap.size w W→Calls Tryz.prog 30 #[tyV 4 m r 0 (some ⟨g,off,none⟩) 1 cap] W fun e w'=>e=.returned (.bool true)∧Below W.heap.size W w') (hr0:0≤r) (hr1:r<(xn:Int)) (xg xo:Nat) (hxa:xa=some ⟨xg,xo,none⟩) (hxg:xg<w.heap.size) (hy:w.cell? ⟨xg,xo+r.toNat,none⟩=some (.int .i64 y)) (hn:(xn:Int)≤100000)
  (IH0:∀ V,Below w.heap.size w V→Calls Tryz.prog 28 #[x.v,(.slice xa xn xcap)] V fun e w'=>∃ f':Fv,e=.returned (.tuple #[f'.v,.int .i64 2])∧New V w' f' (.leaf 0 0)) :
  Calls Tryz.prog 28 #[tyV 4 m r 0 (some ⟨g,off,none⟩) 1 cap,(.slice xa xn xcap)] w fun e w'=>∃ f':Fv,e=.returned (.tuple #[f'.v,.int .i64 2])∧New w w' f' (.leaf 0 0):=by
 have IH:=jH IH0
 have HX:=jH hx
 obtain ⟨rn,rfl⟩:=Int.eq_ofNat_of_zero_le hr0
 subst hxa
 rw [Int.toNat_natCast] at hy
 have HY:=jH hy
 have k0:(0:Int)≤(rn:Int):=by omega
 have k1:(rn:Int)<(xn:Int):=hr1
 have k2:¬ ((xn:Int)≤(rn:Int)):=by omega
 clear IH0 hx hy hr0 hr1
 have CI:Hid (Calls Tryz.prog 30 #[tyV 4 m (rn:Int) 0 (some ⟨g,off,none⟩) 1 cap] ((w.alloc (tyO 4 m (rn:Int) 0 (some ⟨g,off,none⟩) 1 cap)).alloc zT.o) fun e w'=>e=.returned (.bool true)∧Below ((w.alloc (tyO 4 m (rn:Int) 0 (some ⟨g,off,none⟩) 1 cap)).alloc zT.o).heap.size ((w.alloc (tyO 4 m (rn:Int) 0 (some ⟨g,off,none⟩) 1 cap)).alloc zT.o) w'):=jH (hI _ (belA (belA bR)))
 have A1:Hid (At ((w.alloc (tyO 4 m (rn:Int) 0 (some ⟨g,off,none⟩) 1 cap)).alloc zT.o) w.heap.size (Fv.o ⟨4,m,(rn:Int),0,(some ⟨g,off,none⟩),1,cap⟩)):=jH ((At.new _ _).alloc _)
 have A4:Hid (At ((w.alloc (tyO 4 m (rn:Int) 0 (some ⟨g,off,none⟩) 1 cap)).alloc zT.o) (w.heap.size+1) zT.o):=jH (at_snd _ _ _)
 clear hI
 go_enter Tryz.func28,Tryz.ntmps28
 go_upto_region 5 with (go_at_call 30;refine CI.out.mono ?_;rintro e w1 ⟨rfl,hb1⟩;have HB1:=jH hb1;have B1:=A1.out.below hb1;obtain ⟨hl1,p0,p1,p2,p3,p4⟩:=B1.ty;clear hb1)
 clear p0 p1 p2 p3 p4 hl1 CI
 have C1:Hid (At (w1.alloc (tyO 4 m (rn:Int) 0 none 0 0)) w.heap.size (Fv.o ⟨4,m,(rn:Int),0,(some ⟨g,off,none⟩),1,cap⟩)):=jH (B1.alloc _)
 have C4:Hid (At (w1.alloc (tyO 4 m (rn:Int) 0 none 0 0)) (w.heap.size+1) zT.o):=jH ((A4.out.below HB1.out).alloc _)
 have C6:Hid (At (w1.alloc (tyO 4 m (rn:Int) 0 none 0 0)) w1.heap.size (Fv.o ⟨4,m,(rn:Int),0,none,0,0⟩)):=jH (At.new _ _)
 have HBB:Hid (Below w.heap.size w (w1.alloc (tyO 4 m (rn:Int) 0 none 0 0))):=jH (belA (below2 HB1.out))
 have hsz:w.heap.size+2≤w1.heap.size:=by have:=HB1.out.size;simp only [World.size_alloc] at this;omega
 have hszV:Hid ((w1.alloc (tyO 4 m (rn:Int) 0 none 0 0)).heap.size=w1.heap.size+1):=jH (by simp only [World.size_alloc])
 obtain ⟨b6,hb6⟩:∃ b6,b6=w1.heap.size:=⟨_,rfl⟩
 rw [← hb6] at C6 hsz hszV ⊢
 generalize (w1.alloc (tyO 4 m (rn:Int) 0 none 0 0))=V at C1 C4 C6 HBB hszV ⊢
 clear HB1 B1 A1 A4 hb6
 obtain ⟨hl1,p0,p1,p2,p3,p4⟩:=C1.out.ty
 have n6:b6≠w.heap.size:=by omega
 have n64:b6≠w.heap.size+1:=by omega
 have HSZ:=jH hsz
 clear hsz
 have hcy:V.cell? ⟨xg,xo+rn,none⟩=some (.int .i64 y):=(HBB.out.cell (p:=⟨xg,xo+rn,none⟩) hxg).trans HY.out
 have hgx:xg<V.heap.size:=Nat.lt_of_lt_of_le hxg HBB.out.size
 have k6:=C6.out.tyF 2
 obtain ⟨hl6,o0,o1,o2,o3,o4⟩:=C6.out.ty
 simp only [Nat.zero_add] at o0 o1 o2 o3 o4
 go_upto_region 9 with fail
 have D1:Hid (At (V.setCell ⟨b6,2,none⟩ (.int .i64 y)) w.heap.size (Fv.o ⟨4,m,(rn:Int),0,some ⟨g,off,none⟩,1,cap⟩)):=jH (C1.out.set (by simpa using fun e=>n6 e.symm) _)
 have D4:Hid (At (V.setCell ⟨b6,2,none⟩ (.int .i64 y)) (w.heap.size+1) zT.o):=jH (C4.out.set (by simpa using fun e=>n64 e.symm) _)
 have D6:Hid (At (V.setCell ⟨b6,2,none⟩ (.int .i64 y)) b6 (Fv.o ⟨4,m,y,0,none,0,0⟩)):=jH (C6.out.cell2 y)
 have HBD:Hid (Below w.heap.size w (V.setCell ⟨b6,2,none⟩ (.int .i64 y))):=jH (HBB.out.setCell (p:=⟨b6,2,none⟩) (by have:=HSZ.out;simp only;omega) _)
 have hszD:Hid ((V.setCell ⟨b6,2,none⟩ (.int .i64 y)).heap.size=b6+1):=jH (by simp only [World.size_setCell];exact hszV.out)
 generalize (V.setCell ⟨b6,2,none⟩ (.int .i64 y))=U at D1 D4 D6 HBD hszD ⊢
 clear C1 C4 C6 HBB hszV p0 p1 p2 p3 p4 hl1 hcy hgx k6 hl6 o0 o1 o2 o3 o4
 obtain ⟨hl1,p0,p1,p2,p3,p4⟩:=D1.out.ty
 obtain ⟨hgx0,x0,x1,x2,x3,x4⟩:=HX.out.below HBD.out
 obtain ⟨kx,mx,rx,sx,ax,nx,cx⟩:=x
 go_upto_region 11 with (go_at_call 28;refine (IH.out _ HBD.out).mono ?_;rintro e w2 ⟨⟨k2,m2,r2,s2,a2,n2,cap2⟩,rfl,hP⟩;have HP:=jH hP;have HE4:=jH (D4.out.below hP.bel);have HE6:=jH (D6.out.below hP.bel);clear hP x0 x1 x2 x3 x4 p0 p1 p2 p3 p4 hl1)
 have hw2:b6+1≤w2.heap.size:=by have:=HP.out.bel.size;have:=hszD.out;omega
 have G4:Hid (At (w2.alloc (tyO k2 m2 r2 s2 a2 n2 cap2)) (w.heap.size+1) zT.o):=jH (HE4.out.alloc _)
 have HBG:Hid (Below w.heap.size w (w2.alloc (tyO k2 m2 r2 s2 a2 n2 cap2))):=jH (belA (jB HBD.out HP.out.bel))
 generalize (w2.alloc (tyO k2 m2 r2 s2 a2 n2 cap2))=U2 at G4 HBG ⊢
 clear HP HE4 HE6 D1 D4 D6 HBD
 have B4:=G4.out
 have g0:=B4.tyF 0
 have g1:=B4.tyF 1
 have g2:=B4.tyF 2
 have g3:=B4.tyF 3
 have g4:=B4.tyF 4
 obtain ⟨hl4,q0,q1,q2,q3,q4⟩:=B4.ty
 simp only [Nat.zero_add] at q0 q1 q2 q3 q4
 go_wp2_with fail
 obtain ⟨F1,F2⟩:=new_zero HBG.out (b:=w.heap.size+1) (by omega) B4
 exact bodyPost_ret (results_c2 (g:=zT) Tryz.results28 rfl rfl F1) rfl ⟨zT,rfl,F2⟩
theorem rtu_out (m:Bool) (r:Int) (g off cap:Nat) (xa:Option Addr) (xn xcap:Nat) (w:World) (hI:∀ W,Below w.heap.size w W→Calls Tryz.prog 30 #[tyV 4 m r 0 (some ⟨g,off,none⟩) 1 cap] W fun e w'=>e=.returned (.bool true)∧Below W.heap.size W w') (hr:r<0∨(xn:Int)≤r) (hn:(xn:Int)≤100000):Calls Tryz.prog 28 #[tyV 4 m r 0 (some ⟨g,off,none⟩) 1 cap,.slice xa xn xcap] w fun e w'=>∃ f':Fv,e=.returned (.tuple #[f'.v,.int .i64 2])∧New w w' f' (.leaf 0 0):=by
 have CI:Hid (Calls Tryz.prog 30 #[tyV 4 m r 0 (some ⟨g,off,none⟩) 1 cap] ((w.alloc (tyO 4 m r 0 (some ⟨g,off,none⟩) 1 cap)).alloc zT.o) fun e w'=>e=.returned (.bool true)∧Below ((w.alloc (tyO 4 m r 0 (some ⟨g,off,none⟩) 1 cap)).alloc zT.o).heap.size ((w.alloc (tyO 4 m r 0 (some ⟨g,off,none⟩) 1 cap)).alloc zT.o) w'):=jH (hI _ (belA (belA bR)))
 have A1:Hid (At ((w.alloc (tyO 4 m r 0 (some ⟨g,off,none⟩) 1 cap)).alloc zT.o) w.heap.size (Fv.o ⟨4,m,r,0,(some ⟨g,off,none⟩),1,cap⟩)):=jH ((At.new _ _).alloc _)
 have A4:Hid (At ((w.alloc (tyO 4 m r 0 (some ⟨g,off,none⟩) 1 cap)).alloc zT.o) (w.heap.size+1) zT.o):=jH (at_snd _ _ _)
 clear hI
 go_enter Tryz.func28,Tryz.ntmps28
 go_upto_region 5 with (go_at_call 30;refine CI.out.mono ?_;rintro e w1 ⟨rfl,hb1⟩;have HB1:=jH hb1;have B1:=A1.out.below hb1;obtain ⟨hl1,p0,p1,p2,p3,p4⟩:=B1.ty;clear hb1)
 clear p0 p1 p2 p3 p4 hl1 CI
 have C1:Hid (At (w1.alloc (tyO 4 m r 0 none 0 0)) w.heap.size (Fv.o ⟨4,m,r,0,(some ⟨g,off,none⟩),1,cap⟩)):=jH (B1.alloc _)
 have C4:Hid (At (w1.alloc (tyO 4 m r 0 none 0 0)) (w.heap.size+1) zT.o):=jH ((A4.out.below HB1.out).alloc _)
 have C6:Hid (At (w1.alloc (tyO 4 m r 0 none 0 0)) w1.heap.size (Fv.o ⟨4,m,r,0,none,0,0⟩)):=jH (At.new _ _)
 have HBB:Hid (Below w.heap.size w (w1.alloc (tyO 4 m r 0 none 0 0))):=jH (belA (below2 HB1.out))
 have hsz:w.heap.size+2≤w1.heap.size:=by have:=HB1.out.size;simp only [World.size_alloc] at this;omega
 have hszV:Hid ((w1.alloc (tyO 4 m r 0 none 0 0)).heap.size=w1.heap.size+1):=jH (by simp only [World.size_alloc])
 obtain ⟨b6,hb6⟩:∃ b6,b6=w1.heap.size:=⟨_,rfl⟩
 rw [← hb6] at C6 hsz hszV ⊢
 generalize (w1.alloc (tyO 4 m r 0 none 0 0))=V at C1 C4 C6 HBB hszV ⊢
 clear HB1 B1 A1 A4 hb6
 obtain ⟨hl1,p0,p1,p2,p3,p4⟩:=C1.out.ty
 have n6:b6≠w.heap.size:=by omega
 have n64:b6≠w.heap.size+1:=by omega
 have HSZ:=jH hsz
 clear hsz
 have B4:=C4.out
 have g0:=B4.tyF 0
 have g1:=B4.tyF 1
 have g2:=B4.tyF 2
 have g3:=B4.tyF 3
 have g4:=B4.tyF 4
 obtain ⟨hl4,q0,q1,q2,q3,q4⟩:=B4.ty
 simp only [Nat.zero_add] at q0 q1 q2 q3 q4
 by_cases hr0:r<0
 ·clear hr
  go_wp2_with fail
  obtain ⟨F1,F2⟩:=new_zero HBB.out (b:=w.heap.size+1) (by omega) B4
  exact bodyPost_ret (results_c2 (g:=zT) Tryz.results28 rfl rfl F1) rfl ⟨zT,rfl,F2⟩
 ·have hr1:(xn:Int)≤r:=by omega
  clear hr
  go_wp2_with fail
  obtain ⟨F1,F2⟩:=new_zero HBB.out (b:=w.heap.size+1) (by omega) B4
  exact bodyPost_ret (results_c2 (g:=zT) Tryz.results28 rfl rfl F1) rfl ⟨zT,rfl,F2⟩
def rIn (n:Nat) (c:Ch):Bool:=c.regs.all (fun r=>decide (0≤r) && decide (r<(n:Int)))
theorem Ok.inBox {c:Ch} (h:Ok (.box c)):Ok c:=⟨h.ok,by have:=h.deep;simp only [Ch.depth] at this;omega⟩
theorem Ok.inRef {m:Bool} {r:Int} {c:Ch} (h:Ok (.ref m r c)):Ok c:=⟨h.ok.2,by have:=h.deep;simp only [Ch.depth] at this;omega⟩
theorem rTurn_yes:∀ (c:Ch) (f:Fv) (a:Option Addr) (n cap:Nat) (X:List Int) (w:World),Ok c→TyAt w f c.ty→IntR w a n cap X→X.length≤100000 →
  Calls Tryz.prog 28 #[f.v,.slice a n cap] w fun e w'=>∃ f':Fv,e=.returned (.tuple #[f'.v,.int .i64 (if rIn n c then 0 else 2)])∧New w w' f' (if rIn n c then mapC (fun r=>X[r.toNat]?.getD 0) c else .leaf 0 0):=by
 intro c
 induction c with
 | leaf k s =>
  intro f a n cap X w hc h hr hX
  have hI:∀ W,Below w.heap.size w W→Calls Tryz.prog 30 #[f.v] W fun e w'=>e=.returned (.bool true)∧Below W.heap.size W w':=fun W hW=>by
   have:=is_any _ f W (h.bel hW)
   rw [hc.is] at this
   exact this
  obtain ⟨a',cap',rfl,-⟩:=h.leaf
  have hk:¬ (k:Int)=4:=by
   have:(k=1∨k=2)∧s=0∨k=5∧0≤s∧s<32:=hc.ok
   omega
  have e:rIn n (.leaf k s)=true:=rfl
  rw [e]
  exact rtu_leaf k s a' cap' _ w hk hI
 | box c ih =>
  intro f a n cap X w hc h hr hX
  have hI:∀ W,Below w.heap.size w W→Calls Tryz.prog 30 #[f.v] W fun e w'=>e=.returned (.bool true)∧Below W.heap.size W w':=fun W hW=>by
   have:=is_any _ f W (h.bel hW)
   rw [hc.is] at this
   exact this
  obtain ⟨g,off,cap',x,rfl,hx,ht⟩:=h.box
  have e:rIn n (.box c)=rIn n c:=rfl
  rw [e]
  have IH:=fun V (hV:Below w.heap.size w V)=>ih x a n cap X V hc.inBox (ht.bel hV) (hr.bel hV) hX
  cases hb:rIn n c with
  | true=>rw [hb] at IH;exact rtu_box g off cap' x _ a n cap w hx hI IH
  | false=>rw [hb] at IH;exact rtu_box0 g off cap' x (.leaf 0 0) a n cap w hx hI IH
 | ref m r c ih =>
  intro f a n cap X w hc h hr hX
  have hI:∀ W,Below w.heap.size w W→Calls Tryz.prog 30 #[f.v] W fun e w'=>e=.returned (.bool true)∧Below W.heap.size W w':=fun W hW=>by
   have:=is_any _ f W (h.bel hW)
   rw [hc.is] at this
   exact this
  obtain ⟨g,off,cap',x,rfl,hx,ht,r0,r1⟩:=h.ref
  have e:rIn n (.ref m r c)=(decide (0≤r) && decide (r<(n:Int)) && rIn n c):=rfl
  have hn:(n:Int)≤100000:=by have:=hr.len;omega
  rw [e]
  by_cases hin:0≤r∧r<(n:Int)
  ·rw [decide_eq_true hin.1,decide_eq_true hin.2]
   have IH:=fun V (hV:Below w.heap.size w V)=>ih x a n cap X V hc.inRef (ht.bel hV) (hr.bel hV) hX
   have hl:r.toNat<X.length:=by have:=hr.len;omega
   obtain ⟨y,hy⟩:∃ y,X[r.toNat]?=some y:=⟨_,List.getElem?_eq_getElem hl⟩
   obtain ⟨xg,xo,hxa,hxg,hcell⟩:=hr.cells (fun e=>by subst e;simp at hl)
   cases hb:rIn n c with
   | true =>
    rw [hb] at IH
    have:=rtu_ref m r y g off cap' x _ a n cap w hx hI hin.1 hin.2 xg xo hxa hxg (hcell _ _ hy) hn IH
    simp only [Bool.and_true,if_true,mapC]
    rw [show (X[r.toNat]?.getD 0)=y by rw [hy];rfl]
    exact this
   | false =>
    rw [hb] at IH
    exact rtu_ref0 m r y g off cap' x (.leaf 0 0) a n cap w hx hI hin.1 hin.2 xg xo hxa hxg (hcell _ _ hy) hn IH
  ·have hf:(decide (0≤r) && decide (r<(n:Int)) && rIn n c)=false:=by
    by_cases h0:0≤r
    ·have h1:¬ r<(n:Int):=fun h1=>hin ⟨h0,h1⟩
     rw [decide_eq_false h1,Bool.and_false,Bool.false_and]
    ·rw [decide_eq_false h0,Bool.false_and,Bool.false_and]
   rw [hf]
   exact rtu_out m r g off cap' a n cap w hI (by omega) hn
end Go.Proofs.YtdlggpcakaofoaaGreat
