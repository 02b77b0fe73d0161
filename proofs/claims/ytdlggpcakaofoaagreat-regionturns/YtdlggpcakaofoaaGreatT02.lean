import Derived.Test.YtdlggpcakaofoaaGreatT01
namespace Go.Proofs.YtdlggpcakaofoaaGreat
open Go.RowKit
set_option linter.unusedVariables false
set_option linter.unusedSimpArgs false
set_option maxRecDepth 100000
set_option maxHeartbeats 2000000
def mapC (g:Int→Int):Ch→Ch
 | .leaf k s=>.leaf k s
 | .box c=>.box (mapC g c)
 | .ref m r c=>.ref m (g r) (mapC g c)
theorem turn_map (g:Int→Int):∀ (c:Ch) (l:List Int),turnC (fun _ r=>g r) l c=mapC g c
 | .leaf k s,l=>rfl
 | .box c,l=>by simp only [turnC,mapC];rw [turn_map g c l]
 | .ref m r c,l=>by simp only [turnC,mapC];rw [turn_map g c]
theorem two_fin {W w2:World} {c:Ch} {f2 fb f4:Fv} (g:Fv) {lo hi b b':Nat} (u:Value) (own:OwnL w2 lo hi f2 c) (hb:W.heap.size≤b) (hb':W.heap.size≤b') (hl:b<lo) (hl':b'<lo) (hne:b≠b') (hlh:lo≤hi) (hhi:hi≤w2.heap.size) (bel:Below W.heap.size W w2) (B2:At w2 b fb.o) (B4:At w2 b' f4.o) :
  C5 ((S5 (w2.setCell ⟨b,4,none⟩ u) b' g).alloc f2.o) b' 0 g∧OwnL ((S5 (w2.setCell ⟨b,4,none⟩ u) b' g).alloc f2.o) W.heap.size ((S5 (w2.setCell ⟨b,4,none⟩ u) b' g).alloc f2.o).heap.size f2 c∧At ((S5 (w2.setCell ⟨b,4,none⟩ u) b' g).alloc f2.o) w2.heap.size f2.o∧Below W.heap.size W ((S5 (w2.setCell ⟨b,4,none⟩ u) b' g).alloc f2.o)∧W.heap.size≤w2.heap.size∧w2.heap.size<((S5 (w2.setCell ⟨b,4,none⟩ u) b' g).alloc f2.o).heap.size:=by
 have hz:W.heap.size≤w2.heap.size:=bel.size
 have B4':At (w2.setCell ⟨b,4,none⟩ u) b' f4.o:=B4.set (by simpa using fun e=>hne e.symm) u
 have own':OwnL (w2.setCell ⟨b,4,none⟩ u) lo hi f2 c:=own.keep fun i o hi _ hA=>hA.set (by simp only;omega) u
 have bel':Below W.heap.size W (w2.setCell ⟨b,4,none⟩ u):=bel.setCell (p:=⟨b,4,none⟩) hb u
 have hs':(w2.setCell ⟨b,4,none⟩ u).heap.size=w2.heap.size:=by simp
 generalize (w2.setCell ⟨b,4,none⟩ u)=V at *
 refine ⟨((B4'.set5 g).alloc _).ty,((own'.keep fun i o hi _ hA=>(hA.S5 (by omega) g).alloc _).low (by omega) (by simp only [World.size_alloc,size_S5];omega)),?_,belA (below_s5 bel' hb' g),hz,by simp only [World.size_alloc,size_S5];omega⟩
 have:=At.new (S5 V b' g) f2.o
 rw [size_S5,hs'] at this
 exact this
theorem Tryz.results31:Tryz.f31.results=#[.cell 2 46]:=rfl
theorem Tryz.results28:Tryz.f28.results=#[.cell 4 46,.tmp 5]:=rfl
theorem rer_leaf (k:Nat) (s:Int) (a:Option Addr) (cap:Nat) (w:World) (k4:¬ (k:Int)=4):Calls Tryz.prog 31 #[tyV k false 0 s a 0 cap] w fun e w'=>∃ f':Fv,e=.returned f'.v∧New w w' f' (.leaf k s):=by
 go_enter Tryz.func31,Tryz.ntmps31
 go_wp2_with fail
 exact bodyPost_ret (results_c1 (g:=⟨k,false,0,s,none,0,0⟩) Tryz.results31 rfl (At.ty (f:=⟨k,false,0,s,none,0,0⟩) (three_new w (Fv.o ⟨k,false,0,s,a,0,cap⟩) (Fv.o ⟨k,false,0,s,none,0,0⟩) (Fv.o ⟨k,false,0,s,none,0,0⟩)).2.1)) rfl ⟨⟨k,false,0,s,none,0,0⟩,rfl,⟨.leaf k s none 0,belA (belA (belA bR))⟩⟩
theorem rer_box (g off cap:Nat) (x:Fv) (c:Ch) (w:World) (hx:C5 w g off x)
  (IH0:∀ V,Below w.heap.size w V→Calls Tryz.prog 31 #[x.v] V fun e w'=>∃ f':Fv,e=.returned f'.v∧New V w' f' c) :
  Calls Tryz.prog 31 #[tyV 3 false 0 0 (some ⟨g,off,none⟩) 1 cap] w fun e w'=>∃ f':Fv,e=.returned f'.v∧New w w' f' (.box c):=by
 obtain ⟨A1',A4',A2'⟩:=three_new w (tyO 3 false 0 0 (some ⟨g,off,none⟩) 1 cap) zT.o (tyO 3 false 0 0 none 0 0)
 have hB0:Below w.heap.size w (((w.alloc (tyO 3 false 0 0 (some ⟨g,off,none⟩) 1 cap)).alloc zT.o).alloc (tyO 3 false 0 0 none 0 0)):=belA (belA (belA bR))
 have hz0:(((w.alloc (tyO 3 false 0 0 (some ⟨g,off,none⟩) 1 cap)).alloc zT.o).alloc (tyO 3 false 0 0 none 0 0)).heap.size=w.heap.size+3:=by simp only [World.size_alloc]
 obtain ⟨V,hV⟩:∃ V,V=(((w.alloc (tyO 3 false 0 0 (some ⟨g,off,none⟩) 1 cap)).alloc zT.o).alloc (tyO 3 false 0 0 none 0 0)):=⟨_,rfl⟩
 rw [← hV] at A1' A4' A2' hB0 hz0
 have IH:=jH (IH0 V hB0)
 have A4:=jH A4'
 have A2:Hid (At V (w.heap.size+1+1) (Fv.o ⟨3,false,0,0,none,0,0⟩)):=jH A2'
 have A1:Hid (At V w.heap.size (Fv.o ⟨3,false,0,0,some ⟨g,off,none⟩,1,cap⟩)):=jH A1'
 have HV:=jH hV
 have HB0:=jH hB0
 have HZ0:=jH hz0
 obtain ⟨hg,p0,p1,p2,p3,p4⟩:=hx.below hB0
 obtain ⟨hl1,r0,r1,r2,r3,r4⟩:=A1.out.ty
 clear IH0 A4' A2' A1' hx hV hB0 hz0
 go_enter Tryz.func31,Tryz.ntmps31
 go_upto_region 5 with fail
 change Code.wp _ _ _ _ (((w.alloc (tyO 3 false 0 0 (some ⟨g,off,none⟩) 1 cap)).alloc zT.o).alloc (tyO 3 false 0 0 none 0 0))
 rw [← HV.out]
 go_wp2_with (go_at_call 31;refine IH.out.mono ?_;rintro e w2 ⟨f2,rfl,hP⟩;clear p0 p1 p2 p3 p4;have B2:=A2.out.below hP.bel;have B4:=A4.out.below hP.bel;have g0:=B4.tyF 0;have g1:=B4.tyF 1;have g2:=B4.tyF 2;have g3:=B4.tyF 3;have g4:=B4.tyF 4;have k4:=B2.tyF 4;obtain ⟨hl4,q0,q1,q2,q3,q4⟩:=B4.ty;obtain ⟨hl2,p0,p1,p2,p3,p4⟩:=B2.ty;simp only [Nat.zero_add] at p0 p1 p2 p3 p4 q0 q1 q2 q3 q4)
 have hz:=HZ0.out
 obtain ⟨F1,F2,F3,F4,F5,F6⟩:=two_fin (W:=w) (b:=w.heap.size+1+1) (b':=w.heap.size+1) ⟨3,false,0,0,some ⟨w2.heap.size,0,none⟩,1,1⟩ (.slice (some ⟨w2.heap.size,0,none⟩) 1 1) hP.own (by omega) (by omega) (by omega) (by omega) (by omega) hP.bel.size (Nat.le_refl _) (jB HB0.out hP.bel) B2 B4
 exact bodyPost_ret (results_c1 (g:=⟨3,false,0,0,some ⟨w2.heap.size,0,none⟩,1,1⟩) Tryz.results31 rfl F1) rfl ⟨⟨3,false,0,0,some ⟨w2.heap.size,0,none⟩,1,1⟩,rfl,⟨.box w2.heap.size f2 c F5 F6 F3 F2,F4⟩⟩
theorem rer_ref (m:Bool) (r:Int) (g off cap:Nat) (x:Fv) (c:Ch) (w:World) (hx:C5 w g off x)
  (IH0:∀ V,Below w.heap.size w V→Calls Tryz.prog 31 #[x.v] V fun e w'=>∃ f':Fv,e=.returned f'.v∧New V w' f' c) :
  Calls Tryz.prog 31 #[tyV 4 m r 0 (some ⟨g,off,none⟩) 1 cap] w fun e w'=>∃ f':Fv,e=.returned f'.v∧New w w' f' (.ref m (-1) c):=by
 obtain ⟨A1',A4',A2'⟩:=three_new w (tyO 4 m r 0 (some ⟨g,off,none⟩) 1 cap) zT.o (tyO 4 m (-1) 0 none 0 0)
 have hB0:Below w.heap.size w (((w.alloc (tyO 4 m r 0 (some ⟨g,off,none⟩) 1 cap)).alloc zT.o).alloc (tyO 4 m (-1) 0 none 0 0)):=belA (belA (belA bR))
 have hz0:(((w.alloc (tyO 4 m r 0 (some ⟨g,off,none⟩) 1 cap)).alloc zT.o).alloc (tyO 4 m (-1) 0 none 0 0)).heap.size=w.heap.size+3:=by simp only [World.size_alloc]
 obtain ⟨V,hV⟩:∃ V,V=(((w.alloc (tyO 4 m r 0 (some ⟨g,off,none⟩) 1 cap)).alloc zT.o).alloc (tyO 4 m (-1) 0 none 0 0)):=⟨_,rfl⟩
 rw [← hV] at A1' A4' A2' hB0 hz0
 have IH:=jH (IH0 V hB0)
 have A4:=jH A4'
 have A2:Hid (At V (w.heap.size+1+1) (Fv.o ⟨4,m,(-1),0,none,0,0⟩)):=jH A2'
 have A1:Hid (At V w.heap.size (Fv.o ⟨4,m,r,0,some ⟨g,off,none⟩,1,cap⟩)):=jH A1'
 have HV:=jH hV
 have HB0:=jH hB0
 have HZ0:=jH hz0
 obtain ⟨hg,p0,p1,p2,p3,p4⟩:=hx.below hB0
 obtain ⟨hl1,r0,r1,r2,r3,r4⟩:=A1.out.ty
 clear IH0 A4' A2' A1' hx hV hB0 hz0
 go_enter Tryz.func31,Tryz.ntmps31
 go_upto_region 5 with fail
 change Code.wp _ _ _ _ (((w.alloc (tyO 4 m r 0 (some ⟨g,off,none⟩) 1 cap)).alloc zT.o).alloc (tyO 4 m (-1) 0 none 0 0))
 rw [← HV.out]
 go_wp2_with (go_at_call 31;refine IH.out.mono ?_;rintro e w2 ⟨f2,rfl,hP⟩;clear p0 p1 p2 p3 p4;have B2:=A2.out.below hP.bel;have B4:=A4.out.below hP.bel;have g0:=B4.tyF 0;have g1:=B4.tyF 1;have g2:=B4.tyF 2;have g3:=B4.tyF 3;have g4:=B4.tyF 4;have k4:=B2.tyF 4;obtain ⟨hl4,q0,q1,q2,q3,q4⟩:=B4.ty;obtain ⟨hl2,p0,p1,p2,p3,p4⟩:=B2.ty;simp only [Nat.zero_add] at p0 p1 p2 p3 p4 q0 q1 q2 q3 q4)
 have hz:=HZ0.out
 obtain ⟨F1,F2,F3,F4,F5,F6⟩:=two_fin (W:=w) (b:=w.heap.size+1+1) (b':=w.heap.size+1) ⟨4,m,(-1),0,some ⟨w2.heap.size,0,none⟩,1,1⟩ (.slice (some ⟨w2.heap.size,0,none⟩) 1 1) hP.own (by omega) (by omega) (by omega) (by omega) (by omega) hP.bel.size (Nat.le_refl _) (jB HB0.out hP.bel) B2 B4
 exact bodyPost_ret (results_c1 (g:=⟨4,m,(-1),0,some ⟨w2.heap.size,0,none⟩,1,1⟩) Tryz.results31 rfl F1) rfl ⟨⟨4,m,(-1),0,some ⟨w2.heap.size,0,none⟩,1,1⟩,rfl,⟨.ref m (-1) w2.heap.size f2 c F5 F6 F3 F2,F4⟩⟩
theorem rErase_any:∀ (c:Ch) (f:Fv) (w:World),c.ok 32→TyAt w f c.ty→Calls Tryz.prog 31 #[f.v] w fun e w'=>∃ f':Fv,e=.returned f'.v∧New w w' f' (mapC (fun _=>-1) c):=by
 intro c
 induction c with
 | leaf k s =>
  intro f w hc h
  obtain ⟨a',cap',rfl,-⟩:=h.leaf
  have hk:¬ (k:Int)=4:=by
   have:(k=1∨k=2)∧s=0∨k=5∧0≤s∧s<32:=hc
   omega
  exact rer_leaf k s a' cap' w hk
 | box c ih =>
  intro f w hc h
  obtain ⟨g,off,cap',x,rfl,hx,ht⟩:=h.box
  exact rer_box g off cap' x _ w hx (fun V hV=>ih x V hc (ht.bel hV))
 | ref m r c ih =>
  intro f w hc h
  obtain ⟨g,off,cap',x,rfl,hx,ht,r0,r1⟩:=h.ref
  exact rer_ref m r g off cap' x _ w hx (fun V hV=>ih x V hc.2 (ht.bel hV))
end Go.Proofs.YtdlggpcakaofoaaGreat
