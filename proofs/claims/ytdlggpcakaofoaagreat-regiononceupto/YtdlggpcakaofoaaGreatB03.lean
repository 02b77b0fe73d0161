import Derived.Test.YtdlggpcakaofoaaGreatB02
namespace Go.Proofs.YtdlggpcakaofoaaGreat
open Go.RowKit
set_option linter.unusedVariables false
set_option linter.unusedSimpArgs false
set_option maxRecDepth 100000
set_option maxHeartbeats 4000000
def turnC (out:List Int→Int→Int):List Int→Ch→Ch
 | _,.leaf k s=>.leaf k s
 | l,.box c=>.box (turnC out l c)
 | l,.ref m r c=>.ref m (out l r) (turnC out (l++[r]) c)
structure Turn (fn:Nat) (caps:List Value) (N:Nat) (w0:World) (J:List Int→World→Prop) (out:List Int→Int→Int):Prop where
 enters:Enters fn
 alloc:∀ l W o,J l W→J l (W.alloc o)
 set:∀ l W W' i (f:Fv),J l W→At W i f.o→w0.heap.size≤i→But i W W'→J l W'
 bel:∀ l W,J l W→Below w0.heap.size w0 W
 call:∀ l r W,l.length<N→-9223372036854775808≤r→r≤9223372036854775807→J l W→Calls Tryz.prog fn ((.int .i64 r)::caps).toArray W fun e w'=>e=.returned (.int .i64 (out l r))∧J (l++[r]) w'∧KeepT W w'∧W.heap.size≤w'.heap.size
theorem results_c1 {fn:Func} {j:Nat} (h:fn.results=#[.cell j 46]) {tmps:Array Value} {W:World} {b4:Nat} {g:Fv} (ht:tmps.getD j undef=.pointer (some ⟨b4,0,none⟩)) (hC:C5 W b4 0 g):(results fn tmps).run Tryz.prog W=.ok g.v W:=by
 obtain ⟨-,e0,e1,e2,e3,e4⟩:=hC
 simp only [Nat.zero_add] at e1 e2 e3 e4
 have ht2:tmps[j]?.getD undef=.pointer (some ⟨b4,0,none⟩):=by rw [← ht];simp
 simp only [results,h]
 simp [go_sem,ht2,e0,e1,e2,e3,e4]
theorem Tryz.results98:Tryz.f98.results=#[.cell 4 46]:=rfl
structure TurnP (W:World) (J:List Int→World→Prop) (l:List Int) (c:Ch) (f:Fv) (w':World):Prop where
 own:Own w' W.heap.size f c
 j:J l w'
 keep:KeepT W w'
 size:W.heap.size≤w'.heap.size
theorem but_s5 (w:World) (b:Nat) (g:Fv):But b w (S5 w b g):=(((((But.refl b w).set 0 _).set 1 _).set 2 _).set 3 _).set 4 _
theorem keepT_S5 {W W':World} {b:Nat} (h:KeepT W W') (hb:W.heap.size≤b) (g:Fv):KeepT W (S5 W' b g):=fun i f x=>(h i f x).S5 (by have:=x.lt;omega) g
theorem keepT_two {W W':World} {o o':Obj} (h:KeepT ((W.alloc o).alloc o') W'):KeepT W W':=fun i f x=>h i f ((x.alloc o).alloc o')
theorem keepT_hi {W W':World} {b:Nat} (h:KeepT W W') (hb:W.heap.size≤b) (o:Nat) (u:Value):KeepT W (W'.setCell ⟨b,o,none⟩ u):=fun i f x=>(h i f x).set (by have:=x.lt;simp only;omega) u
theorem At.cell2 {w:World} {b:Nat} {f:Fv} (h:At w b f.o) (r:Int):At (w.setCell ⟨b,2,none⟩ (.int .i64 r)) b (Fv.o ⟨f.k,f.m,r,f.s,f.a,f.n,f.cap⟩):=by
 have:=heap_setCell_same w b 2 _ 46 (.int .i64 r) h
 unfold At
 simpa using this
theorem turn_leaf {fn N:Nat} {caps:List Value} {w0:World} {J:List Int→World→Prop} {out:List Int→Int→Int} (hT:Turn fn caps N w0 J out) (fv:Value) (k:Nat) (s:Int) (a:Option Addr) (cap:Nat) (l:List Int) (W:World) (k3:¬ (k:Int)=3) (k4:¬ (k:Int)=4) (hJ:J l W) :
  Calls Tryz.prog 98 #[tyV k false 0 s a 0 cap,fv] W fun e w'=>∃ f':Fv,e=.returned f'.v∧TurnP W J l (.leaf k s) f' w':=by
 have h1:Hid (∀ o o',J l ((W.alloc o).alloc o')):=fun o o'=>hT.alloc _ _ _ (hT.alloc _ _ _ hJ)
 have hB:Hid (Below w0.heap.size w0 W):=hT.bel _ _ hJ
 have A2:Hid (At ((W.alloc (tyO k false 0 s a 0 cap)).alloc zT.o) W.heap.size (Fv.o ⟨k,false,0,s,a,0,cap⟩)):=(At.new _ _).alloc _
 have A4:Hid (At ((W.alloc (tyO k false 0 s a 0 cap)).alloc zT.o) (W.heap.size+1) zT.o):=at_snd _ _ _
 have HS:Hid (∀ (V V':World) i (f:Fv),J l V→At V i f.o→w0.heap.size≤i→But i V V'→J l V'):=fun V V' i f=>hT.set l V V' i f
 clear hT hJ
 go_enter Tryz.func98,Tryz.ntmps98
 go_wp2_with fail
 exact bodyPost_ret (results_c1 (g:=⟨k,false,0,s,none,0,0⟩) Tryz.results98 rfl (At.ty (f:=⟨k,false,0,s,none,0,0⟩) (at_snd W (Fv.o ⟨k,false,0,s,none,0,0⟩) (Fv.o ⟨k,false,0,s,none,0,0⟩)))) rfl ⟨⟨k,false,0,s,none,0,0⟩,rfl,⟨.leaf k s,h1.out _ _,fun i f x=>(x.alloc _).alloc _,by simp only [World.size_alloc];omega⟩⟩
theorem turn_fin {W w0 w2:World} {J:World→Prop} {c:Ch} {f2 fb f4:Fv} (g:Fv) {lo:Nat} (u:Value) (own:Own w2 lo f2 c) (hlo:W.heap.size+2≤lo) (j:J w2) (kp:KeepT W w2) (B2:At w2 W.heap.size fb.o) (B4:At w2 (W.heap.size+1) f4.o) (hB:w0.heap.size≤W.heap.size)
  (HS:∀ (V V':World) i (f:Fv),J V→At V i f.o→w0.heap.size≤i→But i V V'→J V') (HA:∀ V o,J V→J (V.alloc o)) :
  C5 ((S5 (w2.setCell ⟨W.heap.size,4,none⟩ u) (W.heap.size+1) g).alloc f2.o) (W.heap.size+1) 0 g∧Own ((S5 (w2.setCell ⟨W.heap.size,4,none⟩ u) (W.heap.size+1) g).alloc f2.o) W.heap.size f2 c∧At ((S5 (w2.setCell ⟨W.heap.size,4,none⟩ u) (W.heap.size+1) g).alloc f2.o) w2.heap.size f2.o∧J ((S5 (w2.setCell ⟨W.heap.size,4,none⟩ u) (W.heap.size+1) g).alloc f2.o)∧KeepT W ((S5 (w2.setCell ⟨W.heap.size,4,none⟩ u) (W.heap.size+1) g).alloc f2.o)∧W.heap.size≤((S5 (w2.setCell ⟨W.heap.size,4,none⟩ u) (W.heap.size+1) g).alloc f2.o).heap.size∧W.heap.size≤w2.heap.size:=by
 have hz:W.heap.size≤w2.heap.size:=by have:=B2.lt;omega
 have B4':At (w2.setCell ⟨W.heap.size,4,none⟩ u) (W.heap.size+1) f4.o:=B4.set (by simp) u
 have own':Own (w2.setCell ⟨W.heap.size,4,none⟩ u) lo f2 c:=own.keep fun i o hi hA=>hA.set (by simp only;omega) u
 have j':J (w2.setCell ⟨W.heap.size,4,none⟩ u):=HS w2 _ _ fb j B2 hB ((But.refl _ _).set 4 u)
 have kp':KeepT W (w2.setCell ⟨W.heap.size,4,none⟩ u):=keepT_hi kp (Nat.le_refl _) 4 u
 have hs':(w2.setCell ⟨W.heap.size,4,none⟩ u).heap.size=w2.heap.size:=by simp
 generalize (w2.setCell ⟨W.heap.size,4,none⟩ u)=V at *
 have j2:J (S5 V (W.heap.size+1) g):=HS V _ _ f4 j' B4' (by omega) (but_s5 _ _ _)
 refine ⟨((B4'.set5 g).alloc _).ty,((own'.keep fun i o hi hA=>(hA.S5 (by omega) g).alloc _).low (by omega)),?_,HA _ _ j2,fun i f x=>((keepT_S5 kp' (by omega) g) i f x).alloc _,by simp only [World.size_alloc,size_S5];omega,hz⟩
 have:=At.new (S5 V (W.heap.size+1) g) f2.o
 rw [size_S5,hs'] at this
 exact this
theorem turn_box {fn N:Nat} {caps:List Value} {w0:World} {J:List Int→World→Prop} {out:List Int→Int→Int} (hT:Turn fn caps N w0 J out) (fv:Value) (g off cap:Nat) (x:Fv) (c:Ch) (l l':List Int) (W:World) (hx:C5 w0 g off x) (hJ:J l W)
  (IH0:∀ V,J l V→Calls Tryz.prog 98 #[x.v,fv] V fun e w'=>∃ f':Fv,e=.returned f'.v∧TurnP V J l' c f' w') :
  Calls Tryz.prog 98 #[tyV 3 false 0 0 (some ⟨g,off,none⟩) 1 cap,fv] W fun e w'=>∃ f':Fv,e=.returned f'.v∧TurnP W J l' (.box c) f' w':=by
 have hJ2:=hT.alloc _ _ zT.o (hT.alloc _ _ (tyO 3 false 0 0 (some ⟨g,off,none⟩) 1 cap) hJ)
 have IH:Hid (Calls Tryz.prog 98 #[x.v,fv] ((W.alloc (tyO 3 false 0 0 (some ⟨g,off,none⟩) 1 cap)).alloc zT.o) fun e w'=>∃ f':Fv,e=.returned f'.v∧TurnP ((W.alloc (tyO 3 false 0 0 (some ⟨g,off,none⟩) 1 cap)).alloc zT.o) J l' c f' w'):=IH0 _ hJ2
 have hB:Hid (Below w0.heap.size w0 W):=hT.bel _ _ hJ
 have A2:Hid (At ((W.alloc (tyO 3 false 0 0 (some ⟨g,off,none⟩) 1 cap)).alloc zT.o) W.heap.size (Fv.o ⟨3,false,0,0,some ⟨g,off,none⟩,1,cap⟩)):=(At.new _ _).alloc _
 have A4:Hid (At ((W.alloc (tyO 3 false 0 0 (some ⟨g,off,none⟩) 1 cap)).alloc zT.o) (W.heap.size+1) zT.o):=at_snd _ _ _
 have HS:Hid (∀ (V V':World) i (f:Fv),J l' V→At V i f.o→w0.heap.size≤i→But i V V'→J l' V'):=fun V V' i f=>hT.set l' V V' i f
 have HA:Hid (∀ V o,J l' V→J l' (V.alloc o)):=hT.alloc l'
 obtain ⟨hg,p0,p1,p2,p3,p4⟩:=hx.below (hT.bel _ _ hJ)
 clear hT hJ hJ2 IH0 hx
 go_enter Tryz.func98,Tryz.ntmps98
 go_wp2_with (go_at_call 98;refine IH.out.mono ?_;rintro e w2 ⟨f2,rfl,hP⟩;clear p0 p1 p2 p3 p4;have B2:=hP.keep _ _ A2.out;have B4:=hP.keep _ _ A4.out;have g0:=B4.tyF 0;have g1:=B4.tyF 1;have g2:=B4.tyF 2;have g3:=B4.tyF 3;have g4:=B4.tyF 4;have k4:=B2.tyF 4;obtain ⟨hl4,q0,q1,q2,q3,q4⟩:=B4.ty;obtain ⟨hl2,p0,p1,p2,p3,p4⟩:=B2.ty;simp only [Nat.zero_add] at p0 p1 p2 p3 p4 q0 q1 q2 q3 q4)
 have hlo:W.heap.size+2≤((W.alloc (tyO 3 false 0 0 (some ⟨g,off,none⟩) 1 cap)).alloc zT.o).heap.size:=by simp only [World.size_alloc];omega
 obtain ⟨F1,F2,F3,F4,F5,F6,F7⟩:=turn_fin (J:=J l') (w0:=w0) ⟨3,false,0,0,some ⟨w2.heap.size,0,none⟩,1,1⟩ (.slice (some ⟨w2.heap.size,0,none⟩) 1 1) hP.own hlo hP.j (keepT_two hP.keep) B2 B4 hB.out.size HS.out HA.out
 exact bodyPost_ret (results_c1 (g:=⟨3,false,0,0,some ⟨w2.heap.size,0,none⟩,1,1⟩) Tryz.results98 rfl F1) rfl ⟨⟨3,false,0,0,some ⟨w2.heap.size,0,none⟩,1,1⟩,rfl,⟨.box w2.heap.size f2 c F7 F3 F2,F4,F5,F6⟩⟩
abbrev fnZ (fn:Nat):Value:=.func (.func fn) #[] #[]
theorem turn_ref0 {fn N:Nat} {w0:World} {J:List Int→World→Prop} {out:List Int→Int→Int} (hT:Turn fn [] N w0 J out) (m:Bool) (r:Int) (g off cap:Nat) (x:Fv) (c:Ch) (l l':List Int) (W:World) (hl:l.length<N) (r0:-9223372036854775808≤r) (r1:r≤9223372036854775807) (hx:C5 w0 g off x) (hJ:J l W)
  (IH0:∀ V,J (l++[r]) V→Calls Tryz.prog 98 #[x.v,fnZ fn] V fun e w'=>∃ f':Fv,e=.returned f'.v∧TurnP V J l' c f' w') :
  Calls Tryz.prog 98 #[tyV 4 m r 0 (some ⟨g,off,none⟩) 1 cap,fnZ fn] W fun e w'=>∃ f':Fv,e=.returned f'.v∧TurnP W J l' (.ref m (out l r) c) f' w':=by
 have hJ2:=hT.alloc _ _ zT.o (hT.alloc _ _ (tyO 4 m r 0 (some ⟨g,off,none⟩) 1 cap) hJ)
 have CT:Hid (Calls Tryz.prog fn #[.int .i64 r] ((W.alloc (tyO 4 m r 0 (some ⟨g,off,none⟩) 1 cap)).alloc zT.o) fun e w'=>e=.returned (.int .i64 (out l r))∧J (l++[r]) w'∧KeepT ((W.alloc (tyO 4 m r 0 (some ⟨g,off,none⟩) 1 cap)).alloc zT.o) w'∧((W.alloc (tyO 4 m r 0 (some ⟨g,off,none⟩) 1 cap)).alloc zT.o).heap.size≤w'.heap.size):=hT.call l r _ hl r0 r1 hJ2
 have IH:Hid (∀ V,J (l++[r]) V→Calls Tryz.prog 98 #[x.v,fnZ fn] V fun e w'=>∃ f':Fv,e=.returned f'.v∧TurnP V J l' c f' w'):=IH0
 have hB:Hid (w0.heap.size≤W.heap.size):=(hT.bel _ _ hJ).size
 have A2:Hid (At ((W.alloc (tyO 4 m r 0 (some ⟨g,off,none⟩) 1 cap)).alloc zT.o) W.heap.size (Fv.o ⟨4,m,r,0,some ⟨g,off,none⟩,1,cap⟩)):=(At.new _ _).alloc _
 have A4:Hid (At ((W.alloc (tyO 4 m r 0 (some ⟨g,off,none⟩) 1 cap)).alloc zT.o) (W.heap.size+1) zT.o):=at_snd _ _ _
 have HS1:Hid (∀ (V V':World) i (f:Fv),J (l++[r]) V→At V i f.o→w0.heap.size≤i→But i V V'→J (l++[r]) V'):=fun V V' i f=>hT.set _ V V' i f
 have HS:Hid (∀ (V V':World) i (f:Fv),J l' V→At V i f.o→w0.heap.size≤i→But i V V'→J l' V'):=fun V V' i f=>hT.set l' V V' i f
 have HA:Hid (∀ V o,J l' V→J l' (V.alloc o)):=hT.alloc l'
 have PC:Hid (∀ V,J (l++[r]) V→C5 V g off x):=fun V h1=>hx.below (hT.bel _ _ h1)
 have hgw:g<w0.heap.size:=hx.1
 have hen:=hT.enters
 unfold Enters at hen
 obtain ⟨o,ho⟩:∃ o,o=out l r:=⟨_,rfl⟩
 rw [← ho] at CT ⊢
 clear hT hJ hJ2 IH0 hx ho hl r0 r1
 go_enter Tryz.func98,Tryz.ntmps98
 go_wp2_with fail
 refine CT.out.mono ?_
 rintro e w1 ⟨rfl,hj1,hk1,hz1⟩
 have B2:=hk1 _ _ A2.out
 have B4:=hk1 _ _ A4.out
 have C2:At (w1.setCell ⟨W.heap.size,2,none⟩ (.int .i64 o)) W.heap.size (Fv.o ⟨4,m,o,0,some ⟨g,off,none⟩,1,cap⟩):=B2.cell2 o
 have C4:At (w1.setCell ⟨W.heap.size,2,none⟩ (.int .i64 o)) (W.heap.size+1) zT.o:=B4.set (by simp) _
 have hj2:J (l++[r]) (w1.setCell ⟨W.heap.size,2,none⟩ (.int .i64 o)):=HS1.out w1 _ _ _ hj1 B2 hB.out ((But.refl _ _).set 2 _)
 have hk2:KeepT W (w1.setCell ⟨W.heap.size,2,none⟩ (.int .i64 o)):=keepT_hi (keepT_two hk1) (Nat.le_refl _) 2 _
 have hs2:W.heap.size+2≤(w1.setCell ⟨W.heap.size,2,none⟩ (.int .i64 o)).heap.size:=by simp only [World.size_alloc] at hz1;simp only [World.size_setCell];omega
 have Q2:Hid (At (w1.setCell ⟨W.heap.size,2,none⟩ (.int .i64 o)) W.heap.size (Fv.o ⟨4,m,o,0,some ⟨g,off,none⟩,1,cap⟩)∧At (w1.setCell ⟨W.heap.size,2,none⟩ (.int .i64 o)) (W.heap.size+1) zT.o∧J (l++[r]) (w1.setCell ⟨W.heap.size,2,none⟩ (.int .i64 o))∧KeepT W (w1.setCell ⟨W.heap.size,2,none⟩ (.int .i64 o))∧W.heap.size+2≤(w1.setCell ⟨W.heap.size,2,none⟩ (.int .i64 o)).heap.size):=⟨C2,C4,hj2,hk2,hs2⟩
 have k2:=B2.tyF 2
 obtain ⟨hl2,p0,p1,p2,p3,p4⟩:=B2.ty
 simp only [Nat.zero_add] at p0 p1 p2 p3 p4
 obtain ⟨hgl,q0,q1,q2,q3,q4⟩:=PC.out _ hj1
 have hgne:g≠W.heap.size:=by have:=hB.out;omega
 clear C2 C4 hj2 hk2 hs2 B2 B4
 go_wp2_with (go_at_call 98;refine (IH.out _ Q2.out.2.2.1).mono ?_;rintro e w2 ⟨f2,rfl,hP⟩;clear p0 p1 p2 p3 p4 q0 q1 q2 q3 q4;have D2:=hP.keep _ _ Q2.out.1;have D4:=hP.keep _ _ Q2.out.2.1;have g0:=D4.tyF 0;have g1:=D4.tyF 1;have g2:=D4.tyF 2;have g3:=D4.tyF 3;have g4:=D4.tyF 4;have k4:=D2.tyF 4;obtain ⟨hl4,q0,q1,q2,q3,q4⟩:=D4.ty;obtain ⟨hl2,p0,p1,p2,p3,p4⟩:=D2.ty;simp only [Nat.zero_add] at p0 p1 p2 p3 p4 q0 q1 q2 q3 q4)
 obtain ⟨F1,F2,F3,F4,F5,F6,F7⟩:=turn_fin (J:=J l') (w0:=w0) ⟨4,m,o,0,some ⟨w2.heap.size,0,none⟩,1,1⟩ (.slice (some ⟨w2.heap.size,0,none⟩) 1 1) hP.own Q2.out.2.2.2.2 hP.j (Q2.out.2.2.2.1.trans hP.keep) D2 D4 hB.out HS.out HA.out
 exact bodyPost_ret (results_c1 (g:=⟨4,m,o,0,some ⟨w2.heap.size,0,none⟩,1,1⟩) Tryz.results98 rfl F1) rfl ⟨⟨4,m,o,0,some ⟨w2.heap.size,0,none⟩,1,1⟩,rfl,⟨.ref m o w2.heap.size f2 c F7 F3 F2,F4,F5,F6⟩⟩
theorem turned_any0 {fn N:Nat} {w0:World} {J:List Int→World→Prop} {out:List Int→Int→Int} (hT:Turn fn [] N w0 J out):∀ (c:Ch) (f:Fv) (l:List Int) (W:World),c.ok 32→l.length+c.regs.length≤N→TyAt w0 f c.ty→J l W →
  Calls Tryz.prog 98 #[f.v,fnZ fn] W fun e w'=>∃ f':Fv,e=.returned f'.v∧TurnP W J (l++c.regs) (turnC out l c) f' w':=by
 intro c
 induction c with
 | leaf k s =>
  intro f l W hc hl h hJ
  obtain ⟨a,cap,rfl,-⟩:=h.leaf
  have hk:¬ (k:Int)=3∧¬ (k:Int)=4:=by
   have:(k=1∨k=2)∧s=0∨k=5∧0≤s∧s<32:=hc
   omega
  have:=turn_leaf hT (fnZ fn) k s a cap l W hk.1 hk.2 hJ
  simpa only [Ch.regs,List.append_nil,turnC] using this
 | box c ih =>
  intro f l W hc hl h hJ
  obtain ⟨g,off,cap,x,rfl,hx,ht⟩:=h.box
  exact turn_box hT (fnZ fn) g off cap x (turnC out l c) l (l++c.regs) W hx hJ (fun V hV=>ih x l V hc hl ht hV)
 | ref m r c ih =>
  intro f l W hc hl h hJ
  obtain ⟨g,off,cap,x,rfl,hx,ht,r0,r1⟩:=h.ref
  refine turn_ref0 hT m r g off cap x (turnC out (l++[r]) c) l (l++(Ch.ref m r c).regs) W (by simp [Ch.regs] at hl;omega) r0 r1 hx hJ (fun V hV=>?_)
  have:=ih x (l++[r]) V hc.2 (by simp [Ch.regs] at hl ⊢;omega) ht hV
  rw [List.append_assoc] at this
  exact this
theorem turn_id:∀ (c:Ch) (l:List Int),turnC (fun _ r=>r) l c=c
 | .leaf k s,l=>rfl
 | .box c,l=>by simp only [turnC];rw [turn_id c l]
 | .ref m r c,l=>by simp only [turnC];rw [turn_id c]
theorem turnO (w0:World) (N:Nat):Turn 99 [] N w0 (fun _ W=>Below w0.heap.size w0 W) (fun _ r=>r) where
 enters:=fun args W=>by kernel_rfl
 alloc:=fun l W o h=>h.alloc h.size o
 set:=fun l W W' i f h hA hi hb=>h.grown hb h.size (fun k hk=>by cases hk;exact hi)
 bel:=fun l W h=>h
 call:=by
  intro l r W hl r0 r1 hJ
  show Calls Tryz.prog 99 #[.int .i64 r] W _
  have HJ:=(show Hid (Below w0.heap.size w0 W) from hJ)
  clear hJ
  go_enter Tryz.func99,Tryz.ntmps99
  go_wp2_with fail
  go_ret
  exact ⟨rfl,HJ.out,fun i f x=>x,Nat.le_refl _⟩
theorem one_ne {W:World} {b i t:Nat} {v:Value} {f:Fv} (h:At W b (One v t)) (hA:At W i f.o):b≠i:=fun e=>by
 subst e
 unfold At at h hA
 rw [h] at hA
 simp [Fv.o] at hA
structure IntR (w:World) (a:Option Addr) (n cap:Nat) (L:List Int):Prop where
 len:n=L.length
 le:n≤cap
 big:cap≤maxLen
 cells:L≠[]→∃ g off,a=some ⟨g,off,none⟩∧g<w.heap.size∧∀ i x,L[i]?=some x→w.cell? ⟨g,off+i,none⟩=some (.int .i64 x)
 rng:∀ x∈L,-9223372036854775808≤x∧x≤9223372036854775807
 nil:a=none→cap=0
theorem IntR.bel {w w':World} {a:Option Addr} {n cap:Nat} {L:List Int} (h:IntR w a n cap L) (hb:Below w.heap.size w w'):IntR w' a n cap L :=
 ⟨h.len,h.le,h.big,fun hne=>by obtain ⟨g,off,h1,h2,h3⟩:=h.cells hne;exact ⟨g,off,h1,Nat.lt_of_lt_of_le h2 hb.size,fun i x hx=>(hb.cell (p:=⟨g,off+i,none⟩) h2).trans (h3 i x hx)⟩,h.rng,h.nil⟩
theorem results_c2 {fn:Func} {i j:Nat} (h:fn.results=#[.cell i 46,.tmp j]) {tmps:Array Value} {W:World} {b4:Nat} {g:Fv} {v:Value} (ht:tmps.getD i undef=.pointer (some ⟨b4,0,none⟩)) (hv:tmps.getD j undef=v) (hC:C5 W b4 0 g):(results fn tmps).run Tryz.prog W=.ok (.tuple #[g.v,v]) W:=by
 obtain ⟨-,e0,e1,e2,e3,e4⟩:=hC
 simp only [Nat.zero_add] at e1 e2 e3 e4
 have ht2:tmps[i]?.getD undef=.pointer (some ⟨b4,0,none⟩):=by rw [← ht];simp
 have hv2:tmps[j]?.getD undef=v:=by rw [← hv];simp
 simp only [results,h]
 simp [go_sem,ht2,hv2,e0,e1,e2,e3,e4]
theorem results_c3 {fn:Func} {i j l:Nat} (h:fn.results=#[.cell i 46,.tmp j,.tmp l]) {tmps:Array Value} {W:World} {b4:Nat} {g:Fv} {v u:Value} (ht:tmps.getD i undef=.pointer (some ⟨b4,0,none⟩)) (hv:tmps.getD j undef=v) (hu:tmps.getD l undef=u) (hC:C5 W b4 0 g):(results fn tmps).run Tryz.prog W=.ok (.tuple #[g.v,v,u]) W:=by
 obtain ⟨-,e0,e1,e2,e3,e4⟩:=hC
 simp only [Nat.zero_add] at e1 e2 e3 e4
 have ht2:tmps[i]?.getD undef=.pointer (some ⟨b4,0,none⟩):=by rw [← ht];simp
 have hv2:tmps[j]?.getD undef=v:=by rw [← hv];simp
 have hu2:tmps[l]?.getD undef=u:=by rw [← hu];simp
 simp only [results,h]
 simp [go_sem,ht2,hv2,hu2,e0,e1,e2,e3,e4]
theorem Tryz.results82:Tryz.f82.results=#[.cell 2 46]:=rfl
theorem Tryz.results54:Tryz.f54.results=#[.cell 2 46,.tmp 3]:=rfl
structure New (W w':World) (f:Fv) (X:Ch):Prop where
 own:OwnL w' W.heap.size w'.heap.size f X
 bel:Below W.heap.size W w'
theorem below_s5 {w w1:World} (h:Below w.heap.size w w1) {b:Nat} (hb:w.heap.size≤b) (g:Fv):Below w.heap.size w (S5 w1 b g):=h.grown (but_s5 w1 b g) h.size (fun k hk=>by cases hk;exact hb)
theorem new_s5 {w w1:World} {lo b:Nat} {f f4:Fv} {X:Ch} (ho:Own w1 lo f X) (hB:Below w.heap.size w w1) (hb:w.heap.size≤b) (hlo:b<lo) (hA:At w1 b f4.o):C5 (S5 w1 b f) b 0 f∧New w (S5 w1 b f) f X :=
 ⟨(hA.set5 f).ty,⟨((ho.keep fun i o hi h=>h.S5 (by omega) f).low (by omega)).toL,below_s5 hB hb f⟩⟩
theorem new_zero {w w1:World} {b:Nat} {f4:Fv} (hB:Below w.heap.size w w1) (hb:w.heap.size≤b) (hA:At w1 b f4.o):C5 (S5 w1 b zT) b 0 zT∧New w (S5 w1 b zT) zT (.leaf 0 0) :=
 ⟨(hA.set5 zT).ty,⟨.leaf 0 0 none 0,below_s5 hB hb zT⟩⟩
theorem owned_any (c:Ch) (f:Fv) (w:World) (hc:c.ok 32) (h:TyAt w f c.ty):Calls Tryz.prog 82 #[f.v] w fun e w'=>∃ f':Fv,e=.returned f'.v∧Own w' w.heap.size f' c∧Below w.heap.size w w':=by
 have CT:Hid (Calls Tryz.prog 98 #[f.v,fnZ 99] ((w.alloc f.o).alloc zT.o) fun e w'=>∃ f':Fv,e=.returned f'.v∧TurnP ((w.alloc f.o).alloc zT.o) (fun _ W=>Below w.heap.size w W) ([]++c.regs) c f' w'):=by
  have:=turned_any0 (turnO w c.regs.length) c f [] ((w.alloc f.o).alloc zT.o) hc (by simp) h (belA (belA bR))
  rw [turn_id] at this
  exact this
 have A4:Hid (At ((w.alloc f.o).alloc zT.o) (w.heap.size+1) zT.o):=at_snd _ _ _
 obtain ⟨k,m,r,s,a,n,cap⟩:=f
 show Calls Tryz.prog 82 #[tyV k m r s a n cap] w _
 clear h hc
 go_enter Tryz.func82,Tryz.ntmps82
 go_wp2_with (go_at_call 98;refine CT.out.mono ?_;rintro e w1 ⟨f2,rfl,hP⟩;have B4:=hP.keep _ _ A4.out;have g0:=B4.tyF 0;have g1:=B4.tyF 1;have g2:=B4.tyF 2;have g3:=B4.tyF 3;have g4:=B4.tyF 4;obtain ⟨hl4,q0,q1,q2,q3,q4⟩:=B4.ty;simp only [Nat.zero_add] at q0 q1 q2 q3 q4)
 obtain ⟨F1,F2⟩:=new_s5 hP.own hP.j (b:=w.heap.size+1) (by omega) (by simp) B4
 exact bodyPost_ret (results_c1 (g:=f2) Tryz.results82 rfl F1) rfl ⟨f2,rfl,(hP.own.keep fun i o hi h=>h.S5 (by simp at hi;omega) f2).low (by simp;omega),F2.bel⟩
theorem Own_yes (c:Ch) (f:Fv) (w:World) (hc:Ok c) (h:TyAt w f c.ty):Calls Tryz.prog 54 #[f.v] w fun e w'=>∃ f':Fv,e=.returned (.tuple #[f'.v,.int .i64 0])∧New w w' f' c:=by
 have CI:Hid (Calls Tryz.prog 59 #[f.v] ((w.alloc f.o).alloc zT.o) fun e w'=>e=.returned (.bool true)∧Below ((w.alloc f.o).alloc zT.o).heap.size ((w.alloc f.o).alloc zT.o) w'):=by
  have:=some_any c.ty f _ (h.bel (belB w f zT))
  rw [hc.is] at this
  exact this
 have CO:Hid (∀ W,Below w.heap.size w W→Calls Tryz.prog 82 #[f.v] W fun e w'=>∃ f':Fv,e=.returned f'.v∧Own w' W.heap.size f' c∧Below W.heap.size W w'):=fun W hW=>owned_any c f W hc.ok (h.bel hW)
 have A2:Hid (At ((w.alloc f.o).alloc zT.o) w.heap.size f.o):=(At.new _ _).alloc _
 have A4:Hid (At ((w.alloc f.o).alloc zT.o) (w.heap.size+1) zT.o):=at_snd _ _ _
 obtain ⟨k,m,r,s,a,n,cap⟩:=f
 show Calls Tryz.prog 54 #[tyV k m r s a n cap] w _
 clear h hc
 go_enter Tryz.func54,Tryz.ntmps54
 go_wp2_with (first
  | (go_at_call 59;refine CI.out.mono ?_;rintro e w1 ⟨rfl,hb1⟩;obtain ⟨-,p0,p1,p2,p3,p4⟩:=(A2.out.below hb1).ty)
  | (go_at_call 82;refine (CO.out _ (below2 hb1)).mono ?_;rintro e w2 ⟨f2,rfl,ho2,hb2⟩;have B4:=(A4.out.below hb1).below hb2;have g0:=B4.tyF 0;have g1:=B4.tyF 1;have g2:=B4.tyF 2;have g3:=B4.tyF 3;have g4:=B4.tyF 4;obtain ⟨hl4,q0,q1,q2,q3,q4⟩:=B4.ty;simp only [Nat.zero_add] at q0 q1 q2 q3 q4))
 obtain ⟨F1,F2⟩:=new_s5 ho2 (jB (below2 hb1) hb2) (b:=w.heap.size+1) (by omega) (by have:=hb1.size;simp only [World.size_alloc] at this;omega) B4
 exact bodyPost_ret (results_c2 (g:=f2) Tryz.results54 rfl rfl F1) rfl ⟨f2,rfl,F2⟩
theorem TyAt.big {w:World} {f:Fv} {k:Nat} {m:Bool} {r s:Int} {of:List Ty} (h:TyAt w f (.mk k m r s of)):of.length≤maxLen:=by
 cases h with
 | mk k m r s a n cap of V hn hl hk r0 r1 s0 s1 h1 h2=>exact hn ▸ hl
theorem jH {p:Prop} (h:p):Hid p:=h
def FdAt (w:World) (fa:Option Addr) (fs:List Ty):Prop:=fs.length≤maxLen∧(fs≠[]→∃ g off,fa=some ⟨g,off,none⟩∧∀ k t,fs[k]?=some t→∃ (V:Fv) (nm:ByteArray),w.cell? ⟨g,off+k*6,none⟩=some (.string nm)∧C5 w g (off+k*6+1) V∧TyAt w V t)
theorem FdAt.bel {w w':World} {fa:Option Addr} {fs:List Ty} (h:FdAt w fa fs) (hb:Below w.heap.size w w'):FdAt w' fa fs :=
 ⟨h.1,fun hne=>by
  obtain ⟨g,off,e,hk⟩:=h.2 hne
  refine ⟨g,off,e,fun k t ht=>?_⟩
  obtain ⟨V,nm,h0,h1,h2⟩:=hk k t ht
  exact ⟨V,nm,(hb.cell (p:=⟨g,off+k*6,none⟩) h1.1).trans h0,h1.below hb,h2.bel hb⟩⟩
structure StAt (w:World) (a:Option Addr) (n cap:Nat) (ss:List (List Ty)):Prop where
 len:n=ss.length
 big:n≤maxLen
 cells:ss≠[]→∃ g off,a=some ⟨g,off,none⟩∧g<w.heap.size∧∀ i fs,ss[i]?=some fs→∃ fa fcap,w.cell? ⟨g,off+i*2+1,none⟩=some (.slice fa fs.length fcap)∧FdAt w fa fs
theorem StAt.bel {w w':World} {a:Option Addr} {n cap:Nat} {ss:List (List Ty)} (h:StAt w a n cap ss) (hb:Below w.heap.size w w'):StAt w' a n cap ss :=
 ⟨h.len,h.big,fun hne=>by
  obtain ⟨g,off,e,hg,hk⟩:=h.cells hne
  refine ⟨g,off,e,Nat.lt_of_lt_of_le hg hb.size,fun i fs hi=>?_⟩
  obtain ⟨fa,fcap,h1,h2⟩:=hk i fs hi
  exact ⟨fa,fcap,(hb.cell (p:=⟨g,off+i*2+1,none⟩) hg).trans h1,h2.bel hb⟩⟩
theorem StAt.one {w:World} {a:Option Addr} {n cap:Nat} {ss:List (List Ty)} (h:StAt w a n cap ss) {i:Nat} {fs:List Ty} (hi:ss[i]?=some fs):∃ g off fa fcap,a=some ⟨g,off,none⟩∧g<w.heap.size∧w.cell? ⟨g,off+i*2+1,none⟩=some (.slice fa fs.length fcap)∧FdAt w fa fs:=by
 obtain ⟨g,off,e,hg,hk⟩:=h.cells (fun e=>by subst e;simp at hi)
 obtain ⟨fa,fcap,h1,h2⟩:=hk i fs hi
 exact ⟨g,off,fa,fcap,e,hg,h1,h2⟩
def PlainT (n:Nat) (t:Ty):Prop:=∃ c:Ch,t=c.ty∧c.ok n∧c.depth≤48∧c.regs=[]
theorem Ch.ok_mono {n m:Int} (h:n≤m):∀ c:Ch,c.ok n→c.ok m
 | .leaf k s,hc=>by
  rcases hc with hc|⟨h1,h2,h3⟩
  ·exact .inl hc
  ·exact .inr ⟨h1,h2,by omega⟩
 | .box c,hc=>Ch.ok_mono h c hc
 | .ref _ _ c,hc=>⟨hc.1,Ch.ok_mono h c hc.2⟩
theorem wrong_any (a:Option Addr) (n cap:Nat) (ss:List (List Ty)) (w:World) (h:StAt w a n cap ss) (hn:n≤32) (i:Nat) (fs:List Ty) (hi:ss[i]?=some fs) (b:Bool) (hb:b=true↔¬ (1≤fs.length∧fs.length≤8∧∀ t∈fs,PlainT n t)) :
  Calls Tryz.prog 131 #[.slice a n cap,.int .i64 (i:Int)] w fun e w'=>e=.returned (.bool b)∧Below w.heap.size w w':=by
 obtain ⟨g,off,fa,fcap,hag,hg,hcell,hF⟩:=h.one hi
 have hil:i<n:=by have:=(List.getElem?_eq_some_iff.1 hi).1;have:=h.len;omega
 subst hag
 have j0:(0:Int)≤(i:Int):=by omega
 have j1:(i:Int)<(n:Int):=by omega
 have HF:=jH hF
 have HB:=jH hb
 obtain ⟨m,hm⟩:∃ m,m=fs.length:=⟨_,rfl⟩
 have HM:=jH hm
 rw [← hm] at hcell
 clear hF hb hm h hi
 by_cases m1:m<1
 ·have k1:(m:Int)<1:=by omega
  have hb1:b=true:=HB.out.2 (fun e=>by have:=HM.out;omega)
  subst hb1
  go_enter Tryz.func131,Tryz.ntmps131
  go_wp2_with fail
  go_ret
  exact ⟨rfl,Below.refl _ _⟩
 by_cases m8:8<m
 ·have k1:¬ (m:Int)<1:=by omega
  have k2:(8:Int)<(m:Int):=by omega
  have hb1:b=true:=HB.out.2 (fun e=>by have:=HM.out;omega)
  subst hb1
  go_enter Tryz.func131,Tryz.ntmps131
  go_wp2_with fail
  go_ret
  exact ⟨rfl,Below.refl _ _⟩
 have k1:¬ (m:Int)<1:=by omega
 have k2:¬ (8:Int)<(m:Int):=by omega
 go_enter Tryz.func131,Tryz.ntmps131
 go_wp2_with fail
 go_loopw [23] (fun v V=>∃ k:Nat,k≤m∧v=.int .i64 k∧(∀ k' t,k'<k→fs[k']?=some t→PlainT n t)∧Below w.heap.size w V) (fun v _=>m - (intOf v).toNat)
 case atStart=>exact ⟨0,Nat.zero_le _,rfl,fun k' t hk=>by omega,Below.refl _ _⟩
 case round =>
  obtain ⟨k,hk,rfl,hall,hBk⟩:=hrel
  have HAK:=jH hall
  have HBk:=jH hBk
  have HFk:=jH (HF.out.bel hBk)
  clear hall hBk
  by_cases hlk:k<m
  ·obtain ⟨t,ht⟩:∃ t,fs[k]?=some t:=⟨_,List.getElem?_eq_getElem (by have:=HM.out;omega)⟩
   obtain ⟨g',off',hfa,hkk⟩:=HFk.out.2 (fun e=>by subst e;simp at ht)
   obtain ⟨V,nm,hnm,hV5,hVt⟩:=hkk k t ht
   have HTT:=jH ht
   have HVT:=jH hVt
   obtain ⟨hl5,p0,p1,p2,p3,p4⟩:=hV5
   subst hfa
   have e0:(0:Int)≤(k:Int):=by omega
   have e1:(k:Int)<(m:Int):=by omega
   have e2:(k:Int)≤1000:=by omega
   clear hkk hVt ht
   have HNO:Hid (¬ PlainT n t→b=true):=fun hno=>HB.out.2 (fun e=>hno (e.2.2 t (List.mem_of_getElem? HTT.out)))
   have CM:Hid (∀ W,Below wr.heap.size wr W→Calls Tryz.prog 86 #[.int .i64 (n:Int),V.v] W fun e w'=>e=.returned (.bool (mayB n 48 t))∧Below W.heap.size W w'):=fun W hW=>mayAmong_any n t V W (HVT.out.bel hW)
   have AF:Hid (At (wr.alloc (.cells #[.string nm,.int .u8 (V.k:Int),.bool V.m,.int .i64 V.r,.int .i64 V.s,.slice V.a V.n V.cap] 93)) wr.heap.size (.cells #[.string nm,.int .u8 (V.k:Int),.bool V.m,.int .i64 V.r,.int .i64 V.s,.slice V.a V.n V.cap] 93)):=At.new _ _
   cases hmb:mayB n 48 t with
   | false =>
    rw [hmb] at CM
    have hb1:b=true:=HNO.out (fun ⟨c,e1,e2,e3,e4⟩=>by rw [e1,ch_mayB e2 e3] at hmb;cases hmb)
    go_wp2_with (go_at_call 86;refine (CM.out _ (belA bR)).mono ?_;rintro e w1 ⟨rfl,hbb⟩)
    go_ret
    rw [hb1]
    exact ⟨rfl,jB HBk.out (below1 hbb)⟩
   | true =>
    rw [hmb] at CM
    obtain ⟨c,rfl,hc1,hc2⟩:=mayB_ch hmb
    have hok:Ok c:=⟨Ch.ok_mono (by omega) c hc1,hc2⟩
    have CR:Hid (∀ W,Below wr.heap.size wr W→Calls Tryz.prog 157 #[V.v] W fun e w'=>e=.returned (.bool (!c.regs.isEmpty))∧Below W.heap.size W w'):=fun W hW=>hasRef_any c V W hok (HVT.out.bel hW)
    cases hre:c.regs.isEmpty with
    | false =>
     rw [hre] at CR
     have hbt:b=true:=HNO.out (fun ⟨c',e1,e2,e3,e4⟩=>by rw [Ch.ty_inj e1,e4] at hre;cases hre)
     go_wp2_with (first
      | (go_at_call 86;refine (CM.out _ (belA bR)).mono ?_;rintro e w1 ⟨rfl,hb1⟩;have A1:=AF.out.below hb1;unfold At at A1;have hlw:=lt_of_block A1;have r1:w1.cell? ⟨wr.heap.size,1,none⟩=some (.int .u8 (V.k:Int)):=(by simp [World.cell?,A1]);have r2:w1.cell? ⟨wr.heap.size,2,none⟩=some (.bool V.m):=(by simp [World.cell?,A1]);have r3:w1.cell? ⟨wr.heap.size,3,none⟩=some (.int .i64 V.r):=(by simp [World.cell?,A1]);have r4:w1.cell? ⟨wr.heap.size,4,none⟩=some (.int .i64 V.s):=(by simp [World.cell?,A1]);have r5:w1.cell? ⟨wr.heap.size,5,none⟩=some (.slice V.a V.n V.cap):=(by simp [World.cell?,A1]);have H1:=jH (below1 hb1);clear A1)
      | (go_at_call 157;refine (CR.out w1 H1.out).mono ?_;rintro e w2 ⟨rfl,hb2⟩))
     go_ret
     rw [hbt]
     exact ⟨rfl,jB (jB HBk.out H1.out) hb2⟩
    | true =>
     rw [hre] at CR
     go_wp2_with (first
      | (go_at_call 86;refine (CM.out _ (belA bR)).mono ?_;rintro e w1 ⟨rfl,hb1⟩;have A1:=AF.out.below hb1;unfold At at A1;have hlw:=lt_of_block A1;have r1:w1.cell? ⟨wr.heap.size,1,none⟩=some (.int .u8 (V.k:Int)):=(by simp [World.cell?,A1]);have r2:w1.cell? ⟨wr.heap.size,2,none⟩=some (.bool V.m):=(by simp [World.cell?,A1]);have r3:w1.cell? ⟨wr.heap.size,3,none⟩=some (.int .i64 V.r):=(by simp [World.cell?,A1]);have r4:w1.cell? ⟨wr.heap.size,4,none⟩=some (.int .i64 V.s):=(by simp [World.cell?,A1]);have r5:w1.cell? ⟨wr.heap.size,5,none⟩=some (.slice V.a V.n V.cap):=(by simp [World.cell?,A1]);have H1:=jH (below1 hb1);clear A1)
      | (go_at_call 157;refine (CR.out w1 H1.out).mono ?_;rintro e w2 ⟨rfl,hb2⟩))
     refine ⟨⟨k+1,hlk,rfl,fun k' t' hk' ht'=>?_,jB (jB HBk.out H1.out) hb2⟩,?_⟩
     ·by_cases e:k'=k
      ·subst e
       rw [HTT.out] at ht'
       cases ht'
       exact ⟨c,rfl,hc1,hc2,List.isEmpty_iff.1 hre⟩
      ·exact HAK.out k' t' (by omega) ht'
     ·show m - ((k:Int)+1).toNat<m - (k:Int).toNat
      omega
  ·obtain rfl:k=m:=by omega
   have z1:¬ ((k:Int)<(k:Int)):=by omega
   go_wp2_with fail
   go_ret
   have hb1:b=false:=by
    cases hb:b with
    | false=>rfl
    | true =>
     refine absurd ⟨by have:=HM.out;omega,by have:=HM.out;omega,fun t ht=>?_⟩ (HB.out.1 hb)
     obtain ⟨k',hk'⟩:=List.mem_iff_getElem?.1 ht
     exact HAK.out k' t (by have:=(List.getElem?_eq_some_iff.1 hk').1;have:=HM.out;omega) hk'
   rw [hb1]
   exact ⟨rfl,HBk.out⟩
end Go.Proofs.YtdlggpcakaofoaaGreat
