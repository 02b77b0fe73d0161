import Derived.Test.YtdlggpcakaofoaaGreatB16
namespace Go.Proofs.YtdlggpcakaofoaaGreat
open Go.RowKit Go.Shelf
set_option linter.unusedVariables false
set_option linter.unusedSimpArgs false
set_option maxRecDepth 100000
set_option maxHeartbeats 8000000
structure TurnR (fn:Nat) (caps:List Value) (R:List Int→Int→Prop) (w0:World) (lw:Nat) (J:List Int→World→Prop) (out:List Int→Int→Int):Prop where
 enters:Enters fn
 alloc:∀ l W o,J l W→J l (W.alloc o)
 set:∀ l W W' i (f:Fv),J l W→At W i f.o→lw≤i→But i W W'→J l W'
 bel:∀ l W,J l W→Below w0.heap.size w0 W
 siz:∀ l W,J l W→lw≤W.heap.size
 call:∀ l r W,R l r→-9223372036854775808≤r→r≤9223372036854775807→J l W→Calls Tryz.prog fn ((.int .i64 r)::caps).toArray W fun e w'=>e=.returned (.int .i64 (out l r))∧J (l++[r]) w'∧KeepT W w'∧W.heap.size≤w'.heap.size
def okR (R:List Int→Int→Prop):List Int→Ch→Prop
 | _,.leaf _ _=>True
 | l,.box c=>okR R l c
 | l,.ref _ r c=>R l r∧okR R (l++[r]) c
theorem Tryz.results52:Tryz.f52.results=#[.cell 4 46]:=rfl
theorem rturn_leaf {fn:Nat} {R:List Int→Int→Prop} {caps:List Value} {w0:World} {J:List Int→World→Prop} {out:List Int→Int→Int} {lw:Nat} (hT:TurnR fn caps R w0 lw J out) (fv:Value) (k:Nat) (s:Int) (a:Option Addr) (cap:Nat) (l:List Int) (W:World) (k3:¬ (k:Int)=3) (k4:¬ (k:Int)=4) (hJ:J l W) :
  Calls Tryz.prog 52 #[tyV k false 0 s a 0 cap,fv] W fun e w'=>∃ f':Fv,e=.returned f'.v∧TurnP W J l (.leaf k s) f' w':=by
 have h1:Hid (∀ o o',J l ((W.alloc o).alloc o')):=fun o o'=>hT.alloc _ _ _ (hT.alloc _ _ _ hJ)
 have hB:Hid (Below w0.heap.size w0 W):=hT.bel _ _ hJ
 have hBl:Hid (lw≤W.heap.size):=hT.siz _ _ hJ
 have A2:Hid (At ((W.alloc (tyO k false 0 s a 0 cap)).alloc zT.o) W.heap.size (Fv.o ⟨k,false,0,s,a,0,cap⟩)):=(At.new _ _).alloc _
 have A4:Hid (At ((W.alloc (tyO k false 0 s a 0 cap)).alloc zT.o) (W.heap.size+1) zT.o):=at_snd _ _ _
 have HS:Hid (∀ (V V':World) i (f:Fv),J l V→At V i f.o→lw≤i→But i V V'→J l V'):=fun V V' i f=>hT.set l V V' i f
 clear hT hJ
 go_enter Tryz.func52,Tryz.ntmps52
 go_wp2_with fail
 exact bodyPost_ret (results_c1 (g:=⟨k,false,0,s,none,0,0⟩) Tryz.results52 rfl (At.ty (f:=⟨k,false,0,s,none,0,0⟩) (at_snd W (Fv.o ⟨k,false,0,s,none,0,0⟩) (Fv.o ⟨k,false,0,s,none,0,0⟩)))) rfl ⟨⟨k,false,0,s,none,0,0⟩,rfl,⟨.leaf k s,h1.out _ _,fun i f x=>(x.alloc _).alloc _,by simp only [World.size_alloc];omega⟩⟩
theorem rturn_fin {lw:Nat} {W w2:World} {J:World→Prop} {c:Ch} {f2 fb f4:Fv} (g:Fv) {lo:Nat} (u:Value) (own:Own w2 lo f2 c) (hlo:W.heap.size+2≤lo) (j:J w2) (kp:KeepT W w2) (B2:At w2 W.heap.size fb.o) (B4:At w2 (W.heap.size+1) f4.o) (hB:lw≤W.heap.size)
  (HS:∀ (V V':World) i (f:Fv),J V→At V i f.o→lw≤i→But i V V'→J V') (HA:∀ V o,J V→J (V.alloc o)) :
  C5 ((S5 (w2.setCell ⟨W.heap.size,4,none⟩ u) (W.heap.size+1) g).alloc f2.o) (W.heap.size+1) 0 g∧Own ((S5 (w2.setCell ⟨W.heap.size,4,none⟩ u) (W.heap.size+1) g).alloc f2.o) W.heap.size f2 c∧At ((S5 (w2.setCell ⟨W.heap.size,4,none⟩ u) (W.heap.size+1) g).alloc f2.o) w2.heap.size f2.o∧J ((S5 (w2.setCell ⟨W.heap.size,4,none⟩ u) (W.heap.size+1) g).alloc f2.o)∧KeepT W ((S5 (w2.setCell ⟨W.heap.size,4,none⟩ u) (W.heap.size+1) g).alloc f2.o)∧W.heap.size≤((S5 (w2.setCell ⟨W.heap.size,4,none⟩ u) (W.heap.size+1) g).alloc f2.o).heap.size∧W.heap.size≤w2.heap.size:=by
 have hz:W.heap.size≤w2.heap.size:=by have:=B2.lt;omega
 have B4':At (w2.setCell ⟨W.heap.size,4,none⟩ u) (W.heap.size+1) f4.o:=B4.set (by simp) u
 have own':Own (w2.setCell ⟨W.heap.size,4,none⟩ u) lo f2 c:=own.keep fun i o hi hA=>hA.set (by simp only;omega) u
 have j':J (w2.setCell ⟨W.heap.size,4,none⟩ u):=HS w2 _ _ fb j B2 hB ((But.refl _ _).set 4 u)
 have kp':KeepT W (w2.setCell ⟨W.heap.size,4,none⟩ u):=keepT_hi kp (Nat.le_refl _) 4 u
 have hs':(w2.setCell ⟨W.heap.size,4,none⟩ u).heap.size=w2.heap.size:=by simp
 generalize (w2.setCell ⟨W.heap.size,4,none⟩ u)=V at *
 have j2:J (S5 V (W.heap.size+1) g):=HS V _ _ f4 j' B4' (by omega) (but_s5 _ _ _)
 refine ⟨((B4'.set5 g).alloc _).ty,((own'.keep fun i o hi hA=>(hA.S5 (by omega) g).alloc _).low (by omega)),?_,HA _ _ j2,fun i f x=>((keepT_S5 kp' (by omega) g) i f x).alloc _,by simp only [World.size_alloc,size_S5];omega,hz⟩
 have:=At.new (S5 V (W.heap.size+1) g) f2.o
 rw [size_S5,hs'] at this
 exact this
theorem rturn_box {fn:Nat} {R:List Int→Int→Prop} {caps:List Value} {w0:World} {J:List Int→World→Prop} {out:List Int→Int→Int} {lw:Nat} (hT:TurnR fn caps R w0 lw J out) (fv:Value) (g off cap:Nat) (x:Fv) (c:Ch) (l l':List Int) (W:World) (hx:C5 w0 g off x) (hJ:J l W)
  (IH0:∀ V,J l V→Calls Tryz.prog 52 #[x.v,fv] V fun e w'=>∃ f':Fv,e=.returned f'.v∧TurnP V J l' c f' w') :
  Calls Tryz.prog 52 #[tyV 3 false 0 0 (some ⟨g,off,none⟩) 1 cap,fv] W fun e w'=>∃ f':Fv,e=.returned f'.v∧TurnP W J l' (.box c) f' w':=by
 have hJ2:=hT.alloc _ _ zT.o (hT.alloc _ _ (tyO 3 false 0 0 (some ⟨g,off,none⟩) 1 cap) hJ)
 have IH:Hid (Calls Tryz.prog 52 #[x.v,fv] ((W.alloc (tyO 3 false 0 0 (some ⟨g,off,none⟩) 1 cap)).alloc zT.o) fun e w'=>∃ f':Fv,e=.returned f'.v∧TurnP ((W.alloc (tyO 3 false 0 0 (some ⟨g,off,none⟩) 1 cap)).alloc zT.o) J l' c f' w'):=IH0 _ hJ2
 have hB:Hid (Below w0.heap.size w0 W):=hT.bel _ _ hJ
 have hBl:Hid (lw≤W.heap.size):=hT.siz _ _ hJ
 have A2:Hid (At ((W.alloc (tyO 3 false 0 0 (some ⟨g,off,none⟩) 1 cap)).alloc zT.o) W.heap.size (Fv.o ⟨3,false,0,0,some ⟨g,off,none⟩,1,cap⟩)):=(At.new _ _).alloc _
 have A4:Hid (At ((W.alloc (tyO 3 false 0 0 (some ⟨g,off,none⟩) 1 cap)).alloc zT.o) (W.heap.size+1) zT.o):=at_snd _ _ _
 have HS:Hid (∀ (V V':World) i (f:Fv),J l' V→At V i f.o→lw≤i→But i V V'→J l' V'):=fun V V' i f=>hT.set l' V V' i f
 have HA:Hid (∀ V o,J l' V→J l' (V.alloc o)):=hT.alloc l'
 obtain ⟨hg,p0,p1,p2,p3,p4⟩:=hx.below (hT.bel _ _ hJ)
 clear hT hJ hJ2 IH0 hx
 go_enter Tryz.func52,Tryz.ntmps52
 go_wp2_with (go_at_call 52;refine IH.out.mono ?_;rintro e w2 ⟨f2,rfl,hP⟩;clear p0 p1 p2 p3 p4;have B2:=hP.keep _ _ A2.out;have B4:=hP.keep _ _ A4.out;have g0:=B4.tyF 0;have g1:=B4.tyF 1;have g2:=B4.tyF 2;have g3:=B4.tyF 3;have g4:=B4.tyF 4;have k4:=B2.tyF 4;obtain ⟨hl4,q0,q1,q2,q3,q4⟩:=B4.ty;obtain ⟨hl2,p0,p1,p2,p3,p4⟩:=B2.ty;simp only [Nat.zero_add] at p0 p1 p2 p3 p4 q0 q1 q2 q3 q4)
 have hlo:W.heap.size+2≤((W.alloc (tyO 3 false 0 0 (some ⟨g,off,none⟩) 1 cap)).alloc zT.o).heap.size:=by simp only [World.size_alloc];omega
 obtain ⟨F1,F2,F3,F4,F5,F6,F7⟩:=rturn_fin (J:=J l') (lw:=lw) ⟨3,false,0,0,some ⟨w2.heap.size,0,none⟩,1,1⟩ (.slice (some ⟨w2.heap.size,0,none⟩) 1 1) hP.own hlo hP.j (keepT_two hP.keep) B2 B4 hBl.out HS.out HA.out
 exact bodyPost_ret (results_c1 (g:=⟨3,false,0,0,some ⟨w2.heap.size,0,none⟩,1,1⟩) Tryz.results52 rfl F1) rfl ⟨⟨3,false,0,0,some ⟨w2.heap.size,0,none⟩,1,1⟩,rfl,⟨.box w2.heap.size f2 c F7 F3 F2,F4,F5,F6⟩⟩
theorem rturn_ref0 {fn:Nat} {R:List Int→Int→Prop} {w0:World} {J:List Int→World→Prop} {out:List Int→Int→Int} {lw:Nat} (hT:TurnR fn [] R w0 lw J out) (m:Bool) (r:Int) (g off cap:Nat) (x:Fv) (c:Ch) (l l':List Int) (W:World) (hl:R l r) (r0:-9223372036854775808≤r) (r1:r≤9223372036854775807) (hx:C5 w0 g off x) (hJ:J l W)
  (IH0:∀ V,J (l++[r]) V→Calls Tryz.prog 52 #[x.v,fnZ fn] V fun e w'=>∃ f':Fv,e=.returned f'.v∧TurnP V J l' c f' w') :
  Calls Tryz.prog 52 #[tyV 4 m r 0 (some ⟨g,off,none⟩) 1 cap,fnZ fn] W fun e w'=>∃ f':Fv,e=.returned f'.v∧TurnP W J l' (.ref m (out l r) c) f' w':=by
 have hJ2:=hT.alloc _ _ zT.o (hT.alloc _ _ (tyO 4 m r 0 (some ⟨g,off,none⟩) 1 cap) hJ)
 have CT:Hid (Calls Tryz.prog fn #[.int .i64 r] ((W.alloc (tyO 4 m r 0 (some ⟨g,off,none⟩) 1 cap)).alloc zT.o) fun e w'=>e=.returned (.int .i64 (out l r))∧J (l++[r]) w'∧KeepT ((W.alloc (tyO 4 m r 0 (some ⟨g,off,none⟩) 1 cap)).alloc zT.o) w'∧((W.alloc (tyO 4 m r 0 (some ⟨g,off,none⟩) 1 cap)).alloc zT.o).heap.size≤w'.heap.size):=hT.call l r _ hl r0 r1 hJ2
 have IH:Hid (∀ V,J (l++[r]) V→Calls Tryz.prog 52 #[x.v,fnZ fn] V fun e w'=>∃ f':Fv,e=.returned f'.v∧TurnP V J l' c f' w'):=IH0
 have hB:Hid (w0.heap.size≤W.heap.size):=(hT.bel _ _ hJ).size
 have hBl:Hid (lw≤W.heap.size):=hT.siz _ _ hJ
 have A2:Hid (At ((W.alloc (tyO 4 m r 0 (some ⟨g,off,none⟩) 1 cap)).alloc zT.o) W.heap.size (Fv.o ⟨4,m,r,0,some ⟨g,off,none⟩,1,cap⟩)):=(At.new _ _).alloc _
 have A4:Hid (At ((W.alloc (tyO 4 m r 0 (some ⟨g,off,none⟩) 1 cap)).alloc zT.o) (W.heap.size+1) zT.o):=at_snd _ _ _
 have HS1:Hid (∀ (V V':World) i (f:Fv),J (l++[r]) V→At V i f.o→lw≤i→But i V V'→J (l++[r]) V'):=fun V V' i f=>hT.set _ V V' i f
 have HS:Hid (∀ (V V':World) i (f:Fv),J l' V→At V i f.o→lw≤i→But i V V'→J l' V'):=fun V V' i f=>hT.set l' V V' i f
 have HA:Hid (∀ V o,J l' V→J l' (V.alloc o)):=hT.alloc l'
 have PC:Hid (∀ V,J (l++[r]) V→C5 V g off x):=fun V h1=>hx.below (hT.bel _ _ h1)
 have hgw:g<w0.heap.size:=hx.1
 have hen:=hT.enters
 unfold Enters at hen
 obtain ⟨o,ho⟩:∃ o,o=out l r:=⟨_,rfl⟩
 rw [← ho] at CT ⊢
 clear hT hJ hJ2 IH0 hx ho hl r0 r1
 go_enter Tryz.func52,Tryz.ntmps52
 go_wp2_with fail
 refine CT.out.mono ?_
 rintro e w1 ⟨rfl,hj1,hk1,hz1⟩
 have B2:=hk1 _ _ A2.out
 have B4:=hk1 _ _ A4.out
 have C2:At (w1.setCell ⟨W.heap.size,2,none⟩ (.int .i64 o)) W.heap.size (Fv.o ⟨4,m,o,0,some ⟨g,off,none⟩,1,cap⟩):=B2.cell2 o
 have C4:At (w1.setCell ⟨W.heap.size,2,none⟩ (.int .i64 o)) (W.heap.size+1) zT.o:=B4.set (by simp) _
 have hj2:J (l++[r]) (w1.setCell ⟨W.heap.size,2,none⟩ (.int .i64 o)):=HS1.out w1 _ _ _ hj1 B2 hBl.out ((But.refl _ _).set 2 _)
 have hk2:KeepT W (w1.setCell ⟨W.heap.size,2,none⟩ (.int .i64 o)):=keepT_hi (keepT_two hk1) (Nat.le_refl _) 2 _
 have hs2:W.heap.size+2≤(w1.setCell ⟨W.heap.size,2,none⟩ (.int .i64 o)).heap.size:=by simp only [World.size_alloc] at hz1;simp only [World.size_setCell];omega
 have Q2:Hid (At (w1.setCell ⟨W.heap.size,2,none⟩ (.int .i64 o)) W.heap.size (Fv.o ⟨4,m,o,0,some ⟨g,off,none⟩,1,cap⟩)∧At (w1.setCell ⟨W.heap.size,2,none⟩ (.int .i64 o)) (W.heap.size+1) zT.o∧J (l++[r]) (w1.setCell ⟨W.heap.size,2,none⟩ (.int .i64 o))∧KeepT W (w1.setCell ⟨W.heap.size,2,none⟩ (.int .i64 o))∧W.heap.size+2≤(w1.setCell ⟨W.heap.size,2,none⟩ (.int .i64 o)).heap.size):=⟨C2,C4,hj2,hk2,hs2⟩
 have k2:=B2.tyF 2
 obtain ⟨hl2,p0,p1,p2,p3,p4⟩:=B2.ty
 simp only [Nat.zero_add] at p0 p1 p2 p3 p4
 obtain ⟨hgl,q0,q1,q2,q3,q4⟩:=PC.out _ hj1
 have hgne:g≠W.heap.size:=by have:=hB.out;omega
 clear C2 C4 hj2 hk2 hs2 B2 B4
 go_wp2_with (go_at_call 52;refine (IH.out _ Q2.out.2.2.1).mono ?_;rintro e w2 ⟨f2,rfl,hP⟩;clear p0 p1 p2 p3 p4 q0 q1 q2 q3 q4;have D2:=hP.keep _ _ Q2.out.1;have D4:=hP.keep _ _ Q2.out.2.1;have g0:=D4.tyF 0;have g1:=D4.tyF 1;have g2:=D4.tyF 2;have g3:=D4.tyF 3;have g4:=D4.tyF 4;have k4:=D2.tyF 4;obtain ⟨hl4,q0,q1,q2,q3,q4⟩:=D4.ty;obtain ⟨hl2,p0,p1,p2,p3,p4⟩:=D2.ty;simp only [Nat.zero_add] at p0 p1 p2 p3 p4 q0 q1 q2 q3 q4)
 obtain ⟨F1,F2,F3,F4,F5,F6,F7⟩:=rturn_fin (J:=J l') (lw:=lw) ⟨4,m,o,0,some ⟨w2.heap.size,0,none⟩,1,1⟩ (.slice (some ⟨w2.heap.size,0,none⟩) 1 1) hP.own Q2.out.2.2.2.2 hP.j (Q2.out.2.2.2.1.trans hP.keep) D2 D4 hBl.out HS.out HA.out
 exact bodyPost_ret (results_c1 (g:=⟨4,m,o,0,some ⟨w2.heap.size,0,none⟩,1,1⟩) Tryz.results52 rfl F1) rfl ⟨⟨4,m,o,0,some ⟨w2.heap.size,0,none⟩,1,1⟩,rfl,⟨.ref m o w2.heap.size f2 c F7 F3 F2,F4,F5,F6⟩⟩
theorem rturn_ref1 {fn b:Nat} {R:List Int→Int→Prop} {w0:World} {J:List Int→World→Prop} {out:List Int→Int→Int} {lw:Nat} (hT:TurnR fn [.pointer (some ⟨b,0,none⟩)] R w0 lw J out) (m:Bool) (r:Int) (g off cap:Nat) (x:Fv) (c:Ch) (l l':List Int) (W:World) (hl:R l r) (r0:-9223372036854775808≤r) (r1:r≤9223372036854775807) (hx:C5 w0 g off x) (hJ:J l W)
  (IH0:∀ V,J (l++[r]) V→Calls Tryz.prog 52 #[x.v,fnB fn b] V fun e w'=>∃ f':Fv,e=.returned f'.v∧TurnP V J l' c f' w') :
  Calls Tryz.prog 52 #[tyV 4 m r 0 (some ⟨g,off,none⟩) 1 cap,fnB fn b] W fun e w'=>∃ f':Fv,e=.returned f'.v∧TurnP W J l' (.ref m (out l r) c) f' w':=by
 have hJ2:=hT.alloc _ _ zT.o (hT.alloc _ _ (tyO 4 m r 0 (some ⟨g,off,none⟩) 1 cap) hJ)
 have CT:Hid (Calls Tryz.prog fn #[.int .i64 r,.pointer (some ⟨b,0,none⟩)] ((W.alloc (tyO 4 m r 0 (some ⟨g,off,none⟩) 1 cap)).alloc zT.o) fun e w'=>e=.returned (.int .i64 (out l r))∧J (l++[r]) w'∧KeepT ((W.alloc (tyO 4 m r 0 (some ⟨g,off,none⟩) 1 cap)).alloc zT.o) w'∧((W.alloc (tyO 4 m r 0 (some ⟨g,off,none⟩) 1 cap)).alloc zT.o).heap.size≤w'.heap.size):=hT.call l r _ hl r0 r1 hJ2
 have IH:Hid (∀ V,J (l++[r]) V→Calls Tryz.prog 52 #[x.v,fnB fn b] V fun e w'=>∃ f':Fv,e=.returned f'.v∧TurnP V J l' c f' w'):=IH0
 have hB:Hid (w0.heap.size≤W.heap.size):=(hT.bel _ _ hJ).size
 have hBl:Hid (lw≤W.heap.size):=hT.siz _ _ hJ
 have A2:Hid (At ((W.alloc (tyO 4 m r 0 (some ⟨g,off,none⟩) 1 cap)).alloc zT.o) W.heap.size (Fv.o ⟨4,m,r,0,some ⟨g,off,none⟩,1,cap⟩)):=(At.new _ _).alloc _
 have A4:Hid (At ((W.alloc (tyO 4 m r 0 (some ⟨g,off,none⟩) 1 cap)).alloc zT.o) (W.heap.size+1) zT.o):=at_snd _ _ _
 have HS1:Hid (∀ (V V':World) i (f:Fv),J (l++[r]) V→At V i f.o→lw≤i→But i V V'→J (l++[r]) V'):=fun V V' i f=>hT.set _ V V' i f
 have HS:Hid (∀ (V V':World) i (f:Fv),J l' V→At V i f.o→lw≤i→But i V V'→J l' V'):=fun V V' i f=>hT.set l' V V' i f
 have HA:Hid (∀ V o,J l' V→J l' (V.alloc o)):=hT.alloc l'
 have PC:Hid (∀ V,J (l++[r]) V→C5 V g off x):=fun V h1=>hx.below (hT.bel _ _ h1)
 have hgw:g<w0.heap.size:=hx.1
 have hen:=hT.enters
 unfold Enters at hen
 obtain ⟨o,ho⟩:∃ o,o=out l r:=⟨_,rfl⟩
 rw [← ho] at CT ⊢
 clear hT hJ hJ2 IH0 hx ho hl r0 r1
 go_enter Tryz.func52,Tryz.ntmps52
 go_wp2_with fail
 refine CT.out.mono ?_
 rintro e w1 ⟨rfl,hj1,hk1,hz1⟩
 have B2:=hk1 _ _ A2.out
 have B4:=hk1 _ _ A4.out
 have C2:At (w1.setCell ⟨W.heap.size,2,none⟩ (.int .i64 o)) W.heap.size (Fv.o ⟨4,m,o,0,some ⟨g,off,none⟩,1,cap⟩):=B2.cell2 o
 have C4:At (w1.setCell ⟨W.heap.size,2,none⟩ (.int .i64 o)) (W.heap.size+1) zT.o:=B4.set (by simp) _
 have hj2:J (l++[r]) (w1.setCell ⟨W.heap.size,2,none⟩ (.int .i64 o)):=HS1.out w1 _ _ _ hj1 B2 hBl.out ((But.refl _ _).set 2 _)
 have hk2:KeepT W (w1.setCell ⟨W.heap.size,2,none⟩ (.int .i64 o)):=keepT_hi (keepT_two hk1) (Nat.le_refl _) 2 _
 have hs2:W.heap.size+2≤(w1.setCell ⟨W.heap.size,2,none⟩ (.int .i64 o)).heap.size:=by simp only [World.size_alloc] at hz1;simp only [World.size_setCell];omega
 have Q2:Hid (At (w1.setCell ⟨W.heap.size,2,none⟩ (.int .i64 o)) W.heap.size (Fv.o ⟨4,m,o,0,some ⟨g,off,none⟩,1,cap⟩)∧At (w1.setCell ⟨W.heap.size,2,none⟩ (.int .i64 o)) (W.heap.size+1) zT.o∧J (l++[r]) (w1.setCell ⟨W.heap.size,2,none⟩ (.int .i64 o))∧KeepT W (w1.setCell ⟨W.heap.size,2,none⟩ (.int .i64 o))∧W.heap.size+2≤(w1.setCell ⟨W.heap.size,2,none⟩ (.int .i64 o)).heap.size):=⟨C2,C4,hj2,hk2,hs2⟩
 have k2:=B2.tyF 2
 obtain ⟨hl2,p0,p1,p2,p3,p4⟩:=B2.ty
 simp only [Nat.zero_add] at p0 p1 p2 p3 p4
 obtain ⟨hgl,q0,q1,q2,q3,q4⟩:=PC.out _ hj1
 have hgne:g≠W.heap.size:=by have:=hB.out;omega
 clear C2 C4 hj2 hk2 hs2 B2 B4
 go_wp2_with (go_at_call 52;refine (IH.out _ Q2.out.2.2.1).mono ?_;rintro e w2 ⟨f2,rfl,hP⟩;clear p0 p1 p2 p3 p4 q0 q1 q2 q3 q4;have D2:=hP.keep _ _ Q2.out.1;have D4:=hP.keep _ _ Q2.out.2.1;have g0:=D4.tyF 0;have g1:=D4.tyF 1;have g2:=D4.tyF 2;have g3:=D4.tyF 3;have g4:=D4.tyF 4;have k4:=D2.tyF 4;obtain ⟨hl4,q0,q1,q2,q3,q4⟩:=D4.ty;obtain ⟨hl2,p0,p1,p2,p3,p4⟩:=D2.ty;simp only [Nat.zero_add] at p0 p1 p2 p3 p4 q0 q1 q2 q3 q4)
 obtain ⟨F1,F2,F3,F4,F5,F6,F7⟩:=rturn_fin (J:=J l') (lw:=lw) ⟨4,m,o,0,some ⟨w2.heap.size,0,none⟩,1,1⟩ (.slice (some ⟨w2.heap.size,0,none⟩) 1 1) hP.own Q2.out.2.2.2.2 hP.j (Q2.out.2.2.2.1.trans hP.keep) D2 D4 hBl.out HS.out HA.out
 exact bodyPost_ret (results_c1 (g:=⟨4,m,o,0,some ⟨w2.heap.size,0,none⟩,1,1⟩) Tryz.results52 rfl F1) rfl ⟨⟨4,m,o,0,some ⟨w2.heap.size,0,none⟩,1,1⟩,rfl,⟨.ref m o w2.heap.size f2 c F7 F3 F2,F4,F5,F6⟩⟩
theorem rturned_any0 {fn:Nat} {R:List Int→Int→Prop} {w0:World} {J:List Int→World→Prop} {out:List Int→Int→Int} {lw:Nat} (hT:TurnR fn [] R w0 lw J out):∀ (c:Ch) (f:Fv) (l:List Int) (W:World),c.ok 32→okR R l c→TyAt w0 f c.ty→J l W →
  Calls Tryz.prog 52 #[f.v,fnZ fn] W fun e w'=>∃ f':Fv,e=.returned f'.v∧TurnP W J (l++c.regs) (turnC out l c) f' w':=by
 intro c
 induction c with
 | leaf k s =>
  intro f l W hc hl h hJ
  obtain ⟨a,cap,rfl,-⟩:=h.leaf
  have hk:¬ (k:Int)=3∧¬ (k:Int)=4:=by
   have:(k=1∨k=2)∧s=0∨k=5∧0≤s∧s<32:=hc
   omega
  have:=rturn_leaf hT (fnZ fn) k s a cap l W hk.1 hk.2 hJ
  simpa only [Ch.regs,List.append_nil,turnC] using this
 | box c ih =>
  intro f l W hc hl h hJ
  obtain ⟨g,off,cap,x,rfl,hx,ht⟩:=h.box
  exact rturn_box hT (fnZ fn) g off cap x (turnC out l c) l (l++c.regs) W hx hJ (fun V hV=>ih x l V hc hl ht hV)
 | ref m r c ih =>
  intro f l W hc hl h hJ
  obtain ⟨g,off,cap,x,rfl,hx,ht,r0,r1⟩:=h.ref
  refine rturn_ref0 hT m r g off cap x (turnC out (l++[r]) c) l (l++(Ch.ref m r c).regs) W hl.1 r0 r1 hx hJ (fun V hV=>?_)
  have:=ih x (l++[r]) V hc.2 hl.2 ht hV
  rw [List.append_assoc] at this
  exact this
theorem rturned_any1 {fn b:Nat} {R:List Int→Int→Prop} {w0:World} {J:List Int→World→Prop} {out:List Int→Int→Int} {lw:Nat} (hT:TurnR fn [.pointer (some ⟨b,0,none⟩)] R w0 lw J out):∀ (c:Ch) (f:Fv) (l:List Int) (W:World),c.ok 32→okR R l c→TyAt w0 f c.ty→J l W →
  Calls Tryz.prog 52 #[f.v,fnB fn b] W fun e w'=>∃ f':Fv,e=.returned f'.v∧TurnP W J (l++c.regs) (turnC out l c) f' w':=by
 intro c
 induction c with
 | leaf k s =>
  intro f l W hc hl h hJ
  obtain ⟨a,cap,rfl,-⟩:=h.leaf
  have hk:¬ (k:Int)=3∧¬ (k:Int)=4:=by
   have:(k=1∨k=2)∧s=0∨k=5∧0≤s∧s<32:=hc
   omega
  have:=rturn_leaf hT (fnB fn b) k s a cap l W hk.1 hk.2 hJ
  simpa only [Ch.regs,List.append_nil,turnC] using this
 | box c ih =>
  intro f l W hc hl h hJ
  obtain ⟨g,off,cap,x,rfl,hx,ht⟩:=h.box
  exact rturn_box hT (fnB fn b) g off cap x (turnC out l c) l (l++c.regs) W hx hJ (fun V hV=>ih x l V hc hl ht hV)
 | ref m r c ih =>
  intro f l W hc hl h hJ
  obtain ⟨g,off,cap,x,rfl,hx,ht,r0,r1⟩:=h.ref
  refine rturn_ref1 hT m r g off cap x (turnC out (l++[r]) c) l (l++(Ch.ref m r c).regs) W hl.1 r0 r1 hx hJ (fun V hV=>?_)
  have:=ih x (l++[r]) V hc.2 hl.2 ht hV
  rw [List.append_assoc] at this
  exact this
theorem three_new (w:World) (o1 o2 o3:Obj):At (((w.alloc o1).alloc o2).alloc o3) w.heap.size o1∧At (((w.alloc o1).alloc o2).alloc o3) (w.heap.size+1) o2∧At (((w.alloc o1).alloc o2).alloc o3) (w.heap.size+1+1) o3:=by
 refine ⟨((At.new w o1).alloc o2).alloc o3,(at_snd w o1 o2).alloc o3,?_⟩
 have:=At.new ((w.alloc o1).alloc o2) o3
 simpa only [World.size_alloc] using this
def atX (X:List Int) (_:List Int) (r:Int):Int:=X[r.toNat]?.getD 0
def inX (n:Nat) (_:List Int) (r:Int):Prop:=0≤r∧r<(n:Int)
def JT (w0:World) (b:Nat) (v:Value) (_:List Int) (W:World):Prop:=At W b (One v 33)∧Below w0.heap.size w0 W
theorem turnT (w0:World) (b:Nat) (a:Option Addr) (n cap:Nat) (X:List Int) (hX:X.length≤100000) (hr:IntR w0 a n cap X):TurnR 55 [.pointer (some ⟨b,0,none⟩)] (inX X.length) w0 w0.heap.size (JT w0 b (.slice a n cap)) (atX X) where
 enters:=fun args W=>by kernel_rfl
 alloc:=fun l W o ⟨h1,h3⟩=>⟨h1.alloc o,h3.alloc h3.size o⟩
 set:=fun l W W' i f ⟨h1,h3⟩ hA hi hb=>⟨h1.but hb (one_ne h1 hA),h3.grown hb h3.size (fun k hk=>by cases hk;exact hi)⟩
 bel:=fun l W ⟨h1,h3⟩=>h3
 siz:=fun l W ⟨h1,h3⟩=>h3.size
 call:=by
  rintro l r W ⟨l0,l1⟩ r0 r1 ⟨hA,hB⟩
  obtain ⟨m,rfl⟩:=Int.eq_ofNat_of_zero_le l0
  have hm:m<X.length:=by omega
  show Calls Tryz.prog 55 #[.int .i64 (m:Int),.pointer (some ⟨b,0,none⟩)] W _
  obtain ⟨x,hx⟩:∃ x,X[m]?=some x:=⟨_,List.getElem?_eq_getElem hm⟩
  obtain ⟨g,off,rfl,hg,hc⟩:=hr.cells (fun e=>by subst e;simp at hm)
  obtain rfl:=hr.len
  have hcx:=(hB.cell (p:=⟨g,off+m,none⟩) hg).trans (hc _ _ hx)
  have eo:atX X l (m:Int)=x:=by simp [atX,hx]
  rw [eo]
  have FIN:Hid (JT w0 b (.slice (some ⟨g,off,none⟩) X.length cap) (l++[(m:Int)]) W∧KeepT W W∧W.heap.size≤W.heap.size):=⟨⟨hA,hB⟩,fun i f x=>x,Nat.le_refl _⟩
  obtain ⟨c0,f0⟩:=hA.one
  have hlt:=hA.lt
  have hgW:g<W.heap.size:=Nat.lt_of_lt_of_le hg hB.size
  have k0:(0:Int)≤(m:Int):=by omega
  have k1:(m:Int)<(X.length:Int):=by omega
  clear hA hB hx hX hr hc hg eo r0 r1 l0 l1
  go_enter Tryz.func55,Tryz.ntmps55
  go_wp2_with fail
  go_ret
  exact ⟨rfl,FIN.out⟩
theorem turnE (w0:World):TurnR 56 [] (fun _ _=>True) w0 w0.heap.size (fun _ W=>Below w0.heap.size w0 W) (fun _ _=>-1) where
 enters:=fun args W=>by kernel_rfl
 alloc:=fun l W o h=>h.alloc h.size o
 set:=fun l W W' i f h hA hi hb=>h.grown hb h.size (fun k hk=>by cases hk;exact hi)
 bel:=fun l W h=>h
 siz:=fun l W h=>h.size
 call:=by
  intro l r W hl r0 r1 hJ
  show Calls Tryz.prog 56 #[.int .i64 r] W _
  have HJ:=(show Hid (Below w0.heap.size w0 W) from hJ)
  clear hJ
  go_enter Tryz.func56,Tryz.ntmps56
  go_wp2_with fail
  go_ret
  exact ⟨rfl,HJ.out,fun i f x=>x,Nat.le_refl _⟩
theorem turnI (w0:World):TurnR 78 [] (fun _ _=>True) w0 w0.heap.size (fun _ W=>Below w0.heap.size w0 W) (fun _ r=>r) where
 enters:=fun args W=>by kernel_rfl
 alloc:=fun l W o h=>h.alloc h.size o
 set:=fun l W W' i f h hA hi hb=>h.grown hb h.size (fun k hk=>by cases hk;exact hi)
 bel:=fun l W h=>h
 siz:=fun l W h=>h.size
 call:=by
  intro l r W hl r0 r1 hJ
  show Calls Tryz.prog 78 #[.int .i64 r] W _
  have HJ:=(show Hid (Below w0.heap.size w0 W) from hJ)
  clear hJ
  go_enter Tryz.func78,Tryz.ntmps78
  go_wp2_with fail
  go_ret
  exact ⟨rfl,HJ.out,fun i f x=>x,Nat.le_refl _⟩
theorem okR_true:∀ (c:Ch) (l:List Int),okR (fun _ _=>True) l c
 | .leaf _ _,_=>trivial
 | .box c,l=>okR_true c l
 | .ref _ r c,l=>⟨trivial,okR_true c _⟩
theorem okR_in (n:Nat):∀ (c:Ch) (l:List Int),(∀ r∈c.regs,0≤r∧r<(n:Int))→okR (inX n) l c
 | .leaf _ _,_,_=>trivial
 | .box c,l,h=>okR_in n c l h
 | .ref _ r c,l,h=>⟨h r (by simp [Ch.regs]),okR_in n c _ (fun q hq=>h q (by simp [Ch.regs,hq]))⟩
theorem Tryz.results27:Tryz.f27.results=#[.cell 4 46,.tmp 5]:=rfl
theorem Tryz.results29:Tryz.f29.results=#[.cell 2 46,.tmp 3]:=rfl
theorem Erase_yes (c:Ch) (f:Fv) (w:World) (hc:Ok c) (h:TyAt w f c.ty):Calls Tryz.prog 29 #[f.v] w fun e w'=>∃ f':Fv,e=.returned (.tuple #[f'.v,.int .i64 0])∧New w w' f' (turnC (fun _ _=>-1) [] c):=by
 have CO:Hid (Calls Tryz.prog 54 #[f.v] ((w.alloc f.o).alloc zT.o) fun e w'=>∃ f':Fv,e=.returned (.tuple #[f'.v,.int .i64 0])∧Below ((w.alloc f.o).alloc zT.o).heap.size ((w.alloc f.o).alloc zT.o) w'):=jH ((Own_yes c f _ hc (h.bel (belB w f zT))).mono fun e w' k=>by
  obtain ⟨f',h1,h2⟩:=k
  exact ⟨f',h1,h2.bel⟩)
 have CT:Hid (∀ V,Below w.heap.size w V→Calls Tryz.prog 52 #[f.v,fnZ 56] V fun e w'=>∃ f':Fv,e=.returned f'.v∧TurnP V (fun _ W=>Below V.heap.size V W) c.regs (turnC (fun _ _=>-1) [] c) f' w'):=jH fun V hV=>by
  have:=rturned_any0 (turnE V) c f [] V hc.ok (okR_true c []) (h.bel hV) bR
  exact this
 have A2:Hid (At ((w.alloc f.o).alloc zT.o) w.heap.size f.o):=jH ((At.new _ _).alloc _)
 have A4:Hid (At ((w.alloc f.o).alloc zT.o) (w.heap.size+1) zT.o):=jH (at_snd _ _ _)
 obtain ⟨k,m,r,s,a,n,cap⟩:=f
 show Calls Tryz.prog 29 #[tyV k m r s a n cap] w _
 clear h hc
 go_enter Tryz.func29,Tryz.ntmps29
 go_upto_region 2 with (go_at_call 54;refine CO.out.mono ?_;rintro e w1 ⟨⟨k1,m1,r1,s1,a1,n1,cap1⟩,rfl,hb1⟩;have HB1:=jH hb1;clear hb1)
 have HB2:Hid (Below ((w.alloc (tyO k m r s a n cap)).alloc zT.o).heap.size ((w.alloc (tyO k m r s a n cap)).alloc zT.o) (w1.alloc (tyO k1 m1 r1 s1 a1 n1 cap1))):=jH (belA HB1.out)
 generalize (w1.alloc (tyO k1 m1 r1 s1 a1 n1 cap1))=w2 at HB2 ⊢
 have HC2:=jH (A2.out.below HB2.out)
 have HC4:=jH (A4.out.below HB2.out)
 have HBB:=jH (below2 HB2.out)
 clear HB1 HB2 A2 A4 CO
 obtain ⟨hl2,p0,p1,p2,p3,p4⟩:=HC2.out.ty
 go_wp2_with (go_at_call 52;refine (CT.out w2 HBB.out).mono ?_;rintro e w3 ⟨f2,rfl,hP⟩;clear p0 p1 p2 p3 p4;have B4:=hP.keep _ _ HC4.out;have g0:=B4.tyF 0;have g1:=B4.tyF 1;have g2:=B4.tyF 2;have g3:=B4.tyF 3;have g4:=B4.tyF 4;obtain ⟨hl4,q0,q1,q2,q3,q4⟩:=B4.ty;simp only [Nat.zero_add] at q0 q1 q2 q3 q4)
 obtain ⟨F1,F2⟩:=new_s5 hP.own (jB HBB.out hP.j) (b:=w.heap.size+1) (by omega) (by have:=HC4.out.lt;omega) B4
 exact bodyPost_ret (results_c2 (g:=f2) Tryz.results29 rfl rfl F1) rfl ⟨f2,rfl,F2⟩
theorem iC_at {L:List Int} {j:Nat} {x:Int} (h:L[j]?=some x):(iCells L)[j]?=some (.int .i64 x):=by simp [iCells,h]
def tuC (n:Nat) (X:List Int) (c:Ch):Ch:=if c.regs.all (fun r=>decide (0≤r) && decide (r<(n:Int))) then turnC (atX X) [] c else .leaf 0 0
def tuN (n:Nat) (c:Ch):Int:=if c.regs.all (fun r=>decide (0≤r) && decide (r<(n:Int))) then 0 else 2
theorem Turn_yes (c:Ch) (f:Fv) (a:Option Addr) (n cap:Nat) (X:List Int) (w:World) (hc:Ok c) (h:TyAt w f c.ty) (hr:IntR w a n cap X) (hX:X.length≤100000):Calls Tryz.prog 27 #[f.v,.slice a n cap] w fun e w'=>∃ f':Fv,e=.returned (.tuple #[f'.v,.int .i64 (tuN n c)])∧New w w' f' (tuC n X c):=by
 obtain ⟨A2,A3,A4⟩:=three_new w f.o (One (.slice a n cap) 33) zT.o
 have hB0:Below w.heap.size w (((w.alloc f.o).alloc (One (.slice a n cap) 33)).alloc zT.o):=belA (belA (belA bR))
 have CO:Hid (Calls Tryz.prog 54 #[f.v] (((w.alloc f.o).alloc (One (.slice a n cap) 33)).alloc zT.o) fun e w'=>∃ f':Fv,e=.returned (.tuple #[f'.v,.int .i64 0])∧Below w.heap.size w w'∧At w' w.heap.size f.o∧At w' (w.heap.size+1) (One (.slice a n cap) 33)∧At w' (w.heap.size+1+1) zT.o):=jH ((Own_yes c f _ hc (h.bel hB0)).mono fun e w' k=>by
  obtain ⟨f',h1,h2⟩:=k
  exact ⟨f',h1,jB hB0 h2.bel,A2.below h2.bel,A3.below h2.bel,A4.below h2.bel⟩)
 have CR:Hid (∀ W,Below w.heap.size w W→Calls Tryz.prog 33 #[f.v] W fun e w'=>(∃ v,e=.returned v∧w'.ownsRow W.heap.size 3 1 v c.regs.length (iCells c.regs))∧Below W.heap.size W w'):=jH fun W hW=>Regions_yes c f W hc (h.bel hW)
 have hn:n=X.length:=hr.len
 have CT:Hid (∀ V,Below w.heap.size w V→At V (w.heap.size+1) (One (.slice a n cap) 33)→(∀ r∈c.regs,0≤r∧r<(n:Int))→Calls Tryz.prog 52 #[f.v,fnB 55 (w.heap.size+1)] V fun e w'=>∃ f':Fv,e=.returned f'.v∧TurnP V (JT V (w.heap.size+1) (.slice a n cap)) c.regs (turnC (atX X) [] c) f' w'):=jH fun V hV hA hin=>by
  have:=rturned_any1 (turnT V (w.heap.size+1) a n cap X hX (hr.bel hV)) c f [] V hc.ok (okR_in _ c [] (by rw [← hn];exact hin)) (h.bel hV) ⟨hA,Below.refl _ _⟩
  exact this
 have hm60:c.regs.length≤60:=by have:=hc.deep;have:=regs_le c;omega
 have hn5:(n:Int)≤100000:=by omega
 obtain ⟨m0,hm0⟩:∃ m0,m0=c.regs.length:=⟨_,rfl⟩
 rw [← hm0] at CR hm60
 obtain ⟨k,m,r,s,a',n',cap'⟩:=f
 show Calls Tryz.prog 27 #[tyV k m r s a' n' cap',.slice a n cap] w _
 have HM0:=jH hm0
 clear h hc hr hB0 A2 A3 A4 hX hn hm0
 go_enter Tryz.func27,Tryz.ntmps27
 go_upto_region 2 with (go_at_call 54;refine CO.out.mono ?_;rintro e w1 ⟨⟨k1,m1,r1,s1,a1,n1,cap1⟩,rfl,hb1,ha1,ha2,ha3⟩;have HB1:=jH hb1;have HA1:=jH ha1;have HA2:=jH ha2;have HA3:=jH ha3;clear hb1 ha1 ha2 ha3)
 have HB2:Hid (Below w.heap.size w (w1.alloc (tyO k1 m1 r1 s1 a1 n1 cap1))):=jH (belA HB1.out)
 have HC2:Hid (At (w1.alloc (tyO k1 m1 r1 s1 a1 n1 cap1)) w.heap.size (tyO k m r s a' n' cap')):=jH (HA1.out.alloc _)
 have HC3:Hid (At (w1.alloc (tyO k1 m1 r1 s1 a1 n1 cap1)) (w.heap.size+1) (One (.slice a n cap) 33)):=jH (HA2.out.alloc _)
 have HC4:Hid (At (w1.alloc (tyO k1 m1 r1 s1 a1 n1 cap1)) (w.heap.size+1+1) zT.o):=jH (HA3.out.alloc _)
 generalize (w1.alloc (tyO k1 m1 r1 s1 a1 n1 cap1))=w2 at HB2 HC2 HC3 HC4 ⊢
 clear HB1 HA1 HA2 HA3 CO
 have HC2':Hid (At w2 w.heap.size (Fv.o ⟨k,m,r,s,a',n',cap'⟩)):=HC2
 obtain ⟨hl2,p0,p1,p2,p3,p4⟩:=HC2'.out.ty
 go_wp2_with (go_at_call 33;refine (CR.out w2 HB2.out).mono ?_;rintro e w3 ⟨⟨v,rfl,ho3⟩,hb3⟩;have HB3:=jH (jB HB2.out hb3);have HD2:=jH (HC2'.out.below hb3);have HD3:=jH (HC3.out.below hb3);have HD4:=jH (HC4.out.below hb3);have HO3:=jH ho3;obtain ⟨a1,c1,rfl⟩:=own_sl ho3;clear ho3 hb3 p0 p1 p2 p3 p4 hl2)
 clear HB2 HC2 HC2' HC3 HC4 CR
 go_loopw [22] (fun i W=>∃ j:Nat,j≤m0∧i=.int .i64 j∧W=w3∧∀ k x,k<j→c.regs[k]?=some x→0≤x∧x<(n:Int)) (fun i _=>m0 - (intOf i).toNat)
 case atStart=>exact ⟨0,Nat.zero_le _,rfl,rfl,fun k x hk=>by omega⟩
 case round =>
  obtain ⟨j,hj,rfl,hW,hall⟩:=hrel
  cases hW
  by_cases hlt:j<m0
  ·obtain ⟨x,hx⟩:∃ x,c.regs[j]?=some x:=⟨_,List.getElem?_eq_getElem (by rw [← HM0.out];exact hlt)⟩
   obtain ⟨gg,cc,hvv⟩:=own_is HO3.out (by omega)
   cases hvv
   have hcx:=own_cell HO3.out (iC_at hx)
   have hgl:=(HO3.out.lt gg rfl).2
   have k0:(0:Int)≤(j:Int):=by omega
   have k1:(j:Int)<(m0:Int):=by omega
   have k2:(j:Int)≤1000:=by omega
   have HX:=jH hx
   have HALL:=jH hall
   obtain ⟨d0,d1⟩:=HD3.out.one
   have hl3:=HD3.out.lt
   clear hall hx HO3 CT
   by_cases hx0:x<0
   ·have B4:=HD4.out
    have g0:=B4.tyF 0
    have g1:=B4.tyF 1
    have g2:=B4.tyF 2
    have g3:=B4.tyF 3
    have g4:=B4.tyF 4
    obtain ⟨hl4,q0,q1,q2,q3,q4⟩:=B4.ty
    simp only [Nat.zero_add] at q0 q1 q2 q3 q4
    go_wp2_with fail
    obtain ⟨F1,F2⟩:=new_zero HB3.out (b:=w.heap.size+1+1) (by omega) B4
    have hf:¬ (c.regs.all (fun r=>decide (0≤r) && decide (r<(n:Int)))=true):=fun hh=>by
     rw [List.all_eq_true] at hh
     have:=hh x (List.mem_of_getElem? HX.out)
     simp at this
     omega
    have hN:tuN n c=2:=if_neg hf
    have hC:tuC n X c=.leaf 0 0:=if_neg hf
    rw [hN,hC]
    exact bodyPost_ret (results_c2 (g:=zT) Tryz.results27 rfl rfl F1) rfl ⟨zT,rfl,F2⟩
   ·by_cases hx1:x<(n:Int)
    ·have hx2:¬ ((n:Int)≤x):=by omega
     go_wp2_with fail
     refine ⟨⟨j+1,hlt,rfl,(by first|rfl|trivial),fun k y hk hy=>?_⟩,?_⟩
     ·by_cases e:k=j
      ·subst e
       rw [HX.out] at hy
       cases hy
       omega
      ·exact HALL.out k y (by omega) hy
     ·show m0 - ((j:Int)+1).toNat<m0 - (j:Int).toNat
      omega
    ·have hx2:(n:Int)≤x:=by omega
     have B4:=HD4.out
     have g0:=B4.tyF 0
     have g1:=B4.tyF 1
     have g2:=B4.tyF 2
     have g3:=B4.tyF 3
     have g4:=B4.tyF 4
     obtain ⟨hl4,q0,q1,q2,q3,q4⟩:=B4.ty
     simp only [Nat.zero_add] at q0 q1 q2 q3 q4
     go_wp2_with fail
     obtain ⟨F1,F2⟩:=new_zero HB3.out (b:=w.heap.size+1+1) (by omega) B4
     have hf:¬ (c.regs.all (fun r=>decide (0≤r) && decide (r<(n:Int)))=true):=fun hh=>by
      rw [List.all_eq_true] at hh
      have:=hh x (List.mem_of_getElem? HX.out)
      simp at this
      omega
     have hN:tuN n c=2:=if_neg hf
     have hC:tuC n X c=.leaf 0 0:=if_neg hf
     rw [hN,hC]
     exact bodyPost_ret (results_c2 (g:=zT) Tryz.results27 rfl rfl F1) rfl ⟨zT,rfl,F2⟩
  ·obtain rfl:j=m0:=by omega
   have z1:¬ ((j:Int)<(j:Int)):=by omega
   have hin:∀ r∈c.regs,0≤r∧r<(n:Int):=fun r hr=>by
    obtain ⟨k,hk⟩:=List.mem_iff_getElem?.1 hr
    have hkl:=(List.getElem?_eq_some_iff.1 hk).1
    have:=HM0.out
    exact hall k r (by omega) hk
   have ht:c.regs.all (fun r=>decide (0≤r) && decide (r<(n:Int)))=true:=by
    rw [List.all_eq_true]
    intro x hx
    have:=hin x hx
    simp [this.1,this.2]
   have hN:=jH (show tuN n c=0 from if_pos ht)
   have hC:=jH (show tuC n X c=turnC (atX X) [] c from if_pos ht)
   obtain ⟨hl2,p0,p1,p2,p3,p4⟩:=HD2.out.ty
   have HIN:=jH hin
   clear hall ht hin HO3
   go_wp2_with (go_at_call 52;refine (CT.out w3 HB3.out HD3.out HIN.out).mono ?_;rintro e w4 ⟨f2,rfl,hP⟩;clear p0 p1 p2 p3 p4;have B4:=hP.keep _ _ HD4.out;have g0:=B4.tyF 0;have g1:=B4.tyF 1;have g2:=B4.tyF 2;have g3:=B4.tyF 3;have g4:=B4.tyF 4;obtain ⟨hl4,q0,q1,q2,q3,q4⟩:=B4.ty;simp only [Nat.zero_add] at q0 q1 q2 q3 q4)
   obtain ⟨F1,F2⟩:=new_s5 hP.own (jB HB3.out hP.j.2) (b:=w.heap.size+1+1) (by omega) (by have:=HD4.out.lt;omega) B4
   rw [hN.out,hC.out]
   exact bodyPost_ret (results_c2 (g:=f2) Tryz.results27 rfl rfl F1) rfl ⟨f2,rfl,F2⟩
end Go.Proofs.YtdlggpcakaofoaaGreat
