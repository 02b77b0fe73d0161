import Derived.Test.YtmjenlogbkbgnaaGreatDoorC00
import Derived.ChangeSame
import Derived.Deep.Strs
namespace Go.Proofs.YtmjenlogbkbgnaaGreatDoor
open Go.RowKit Go.Shelf
set_option linter.unusedVariables false
set_option linter.unusedSimpArgs false
set_option maxRecDepth 100000
set_option maxHeartbeats 4000000
structure TurnR (fn:Nat) (caps:List Value) (R:List Int→Int→Prop) (w0:World) (lw:Nat) (J:List Int→World→Prop) (out:List Int→Int→Int):Prop where
 enters:Enters fn
 alloc:∀ l W o,J l W→J l (W.alloc o)
 set:∀ l W W' i (f:Fv),J l W→At W i f.o→lw≤i→But i W W'→J l W'
 bel:∀ l W,J l W→Below w0.heap.size w0 W
 siz:∀ l W,J l W→lw≤W.heap.size
 call:∀ l r W,R l r→-9223372036854775808≤r→r≤9223372036854775807→J l W→Calls Tryz.prog fn ((.int .i64 r)::caps).toArray W fun e w'=>e=.returned (.int .i64 (out l r))∧J (l++[r]) w'∧KeepT W w'∧W.heap.size≤w'.heap.size
def okR (R:List Int→Int→Prop):List Int→Ch→Prop
 | _,.leaf _ _=>True
 | l,.box c=>okR R l c
 | l,.ref _ r c=>R l r∧okR R (l++[r]) c
theorem Tryz.results105:Tryz.f105.results=#[.cell 4 43]:=rfl
theorem rturn_leaf {fn:Nat} {R:List Int→Int→Prop} {caps:List Value} {w0:World} {J:List Int→World→Prop} {out:List Int→Int→Int} {lw:Nat} (hT:TurnR fn caps R w0 lw J out) (fv:Value) (k:Nat) (s:Int) (a:Option Addr) (cap:Nat) (l:List Int) (W:World) (k3:¬ (k:Int)=3) (k4:¬ (k:Int)=4) (hJ:J l W) :
  Calls Tryz.prog 105 #[tyV k false 0 s a 0 cap,fv] W fun e w'=>∃ f':Fv,e=.returned f'.v∧TurnP W J l (.leaf k s) f' w':=by
 have h1:Hid (∀ o o',J l ((W.alloc o).alloc o')):=fun o o'=>hT.alloc _ _ _ (hT.alloc _ _ _ hJ)
 have hB:Hid (Below w0.heap.size w0 W):=hT.bel _ _ hJ
 have hBl:Hid (lw≤W.heap.size):=hT.siz _ _ hJ
 have A2:Hid (At ((W.alloc (tyO k false 0 s a 0 cap)).alloc zT.o) W.heap.size (Fv.o ⟨k,false,0,s,a,0,cap⟩)):=(At.new _ _).alloc _
 have A4:Hid (At ((W.alloc (tyO k false 0 s a 0 cap)).alloc zT.o) (W.heap.size+1) zT.o):=at_snd _ _ _
 have HS:Hid (∀ (V V':World) i (f:Fv),J l V→At V i f.o→lw≤i→But i V V'→J l V'):=fun V V' i f=>hT.set l V V' i f
 clear hT hJ
 go_enter Tryz.func105,Tryz.ntmps105
 go_wp2_with fail
 exact bodyPost_ret (results_c1 (g:=⟨k,false,0,s,none,0,0⟩) Tryz.results105 rfl (At.ty (f:=⟨k,false,0,s,none,0,0⟩) (at_snd W (Fv.o ⟨k,false,0,s,none,0,0⟩) (Fv.o ⟨k,false,0,s,none,0,0⟩)))) rfl ⟨⟨k,false,0,s,none,0,0⟩,rfl,⟨.leaf k s,h1.out _ _,fun i f x=>(x.alloc _).alloc _,by simp only [World.size_alloc];omega⟩⟩
theorem rturn_fin {lw:Nat} {W w2:World} {J:World→Prop} {c:Ch} {f2 fb f4:Fv} (g:Fv) {lo:Nat} (u:Value) (own:Own w2 lo f2 c) (hlo:W.heap.size+2≤lo) (j:J w2) (kp:KeepT W w2) (B2:At w2 W.heap.size fb.o) (B4:At w2 (W.heap.size+1) f4.o) (hB:lw≤W.heap.size)
  (HS:∀ (V V':World) i (f:Fv),J V→At V i f.o→lw≤i→But i V V'→J V') (HA:∀ V o,J V→J (V.alloc o)) :
  C5 ((S5 (w2.setCell ⟨W.heap.size,4,none⟩ u) (W.heap.size+1) g).alloc f2.o) (W.heap.size+1) 0 g∧Own ((S5 (w2.setCell ⟨W.heap.size,4,none⟩ u) (W.heap.size+1) g).alloc f2.o) W.heap.size f2 c∧At ((S5 (w2.setCell ⟨W.heap.size,4,none⟩ u) (W.heap.size+1) g).alloc f2.o) w2.heap.size f2.o∧J ((S5 (w2.setCell ⟨W.heap.size,4,none⟩ u) (W.heap.size+1) g).alloc f2.o)∧KeepT W ((S5 (w2.setCell ⟨W.heap.size,4,none⟩ u) (W.heap.size+1) g).alloc f2.o)∧W.heap.size≤((S5 (w2.setCell ⟨W.heap.size,4,none⟩ u) (W.heap.size+1) g).alloc f2.o).heap.size∧W.heap.size≤w2.heap.size:=by
 have hz:W.heap.size≤w2.heap.size:=by have:=B2.lt;omega
 have B4':At (w2.setCell ⟨W.heap.size,4,none⟩ u) (W.heap.size+1) f4.o:=B4.set (by simp) u
 have own':Own (w2.setCell ⟨W.heap.size,4,none⟩ u) lo f2 c:=own.keep fun i o hi hA=>hA.set (by simp only;omega) u
 have j':J (w2.setCell ⟨W.heap.size,4,none⟩ u):=HS w2 _ _ fb j B2 hB ((But.refl _ _).set 4 u)
 have kp':KeepT W (w2.setCell ⟨W.heap.size,4,none⟩ u):=keepT_hi kp (Nat.le_refl _) 4 u
 have hs':(w2.setCell ⟨W.heap.size,4,none⟩ u).heap.size=w2.heap.size:=by simp
 generalize (w2.setCell ⟨W.heap.size,4,none⟩ u)=V at *
 have j2:J (S5 V (W.heap.size+1) g):=HS V _ _ f4 j' B4' (by omega) (but_s5 _ _ _)
 refine ⟨((B4'.set5 g).alloc _).ty,((own'.keep fun i o hi hA=>(hA.S5 (by omega) g).alloc _).low (by omega)),?_,HA _ _ j2,fun i f x=>((keepT_S5 kp' (by omega) g) i f x).alloc _,by simp only [World.size_alloc,size_S5];omega,hz⟩
 have:=At.new (S5 V (W.heap.size+1) g) f2.o
 rw [size_S5,hs'] at this
 exact this
theorem rturn_box {fn:Nat} {R:List Int→Int→Prop} {caps:List Value} {w0:World} {J:List Int→World→Prop} {out:List Int→Int→Int} {lw:Nat} (hT:TurnR fn caps R w0 lw J out) (fv:Value) (g off cap:Nat) (x:Fv) (c:Ch) (l l':List Int) (W:World) (hx:C5 w0 g off x) (hJ:J l W)
  (IH0:∀ V,J l V→Calls Tryz.prog 105 #[x.v,fv] V fun e w'=>∃ f':Fv,e=.returned f'.v∧TurnP V J l' c f' w') :
  Calls Tryz.prog 105 #[tyV 3 false 0 0 (some ⟨g,off,none⟩) 1 cap,fv] W fun e w'=>∃ f':Fv,e=.returned f'.v∧TurnP W J l' (.box c) f' w':=by
 have hJ2:=hT.alloc _ _ zT.o (hT.alloc _ _ (tyO 3 false 0 0 (some ⟨g,off,none⟩) 1 cap) hJ)
 have IH:Hid (Calls Tryz.prog 105 #[x.v,fv] ((W.alloc (tyO 3 false 0 0 (some ⟨g,off,none⟩) 1 cap)).alloc zT.o) fun e w'=>∃ f':Fv,e=.returned f'.v∧TurnP ((W.alloc (tyO 3 false 0 0 (some ⟨g,off,none⟩) 1 cap)).alloc zT.o) J l' c f' w'):=IH0 _ hJ2
 have hB:Hid (Below w0.heap.size w0 W):=hT.bel _ _ hJ
 have hBl:Hid (lw≤W.heap.size):=hT.siz _ _ hJ
 have A2:Hid (At ((W.alloc (tyO 3 false 0 0 (some ⟨g,off,none⟩) 1 cap)).alloc zT.o) W.heap.size (Fv.o ⟨3,false,0,0,some ⟨g,off,none⟩,1,cap⟩)):=(At.new _ _).alloc _
 have A4:Hid (At ((W.alloc (tyO 3 false 0 0 (some ⟨g,off,none⟩) 1 cap)).alloc zT.o) (W.heap.size+1) zT.o):=at_snd _ _ _
 have HS:Hid (∀ (V V':World) i (f:Fv),J l' V→At V i f.o→lw≤i→But i V V'→J l' V'):=fun V V' i f=>hT.set l' V V' i f
 have HA:Hid (∀ V o,J l' V→J l' (V.alloc o)):=hT.alloc l'
 obtain ⟨hg,p0,p1,p2,p3,p4⟩:=hx.below (hT.bel _ _ hJ)
 clear hT hJ hJ2 IH0 hx
 go_enter Tryz.func105,Tryz.ntmps105
 go_wp2_with (go_at_call 105;refine IH.out.mono ?_;rintro e w2 ⟨f2,rfl,hP⟩;clear p0 p1 p2 p3 p4;have B2:=hP.keep _ _ A2.out;have B4:=hP.keep _ _ A4.out;have g0:=B4.tyF 0;have g1:=B4.tyF 1;have g2:=B4.tyF 2;have g3:=B4.tyF 3;have g4:=B4.tyF 4;have k4:=B2.tyF 4;obtain ⟨hl4,q0,q1,q2,q3,q4⟩:=B4.ty;obtain ⟨hl2,p0,p1,p2,p3,p4⟩:=B2.ty;simp only [Nat.zero_add] at p0 p1 p2 p3 p4 q0 q1 q2 q3 q4)
 have hlo:W.heap.size+2≤((W.alloc (tyO 3 false 0 0 (some ⟨g,off,none⟩) 1 cap)).alloc zT.o).heap.size:=by simp only [World.size_alloc];omega
 obtain ⟨F1,F2,F3,F4,F5,F6,F7⟩:=rturn_fin (J:=J l') (lw:=lw) ⟨3,false,0,0,some ⟨w2.heap.size,0,none⟩,1,1⟩ (.slice (some ⟨w2.heap.size,0,none⟩) 1 1) hP.own hlo hP.j (keepT_two hP.keep) B2 B4 hBl.out HS.out HA.out
 exact bodyPost_ret (results_c1 (g:=⟨3,false,0,0,some ⟨w2.heap.size,0,none⟩,1,1⟩) Tryz.results105 rfl F1) rfl ⟨⟨3,false,0,0,some ⟨w2.heap.size,0,none⟩,1,1⟩,rfl,⟨.box w2.heap.size f2 c F7 F3 F2,F4,F5,F6⟩⟩
theorem rturn_ref1 {fn b:Nat} {R:List Int→Int→Prop} {w0:World} {J:List Int→World→Prop} {out:List Int→Int→Int} {lw:Nat} (hT:TurnR fn [.pointer (some ⟨b,0,none⟩)] R w0 lw J out) (m:Bool) (r:Int) (g off cap:Nat) (x:Fv) (c:Ch) (l l':List Int) (W:World) (hl:R l r) (r0:-9223372036854775808≤r) (r1:r≤9223372036854775807) (hx:C5 w0 g off x) (hJ:J l W)
  (IH0:∀ V,J (l++[r]) V→Calls Tryz.prog 105 #[x.v,fnB fn b] V fun e w'=>∃ f':Fv,e=.returned f'.v∧TurnP V J l' c f' w') :
  Calls Tryz.prog 105 #[tyV 4 m r 0 (some ⟨g,off,none⟩) 1 cap,fnB fn b] W fun e w'=>∃ f':Fv,e=.returned f'.v∧TurnP W J l' (.ref m (out l r) c) f' w':=by
 have hJ2:=hT.alloc _ _ zT.o (hT.alloc _ _ (tyO 4 m r 0 (some ⟨g,off,none⟩) 1 cap) hJ)
 have CT:Hid (Calls Tryz.prog fn #[.int .i64 r,.pointer (some ⟨b,0,none⟩)] ((W.alloc (tyO 4 m r 0 (some ⟨g,off,none⟩) 1 cap)).alloc zT.o) fun e w'=>e=.returned (.int .i64 (out l r))∧J (l++[r]) w'∧KeepT ((W.alloc (tyO 4 m r 0 (some ⟨g,off,none⟩) 1 cap)).alloc zT.o) w'∧((W.alloc (tyO 4 m r 0 (some ⟨g,off,none⟩) 1 cap)).alloc zT.o).heap.size≤w'.heap.size):=hT.call l r _ hl r0 r1 hJ2
 have IH:Hid (∀ V,J (l++[r]) V→Calls Tryz.prog 105 #[x.v,fnB fn b] V fun e w'=>∃ f':Fv,e=.returned f'.v∧TurnP V J l' c f' w'):=IH0
 have hB:Hid (w0.heap.size≤W.heap.size):=(hT.bel _ _ hJ).size
 have hBl:Hid (lw≤W.heap.size):=hT.siz _ _ hJ
 have A2:Hid (At ((W.alloc (tyO 4 m r 0 (some ⟨g,off,none⟩) 1 cap)).alloc zT.o) W.heap.size (Fv.o ⟨4,m,r,0,some ⟨g,off,none⟩,1,cap⟩)):=(At.new _ _).alloc _
 have A4:Hid (At ((W.alloc (tyO 4 m r 0 (some ⟨g,off,none⟩) 1 cap)).alloc zT.o) (W.heap.size+1) zT.o):=at_snd _ _ _
 have HS1:Hid (∀ (V V':World) i (f:Fv),J (l++[r]) V→At V i f.o→lw≤i→But i V V'→J (l++[r]) V'):=fun V V' i f=>hT.set _ V V' i f
 have HS:Hid (∀ (V V':World) i (f:Fv),J l' V→At V i f.o→lw≤i→But i V V'→J l' V'):=fun V V' i f=>hT.set l' V V' i f
 have HA:Hid (∀ V o,J l' V→J l' (V.alloc o)):=hT.alloc l'
 have PC:Hid (∀ V,J (l++[r]) V→C5 V g off x):=fun V h1=>hx.below (hT.bel _ _ h1)
 have hgw:g<w0.heap.size:=hx.1
 have hen:=hT.enters
 unfold Enters at hen
 obtain ⟨o,ho⟩:∃ o,o=out l r:=⟨_,rfl⟩
 rw [← ho] at CT ⊢
 clear hT hJ hJ2 IH0 hx ho hl r0 r1
 go_enter Tryz.func105,Tryz.ntmps105
 go_wp2_with fail
 refine CT.out.mono ?_
 rintro e w1 ⟨rfl,hj1,hk1,hz1⟩
 have B2:=hk1 _ _ A2.out
 have B4:=hk1 _ _ A4.out
 have C2:At (w1.setCell ⟨W.heap.size,2,none⟩ (.int .i64 o)) W.heap.size (Fv.o ⟨4,m,o,0,some ⟨g,off,none⟩,1,cap⟩):=B2.cell2 o
 have C4:At (w1.setCell ⟨W.heap.size,2,none⟩ (.int .i64 o)) (W.heap.size+1) zT.o:=B4.set (by simp) _
 have hj2:J (l++[r]) (w1.setCell ⟨W.heap.size,2,none⟩ (.int .i64 o)):=HS1.out w1 _ _ _ hj1 B2 hBl.out ((But.refl _ _).set 2 _)
 have hk2:KeepT W (w1.setCell ⟨W.heap.size,2,none⟩ (.int .i64 o)):=keepT_hi (keepT_two hk1) (Nat.le_refl _) 2 _
 have hs2:W.heap.size+2≤(w1.setCell ⟨W.heap.size,2,none⟩ (.int .i64 o)).heap.size:=by simp only [World.size_alloc] at hz1;simp only [World.size_setCell];omega
 have Q2:Hid (At (w1.setCell ⟨W.heap.size,2,none⟩ (.int .i64 o)) W.heap.size (Fv.o ⟨4,m,o,0,some ⟨g,off,none⟩,1,cap⟩)∧At (w1.setCell ⟨W.heap.size,2,none⟩ (.int .i64 o)) (W.heap.size+1) zT.o∧J (l++[r]) (w1.setCell ⟨W.heap.size,2,none⟩ (.int .i64 o))∧KeepT W (w1.setCell ⟨W.heap.size,2,none⟩ (.int .i64 o))∧W.heap.size+2≤(w1.setCell ⟨W.heap.size,2,none⟩ (.int .i64 o)).heap.size):=⟨C2,C4,hj2,hk2,hs2⟩
 have k2:=B2.tyF 2
 obtain ⟨hl2,p0,p1,p2,p3,p4⟩:=B2.ty
 simp only [Nat.zero_add] at p0 p1 p2 p3 p4
 obtain ⟨hgl,q0,q1,q2,q3,q4⟩:=PC.out _ hj1
 have hgne:g≠W.heap.size:=by have:=hB.out;omega
 clear C2 C4 hj2 hk2 hs2 B2 B4
 go_wp2_with (go_at_call 105;refine (IH.out _ Q2.out.2.2.1).mono ?_;rintro e w2 ⟨f2,rfl,hP⟩;clear p0 p1 p2 p3 p4 q0 q1 q2 q3 q4;have D2:=hP.keep _ _ Q2.out.1;have D4:=hP.keep _ _ Q2.out.2.1;have g0:=D4.tyF 0;have g1:=D4.tyF 1;have g2:=D4.tyF 2;have g3:=D4.tyF 3;have g4:=D4.tyF 4;have k4:=D2.tyF 4;obtain ⟨hl4,q0,q1,q2,q3,q4⟩:=D4.ty;obtain ⟨hl2,p0,p1,p2,p3,p4⟩:=D2.ty;simp only [Nat.zero_add] at p0 p1 p2 p3 p4 q0 q1 q2 q3 q4)
 obtain ⟨F1,F2,F3,F4,F5,F6,F7⟩:=rturn_fin (J:=J l') (lw:=lw) ⟨4,m,o,0,some ⟨w2.heap.size,0,none⟩,1,1⟩ (.slice (some ⟨w2.heap.size,0,none⟩) 1 1) hP.own Q2.out.2.2.2.2 hP.j (Q2.out.2.2.2.1.trans hP.keep) D2 D4 hBl.out HS.out HA.out
 exact bodyPost_ret (results_c1 (g:=⟨4,m,o,0,some ⟨w2.heap.size,0,none⟩,1,1⟩) Tryz.results105 rfl F1) rfl ⟨⟨4,m,o,0,some ⟨w2.heap.size,0,none⟩,1,1⟩,rfl,⟨.ref m o w2.heap.size f2 c F7 F3 F2,F4,F5,F6⟩⟩
theorem rturned_any1 {fn b:Nat} {R:List Int→Int→Prop} {w0:World} {J:List Int→World→Prop} {out:List Int→Int→Int} {lw:Nat} (hT:TurnR fn [.pointer (some ⟨b,0,none⟩)] R w0 lw J out):∀ (c:Ch) (f:Fv) (l:List Int) (W:World),c.ok 32→okR R l c→TyAt w0 f c.ty→J l W →
  Calls Tryz.prog 105 #[f.v,fnB fn b] W fun e w'=>∃ f':Fv,e=.returned f'.v∧TurnP W J (l++c.regs) (turnC out l c) f' w':=by
 intro c
 induction c with
 | leaf k s =>
  intro f l W hc hl h hJ
  obtain ⟨a,cap,rfl,-⟩:=h.leaf
  have hk:¬ (k:Int)=3∧¬ (k:Int)=4:=by
   have:(k=1∨k=2)∧s=0∨k=5∧0≤s∧s<32:=hc
   omega
  have:=rturn_leaf hT (fnB fn b) k s a cap l W hk.1 hk.2 hJ
  simpa only [Ch.regs,List.append_nil,turnC] using this
 | box c ih =>
  intro f l W hc hl h hJ
  obtain ⟨g,off,cap,x,rfl,hx,ht⟩:=h.box
  exact rturn_box hT (fnB fn b) g off cap x (turnC out l c) l (l++c.regs) W hx hJ (fun V hV=>ih x l V hc hl ht hV)
 | ref m r c ih =>
  intro f l W hc hl h hJ
  obtain ⟨g,off,cap,x,rfl,hx,ht,r0,r1⟩:=h.ref
  refine rturn_ref1 hT m r g off cap x (turnC out (l++[r]) c) l (l++(Ch.ref m r c).regs) W hl.1 r0 r1 hx hJ (fun V hV=>?_)
  have:=ih x (l++[r]) V hc.2 hl.2 ht hV
  rw [List.append_assoc] at this
  exact this
def negs (l:List Int):Nat:=(l.filter (fun r=>decide (r<0))).length
theorem negs_snoc (l:List Int) (r:Int):negs (l++[r])=negs l+(if r<0 then 1 else 0):=by
 unfold negs
 rw [List.filter_append,List.length_append]
 by_cases h:r<0 <;> simp [h]
theorem negs_le (l:List Int):negs l≤l.length:=List.length_filter_le _ _
def outN (fr:Int) (l:List Int) (r:Int):Int:=if 0≤r then r else fr+(negs l:Nat)
def numC (fr:Int) (c:Ch):Ch:=turnC (outN fr) [] c
def cntL (lv:Int):List Ch→Int
 | []=>lv
 | c::l=>cntL (lv+(negs c.regs:Nat)) l
def numR (lv:Int):List Ch→List Ch
 | []=>[]
 | c::l=>numC lv c::numR (lv+(negs c.regs:Nat)) l
theorem cntL_snoc:∀ (l:List Ch) (lv:Int) (c:Ch),cntL lv (l++[c])=cntL lv l+(negs c.regs:Nat)
 | [],lv,c=>rfl
 | d::l,lv,c=>cntL_snoc l _ c
theorem numR_snoc:∀ (l:List Ch) (lv:Int) (c:Ch),numR lv (l++[c])=numR lv l++[numC (cntL lv l) c]
 | [],lv,c=>rfl
 | d::l,lv,c=>by simp only [List.cons_append,numR,cntL];rw [numR_snoc l]
theorem numR_len:∀ (l:List Ch) (lv:Int),(numR lv l).length=l.length
 | [],lv=>rfl
 | d::l,lv=>by simp only [numR,List.length_cons];rw [numR_len l]
theorem cntL_le:∀ (l:List Ch) (lv:Int),(∀ c∈l,c.regs.length≤60)→lv≤cntL lv l∧cntL lv l≤lv+60*l.length
 | [],lv,h=>by simp [cntL]
 | c::l,lv,h=>by
  have h1:=cntL_le l (lv+(negs c.regs:Nat)) (fun d hd=>h d (by simp [hd]))
  have h2:=h c (by simp)
  have h3:=negs_le c.regs
  simp only [cntL,List.length_cons]
  omega
def made (gs:List Grp) (p:Pnt):Int:=if p.op=4 then 1 else if p.op=7 then ((gs[p.fn.toNat]?).map (fun g=>g.lv)).getD 0 else 0
def cntP (gs:List Grp) (fr:Int):List Pnt→Int
 | []=>fr
 | p::l=>cntP gs (fr+made gs p) l
def atR (gs:List Grp) (fr:Int):List Pnt→List Int
 | []=>[]
 | p::l=>(if 0<made gs p then fr else -1)::atR gs (fr+made gs p) l
theorem cntP_snoc (gs:List Grp):∀ (l:List Pnt) (fr:Int) (p:Pnt),cntP gs fr (l++[p])=cntP gs fr l+made gs p
 | [],fr,p=>rfl
 | d::l,fr,p=>cntP_snoc gs l _ p
theorem atR_snoc (gs:List Grp):∀ (l:List Pnt) (fr:Int) (p:Pnt),atR gs fr (l++[p])=atR gs fr l++[if 0<made gs p then cntP gs fr l else -1]
 | [],fr,p=>rfl
 | d::l,fr,p=>by simp only [List.cons_append,atR,cntP];rw [atR_snoc gs l]
theorem cntP_le (gs:List Grp):∀ (l:List Pnt) (fr:Int),(∀ p∈l,0≤made gs p∧made gs p≤8)→fr≤cntP gs fr l∧cntP gs fr l≤fr+8*l.length
 | [],fr,h=>by simp [cntP]
 | p::l,fr,h=>by
  have h1:=cntP_le gs l (fr+made gs p) (fun d hd=>h d (by simp [hd]))
  have h2:=h p (by simp)
  simp only [cntP,List.length_cons]
  omega
abbrev rgO (lv np cn:Int) (vL vA:Value):Obj:=.cells #[.int .i64 lv,.int .i64 np,.int .i64 cn,vL,vA] 77 (0,0)
abbrev rgV (lv np cn:Int) (vL vA:Value):Value:=.agg #[.int .i64 lv,.int .i64 np,.int .i64 cn,vL,vA]
theorem At.rg {w:World} {b:Nat} {lv np cn:Int} {vL vA:Value} (h:At w b (rgO lv np cn vL vA)):w.cell? ⟨b,0,none⟩=some (.int .i64 lv)∧w.cell? ⟨b,1,none⟩=some (.int .i64 np)∧w.cell? ⟨b,2,none⟩=some (.int .i64 cn)∧w.cell? ⟨b,3,none⟩=some vL∧w.cell? ⟨b,4,none⟩=some vA:=by
 unfold At at h
 exact ⟨by simp [World.cell?,h],by simp [World.cell?,h],by simp [World.cell?,h],by simp [World.cell?,h],by simp [World.cell?,h]⟩
theorem At.rgF {w:World} {b:Nat} {lv np cn:Int} {vL vA:Value} (h:At w b (rgO lv np cn vL vA)) (o:Nat):w.frozen? ⟨b,o,none⟩=false:=frozen_of_row w b o _ 77 h
theorem At.rg2 {w:World} {b:Nat} {lv np cn:Int} {vL vA:Value} (h:At w b (rgO lv np cn vL vA)) (x:Int):At (w.setCell ⟨b,2,none⟩ (.int .i64 x)) b (rgO lv np x vL vA):=heap_setCell_same w b 2 _ 77 (.int .i64 x) h
theorem At.rg3 {w:World} {b:Nat} {lv np cn:Int} {vL vA:Value} (h:At w b (rgO lv np cn vL vA)) (a:Option Addr) (n cap:Nat):At (w.setCell ⟨b,3,none⟩ (.slice a n cap)) b (rgO lv np cn (.slice a n cap) vA):=heap_setCell_same w b 3 _ 77 (.slice a n cap) h
theorem At.rg4 {w:World} {b:Nat} {lv np cn:Int} {vL vA:Value} (h:At w b (rgO lv np cn vL vA)) (a:Option Addr) (n cap:Nat):At (w.setCell ⟨b,4,none⟩ (.slice a n cap)) b (rgO lv np cn vL (.slice a n cap)):=heap_setCell_same w b 4 _ 77 (.slice a n cap) h
theorem rg_ne {W:World} {b i:Nat} {lv np cn:Int} {vL vA:Value} {f:Fv} (h:At W b (rgO lv np cn vL vA)) (hA:At W i f.o):i≠b:=fun e=>by
 subst e
 unfold At at h hA
 rw [h] at hA
 simp [Fv.o] at hA
theorem next_any (W:World) (b:Nat) (lv np cn k:Int) (vL vA:Value) (h:At W b (rgO lv np cn vL vA)) (h0:0≤cn) (h1:cn≤1000000) (k0:0≤k) (k1:k≤8):Calls Tryz.prog 104 #[.int .i64 k,.pointer (some ⟨b,0,none⟩)] W fun e w'=>e=.returned (.int .i64 cn)∧w'=W.setCell ⟨b,2,none⟩ (.int .i64 (cn+k)):=by
 obtain ⟨c0,c1,c2,c3,c4⟩:=h.rg
 have f2:=h.rgF 2
 have hl:=h.lt
 have e1:IntKind.i64.wrap (cn+k)=cn+k:=by rw [IntKind.wrap_i64];all_goals omega
 have e2:IntKind.i64.wrap (cn+k - k)=cn:=by rw [IntKind.wrap_i64];all_goals omega
 clear h
 go_enter Tryz.func104,Tryz.ntmps104
 go_wp2_with fail
 go_ret
 refine ⟨?_,rfl⟩
 first|rfl|(congr 2;omega)
structure JG (b7 b8:Nat) (lv np fr:Int) (vL vA:Value) (W0:World) (l:List Int) (W:World):Prop where
 a8:At W b8 (One (fnB 104 b7) 177)
 a7:At W b7 (rgO lv np (fr+(negs l:Nat)) vL vA)
 but:But b7 W0 W
theorem JG.keep {b7 b8:Nat} {lv np fr:Int} {vL vA:Value} {W0 W W':World} {l:List Int} (h:JG b7 b8 lv np fr vL vA W0 l W) (k:Below W.heap.size W W'):JG b7 b8 lv np fr vL vA W0 l W':=⟨h.a8.below k,h.a7.below k,h.but.trans (But.below k)⟩
theorem turnG (w0 W0:World) (b7 b8:Nat) (lv np fr:Int) (vL vA:Value) (hB:Below w0.heap.size w0 W0) (h7:w0.heap.size≤b7) (h8:b8≠b7) (hl7:b7<W0.heap.size) (hl8:b8<W0.heap.size) (f0:0≤fr) (f1:fr≤100000):TurnR 106 [.pointer (some ⟨b8,0,none⟩)] (fun l _=>l.length≤60) w0 W0.heap.size (JG b7 b8 lv np fr vL vA W0) (outN fr) where
 enters:=fun args W=>by kernel_rfl
 alloc:=fun l W o h=>h.keep (belA bR)
 set:=fun l W W' i f h hA hi hb=>by
  have e8:b8≠i:=by omega
  have e7:b7≠i:=by omega
  refine ⟨h.a8.but hb e8,h.a7.but hb e7,⟨hb.os.trans h.but.os,hb.tape.trans h.but.tape,hb.output.trans h.but.output,Nat.le_trans h.but.size hb.size,fun j hj hn=>?_⟩⟩
  exact (hb.block j (Nat.lt_of_lt_of_le hj h.but.size) (fun e=>by cases e;omega)).trans (h.but.block j hj hn)
 bel:=fun l W h=>hB.grown h.but hB.size (fun k hk=>by cases hk;exact h7)
 siz:=fun l W h=>h.but.size
 call:=by
  rintro l r W hl r0 r1 hJ
  have hn:=negs_le l
  obtain ⟨cn,hcn⟩:∃ cn:Int,cn=fr+(negs l:Nat):=⟨_,rfl⟩
  have A7:=hJ.a7
  rw [← hcn] at A7
  have C:=jH (next_any W b7 lv np cn 1 vL vA A7 (by omega) (by omega) (by omega) (by omega))
  show Calls Tryz.prog 106 #[.int .i64 r,.pointer (some ⟨b8,0,none⟩)] W _
  obtain ⟨c0,f8⟩:=hJ.a8.one
  have hlt:=hJ.a8.lt
  by_cases hr:0≤r
  ·have eo:outN fr l r=r:=if_pos hr
   have FIN:Hid (JG b7 b8 lv np fr vL vA W0 (l++[r]) W∧KeepT W W∧W.heap.size≤W.heap.size):=jH ⟨⟨hJ.a8,by rw [negs_snoc,if_neg (by omega),Nat.add_zero];exact hJ.a7,hJ.but⟩,fun i f x=>x,Nat.le_refl _⟩
   rw [eo]
   clear hJ A7 C hcn hl hn eo hl7 hl8 hB f0 f1 h7 h8
   go_enter Tryz.func106,Tryz.ntmps106
   go_wp2_with fail
   go_ret
   exact ⟨rfl,FIN.out⟩
  ·have eo:outN fr l r=cn:=by rw [hcn];exact if_neg hr
   have FIN:Hid (JG b7 b8 lv np fr vL vA W0 (l++[r]) (W.setCell ⟨b7,2,none⟩ (.int .i64 (cn+1)))∧KeepT W (W.setCell ⟨b7,2,none⟩ (.int .i64 (cn+1)))∧W.heap.size≤(W.setCell ⟨b7,2,none⟩ (.int .i64 (cn+1))).heap.size):=jH ⟨⟨hJ.a8.set (by simpa using h8) _,by
    rw [negs_snoc,if_pos (by omega),show fr+((negs l+1:Nat):Int)=cn+1 by rw [hcn];omega]
    exact A7.rg2 (cn+1),hJ.but.set 2 _⟩,fun i f x=>x.set (by simpa using rg_ne A7 x) _,by simp⟩
   rw [eo]
   clear hJ A7 hcn hl hn eo hl7 hl8 hB f0 f1 h7 h8
   go_enter Tryz.func106,Tryz.ntmps106
   go_wp2_with (go_at_call 104;refine C.out.mono ?_;rintro e w1 ⟨rfl,rfl⟩)
   go_ret
   exact ⟨rfl,FIN.out⟩
theorem okR_len:∀ (c:Ch) (l:List Int),l.length+c.regs.length≤61→okR (fun l _=>l.length≤60) l c
 | .leaf _ _,_,_=>trivial
 | .box c,l,h=>okR_len c l h
 | .ref _ r c,l,h=>⟨by simp only [Ch.regs,List.length_cons] at h;omega,okR_len c _ (by simp only [Ch.regs,List.length_cons,List.length_append,List.length_nil] at h ⊢;omega)⟩
theorem madeAt_any (a ua:Option Addr) (n cap un ucap:Nat) (mn:Int) (op:Nat) (tl:Int) (ta:Option Addr) (tn tc ak:Nat) (an al:Int) (aa:Option Addr) (am ac bk:Nat) (bn bl:Int) (ba:Option Addr) (bm bc:Nat) (ra:Option Addr) (rn rc:Nat) (sg:ByteArray) (fl:Int) (fa:Option Addr) (fm fc:Nat) (mu:Bool) (fn st nx el ps:Int) (w:World) (r:Int) (hun:un≤32)
  (h4:op=4→r=1) (h7:op=7→∃ (j ug uo:Nat),fn=(j:Int)∧j<un∧ua=some ⟨ug,uo,none⟩∧ug<w.heap.size∧w.cell? ⟨ug,uo+j*7+1,none⟩=some (.int .i64 r)) (h0:op≠4→op≠7→r=0) :
  Calls Tryz.prog 107 #[uV a n cap ua un ucap mn,pV op tl ta tn tc ak an al aa am ac bk bn bl ba bm bc ra rn rc sg fl fa fm fc mu fn st nx el ps] w fun e w'=>e=.returned (.int .i64 r)∧Below w.heap.size w w':=by
 have A1:Hid (At ((w.alloc (uO a n cap ua un ucap mn)).alloc (pO op tl ta tn tc ak an al aa am ac bk bn bl ba bm bc ra rn rc sg fl fa fm fc mu fn st nx el ps)) w.heap.size (uO a n cap ua un ucap mn)):=jH ((At.new _ _).alloc _)
 have A2:Hid (At ((w.alloc (uO a n cap ua un ucap mn)).alloc (pO op tl ta tn tc ak an al aa am ac bk bn bl ba bm bc ra rn rc sg fl fa fm fc mu fn st nx el ps)) (w.heap.size+1) (pO op tl ta tn tc ak an al aa am ac bk bn bl ba bm bc ra rn rc sg fl fa fm fc mu fn st nx el ps)):=jH (at_snd _ _ _)
 have HB:Hid (Below w.heap.size w ((w.alloc (uO a n cap ua un ucap mn)).alloc (pO op tl ta tn tc ak an al aa am ac bk bn bl ba bm bc ra rn rc sg fl fa fm fc mu fn st nx el ps))):=jH (belA (belA bR))
 obtain ⟨V,hV⟩:∃ V,V=((w.alloc (uO a n cap ua un ucap mn)).alloc (pO op tl ta tn tc ak an al aa am ac bk bn bl ba bm bc ra rn rc sg fl fa fm fc mu fn st nx el ps)):=⟨_,rfl⟩
 rw [← hV] at A1 A2 HB
 have c0:=A2.out.pt.1
 have c16:V.cell? ⟨w.heap.size+1,16,none⟩=some (.int .i64 fn):=by
  have:=A2.out
  unfold At at this
  simp [World.cell?,this]
 obtain ⟨u0,u1,u2⟩:=A1.out.un
 by_cases e4:op=4
 ·have er:=h4 e4
  have o1:((op:Int) == 4)=true:=by rw [e4];rfl
  subst er
  clear h4 h7 h0 e4
  go_enter Tryz.func107,Tryz.ntmps107
  go_upto_region 1 with fail
  rw [← hV]
  clear hV
  go_wp2_with fail
  go_ret
  exact ⟨rfl,HB.out⟩
 ·have o1:((op:Int) == 4)=false:=by simp;omega
  by_cases e7:op=7
  ·obtain ⟨j,ug,uo,ef,hj,eu,hug,hc⟩:=h7 e7
   have o2:((op:Int) == 7)=true:=by rw [e7];rfl
   subst ef eu
   have hcV:V.cell? ⟨ug,uo+j*7+1,none⟩=some (.int .i64 r):=(HB.out.cell (p:=⟨ug,uo+j*7+1,none⟩) hug).trans hc
   have k0:(0:Int)≤(j:Int):=by omega
   have k1:(j:Int)<(un:Int):=by omega
   clear h4 h7 h0 e4 e7 hc
   go_enter Tryz.func107,Tryz.ntmps107
   go_upto_region 1 with fail
   rw [← hV]
   clear hV
   go_wp2_with fail
   go_ret
   exact ⟨rfl,HB.out⟩
  ·have er:=h0 e4 e7
   have o2:((op:Int) == 7)=false:=by simp;omega
   subst er
   clear h4 h7 h0 e4 e7
   go_enter Tryz.func107,Tryz.ntmps107
   go_upto_region 1 with fail
   rw [← hV]
   clear hV
   go_wp2_with fail
   go_ret
   exact ⟨rfl,HB.out⟩
structure FRow (W:World) (B:Nat) (v:Value) (cs:List Ch) (fl:List Fv) (lo hi:Nat→Nat):Prop where
 len:fl.length=cs.length
 row:W.ownsRow B 43 5 v cs.length (tCells fl)
 own:∀ i c f,cs[i]?=some c→fl[i]?=some f→OwnL W (lo i) (hi i) f c
 rng:∀ i,i<cs.length→B≤lo i∧lo i≤hi i∧hi i≤W.heap.size∧∀ b,v.ownBlock=some b→b<lo i∨hi i≤b
 ord:∀ i j,i<j→j<cs.length→hi i≤lo j
theorem FRow.nil (W:World) (B:Nat) (lo hi:Nat→Nat):FRow W B (.slice none 0 0) [] [] lo hi:=⟨rfl,World.ownsRow_nil _ _ _ _,fun i c f h=>by simp at h,fun i h=>by simp at h,fun i j _ h=>by simp at h⟩
theorem FRow.bel {W W':World} {B:Nat} {v:Value} {cs:List Ch} {fl:List Fv} {lo hi:Nat→Nat} (h:FRow W B v cs fl lo hi) (k:Below W.heap.size W W'):FRow W' B v cs fl lo hi :=
 ⟨h.len,h.row.kept (row:=none) ⟨k.os,k.tape,k.output,k.size,fun i hi _=>k.block i hi⟩ (by cases e:v.ownBlock <;> simp),fun i c f h1 h2=>(h.own i c f h1 h2).bel k,fun i hi=>⟨(h.rng i hi).1,(h.rng i hi).2.1,Nat.le_trans (h.rng i hi).2.2.1 k.size,(h.rng i hi).2.2.2⟩,h.ord⟩
theorem FRow.at {W:World} {B n:Nat} {v:Value} {cs:List Ch} {fl:List Fv} {lo hi:Nat→Nat} (h:FRow W B v cs fl lo hi) {i:Nat} (hl:i<cs.length):∃ g cap c f,v=.slice (some ⟨g,0,none⟩) cs.length cap∧g<W.heap.size∧B≤g∧cs[i]?=some c∧fl[i]?=some f∧C5 W g (i*5) f∧OwnL W (lo i) (hi i) f c:=by
 obtain ⟨g,cap,rfl⟩:=own_is h.row (by omega)
 obtain ⟨c,hc⟩:∃ c,cs[i]?=some c:=⟨_,List.getElem?_eq_getElem hl⟩
 obtain ⟨f,hf⟩:∃ f,fl[i]?=some f:=⟨_,List.getElem?_eq_getElem (by rw [h.len];exact hl)⟩
 have hg:=h.row.lt g rfl
 have key:∀ k,k<5→W.cell? ⟨g,i*5+k,none⟩=(t5 f)[k]?:=fun k hk=>by
  rw [h.row.cellAt (i*5+k) (by omega)]
  exact tCells_at fl i f hf k hk
 exact ⟨g,cap,c,f,rfl,hg.2,hg.1,hc,hf,⟨hg.2,key 0 (by omega),key 1 (by omega),key 2 (by omega),key 3 (by omega),key 4 (by omega)⟩,h.own i c f hc hf⟩
theorem FRow.grow {W W':World} {B:Nat} {v:Value} {cs:List Ch} {fl:List Fv} {lo hi:Nat→Nat} {r:Option Nat} (h:FRow W B v cs fl lo hi) (k:W.grownBy W' r) (hr:∀ b,r=some b→b<B):FRow W' B v cs fl lo hi :=
 ⟨h.len,own_grow h.row k (fun g hg e=>by have:=own_lo h.row g hg;have:=hr g e.symm;omega),fun i c f h1 h2=>(h.own i c f h1 h2).keep fun g o hg1 hg2 hA=>hA.grown k (fun e=>by
  have hl:i<cs.length:=(List.getElem?_eq_some_iff.1 h1).1
  have:=(h.rng i hl).1
  have:=hr g e.symm
  omega),fun i hi=>⟨(h.rng i hi).1,(h.rng i hi).2.1,Nat.le_trans (h.rng i hi).2.2.1 k.size,(h.rng i hi).2.2.2⟩,h.ord⟩
theorem FRow.snoc {w1 w2:World} {B:Nat} {v v':Value} {cs:List Ch} {fl:List Fv} {lo hi:Nat→Nat} (h:FRow w1 B v cs fl lo hi) {l1 h1:Nat} {c:Ch} {f:Fv} (ho:OwnL w1 l1 h1 f c) (hBl:B≤l1) (hlh:l1≤h1) (hhs:h1≤w1.heap.size) (hord:∀ i,i<cs.length→hi i≤l1) (hvl:∀ b,v.ownBlock=some b→b<l1∨h1≤b)
  (hr:w2.ownsRow B 43 5 v' (cs.length+1) (tCells fl++t5 f)) (hg:w1.grownBy w2 v.ownBlock)
  (hw:∀ b,v'.ownBlock=some b→v.ownBlock=some b∨w1.heap.size≤b):FRow w2 B v' (cs++[c]) (fl++[f]) (upd lo cs.length l1) (upd hi cs.length h1):=by
 have s2:=hg.size
 refine ⟨by simp [h.len],by rw [tCells_snoc];simpa using hr,fun i c' f' h1' h2=>?_,fun i hi'=>?_,fun i j hij hj=>?_⟩
 ·by_cases e:i=cs.length
  ·subst e
   rw [upd_same,upd_same]
   rw [List.getElem?_append_right (Nat.le_refl _),Nat.sub_self] at h1'
   rw [List.getElem?_append_right (by rw [h.len];exact Nat.le_refl _),h.len,Nat.sub_self] at h2
   simp at h1' h2
   subst h1' h2
   refine ho.keep fun g o hg1 hg2 hA=>hA.grown hg (fun e=>?_)
   have:=hvl g e.symm
   omega
  ·have hl:i<cs.length:=by
    have:=(List.getElem?_eq_some_iff.1 h1').1
    rw [List.length_append] at this
    simp at this
    omega
   rw [upd_other _ _ e,upd_other _ _ e]
   rw [List.getElem?_append_left hl] at h1'
   rw [List.getElem?_append_left (by rw [h.len];exact hl)] at h2
   have hrn:=(h.rng i hl).2.2.2
   refine (h.own i c' f' h1' h2).keep fun g o hg1 hg2 hA=>hA.grown hg (fun e=>?_)
   have:=hrn g e.symm
   omega
 ·by_cases e:i=cs.length
  ·subst e
   rw [upd_same,upd_same]
   refine ⟨hBl,hlh,by omega,fun b hb=>?_⟩
   rcases hw b hb with h'|h'
   ·exact hvl b h'
   ·omega
  ·have hl:i<cs.length:=by
    rw [List.length_append] at hi'
    simp at hi'
    omega
   rw [upd_other _ _ e,upd_other _ _ e]
   obtain ⟨r1,r2,r3,r4⟩:=h.rng i hl
   refine ⟨r1,r2,by omega,fun b hb=>?_⟩
   rcases hw b hb with h'|h'
   ·exact r4 b h'
   ·omega
 ·rw [List.length_append] at hj
  simp at hj
  by_cases e:j=cs.length
  ·subst e
   rw [upd_same,upd_other _ _ (by omega)]
   exact hord i (by omega)
  ·rw [upd_other _ _ (by omega),upd_other _ _ (by omega)]
   exact h.ord i j hij (by omega)
theorem set5_list (l:List Value) (k:Nat) (hk:l.length=k) (a b c d e a' b' c' d' e':Value):(((((l++[a,b,c,d,e]).set k a').set (k+1) b').set (k+2) c').set (k+3) d').set (k+4) e'=l++[a',b',c',d',e']:=by
 subst hk
 simp [List.set_append_right]
theorem row_store {w:World} {B g n cap:Nat} {fl:List Fv} {z f:Fv} (h:w.ownsRow B 43 5 (.slice (some ⟨g,0,none⟩) (n+1) cap) (n+1) (tCells fl++t5 z)) (hn:fl.length=n) :
  (w.setCells g (n*5) (t5 f)).ownsRow B 43 5 (.slice (some ⟨g,0,none⟩) (n+1) cap) (n+1) (tCells fl++t5 f)∧w.grownBy (w.setCells g (n*5) (t5 f)) (some g):=by
 have hl:(tCells fl).length=n*5:=by rw [tCells_len,hn]
 unfold t5
 simp only [World.setCells]
 obtain ⟨r0,g0⟩:=h.stored (n*5) (.int .u8 (f.k:Int))
 obtain ⟨r1,g1⟩:=r0.stored (n*5+1) (.bool f.m)
 obtain ⟨r2,g2⟩:=r1.stored (n*5+1+1) (.int .i64 f.r)
 obtain ⟨r3,g3⟩:=r2.stored (n*5+1+1+1) (.int .i64 f.s)
 obtain ⟨r4,g4⟩:=r3.stored (n*5+1+1+1+1) (.slice f.a f.n f.cap)
 refine ⟨?_,But.trans (But.trans (But.trans (But.trans g0 g1) g2) g3) g4⟩
 have e:=set5_list (tCells fl) (n*5) hl (.int .u8 (z.k:Int)) (.bool z.m) (.int .i64 z.r) (.int .i64 z.s) (.slice z.a z.n z.cap) (.int .u8 (f.k:Int)) (.bool f.m) (.int .i64 f.r) (.int .i64 f.s) (.slice f.a f.n f.cap)
 unfold t5 at r4
 rw [← e]
 exact r4
theorem setCell_comm (w:World) (a b:Addr) (u v:Value) (h:a.block≠b.block):(w.setCell a u).setCell b v=(w.setCell b v).setCell a u:=by
 unfold World.setCell
 simp only
 congr 1
 apply Array.ext_getElem?
 intro i
 simp only [Array.getElem?_modify]
 by_cases h1:a.block=i
 ·by_cases h2:b.block=i
  ·exact absurd (h1.trans h2.symm) h
  ·simp [h1,h2]
 ·by_cases h2:b.block=i <;> simp [h1,h2]
theorem setCells_comm (a:Addr) (u:Value) (b:Nat) (h:a.block≠b):∀ (l:List Value) (o:Nat) (w:World),(w.setCell a u).setCells b o l=(w.setCells b o l).setCell a u
 | [],o,w=>rfl
 | v::l,o,w=>by
  simp only [World.setCells]
  rw [setCell_comm w a ⟨b,o,none⟩ u v h,setCells_comm a u b h l]
theorem append_where {P:Program} (w:World) (base:Nat) (t ty e:TypeId) (i:TypeInfo) (z:Value) (size bytes:Nat) (ht:P.underlying t=some (.slice e)) (hi:P.info? e=some i) (hz:i.zero=some z)
  (hsize:i.size=size) (hby:i.bytes=bytes) (v:Value) (n:Nat) (xs:List Value) (hown:w.ownsRow base e size v n xs)
  (a:Addr) (m c:Nat) (news:List Value) (hm:0<m) (hl:news.length=m*size) (hnews:∀ j u,news[j]?=some u→w.cell? (a.add j)=some u) (h1:∀ u∈news,u.oneCell'=true)
  (h63:n+m≤maxLen) (hbytes:(n+m)*bytes≤140737488355328) {v':Value} {w':World} (hrun:(Builtin.append_ #[t,t] ty #[v,.slice (some a) m c]).run P w=.ok v' w') :
  ∀ b,v'.ownBlock=some b→v.ownBlock=some b∨b=w.heap.size:=by
 subst hsize
 subst hby
 have hsmall:n+m≤9223372036854775807:=by simp only [maxLen] at h63;omega
 rcases hown.2 with ⟨rfl,rfl⟩|⟨g,cap,cur,rfl,hbg,hg,hnc,hcm,hcs,htake⟩
 ·have hr:=run_append_nil (P:=P) w t ty e i z ht hi hz a m c news hl hnews (by omega) (by omega) (by have hb:=hbytes;simp only [Nat.zero_add] at hb;omega)
  rw [hr] at hrun
  cases hrun
  intro b e
  right
  simpa [Value.ownBlock] using e.symm
 ·by_cases hroom:n+m≤cap
  ·have hfit:n*i.size+news.length≤cur.size:=by rw [hl,hcs,← Nat.add_mul];exact Nat.mul_le_mul_right _ hroom
   have hr:=run_append_room (P:=P) w t ty e i ht hi g n cap cur hg a m c news hl hnews h1 hroom hfit
   rw [hr] at hrun
   cases hrun
   intro b e
   left
   exact e
  ·have hr:=run_append_grow (P:=P) w t ty e i z ht hi hz ⟨g,0,none⟩ n cap xs hown.1 (hown.cells (g:=g) rfl) a m c news hl hnews (by omega) (by omega) (growslice_fits (by omega) hbytes)
   rw [hr] at hrun
   cases hrun
   intro b e
   right
   simpa [Value.ownBlock] using e.symm
theorem size46:(Tryz.prog.info? 43).map (·.size)=some 5:=by kernel_rfl
theorem app1 {W:World} {B i:Nat} {aL:Option Addr} {cL bz:Nat} {cs:List Ch} {fl:List Fv} {lo hi:Nat→Nat} (hF:FRow W B (.slice aL i cL) cs fl lo hi) (hz:At W bz zT.o) (hn:cs.length=i) (hi:i≤512) (hB:B≤W.heap.size) :
  ∃ g2 c2 w',(Builtin.append_ #[41,41] 41 #[.slice aL i cL,.slice (some ⟨bz,0,none⟩) 1 1]).run Tryz.prog W=.ok (.slice (some ⟨g2,0,none⟩) (i+1) c2) w'∧w'.ownsRow B 43 5 (.slice (some ⟨g2,0,none⟩) (i+1) c2) (i+1) (tCells fl++t5 zT)∧W.grownBy w' (Value.slice aL i cL).ownBlock∧((Value.slice aL i cL).ownBlock=some g2∨g2=W.heap.size):=by
 subst hn
 obtain ⟨i0,hi0,hz0,hz1,hz2⟩:=info_parts Tryz.info43
 have hrow:=hF.row
 obtain ⟨v',w',hr,h2,h3,h4⟩:=run_append_own (P:=Tryz.prog) W B 41 41 43 i0 _ 5 48 Tryz.underlying41 hi0 hz0 hz1 hz2 rfl (by decide) _ cs.length _ hrow ⟨bz,0,none⟩ 1 1 (t5 zT) rfl (t5_new hz) (t5_ones zT) (by unfold maxLen;omega) (by omega) hB
 have h5:=append_where (P:=Tryz.prog) W B 41 41 43 i0 _ 5 48 Tryz.underlying41 hi0 hz0 hz1 hz2 _ cs.length _ hrow ⟨bz,0,none⟩ 1 1 (t5 zT) (by decide) rfl (t5_new hz) (t5_ones zT) (by unfold maxLen;omega) (by omega) hr
 obtain ⟨g2,c2,rfl⟩:=own_is h2 (by omega)
 exact ⟨g2,c2,w',hr,h2,h3,h5 g2 rfl⟩
theorem wp_append1 {w w':World} {o:Oper} {a:Act} {K:Act→World→Prop} {Q:Exit→Act→World→Prop} {s x:Nat} {v u v':Value} (ho:o.op=Op.call { callee:=Callee.builtin Builtin.append,args:=#[.tmp s,.tmp x],argTypes:=#[41,41] }) (hs:a.eval (.tmp s)=v) (hx:a.eval (.tmp x)=u) (hr:(Builtin.append_ #[41,41] o.type #[v,u]).run Tryz.prog w=.ok v' w')
  (h:K (a.put o.dst v') w'):Oper.wp Tryz.prog o a w K Q:=by
 unfold Oper.wp
 simp [execOp,ho,resolve,invoke,builtin,hs,hx,hr,Result.andThen]
 exact h
theorem wpl_load70 {w:World} {ops:Array Oper} {rest:List Oper} {a:Act} {Q:Exit→Act→World→Prop} {x d:Nat} {ty:TypeId} {pos:String} {after:Array Edge} (b o:Nat) (nm:ByteArray) (lv:Int) (oa:Option Addr) (on oc:Nat) (pa:Int) (la:Option Addr) (ln lc:Nat) (na:Option Addr) (nn nc:Nat) (qa:Option Addr) (qn qc:Nat) (hx:a.eval (.tmp x)=.pointer (some ⟨b,o,none⟩)) (hc:C7 w b o nm lv oa on oc pa la ln lc na nn nc qa qn qc)
  (h:wpList Tryz.prog ops Q rest (a.put (some d) (.agg #[.string nm,.int .i64 lv,.slice oa on oc,.int .i64 pa,.slice la ln lc,.slice na nn nc,.slice qa qn qc])) w):wpList Tryz.prog ops Q (⟨some d,.load 73 (.tmp x),ty,pos,after,none⟩::rest) a w :=
 wpList_load_mid rfl 73 (.tmp x) rfl b o hx [.string nm,.int .i64 lv,.slice oa on oc,.int .i64 pa,.slice la ln lc,.slice na nn nc,.slice qa qn qc] _ hc.2 Tryz.underlying73 rfl size56 h
theorem wpl_store70 {w:World} {ops:Array Oper} {rest:List Oper} {a9:Act} {Q:Exit→Act→World→Prop} {x y:Nat} {ty:TypeId} {pos:String} {after:Array Edge} (b:Nat) (nm:ByteArray) (lv:Int) (oa:Option Addr) (on oc:Nat) (pa:Int) (la:Option Addr) (ln lc:Nat) (na:Option Addr) (nn nc:Nat) (qa:Option Addr) (qn qc:Nat) (ht:w.there b 0 7) (hl:b<w.heap.size)
  (hx:a9.eval (.tmp x)=.pointer (some ⟨b,0,none⟩)) (hy:a9.eval (.tmp y)=.agg #[.string nm,.int .i64 lv,.slice oa on oc,.int .i64 pa,.slice la ln lc,.slice na nn nc,.slice qa qn qc])
  (h:∀ w',C7 w' b 0 nm lv oa on oc pa la ln lc na nn nc qa qn qc→But b w w'→wpList Tryz.prog ops Q rest a9 w'):wpList Tryz.prog ops Q (⟨none,.store 73 (.tmp x) (.tmp y),ty,pos,after,none⟩::rest) a9 w :=
 wpList_plain rfl fun K hK=>wp_store56 b nm lv oa on oc pa la ln lc na nn nc qa qn qc rfl rfl ht hl hx hy (fun w' h1 h2=>hK _ _ (h w' h1 h2))
structure RgIn (w:World) (ua:Option Addr) (un:Nat) (gs:List Grp) (j:Nat) (g:Grp) (cl:List Ch):Prop where
 un32:un≤32
 jn:j<un
 ex:∃ ug uo nm oa on oc pa la ln lc na nn nc qa qn qc,ua=some ⟨ug,uo,none⟩∧C7 w ug (uo+j*7) nm g.lv oa on oc pa la ln lc na nn nc qa qn qc∧LcAt w la ln lc (cl.map Ch.ty)∧PsL w qa qn qc g.pt
 ok:∀ c∈cl,Ok c
 lv0:0≤g.lv
 lv8:g.lv≤8
 cln:cl.length≤512
 ptn:g.pt.length≤1024
 call:∀ p∈g.pt,p.op=7→∃ (j':Nat) (g':Grp),p.fn=(j':Int)∧j'<un∧gs[j']?=some g'∧0≤g'.lv∧g'.lv≤8∧∀ ug uo,ua=some ⟨ug,uo,none⟩→ug<w.heap.size∧w.cell? ⟨ug,uo+j'*7+1,none⟩=some (.int .i64 g'.lv)
theorem RgIn.few {w:World} {ua:Option Addr} {un:Nat} {gs:List Grp} {j:Nat} {g:Grp} {cl:List Ch} (h:RgIn w ua un gs j g cl) {p:Pnt} (hp:p∈g.pt):0≤made gs p∧made gs p≤8:=by
 unfold made
 by_cases h4:p.op=4
 ·rw [if_pos h4];omega
 ·rw [if_neg h4]
  by_cases h7:p.op=7
  ·rw [if_pos h7]
   obtain ⟨j',g',h1,h2,h3,h5,h6,-⟩:=h.call p hp h7
   rw [h1,Int.toNat_natCast,h3]
   exact ⟨h5,h6⟩
  ·rw [if_neg h7];omega
theorem g2_of {B b10 g2 z:Nat} {ob:Option Nat} (hlo:∀ b,ob=some b→B≤b∧b<b10) (hw:ob=some g2∨g2=z) (h:B≤b10) (hz:b10<z):B≤g2∧b10≠g2:=by
 rcases hw with e|e
 ·have:=hlo g2 e
  omega
 ·omega
structure L1 (w V:World) (b6 b7 b8 B:Nat) (uo0:Obj) (nm:ByteArray) (lv:Int) (oa:Option Addr) (on oc:Nat) (pa:Int) (la:Option Addr) (ln lc:Nat) (na:Option Addr) (nn nc:Nat) (qa:Option Addr) (qn qc:Nat) (i:Nat) (cl:List Ch) (aL:Option Addr) (cL:Nat) (fl:List Fv) (lo hi:Nat→Nat):Prop where
 a2:At V w.heap.size uo0
 a4:At V (w.heap.size+1) (rgO 0 0 0 (.slice none 0 0) (.slice none 0 0))
 c6:C7 V b6 0 nm lv oa on oc pa la ln lc na nn nc qa qn qc
 a7:At V b7 (rgO lv qn (cntL lv (cl.take i)) (.slice aL i cL) (.slice none 0 0))
 a8:At V b8 (One (fnB 104 b7) 177)
 row:FRow V B (.slice aL i cL) (numR lv (cl.take i)) fl lo hi
 bel:Below w.heap.size w V
 B0:B≤V.heap.size
structure Bs (w:World) (b6 b7 b8 B:Nat):Prop where
 h6:w.heap.size+2≤b6
 h7:b6<b7
 h8:b7<b8
 hB:b8<B
theorem cell_heap {w w':World} {b:Nat} (h:w'.heap[b]?=w.heap[b]?) (o:Nat):w'.cell? ⟨b,o,none⟩=w.cell? ⟨b,o,none⟩:=by simp [World.cell?,h]
theorem C7.heap {w w':World} {g o:Nat} {nm:ByteArray} {lv:Int} {oa:Option Addr} {on oc:Nat} {pa:Int} {la:Option Addr} {ln lc:Nat} {na:Option Addr} {nn nc:Nat} {qa:Option Addr} {qn qc:Nat} (hh:w'.heap[g]?=w.heap[g]?) (hz:g<w'.heap.size) (h:C7 w g o nm lv oa on oc pa la ln lc na nn nc qa qn qc):C7 w' g o nm lv oa on oc pa la ln lc na nn nc qa qn qc:=⟨hz,fun j v hv=>(cell_heap hh _).trans (h.2 j v hv)⟩
theorem there_row {w:World} {B g n cap:Nat} {xs:List Value} (h:w.ownsRow B 43 5 (.slice (some ⟨g,0,none⟩) (n+1) cap) (n+1) xs) (hx:xs.length=(n+1)*5):w.there g (n*5) 5:=fun j hj=>by
 rw [h.cellAt (n*5+j) (by omega),List.getElem?_eq_getElem (by omega)]
 exact ⟨rfl,h.frozenAt _⟩
theorem L1.next {w V U W W2:World} {b6 b7 b8 B:Nat} {uo0:Obj} {nm:ByteArray} {lv:Int} {oa:Option Addr} {on oc:Nat} {pa:Int} {la:Option Addr} {ln lc:Nat} {na:Option Addr} {nn nc:Nat} {qa:Option Addr} {qn qc:Nat} {i:Nat} {cl:List Ch} {aL:Option Addr} {cL:Nat} {fl:List Fv} {lo hi:Nat→Nat} (h:L1 w V b6 b7 b8 B uo0 nm lv oa on oc pa la ln lc na nn nc qa qn qc i cl aL cL fl lo hi) (hb:Bs w b6 b7 b8 B) {c:Ch} (hc:cl[i]?=some c) {f2:Fv} {l1 h1:Nat} (hU:Below V.heap.size V U)
  (J:JG b7 b8 lv qn (cntL lv (cl.take i)) (.slice aL i cL) (.slice none 0 0) U c.regs W) (HO:OwnL W l1 h1 f2 (numC (cntL lv (cl.take i)) c)) (HR:U.heap.size≤l1∧l1≤h1∧h1≤W.heap.size) {g2 c2:Nat}
  (hrow:W2.ownsRow B 43 5 (.slice (some ⟨g2,0,none⟩) (i+1) c2) (i+1) (tCells fl++t5 zT)) (hg:W.grownBy W2 (Value.slice aL i cL).ownBlock) (hw:(Value.slice aL i cL).ownBlock=some g2∨g2=W.heap.size) :
  L1 w ((W2.setCells g2 (i*5) (t5 f2)).setCell ⟨b7,3,none⟩ (.slice (some ⟨g2,0,none⟩) (i+1) c2)) b6 b7 b8 B uo0 nm lv oa on oc pa la ln lc na nn nc qa qn qc (i+1) cl (some ⟨g2,0,none⟩) c2 (fl++[f2]) (upd lo i l1) (upd hi i h1):=by
 have hil:i<cl.length:=(List.getElem?_eq_some_iff.1 hc).1
 have hlen:(numR lv (cl.take i)).length=i:=by rw [numR_len,List.length_take];omega
 have hfl:fl.length=i:=by rw [h.row.len,hlen]
 obtain ⟨q6,q7,q8,qB⟩:=hb
 have hB0:=h.B0
 have hUs:=hU.size
 have hWs:=J.but.size
 have hlo:∀ b,(Value.slice aL i cL).ownBlock=some b→B≤b∧b<V.heap.size:=fun b e=>⟨own_lo h.row.row b e,(h.row.row.lt b e).2⟩
 have hFW:=(h.row.bel hU).grow J.but (fun b e=>by cases e;omega)
 obtain ⟨hr3,hg3⟩:=row_store (f:=f2) hrow hfl
 have hg23:B≤g2:=by rcases hw with e|e;exact (hlo _ e).1;omega
 obtain ⟨W3,hW3⟩:∃ W3,W3=W2.setCells g2 (i*5) (t5 f2):=⟨_,rfl⟩
 rw [← hW3] at hr3 hg3 ⊢
 have hgW:W.grownBy W3 (Value.slice aL i cL).ownBlock:=⟨hg3.os.trans hg.os,hg3.tape.trans hg.tape,hg3.output.trans hg.output,Nat.le_trans hg.size hg3.size,fun x hx hn=>by
  refine (hg3.block x (Nat.lt_of_lt_of_le hx hg.size) (fun e=>?_)).trans (hg.block x hx hn)
  cases e
  rcases hw with e|e
  ·exact hn e.symm
  ·omega⟩
 have hF3:=hFW.snoc HO (by omega) HR.2.1 HR.2.2 (fun k hk=>by have:=(h.row.rng k hk).2.2.1;omega) (fun b e=>by have:=hlo b e;omega) (by rw [hlen];exact hr3) hgW (fun b e=>by
  simp only [Value.ownBlock,Option.some.injEq] at e
  subst e
  rcases hw with e|e
  ·exact .inl e
  ·exact .inr (by omega))
 rw [hlen] at hF3
 have hs3:=hgW.size
 have heap:∀ x,x<B→x≠b7→(W3.setCell ⟨b7,3,none⟩ (.slice (some ⟨g2,0,none⟩) (i+1) c2)).heap[x]?=V.heap[x]?:=fun x hx hx7=>by
  rw [heap_setCell_other _ ⟨b7,3,none⟩ x _ (by simpa using hx7),hgW.block x (by omega) (fun e=>by have:=hlo x e.symm;omega),J.but.block x (by omega) (fun e=>hx7 (Option.some.inj e)),hU.block x (by omega)]
 have hbut:But b7 W3 (W3.setCell ⟨b7,3,none⟩ (.slice (some ⟨g2,0,none⟩) (i+1) c2)):=(But.refl _ _).set 3 _
 have hcn:cntL lv (cl.take (i+1))=cntL lv (cl.take i)+(negs c.regs:Nat):=by rw [List.take_add_one,hc];exact cntL_snoc _ _ _
 have hnr:numR lv (cl.take (i+1))=numR lv (cl.take i)++[numC (cntL lv (cl.take i)) c]:=by rw [List.take_add_one,hc];exact numR_snoc _ _ _
 refine ⟨(heap _ (by omega) (by omega)).trans h.a2,(heap _ (by omega) (by omega)).trans h.a4,h.c6.heap (heap _ (by omega) (by omega)) (by rw [World.size_setCell];omega),?_,(heap _ (by omega) (by omega)).trans h.a8,?_,?_,by rw [World.size_setCell];omega⟩
 ·rw [hcn]
  exact (J.a7.grown hgW (fun e=>by have:=hlo b7 e.symm;omega)).rg3 _ _ _
 ·rw [hnr]
  exact hF3.grow hbut (fun b e=>by cases e;omega)
 ·refine (((jB h.bel hU).grown J.but (by have:=h.bel.size;omega) (fun k e=>by cases e;omega)).grown hgW (by have:=h.bel.size;omega) (fun k e=>by have:=hlo k e;omega)).setCell (p:=⟨b7,3,none⟩) (by simp only;omega) _
abbrev S5R (w:World) (b:Nat) (lv np cn:Int) (aL:Option Addr) (i cL:Nat) (aA:Option Addr) (q cA:Nat):World:=((((w.setCell ⟨b,0,none⟩ (.int .i64 lv)).setCell ⟨b,1,none⟩ (.int .i64 np)).setCell ⟨b,2,none⟩ (.int .i64 cn)).setCell ⟨b,3,none⟩ (.slice aL i cL)).setCell ⟨b,4,none⟩ (.slice aA q cA)
theorem but_s5r (w:World) (b:Nat) (lv np cn:Int) (aL:Option Addr) (i cL:Nat) (aA:Option Addr) (q cA:Nat):But b w (S5R w b lv np cn aL i cL aA q cA):=(((((But.refl b w).set 0 _).set 1 _).set 2 _).set 3 _).set 4 _
theorem At.set5R {w:World} {b:Nat} {lv0 np0 cn0:Int} {v0 v1:Value} (h:At w b (rgO lv0 np0 cn0 v0 v1)) (lv np cn:Int) (aL:Option Addr) (i cL:Nat) (aA:Option Addr) (q cA:Nat):At (S5R w b lv np cn aL i cL aA q cA) b (rgO lv np cn (.slice aL i cL) (.slice aA q cA)):=by
 have h0:At (w.setCell ⟨b,0,none⟩ (.int .i64 lv)) b (rgO lv np0 cn0 v0 v1):=heap_setCell_same w b 0 _ 77 (.int .i64 lv) h
 have h1:At ((w.setCell ⟨b,0,none⟩ (.int .i64 lv)).setCell ⟨b,1,none⟩ (.int .i64 np)) b (rgO lv np cn0 v0 v1):=heap_setCell_same _ b 1 _ 77 (.int .i64 np) h0
 exact ((h1.rg2 cn).rg3 aL i cL).rg4 aA q cA
theorem FRow.low {W:World} {B B':Nat} {v:Value} {cs:List Ch} {fl:List Fv} {lo hi:Nat→Nat} (h:FRow W B v cs fl lo hi) (hb:B'≤B):FRow W B' v cs fl lo hi:=⟨h.len,own_low h.row hb,h.own,fun i hi=>⟨Nat.le_trans hb (h.rng i hi).1,(h.rng i hi).2⟩,h.ord⟩
theorem results_r2 {fn:Func} {i j:Nat} (h:fn.results=#[.cell i 77,.tmp j]) {tmps:Array Value} {W:World} {b4:Nat} {lv np cn:Int} {vL vA:Value} {v:Value} (ht:tmps.getD i undef=.pointer (some ⟨b4,0,none⟩)) (hv:tmps.getD j undef=v) (hC:At W b4 (rgO lv np cn vL vA)):(results fn tmps).run Tryz.prog W=.ok (.tuple #[rgV lv np cn vL vA,v]) W:=by
 obtain ⟨e0,e1,e2,e3,e4⟩:=hC.rg
 have ht2:tmps[i]?.getD undef=.pointer (some ⟨b4,0,none⟩):=by rw [← ht];simp
 have hv2:tmps[j]?.getD undef=v:=by rw [← hv];simp
 simp only [results,h]
 simp [go_sem,ht2,hv2,e0,e1,e2,e3,e4]
theorem but_more {b b2:Nat} {x y z:World} (h:But b x y) (k:But b2 y z) (hb:x.heap.size≤b2):But b x z:=⟨k.os.trans h.os,k.tape.trans h.tape,k.output.trans h.output,Nat.le_trans h.size k.size,fun i hi hn=>(k.block i (Nat.lt_of_lt_of_le hi h.size) (fun e=>by cases e;omega)).trans (h.block i hi hn)⟩
theorem at_next {V5 W5 w6:World} {b7:Nat} {lv np cn:Int} {vL:Value} {aA:Option Addr} {q cA g5 c5:Nat} {L:List Int} {x:Int} (hb:b7<V5.heap.size) (hB:But b7 V5 W5) (h7:At W5 b7 (rgO lv np cn vL (.slice aA q cA))) (hr:W5.ownsRow V5.heap.size 3 1 (.slice aA q cA) q (iCells L))
  (hr6:w6.ownsRow V5.heap.size 3 1 (.slice (some ⟨g5,0,none⟩) (q+1) c5) (q+1) (iCells L++[.int .i64 x])) (hg:(W5.alloc (.cells #[.int .i64 x] 3)).grownBy w6 (Value.slice aA q cA).ownBlock) :
  At w6 b7 (rgO lv np cn vL (.slice aA q cA))∧But b7 V5 (w6.setCell ⟨b7,4,none⟩ (.slice (some ⟨g5,0,none⟩) (q+1) c5))∧At (w6.setCell ⟨b7,4,none⟩ (.slice (some ⟨g5,0,none⟩) (q+1) c5)) b7 (rgO lv np cn vL (.slice (some ⟨g5,0,none⟩) (q+1) c5))∧(w6.setCell ⟨b7,4,none⟩ (.slice (some ⟨g5,0,none⟩) (q+1) c5)).ownsRow V5.heap.size 3 1 (.slice (some ⟨g5,0,none⟩) (q+1) c5) (q+1) (iCells (L++[x])):=by
 have hlo:∀ b,(Value.slice aA q cA).ownBlock=some b→V5.heap.size≤b:=fun b e=>own_lo hr b e
 have h76:At w6 b7 (rgO lv np cn vL (.slice aA q cA)):=(h7.alloc _).grown hg (fun e=>by have:=hlo b7 e.symm;omega)
 have hg5:V5.heap.size≤g5:=own_lo hr6 g5 rfl
 have hs:=hB.size
 have hs6:=hg.size
 simp only [World.size_alloc] at hs6
 refine ⟨h76,?_,h76.rg4 _ _ _,?_⟩
 ·refine But.set ?_ 4 _
  refine ⟨hg.os.trans hB.os,hg.tape.trans hB.tape,hg.output.trans hB.output,by omega,fun i hi hn=>?_⟩
  rw [hg.block i (by simp only [World.size_alloc];omega) (fun e=>by have:=hlo i e.symm;omega)]
  rw [Below.heap_alloc W5 _ i (by omega)]
  exact hB.block i hi hn
 ·have:=own_grow hr6 ((But.refl b7 w6).set 4 (.slice (some ⟨g5,0,none⟩) (q+1) c5)) (fun g e=>by simp only [Value.ownBlock,Option.some.injEq] at e;intro e2;cases e2;omega)
  simpa [iCells] using this
end Go.Proofs.YtmjenlogbkbgnaaGreatDoor
