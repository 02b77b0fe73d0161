import Derived.Test.YtmjenlogbkbgnaaGreatDoorB11
namespace Go.Proofs.YtmjenlogbkbgnaaGreatDoor
open Go.RowKit Go.Shelf
set_option linter.unusedVariables false
set_option linter.unusedSimpArgs false
set_option maxRecDepth 100000
set_option maxHeartbeats 8000000
theorem wp_storeT1 {w:World} {o:Oper} {a:Act} {K:Act→World→Prop} {Q:Exit→Act→World→Prop} {x y:Nat} (b:Nat) (f0 f:Fv) (ho:o.op=.store 43 (.tmp x) (.tmp y)) (hd:o.dst=none) (hA:At w b f0.o)
  (hx:a.eval (.tmp x)=.pointer (some ⟨b,0,none⟩)) (hy:a.eval (.tmp y)=f.v) (h:∀ w',At w' b f.o→But b w w'→K a w'):o.wp Tryz.prog a w K Q:=by
 have g0:=hA.tyF 0
 have g1:=hA.tyF 1
 have g2:=hA.tyF 2
 have g3:=hA.tyF 3
 have g4:=hA.tyF 4
 obtain ⟨hl,q0,q1,q2,q3,q4⟩:=hA.ty
 simp only [Nat.zero_add] at q0 q1 q2 q3 q4
 have hx2:a.tmps[x]?.getD undef=.pointer (some ⟨b,0,none⟩):=by rw [← hx];simp [Act.eval]
 have hy2:a.tmps[y]?.getD undef=f.v:=by rw [← hy];simp [Act.eval]
 unfold Oper.wp
 simp [execOp,ho,hd,hx2,hy2,go_sem,q0,q1,q2,q3,q4,g0,g1,g2,g3,g4]
 exact h _ (hA.set5 f) (but_s5 _ _ f)
theorem wpl_storeT1 {w:World} {ops:Array Oper} {rest:List Oper} {a:Act} {Q:Exit→Act→World→Prop} {x y:Nat} {ty:TypeId} {pos:String} {after:Array Edge} (b:Nat) (f0 f:Fv) (hA:At w b f0.o)
  (hx:a.eval (.tmp x)=.pointer (some ⟨b,0,none⟩)) (hy:a.eval (.tmp y)=f.v) (h:∀ w',At w' b f.o→But b w w'→wpList Tryz.prog ops Q rest a w'):wpList Tryz.prog ops Q (⟨none,.store 43 (.tmp x) (.tmp y),ty,pos,after,none⟩::rest) a w :=
 wpl_storeT b f0 f hA hx hy (fun w' e=>by subst e;exact h _ (hA.set5 f) (but_s5 _ _ f))
theorem Tryz.results215:Tryz.f215.results=#[.cell 4 43,.tmp 5]:=rfl
structure TV (w V:World) (k:Nat) (n l:Int) (a:Option Addr) (m cap:Nat) (f0:Fv):Prop where
 a3:At V w.heap.size (oO k n l a m cap)
 a4:At V (w.heap.size+1) f0.o
 bel:Below w.heap.size w V
theorem TV.start (w:World) (k:Nat) (n l:Int) (a:Option Addr) (m cap:Nat) (f0:Fv):TV w ((w.alloc (oO k n l a m cap)).alloc f0.o) k n l a m cap f0:=⟨(At.new _ _).alloc _,at_snd _ _ _,belA (belA bR)⟩
theorem TV.st {w V V':World} {k:Nat} {n l:Int} {a:Option Addr} {m cap:Nat} {f0 f:Fv} (h:TV w V k n l a m cap f0) (hA:At V' (w.heap.size+1) f.o) (hb:But (w.heap.size+1) V V'):TV w V' k n l a m cap f :=
 ⟨h.a3.grown hb (by simp),hA,belBut h.bel hb (by omega) h.bel.size⟩
theorem TV.aft {w V V':World} {k:Nat} {n l:Int} {a:Option Addr} {m cap:Nat} {f0:Fv} (h:TV w V k n l a m cap f0) (hb:Below V.heap.size V V'):TV w V' k n l a m cap f0:=⟨h.a3.below hb,h.a4.below hb,jB h.bel hb⟩
def TS (w:World) (k:Nat) (n l:Int) (a:Option Addr) (m cap:Nat) (V:World):Prop:=∃ f0,TV w V k n l a m cap f0
theorem TS.aft {w V V':World} {k:Nat} {n l:Int} {a:Option Addr} {m cap:Nat} (h:TS w k n l a m cap V) (hb:Below V.heap.size V V'):TS w k n l a m cap V':=by obtain ⟨f0,h⟩:=h;exact ⟨f0,h.aft hb⟩
def TW (w:World) (k:Nat) (n l:Int) (a:Option Addr) (m cap bw:Nat) (y:Gy) (V:World):Prop:=∃ f0,TV w V k n l a m cap f0∧At V bw y.o∧w.heap.size+1<bw
theorem TW.aft {w V V':World} {k:Nat} {n l:Int} {a:Option Addr} {m cap bw:Nat} {y:Gy} (h:TW w k n l a m cap bw y V) (hb:Below V.heap.size V V'):TW w k n l a m cap bw y V':=by obtain ⟨f0,h,h1,h2⟩:=h;exact ⟨f0,h.aft hb,h1.below hb,h2⟩
def TyPost (R:Option Ch) (w:World) (e:Ending):Prop:=match R with
 | some c=>∃ f':Fv,e=.returned (.tuple #[f'.v,.bool true])∧TyAt w f' c.ty
 | none=>∃ f':Fv,e=.returned (.tuple #[f'.v,.bool false])
theorem TV.other {w V V':World} {k:Nat} {n l:Int} {a:Option Addr} {m cap bx:Nat} {f0:Fv} (h:TV w V k n l a m cap f0) (hb:But bx V V') (hx:w.heap.size+1<bx):TV w V' k n l a m cap f0 :=
 ⟨h.a3.grown hb (by simp;omega),h.a4.grown hb (by simp;omega),belBut h.bel hb (by omega) h.bel.size⟩
theorem typeOf_x (w0 w:World) (b k:Nat) (n l:Int) (a:Option Addr) (m cap:Nat) (hk:k=0∨4<k) :
  Calls Tryz.prog 215 #[.pointer (some ⟨b,0,none⟩),oV k n l a m cap] w fun e w'=>TyPost none w0 e∧Below w.heap.size w w':=by
 have HW:=jH (TV.start w k n l a m cap zT)
 have k1:¬ (k:Int)=1:=by omega
 have k2:¬ (k:Int)=2:=by omega
 have k3:¬ (k:Int)=3:=by omega
 have k4:¬ (k:Int)=4:=by omega
 clear hk
 show Calls Tryz.prog 215 #[.pointer (some ⟨b,0,none⟩),.agg #[.int .u8 (k:Int),.int .i64 n,.int .i64 l,.slice a m cap]] w _
 go_enter Tryz.func215,Tryz.ntmps215
 go_wp2_with ((with_reducible show wpList _ _ _ (Oper.mk none (Op.store 43 _ _) _ _ _ none::_) _ _);refine wpl_storeT1 (w.heap.size+1) zT zT HW.out.a4 rfl rfl ?_;intro HFw hA9 hB9;have HF:=jH (HW.out.st hA9 hB9);clear hA9 hB9)
 exact bodyPost_ret (results_c2 (g:=zT) Tryz.results215 rfl rfl HF.out.a4.ty) rfl ⟨⟨zT,rfl⟩,HF.out.bel⟩
end Go.Proofs.YtmjenlogbkbgnaaGreatDoor
