import Derived.Test.YtmjenlogbkbgnaaGreatDoorB01
namespace Go.Proofs.YtmjenlogbkbgnaaGreatDoor
open Go.RowKit
set_option linter.unusedVariables false
set_option linter.unusedSimpArgs false
set_option maxRecDepth 100000
set_option maxHeartbeats 4000000
theorem Tryz.info3:(Tryz.prog.info? 3).map (fun i=>(i.zero,i.size,i.bytes))=some (some (.int .i64 0),1,8):=by kernel_rfl
theorem own_ne {W:World} {B e s n b t:Nat} {v:Value} {xs:List Value} {c:Array Value} {fz:Nat × Nat} (h:W.ownsRow B e s v n xs) (hb:At W b (.cells c t fz)) (ht:e≠t):some b≠v.ownBlock:=by
 rcases h.2 with ⟨rfl,_⟩|⟨g,cap,cur,rfl,_,hg,_⟩
 ·simp [Value.ownBlock]
 ·intro e'
  simp [Value.ownBlock] at e'
  subst e'
  unfold At at hb
  rw [hb] at hg
  cases hg
  exact ht rfl
theorem At.grown {w w':World} {row:Option Nat} {b:Nat} {o:Obj} (h:At w b o) (hg:w.grownBy w' row) (hne:some b≠row):At w' b o:=(hg.block b h.lt hne).trans h
theorem keepT_alloc (W:World) (o:Obj):KeepT W (W.alloc o):=fun i f h=>h.alloc o
theorem KeepT.trans {A B C:World} (h:KeepT A B) (k:KeepT B C):KeepT A C:=fun i f x=>k i f (h i f x)
theorem keepT_set {W:World} {b t:Nat} {v:Value} (h:At W b (One v t)) (u:Value):KeepT W (W.setCell ⟨b,0,none⟩ u):=fun i f x=>x.set (fun e=>by
 subst e
 unfold At at h x
 rw [h] at x
 simp [Fv.o] at x) u
theorem keepT_grown {W W':World} {B e s n:Nat} {v:Value} {xs:List Value} (h:W.ownsRow B e s v n xs) (hg:W.grownBy W' v.ownBlock) (he:e≠43):KeepT W W':=fun i f x=>x.grown hg (own_ne h x he)
theorem own_set {W:World} {B e s n b t:Nat} {v x:Value} {xs:List Value} (h:W.ownsRow B e s v n xs) (hb:At W b (One x t)) (ht:e≠t) (u:Value):(W.setCell ⟨b,0,none⟩ u).ownsRow B e s v n xs:=by
 refine ⟨h.1,?_⟩
 rcases h.2 with hn|⟨g,cap,cur,hv,h1,hg,rest⟩
 ·exact .inl hn
 ·refine .inr ⟨g,cap,cur,hv,h1,(Below.heap_setCell W ⟨b,0,none⟩ u g (fun e'=>?_)).trans hg,rest⟩
  have:=own_ne h hb ht
  rw [hv] at this
  simp only at e'
  subst e'
  exact this rfl
theorem own_is {W:World} {B e s n:Nat} {v:Value} {xs:List Value} (h:W.ownsRow B e s v n xs) (hn:0<n):∃ g cap,v=.slice (some ⟨g,0,none⟩) n cap:=by
 rcases h.2 with ⟨_,h0⟩|⟨g,cap,cur,rfl,_⟩
 ·omega
 ·exact ⟨g,cap,rfl⟩
theorem own_sl {W:World} {B e s n:Nat} {v:Value} {xs:List Value} (h:W.ownsRow B e s v n xs):∃ a cap,v=.slice a n cap:=by
 rcases h.2 with ⟨rfl,rfl⟩|⟨g,cap,cur,rfl,_⟩
 ·exact ⟨none,0,rfl⟩
 ·exact ⟨_,cap,rfl⟩
def iCells (l:List Int):List Value:=l.map (Value.int .i64)
def JR (w0:World) (b:Nat) (l:List Int) (W:World):Prop:=∃ v,At W b (One v 55)∧W.ownsRow w0.heap.size 3 1 v l.length (iCells l)∧Below w0.heap.size w0 W∧w0.heap.size≤b
def JF (w0:World) (b:Nat) (l:List Int) (W:World):Prop:=At W b (One (.bool (!l.isEmpty)) 4)∧Below w0.heap.size w0 W∧w0.heap.size≤b
theorem tellF (w0:World) (b:Nat):Tell 219 b w0 (JF w0 b) where
 enters:=fun args W=>by kernel_rfl
 alloc:=fun l W o ⟨h1,h3,h4⟩=>⟨h1.alloc o,h3.alloc h3.size o,h4⟩
 bel:=fun l W ⟨h1,h3,h4⟩=>h3
 call:=by
  rintro l r W hl r0 r1 ⟨hA,hB,hb⟩
  have FIN:Hid (JF w0 b (l++[r]) (W.setCell ⟨b,0,none⟩ (.bool true))∧KeepT W (W.setCell ⟨b,0,none⟩ (.bool true))):=⟨⟨by rw [show (!(l++[r]).isEmpty)=true by cases l <;> rfl];exact hA.setOne (.bool true),hB.setCell hb _,hb⟩,keepT_set hA _⟩
  obtain ⟨c0,f0⟩:=hA.one
  clear hA hB
  go_enter Tryz.func219,Tryz.ntmps219
  go_wp2_with fail
  go_end0
  exact ⟨rfl,FIN.out.1,FIN.out.2⟩
theorem regs_le:∀ c:Ch,c.regs.length+1≤c.depth
 | .leaf _ _=>Nat.le_refl _
 | .box c=>by have:=regs_le c;simp only [Ch.regs,Ch.depth];omega
 | .ref _ _ c=>by have:=regs_le c;simp only [Ch.regs,Ch.depth,List.length_cons];omega
theorem hasRef_any (c:Ch) (f:Fv) (w:World) (hc:Ok c) (h:TyAt w f c.ty):Calls Tryz.prog 204 #[f.v] w fun e w'=>e=.returned (.bool (!c.regs.isEmpty))∧Below w.heap.size w w':=by
 have CE:Hid (Calls Tryz.prog 50 #[f.v,fnB 219 (w.heap.size+1)] ((w.alloc f.o).alloc (One (.bool false) 4)) fun e w'=>e=.returned (.tuple #[])∧JF w (w.heap.size+1) c.regs w'):=by
  have:=each_any (tellF w (w.heap.size+1)) c f [] ((w.alloc f.o).alloc (One (.bool false) 4)) hc.ok (by have:=hc.deep;simp;omega) h ⟨at_snd _ _ _,belA (belA bR),by omega⟩
  exact this
 obtain ⟨rr,hrr⟩:∃ rr,rr=!c.regs.isEmpty:=⟨_,rfl⟩
 have HRR:Hid (rr=!c.regs.isEmpty):=hrr
 rw [← hrr]
 obtain ⟨k,m,r,s,a,n,cap⟩:=f
 show Calls Tryz.prog 204 #[tyV k m r s a n cap] w _
 clear h hrr
 go_enter Tryz.func204,Tryz.ntmps204
 go_wp2_with (go_at_call 50;refine CE.out.mono ?_;rintro e w1 ⟨rfl,hj1⟩;have hA1:=hj1.1;rw [← HRR.out] at hA1;obtain ⟨c1,f1⟩:=hA1.one)
 go_ret
 exact ⟨rfl,hj1.2.1⟩
theorem asksL_len:∀ (b:Bool) (c d:Ch),(asksL b c d).length≤2*c.depth
 | _,.leaf _ _,_=>by simp [asksL]
 | b,.box c,.box d=>by have:=asksL_len b c d;simp only [asksL,Ch.depth];omega
 | _,.box _,.leaf _ _=>by simp [asksL]
 | _,.box _,.ref _ _ _=>by simp [asksL]
 | b,.ref m r c,.ref m' r' d=>by
  have:=asksL_len (b || m) c d
  simp only [asksL,Ch.depth,List.length_cons,List.length_append]
  split <;> simp <;> omega
 | _,.ref _ _ _,.leaf _ _=>by simp [asksL]
 | _,.ref _ _ _,.box _=>by simp [asksL]
abbrev Two (u v:Value) (t:Nat):Obj:=.cells #[u,v] t (0,0)
def str (l:List UInt8):ByteArray:=⟨l.toArray⟩
def ah (S:List UInt8) (p:Nat):Nat:=((S[p]?).map (·.toNat)).getD 0
abbrev Rd (b:Nat) (S:List UInt8) (p:Nat) (t:Nat) (W:World):Prop:=At W b (Two (.string (str S)) (.int .i64 (p:Int)) t)
theorem belN {B:Nat} {a w:World} (h:Below B a w) (n:Nat):Below B a (w.drewN n):=⟨h.os,h.tape,h.output,h.size,h.block⟩
abbrev But (b:Nat) (w w':World):Prop:=w.grownBy w' (some b)
theorem But.refl (b:Nat) (w:World):But b w w:=World.grownBy.refl w _
theorem But.trans {b:Nat} {x y z:World} (h:But b x y) (k:But b y z):But b x z:=⟨k.os.trans h.os,k.tape.trans h.tape,k.output.trans h.output,Nat.le_trans h.size k.size,fun i hi hn=>(k.block i (Nat.lt_of_lt_of_le hi h.size) hn).trans (h.block i hi hn)⟩
theorem But.below {b:Nat} {x y:World} (h:Below x.heap.size x y):But b x y:=⟨h.os,h.tape,h.output,h.size,fun i hi _=>h.block i hi⟩
theorem But.set {b:Nat} {x y:World} (h:But b x y) (o:Nat) (u:Value):But b x (y.setCell ⟨b,o,none⟩ u) :=
 have k:Below b y (y.setCell ⟨b,o,none⟩ u):=(Below.refl b y).setCell (p:=⟨b,o,none⟩) (Nat.le_refl _) u
 ⟨k.os.trans h.os,k.tape.trans h.tape,k.output.trans h.output,Nat.le_trans h.size k.size,fun i hi hn=>(Below.heap_setCell y ⟨b,o,none⟩ u i (fun e=>hn (congrArg some e))).trans (h.block i hi hn)⟩
theorem But.drew {b:Nat} {x y:World} (h:But b x y):But b x y.drew:=⟨h.os,h.tape,h.output,h.size,h.block⟩
theorem But.alloc {b:Nat} {x y:World} (h:But b x y) (o:Obj):But b x (y.alloc o):=h.trans (But.below (belA bR))
theorem At.but {b i:Nat} {x y:World} {o:Obj} (h:At x i o) (k:But b x y) (hn:i≠b):At y i o:=h.grown k (fun e=>hn (Option.some.inj e))
theorem Rd.go {b:Nat} {S:List UInt8} {p t:Nat} {W:World} (h:Rd b S p t W) (q:Nat):Rd b S q t (W.setCell ⟨b,1,none⟩ (.int .i64 (q:Int))):=by
 have:=heap_setCell_same W b 1 #[.string (str S),.int .i64 (p:Int)] t (.int .i64 (q:Int)) h
 unfold Rd At
 simpa using this
def tk (S:List UInt8):List UInt8→Nat→Nat × Bool
 | [],p=>(p,true)
 | c::r,p=>if ah S p=c.toNat then tk S r (p+1) else (p,false)
def nmG (S:List UInt8) (most:Int) (fr:Nat):Nat→Int→Nat→Int × Nat
 | 0,n,p=>(n,p)
 | fuel+1,n,p=>if (48≤ah S p∧ah S p≤57)∧¬ ((most - ((ah S p:Int) - 48)).tdiv 10<n∨(n=0∧fr<p)) then nmG S most fr fuel (n*10+((ah S p:Int) - 48)) (p+1) else (n,p)
def nm (S:List UInt8) (most:Int) (p:Nat):Int × Nat:=nmG S most p (S.length - p) 0 p
inductive Own (w:World) (lo:Nat):Fv→Ch→Prop
 | leaf (k:Nat) (s:Int):Own w lo ⟨k,false,0,s,none,0,0⟩ (.leaf k s)
 | box (g:Nat) (f:Fv) (c:Ch) (hg:lo≤g) (h:At w g f.o) (hc:Own w lo f c):Own w lo ⟨3,false,0,0,some ⟨g,0,none⟩,1,1⟩ (.box c)
 | ref (m:Bool) (r:Int) (g:Nat) (f:Fv) (c:Ch) (hg:lo≤g) (h:At w g f.o) (hc:Own w lo f c):Own w lo ⟨4,m,r,0,some ⟨g,0,none⟩,1,1⟩ (.ref m r c)
theorem Own.keep {w w':World} {lo:Nat} (hk:∀ g o,lo≤g→At w g o→At w' g o) {f:Fv} {c:Ch} (h:Own w lo f c):Own w' lo f c:=by
 induction h with
 | leaf k s=>exact .leaf k s
 | box g f c hg h hc ih=>exact .box g f c hg (hk g _ hg h) ih
 | ref m r g f c hg h hc ih=>exact .ref m r g f c hg (hk g _ hg h) ih
theorem Own.low {w:World} {lo lo':Nat} (hl:lo'≤lo) {f:Fv} {c:Ch} (h:Own w lo f c):Own w lo' f c:=by
 induction h with
 | leaf k s=>exact .leaf k s
 | box g f c hg h hc ih=>exact .box g f c (Nat.le_trans hl hg) h ih
 | ref m r g f c hg h hc ih=>exact .ref m r g f c (Nat.le_trans hl hg) h ih
theorem Own.but {w w':World} {b lo:Nat} {f:Fv} {c:Ch} (h:Own w lo f c) (k:But b w w') (hb:b<lo):Own w' lo f c:=h.keep fun g o hg hA=>hA.but k (by omega)
theorem Own.bel {w w':World} {lo:Nat} {f:Fv} {c:Ch} (h:Own w lo f c) (k:Below w.heap.size w w'):Own w' lo f c:=h.keep fun g o hg hA=>hA.below k
def Ch.rg:Ch→Prop
 | .leaf k s=>k≤255∧-9223372036854775808≤s∧s≤9223372036854775807
 | .box c=>c.rg
 | .ref _ r c=>(-9223372036854775808≤r∧r≤9223372036854775807)∧c.rg
theorem Own.ty {w:World} {lo:Nat} {f:Fv} {c:Ch} (h:Own w lo f c):c.rg→TyAt w f c.ty:=by
 induction h with
 | leaf k s=>exact fun hr=>TyAt.mkLeaf k s hr.1 hr.2.1 hr.2.2 none 0
 | box g f c hg h hc ih=>exact fun hr=>TyAt.mkOne 3 false 0 0 (by omega) (by omega) (by omega) (by omega) (by omega) g 0 1 f _ h.ty (ih hr)
 | ref m r g f c hg h hc ih=>exact fun hr=>TyAt.mkOne 4 m r 0 (by omega) hr.1.1 hr.1.2 (by omega) (by omega) g 0 1 f _ h.ty (ih hr.2)
abbrev zT:Fv:=⟨0,false,0,0,none,0,0⟩
theorem At.set5 {w:World} {b:Nat} {f:Fv} (h:At w b f.o) (g:Fv):At (((((w.setCell ⟨b,0,none⟩ (.int .u8 (g.k:Int))).setCell ⟨b,1,none⟩ (.bool g.m)).setCell ⟨b,2,none⟩ (.int .i64 g.r)).setCell ⟨b,3,none⟩ (.int .i64 g.s)).setCell ⟨b,4,none⟩ (.slice g.a g.n g.cap)) b g.o:=by
 have h1:=heap_setCell_same w b 0 _ 43 (.int .u8 (g.k:Int)) h
 have h2:=heap_setCell_same _ b 1 _ 43 (.bool g.m) h1
 have h3:=heap_setCell_same _ b 2 _ 43 (.int .i64 g.r) h2
 have h4:=heap_setCell_same _ b 3 _ 43 (.int .i64 g.s) h3
 have h5:=heap_setCell_same _ b 4 _ 43 (.slice g.a g.n g.cap) h4
 unfold At
 simpa using h5
theorem At.tyF {w:World} {b:Nat} {f:Fv} (h:At w b f.o) (o:Nat):w.frozen? ⟨b,o,none⟩=false:=frozen_of_row w b o _ 43 h
abbrev S5 (w:World) (b:Nat) (g:Fv):World:=((((w.setCell ⟨b,0,none⟩ (.int .u8 (g.k:Int))).setCell ⟨b,1,none⟩ (.bool g.m)).setCell ⟨b,2,none⟩ (.int .i64 g.r)).setCell ⟨b,3,none⟩ (.int .i64 g.s)).setCell ⟨b,4,none⟩ (.slice g.a g.n g.cap)
theorem At.S5 {w:World} {b i:Nat} {o:Obj} (h:At w i o) (hi:i≠b) (g:Fv):At (S5 w b g) i o:=((((h.set hi _).set hi _).set hi _).set hi _).set hi _
theorem size_S5 (w:World) (b:Nat) (g:Fv):(S5 w b g).heap.size=w.heap.size:=by simp [S5]
theorem C5.drew {w:World} {g o:Nat} {f:Fv} (h:C5 w g o f):C5 w.drew g o f:=h
theorem Own.drew {w:World} {lo:Nat} {f:Fv} {c:Ch} (h:Own w lo f c):Own w.drew lo f c:=Own.keep (w:=w) (w':=w.drew) (fun _ _ _ h=>h) h
inductive OwnL (w:World) (lo hi:Nat):Fv→Ch→Prop
 | leaf (k:Nat) (s:Int) (a:Option Addr) (cap:Nat):OwnL w lo hi ⟨k,false,0,s,a,0,cap⟩ (.leaf k s)
 | box (g:Nat) (f:Fv) (c:Ch) (hg:lo≤g) (hh:g<hi) (h:At w g f.o) (hc:OwnL w lo hi f c):OwnL w lo hi ⟨3,false,0,0,some ⟨g,0,none⟩,1,1⟩ (.box c)
 | ref (m:Bool) (r:Int) (g:Nat) (f:Fv) (c:Ch) (hg:lo≤g) (hh:g<hi) (h:At w g f.o) (hc:OwnL w lo hi f c):OwnL w lo hi ⟨4,m,r,0,some ⟨g,0,none⟩,1,1⟩ (.ref m r c)
theorem OwnL.keep {w w':World} {lo hi:Nat} (hk:∀ g o,lo≤g→g<hi→At w g o→At w' g o) {f:Fv} {c:Ch} (h:OwnL w lo hi f c):OwnL w' lo hi f c:=by
 induction h with
 | leaf k s a cap=>exact .leaf k s a cap
 | box g f c hg hh h hc ih=>exact .box g f c hg hh (hk g _ hg hh h) ih
 | ref m r g f c hg hh h hc ih=>exact .ref m r g f c hg hh (hk g _ hg hh h) ih
theorem OwnL.low {w:World} {lo lo' hi hi':Nat} (hl:lo'≤lo) (hh:hi≤hi') {f:Fv} {c:Ch} (h:OwnL w lo hi f c):OwnL w lo' hi' f c:=by
 induction h with
 | leaf k s a cap=>exact .leaf k s a cap
 | box g f c hg hh' h hc ih=>exact .box g f c (Nat.le_trans hl hg) (Nat.lt_of_lt_of_le hh' hh) h ih
 | ref m r g f c hg hh' h hc ih=>exact .ref m r g f c (Nat.le_trans hl hg) (Nat.lt_of_lt_of_le hh' hh) h ih
theorem OwnL.bel {w w':World} {lo hi:Nat} {f:Fv} {c:Ch} (h:OwnL w lo hi f c) (k:Below w.heap.size w w'):OwnL w' lo hi f c:=h.keep fun g o _ _ hA=>hA.below k
theorem OwnL.ty {w:World} {lo hi:Nat} {f:Fv} {c:Ch} (h:OwnL w lo hi f c):c.rg→TyAt w f c.ty:=by
 induction h with
 | leaf k s a cap=>exact fun hr=>TyAt.mkLeaf k s hr.1 hr.2.1 hr.2.2 a cap
 | box g f c hg hh h hc ih=>exact fun hr=>TyAt.mkOne 3 false 0 0 (by omega) (by omega) (by omega) (by omega) (by omega) g 0 1 f _ h.ty (ih hr)
 | ref m r g f c hg hh h hc ih=>exact fun hr=>TyAt.mkOne 4 m r 0 (by omega) hr.1.1 hr.1.2 (by omega) (by omega) g 0 1 f _ h.ty (ih hr.2)
theorem Own.toL {w:World} {lo:Nat} {f:Fv} {c:Ch} (h:Own w lo f c):OwnL w lo w.heap.size f c:=by
 induction h with
 | leaf k s=>exact .leaf k s none 0
 | box g f c hg h hc ih=>exact .box g f c hg h.lt h ih
 | ref m r g f c hg h hc ih=>exact .ref m r g f c hg h.lt h ih
structure Out (lo hi:Nat) (w w':World):Prop where
 bel:Below lo w w'
 hi:∀ i,hi≤i→i<w.heap.size→w'.heap[i]?=w.heap[i]?
 form:∀ i (f:Fv),At w i f.o→∃ f':Fv,At w' i f'.o
theorem Out.refl (lo hi:Nat) (w:World):Out lo hi w w:=⟨Below.refl _ _,fun _ _ _=>rfl,fun i f h=>⟨f,h⟩⟩
theorem Out.trans {lo hi:Nat} {a b c:World} (h:Out lo hi a b) (k:Out lo hi b c):Out lo hi a c :=
 ⟨h.bel.trans k.bel,fun i h1 h2=>(k.hi i h1 (Nat.lt_of_lt_of_le h2 h.bel.size)).trans (h.hi i h1 h2),fun i f hA=>by obtain ⟨f',h'⟩:=h.form i f hA;exact k.form i f' h'⟩
theorem Out.of {lo hi:Nat} {a b:World} (h:Below a.heap.size a b) (hl:lo≤a.heap.size):Out lo hi a b:=⟨h.mono hl,fun i _ hi=>h.block i hi,fun i f hA=>⟨f,hA.below h⟩⟩
theorem Out.at {lo hi:Nat} {a b:World} (h:Out lo hi a b) {i:Nat} {o:Obj} (hA:At a i o) (hi':i<lo∨hi≤i):At b i o:=by
 rcases hi' with h1|h1
 ·exact hA.belowB h.bel h1
 ·exact (h.hi i h1 hA.lt).trans hA
theorem Out.alloc {lo hi:Nat} {a b:World} (h:Out lo hi a b) (hl:lo≤a.heap.size) (o:Obj):Out lo hi a (b.alloc o):=h.trans (Out.of (belA bR) (Nat.le_trans hl h.bel.size))
theorem Out.S5 {lo hi:Nat} {a b:World} (h:Out lo hi a b) {g:Nat} (h1:lo≤g) (h2:g<hi) {f:Fv} (hA:At b g f.o) (f':Fv):Out lo hi a (S5 b g f'):=by
 refine h.trans ⟨(((bR.setCell (p:=⟨g,0,none⟩) h1 _).setCell (p:=⟨g,1,none⟩) h1 _ |>.setCell (p:=⟨g,2,none⟩) h1 _).setCell (p:=⟨g,3,none⟩) h1 _).setCell (p:=⟨g,4,none⟩) h1 _,fun i hi hlt=>?_,fun i f hi=>?_⟩
 ·obtain ⟨o,ho⟩:∃ o,b.heap[i]?=some o:=⟨_,Array.getElem?_eq_getElem hlt⟩
  exact (At.S5 (b:=g) (show At b i o from ho) (by omega) f').trans ho.symm
 ·by_cases e:i=g
  ·subst e
   exact ⟨f',hA.set5 f'⟩
  ·exact ⟨f,hi.S5 e f'⟩
theorem OwnL.out {w w':World} {lo hi lo' hi':Nat} {f:Fv} {c:Ch} (h:OwnL w lo hi f c) (k:Out lo' hi' w w') (hd:hi≤lo'∨hi'≤lo):OwnL w' lo hi f c:=h.keep fun g o h1 h2 hA=>k.at hA (by omega)
def turnC (out:List Int→Int→Int):List Int→Ch→Ch
 | _,.leaf k s=>.leaf k s
 | l,.box c=>.box (turnC out l c)
 | l,.ref m r c=>.ref m (out l r) (turnC out (l++[r]) c)
structure Turn (fn:Nat) (caps:List Value) (N:Nat) (w0:World) (J:List Int→World→Prop) (out:List Int→Int→Int):Prop where
 enters:Enters fn
 alloc:∀ l W o,J l W→J l (W.alloc o)
 set:∀ l W W' i (f:Fv),J l W→At W i f.o→w0.heap.size≤i→But i W W'→J l W'
 bel:∀ l W,J l W→Below w0.heap.size w0 W
 call:∀ l r W,l.length<N→-9223372036854775808≤r→r≤9223372036854775807→J l W→Calls Tryz.prog fn ((.int .i64 r)::caps).toArray W fun e w'=>e=.returned (.int .i64 (out l r))∧J (l++[r]) w'∧KeepT W w'∧W.heap.size≤w'.heap.size
theorem results_c1 {fn:Func} {j:Nat} (h:fn.results=#[.cell j 43]) {tmps:Array Value} {W:World} {b4:Nat} {g:Fv} (ht:tmps.getD j undef=.pointer (some ⟨b4,0,none⟩)) (hC:C5 W b4 0 g):(results fn tmps).run Tryz.prog W=.ok g.v W:=by
 obtain ⟨-,e0,e1,e2,e3,e4⟩:=hC
 simp only [Nat.zero_add] at e1 e2 e3 e4
 have ht2:tmps[j]?.getD undef=.pointer (some ⟨b4,0,none⟩):=by rw [← ht];simp
 simp only [results,h]
 simp [go_sem,ht2,e0,e1,e2,e3,e4]
theorem Tryz.results116:Tryz.f116.results=#[.cell 4 43]:=rfl
structure TurnP (W:World) (J:List Int→World→Prop) (l:List Int) (c:Ch) (f:Fv) (w':World):Prop where
 own:Own w' W.heap.size f c
 j:J l w'
 keep:KeepT W w'
 size:W.heap.size≤w'.heap.size
theorem but_s5 (w:World) (b:Nat) (g:Fv):But b w (S5 w b g):=(((((But.refl b w).set 0 _).set 1 _).set 2 _).set 3 _).set 4 _
theorem keepT_S5 {W W':World} {b:Nat} (h:KeepT W W') (hb:W.heap.size≤b) (g:Fv):KeepT W (S5 W' b g):=fun i f x=>(h i f x).S5 (by have:=x.lt;omega) g
theorem keepT_two {W W':World} {o o':Obj} (h:KeepT ((W.alloc o).alloc o') W'):KeepT W W':=fun i f x=>h i f ((x.alloc o).alloc o')
theorem keepT_hi {W W':World} {b:Nat} (h:KeepT W W') (hb:W.heap.size≤b) (o:Nat) (u:Value):KeepT W (W'.setCell ⟨b,o,none⟩ u):=fun i f x=>(h i f x).set (by have:=x.lt;simp only;omega) u
theorem At.cell2 {w:World} {b:Nat} {f:Fv} (h:At w b f.o) (r:Int):At (w.setCell ⟨b,2,none⟩ (.int .i64 r)) b (Fv.o ⟨f.k,f.m,r,f.s,f.a,f.n,f.cap⟩):=by
 have:=heap_setCell_same w b 2 _ 43 (.int .i64 r) h
 unfold At
 simpa using this
theorem turn_leaf {fn N:Nat} {caps:List Value} {w0:World} {J:List Int→World→Prop} {out:List Int→Int→Int} (hT:Turn fn caps N w0 J out) (fv:Value) (k:Nat) (s:Int) (a:Option Addr) (cap:Nat) (l:List Int) (W:World) (k3:¬ (k:Int)=3) (k4:¬ (k:Int)=4) (hJ:J l W) :
  Calls Tryz.prog 116 #[tyV k false 0 s a 0 cap,fv] W fun e w'=>∃ f':Fv,e=.returned f'.v∧TurnP W J l (.leaf k s) f' w':=by
 have h1:Hid (∀ o o',J l ((W.alloc o).alloc o')):=fun o o'=>hT.alloc _ _ _ (hT.alloc _ _ _ hJ)
 have hB:Hid (Below w0.heap.size w0 W):=hT.bel _ _ hJ
 have A2:Hid (At ((W.alloc (tyO k false 0 s a 0 cap)).alloc zT.o) W.heap.size (Fv.o ⟨k,false,0,s,a,0,cap⟩)):=(At.new _ _).alloc _
 have A4:Hid (At ((W.alloc (tyO k false 0 s a 0 cap)).alloc zT.o) (W.heap.size+1) zT.o):=at_snd _ _ _
 have HS:Hid (∀ (V V':World) i (f:Fv),J l V→At V i f.o→w0.heap.size≤i→But i V V'→J l V'):=fun V V' i f=>hT.set l V V' i f
 clear hT hJ
 go_enter Tryz.func116,Tryz.ntmps116
 go_wp2_with fail
 exact bodyPost_ret (results_c1 (g:=⟨k,false,0,s,none,0,0⟩) Tryz.results116 rfl (At.ty (f:=⟨k,false,0,s,none,0,0⟩) (at_snd W (Fv.o ⟨k,false,0,s,none,0,0⟩) (Fv.o ⟨k,false,0,s,none,0,0⟩)))) rfl ⟨⟨k,false,0,s,none,0,0⟩,rfl,⟨.leaf k s,h1.out _ _,fun i f x=>(x.alloc _).alloc _,by simp only [World.size_alloc];omega⟩⟩
theorem turn_fin {W w0 w2:World} {J:World→Prop} {c:Ch} {f2 fb f4:Fv} (g:Fv) {lo:Nat} (u:Value) (own:Own w2 lo f2 c) (hlo:W.heap.size+2≤lo) (j:J w2) (kp:KeepT W w2) (B2:At w2 W.heap.size fb.o) (B4:At w2 (W.heap.size+1) f4.o) (hB:w0.heap.size≤W.heap.size)
  (HS:∀ (V V':World) i (f:Fv),J V→At V i f.o→w0.heap.size≤i→But i V V'→J V') (HA:∀ V o,J V→J (V.alloc o)) :
  C5 ((S5 (w2.setCell ⟨W.heap.size,4,none⟩ u) (W.heap.size+1) g).alloc f2.o) (W.heap.size+1) 0 g∧Own ((S5 (w2.setCell ⟨W.heap.size,4,none⟩ u) (W.heap.size+1) g).alloc f2.o) W.heap.size f2 c∧At ((S5 (w2.setCell ⟨W.heap.size,4,none⟩ u) (W.heap.size+1) g).alloc f2.o) w2.heap.size f2.o∧J ((S5 (w2.setCell ⟨W.heap.size,4,none⟩ u) (W.heap.size+1) g).alloc f2.o)∧KeepT W ((S5 (w2.setCell ⟨W.heap.size,4,none⟩ u) (W.heap.size+1) g).alloc f2.o)∧W.heap.size≤((S5 (w2.setCell ⟨W.heap.size,4,none⟩ u) (W.heap.size+1) g).alloc f2.o).heap.size∧W.heap.size≤w2.heap.size:=by
 have hz:W.heap.size≤w2.heap.size:=by have:=B2.lt;omega
 have B4':At (w2.setCell ⟨W.heap.size,4,none⟩ u) (W.heap.size+1) f4.o:=B4.set (by simp) u
 have own':Own (w2.setCell ⟨W.heap.size,4,none⟩ u) lo f2 c:=own.keep fun i o hi hA=>hA.set (by simp only;omega) u
 have j':J (w2.setCell ⟨W.heap.size,4,none⟩ u):=HS w2 _ _ fb j B2 hB ((But.refl _ _).set 4 u)
 have kp':KeepT W (w2.setCell ⟨W.heap.size,4,none⟩ u):=keepT_hi kp (Nat.le_refl _) 4 u
 have hs':(w2.setCell ⟨W.heap.size,4,none⟩ u).heap.size=w2.heap.size:=by simp
 generalize (w2.setCell ⟨W.heap.size,4,none⟩ u)=V at *
 have j2:J (S5 V (W.heap.size+1) g):=HS V _ _ f4 j' B4' (by omega) (but_s5 _ _ _)
 refine ⟨((B4'.set5 g).alloc _).ty,((own'.keep fun i o hi hA=>(hA.S5 (by omega) g).alloc _).low (by omega)),?_,HA _ _ j2,fun i f x=>((keepT_S5 kp' (by omega) g) i f x).alloc _,by simp only [World.size_alloc,size_S5];omega,hz⟩
 have:=At.new (S5 V (W.heap.size+1) g) f2.o
 rw [size_S5,hs'] at this
 exact this
theorem turn_box {fn N:Nat} {caps:List Value} {w0:World} {J:List Int→World→Prop} {out:List Int→Int→Int} (hT:Turn fn caps N w0 J out) (fv:Value) (g off cap:Nat) (x:Fv) (c:Ch) (l l':List Int) (W:World) (hx:C5 w0 g off x) (hJ:J l W)
  (IH0:∀ V,J l V→Calls Tryz.prog 116 #[x.v,fv] V fun e w'=>∃ f':Fv,e=.returned f'.v∧TurnP V J l' c f' w') :
  Calls Tryz.prog 116 #[tyV 3 false 0 0 (some ⟨g,off,none⟩) 1 cap,fv] W fun e w'=>∃ f':Fv,e=.returned f'.v∧TurnP W J l' (.box c) f' w':=by
 have hJ2:=hT.alloc _ _ zT.o (hT.alloc _ _ (tyO 3 false 0 0 (some ⟨g,off,none⟩) 1 cap) hJ)
 have IH:Hid (Calls Tryz.prog 116 #[x.v,fv] ((W.alloc (tyO 3 false 0 0 (some ⟨g,off,none⟩) 1 cap)).alloc zT.o) fun e w'=>∃ f':Fv,e=.returned f'.v∧TurnP ((W.alloc (tyO 3 false 0 0 (some ⟨g,off,none⟩) 1 cap)).alloc zT.o) J l' c f' w'):=IH0 _ hJ2
 have hB:Hid (Below w0.heap.size w0 W):=hT.bel _ _ hJ
 have A2:Hid (At ((W.alloc (tyO 3 false 0 0 (some ⟨g,off,none⟩) 1 cap)).alloc zT.o) W.heap.size (Fv.o ⟨3,false,0,0,some ⟨g,off,none⟩,1,cap⟩)):=(At.new _ _).alloc _
 have A4:Hid (At ((W.alloc (tyO 3 false 0 0 (some ⟨g,off,none⟩) 1 cap)).alloc zT.o) (W.heap.size+1) zT.o):=at_snd _ _ _
 have HS:Hid (∀ (V V':World) i (f:Fv),J l' V→At V i f.o→w0.heap.size≤i→But i V V'→J l' V'):=fun V V' i f=>hT.set l' V V' i f
 have HA:Hid (∀ V o,J l' V→J l' (V.alloc o)):=hT.alloc l'
 obtain ⟨hg,p0,p1,p2,p3,p4⟩:=hx.below (hT.bel _ _ hJ)
 clear hT hJ hJ2 IH0 hx
 go_enter Tryz.func116,Tryz.ntmps116
 go_wp2_with (go_at_call 116;refine IH.out.mono ?_;rintro e w2 ⟨f2,rfl,hP⟩;clear p0 p1 p2 p3 p4;have B2:=hP.keep _ _ A2.out;have B4:=hP.keep _ _ A4.out;have g0:=B4.tyF 0;have g1:=B4.tyF 1;have g2:=B4.tyF 2;have g3:=B4.tyF 3;have g4:=B4.tyF 4;have k4:=B2.tyF 4;obtain ⟨hl4,q0,q1,q2,q3,q4⟩:=B4.ty;obtain ⟨hl2,p0,p1,p2,p3,p4⟩:=B2.ty;simp only [Nat.zero_add] at p0 p1 p2 p3 p4 q0 q1 q2 q3 q4)
 have hlo:W.heap.size+2≤((W.alloc (tyO 3 false 0 0 (some ⟨g,off,none⟩) 1 cap)).alloc zT.o).heap.size:=by simp only [World.size_alloc];omega
 obtain ⟨F1,F2,F3,F4,F5,F6,F7⟩:=turn_fin (J:=J l') (w0:=w0) ⟨3,false,0,0,some ⟨w2.heap.size,0,none⟩,1,1⟩ (.slice (some ⟨w2.heap.size,0,none⟩) 1 1) hP.own hlo hP.j (keepT_two hP.keep) B2 B4 hB.out.size HS.out HA.out
 exact bodyPost_ret (results_c1 (g:=⟨3,false,0,0,some ⟨w2.heap.size,0,none⟩,1,1⟩) Tryz.results116 rfl F1) rfl ⟨⟨3,false,0,0,some ⟨w2.heap.size,0,none⟩,1,1⟩,rfl,⟨.box w2.heap.size f2 c F7 F3 F2,F4,F5,F6⟩⟩
abbrev fnZ (fn:Nat):Value:=.func (.func fn) #[] #[]
abbrev fnC (fn b b2:Nat):Value:=.func (.func fn) #[] #[.pointer (some ⟨b,0,none⟩),.pointer (some ⟨b2,0,none⟩)]
theorem turn_ref0 {fn N:Nat} {w0:World} {J:List Int→World→Prop} {out:List Int→Int→Int} (hT:Turn fn [] N w0 J out) (m:Bool) (r:Int) (g off cap:Nat) (x:Fv) (c:Ch) (l l':List Int) (W:World) (hl:l.length<N) (r0:-9223372036854775808≤r) (r1:r≤9223372036854775807) (hx:C5 w0 g off x) (hJ:J l W)
  (IH0:∀ V,J (l++[r]) V→Calls Tryz.prog 116 #[x.v,fnZ fn] V fun e w'=>∃ f':Fv,e=.returned f'.v∧TurnP V J l' c f' w') :
  Calls Tryz.prog 116 #[tyV 4 m r 0 (some ⟨g,off,none⟩) 1 cap,fnZ fn] W fun e w'=>∃ f':Fv,e=.returned f'.v∧TurnP W J l' (.ref m (out l r) c) f' w':=by
 have hJ2:=hT.alloc _ _ zT.o (hT.alloc _ _ (tyO 4 m r 0 (some ⟨g,off,none⟩) 1 cap) hJ)
 have CT:Hid (Calls Tryz.prog fn #[.int .i64 r] ((W.alloc (tyO 4 m r 0 (some ⟨g,off,none⟩) 1 cap)).alloc zT.o) fun e w'=>e=.returned (.int .i64 (out l r))∧J (l++[r]) w'∧KeepT ((W.alloc (tyO 4 m r 0 (some ⟨g,off,none⟩) 1 cap)).alloc zT.o) w'∧((W.alloc (tyO 4 m r 0 (some ⟨g,off,none⟩) 1 cap)).alloc zT.o).heap.size≤w'.heap.size):=hT.call l r _ hl r0 r1 hJ2
 have IH:Hid (∀ V,J (l++[r]) V→Calls Tryz.prog 116 #[x.v,fnZ fn] V fun e w'=>∃ f':Fv,e=.returned f'.v∧TurnP V J l' c f' w'):=IH0
 have hB:Hid (w0.heap.size≤W.heap.size):=(hT.bel _ _ hJ).size
 have A2:Hid (At ((W.alloc (tyO 4 m r 0 (some ⟨g,off,none⟩) 1 cap)).alloc zT.o) W.heap.size (Fv.o ⟨4,m,r,0,some ⟨g,off,none⟩,1,cap⟩)):=(At.new _ _).alloc _
 have A4:Hid (At ((W.alloc (tyO 4 m r 0 (some ⟨g,off,none⟩) 1 cap)).alloc zT.o) (W.heap.size+1) zT.o):=at_snd _ _ _
 have HS1:Hid (∀ (V V':World) i (f:Fv),J (l++[r]) V→At V i f.o→w0.heap.size≤i→But i V V'→J (l++[r]) V'):=fun V V' i f=>hT.set _ V V' i f
 have HS:Hid (∀ (V V':World) i (f:Fv),J l' V→At V i f.o→w0.heap.size≤i→But i V V'→J l' V'):=fun V V' i f=>hT.set l' V V' i f
 have HA:Hid (∀ V o,J l' V→J l' (V.alloc o)):=hT.alloc l'
 have PC:Hid (∀ V,J (l++[r]) V→C5 V g off x):=fun V h1=>hx.below (hT.bel _ _ h1)
 have hgw:g<w0.heap.size:=hx.1
 have hen:=hT.enters
 unfold Enters at hen
 obtain ⟨o,ho⟩:∃ o,o=out l r:=⟨_,rfl⟩
 rw [← ho] at CT ⊢
 clear hT hJ hJ2 IH0 hx ho hl r0 r1
 go_enter Tryz.func116,Tryz.ntmps116
 go_wp2_with fail
 refine CT.out.mono ?_
 rintro e w1 ⟨rfl,hj1,hk1,hz1⟩
 have B2:=hk1 _ _ A2.out
 have B4:=hk1 _ _ A4.out
 have C2:At (w1.setCell ⟨W.heap.size,2,none⟩ (.int .i64 o)) W.heap.size (Fv.o ⟨4,m,o,0,some ⟨g,off,none⟩,1,cap⟩):=B2.cell2 o
 have C4:At (w1.setCell ⟨W.heap.size,2,none⟩ (.int .i64 o)) (W.heap.size+1) zT.o:=B4.set (by simp) _
 have hj2:J (l++[r]) (w1.setCell ⟨W.heap.size,2,none⟩ (.int .i64 o)):=HS1.out w1 _ _ _ hj1 B2 hB.out ((But.refl _ _).set 2 _)
 have hk2:KeepT W (w1.setCell ⟨W.heap.size,2,none⟩ (.int .i64 o)):=keepT_hi (keepT_two hk1) (Nat.le_refl _) 2 _
 have hs2:W.heap.size+2≤(w1.setCell ⟨W.heap.size,2,none⟩ (.int .i64 o)).heap.size:=by simp only [World.size_alloc] at hz1;simp only [World.size_setCell];omega
 have Q2:Hid (At (w1.setCell ⟨W.heap.size,2,none⟩ (.int .i64 o)) W.heap.size (Fv.o ⟨4,m,o,0,some ⟨g,off,none⟩,1,cap⟩)∧At (w1.setCell ⟨W.heap.size,2,none⟩ (.int .i64 o)) (W.heap.size+1) zT.o∧J (l++[r]) (w1.setCell ⟨W.heap.size,2,none⟩ (.int .i64 o))∧KeepT W (w1.setCell ⟨W.heap.size,2,none⟩ (.int .i64 o))∧W.heap.size+2≤(w1.setCell ⟨W.heap.size,2,none⟩ (.int .i64 o)).heap.size):=⟨C2,C4,hj2,hk2,hs2⟩
 have k2:=B2.tyF 2
 obtain ⟨hl2,p0,p1,p2,p3,p4⟩:=B2.ty
 simp only [Nat.zero_add] at p0 p1 p2 p3 p4
 obtain ⟨hgl,q0,q1,q2,q3,q4⟩:=PC.out _ hj1
 have hgne:g≠W.heap.size:=by have:=hB.out;omega
 clear C2 C4 hj2 hk2 hs2 B2 B4
 go_wp2_with (go_at_call 116;refine (IH.out _ Q2.out.2.2.1).mono ?_;rintro e w2 ⟨f2,rfl,hP⟩;clear p0 p1 p2 p3 p4 q0 q1 q2 q3 q4;have D2:=hP.keep _ _ Q2.out.1;have D4:=hP.keep _ _ Q2.out.2.1;have g0:=D4.tyF 0;have g1:=D4.tyF 1;have g2:=D4.tyF 2;have g3:=D4.tyF 3;have g4:=D4.tyF 4;have k4:=D2.tyF 4;obtain ⟨hl4,q0,q1,q2,q3,q4⟩:=D4.ty;obtain ⟨hl2,p0,p1,p2,p3,p4⟩:=D2.ty;simp only [Nat.zero_add] at p0 p1 p2 p3 p4 q0 q1 q2 q3 q4)
 obtain ⟨F1,F2,F3,F4,F5,F6,F7⟩:=turn_fin (J:=J l') (w0:=w0) ⟨4,m,o,0,some ⟨w2.heap.size,0,none⟩,1,1⟩ (.slice (some ⟨w2.heap.size,0,none⟩) 1 1) hP.own Q2.out.2.2.2.2 hP.j (Q2.out.2.2.2.1.trans hP.keep) D2 D4 hB.out HS.out HA.out
 exact bodyPost_ret (results_c1 (g:=⟨4,m,o,0,some ⟨w2.heap.size,0,none⟩,1,1⟩) Tryz.results116 rfl F1) rfl ⟨⟨4,m,o,0,some ⟨w2.heap.size,0,none⟩,1,1⟩,rfl,⟨.ref m o w2.heap.size f2 c F7 F3 F2,F4,F5,F6⟩⟩
theorem turned_any0 {fn N:Nat} {w0:World} {J:List Int→World→Prop} {out:List Int→Int→Int} (hT:Turn fn [] N w0 J out):∀ (c:Ch) (f:Fv) (l:List Int) (W:World),c.ok 32→l.length+c.regs.length≤N→TyAt w0 f c.ty→J l W →
  Calls Tryz.prog 116 #[f.v,fnZ fn] W fun e w'=>∃ f':Fv,e=.returned f'.v∧TurnP W J (l++c.regs) (turnC out l c) f' w':=by
 intro c
 induction c with
 | leaf k s =>
  intro f l W hc hl h hJ
  obtain ⟨a,cap,rfl,-⟩:=h.leaf
  have hk:¬ (k:Int)=3∧¬ (k:Int)=4:=by
   have:(k=1∨k=2)∧s=0∨k=5∧0≤s∧s<32:=hc
   omega
  have:=turn_leaf hT (fnZ fn) k s a cap l W hk.1 hk.2 hJ
  simpa only [Ch.regs,List.append_nil,turnC] using this
 | box c ih =>
  intro f l W hc hl h hJ
  obtain ⟨g,off,cap,x,rfl,hx,ht⟩:=h.box
  exact turn_box hT (fnZ fn) g off cap x (turnC out l c) l (l++c.regs) W hx hJ (fun V hV=>ih x l V hc hl ht hV)
 | ref m r c ih =>
  intro f l W hc hl h hJ
  obtain ⟨g,off,cap,x,rfl,hx,ht,r0,r1⟩:=h.ref
  refine turn_ref0 hT m r g off cap x (turnC out (l++[r]) c) l (l++(Ch.ref m r c).regs) W (by simp [Ch.regs] at hl;omega) r0 r1 hx hJ (fun V hV=>?_)
  have:=ih x (l++[r]) V hc.2 (by simp [Ch.regs] at hl ⊢;omega) ht hV
  rw [List.append_assoc] at this
  exact this
theorem turn_id:∀ (c:Ch) (l:List Int),turnC (fun _ r=>r) l c=c
 | .leaf k s,l=>rfl
 | .box c,l=>by simp only [turnC];rw [turn_id c l]
 | .ref m r c,l=>by simp only [turnC];rw [turn_id c]
theorem turnO (w0:World) (N:Nat):Turn 117 [] N w0 (fun _ W=>Below w0.heap.size w0 W) (fun _ r=>r) where
 enters:=fun args W=>by kernel_rfl
 alloc:=fun l W o h=>h.alloc h.size o
 set:=fun l W W' i f h hA hi hb=>h.grown hb h.size (fun k hk=>by cases hk;exact hi)
 bel:=fun l W h=>h
 call:=by
  intro l r W hl r0 r1 hJ
  show Calls Tryz.prog 117 #[.int .i64 r] W _
  have HJ:=(show Hid (Below w0.heap.size w0 W) from hJ)
  clear hJ
  go_enter Tryz.func117,Tryz.ntmps117
  go_wp2_with fail
  go_ret
  exact ⟨rfl,HJ.out,fun i f x=>x,Nat.le_refl _⟩
structure IntR (w:World) (a:Option Addr) (n cap:Nat) (L:List Int):Prop where
 len:n=L.length
 le:n≤cap
 big:cap≤maxLen
 cells:L≠[]→∃ g off,a=some ⟨g,off,none⟩∧g<w.heap.size∧∀ i x,L[i]?=some x→w.cell? ⟨g,off+i,none⟩=some (.int .i64 x)
 rng:∀ x∈L,-9223372036854775808≤x∧x≤9223372036854775807
 nil:a=none→cap=0
theorem IntR.bel {w w':World} {a:Option Addr} {n cap:Nat} {L:List Int} (h:IntR w a n cap L) (hb:Below w.heap.size w w'):IntR w' a n cap L :=
 ⟨h.len,h.le,h.big,fun hne=>by obtain ⟨g,off,h1,h2,h3⟩:=h.cells hne;exact ⟨g,off,h1,Nat.lt_of_lt_of_le h2 hb.size,fun i x hx=>(hb.cell (p:=⟨g,off+i,none⟩) h2).trans (h3 i x hx)⟩,h.rng,h.nil⟩
theorem results_c2 {fn:Func} {i j:Nat} (h:fn.results=#[.cell i 43,.tmp j]) {tmps:Array Value} {W:World} {b4:Nat} {g:Fv} {v:Value} (ht:tmps.getD i undef=.pointer (some ⟨b4,0,none⟩)) (hv:tmps.getD j undef=v) (hC:C5 W b4 0 g):(results fn tmps).run Tryz.prog W=.ok (.tuple #[g.v,v]) W:=by
 obtain ⟨-,e0,e1,e2,e3,e4⟩:=hC
 simp only [Nat.zero_add] at e1 e2 e3 e4
 have ht2:tmps[i]?.getD undef=.pointer (some ⟨b4,0,none⟩):=by rw [← ht];simp
 have hv2:tmps[j]?.getD undef=v:=by rw [← hv];simp
 simp only [results,h]
 simp [go_sem,ht2,hv2,e0,e1,e2,e3,e4]
theorem results_c3 {fn:Func} {i j l:Nat} (h:fn.results=#[.cell i 43,.tmp j,.tmp l]) {tmps:Array Value} {W:World} {b4:Nat} {g:Fv} {v u:Value} (ht:tmps.getD i undef=.pointer (some ⟨b4,0,none⟩)) (hv:tmps.getD j undef=v) (hu:tmps.getD l undef=u) (hC:C5 W b4 0 g):(results fn tmps).run Tryz.prog W=.ok (.tuple #[g.v,v,u]) W:=by
 obtain ⟨-,e0,e1,e2,e3,e4⟩:=hC
 simp only [Nat.zero_add] at e1 e2 e3 e4
 have ht2:tmps[i]?.getD undef=.pointer (some ⟨b4,0,none⟩):=by rw [← ht];simp
 have hv2:tmps[j]?.getD undef=v:=by rw [← hv];simp
 have hu2:tmps[l]?.getD undef=u:=by rw [← hu];simp
 simp only [results,h]
 simp [go_sem,ht2,hv2,hu2,e0,e1,e2,e3,e4]
theorem Tryz.results93:Tryz.f93.results=#[.cell 2 43]:=rfl
theorem Tryz.results69:Tryz.f69.results=#[.cell 2 43,.tmp 3]:=rfl
structure New (W w':World) (f:Fv) (X:Ch):Prop where
 own:OwnL w' W.heap.size w'.heap.size f X
 bel:Below W.heap.size W w'
theorem below_s5 {w w1:World} (h:Below w.heap.size w w1) {b:Nat} (hb:w.heap.size≤b) (g:Fv):Below w.heap.size w (S5 w1 b g):=h.grown (but_s5 w1 b g) h.size (fun k hk=>by cases hk;exact hb)
theorem new_s5 {w w1:World} {lo b:Nat} {f f4:Fv} {X:Ch} (ho:Own w1 lo f X) (hB:Below w.heap.size w w1) (hb:w.heap.size≤b) (hlo:b<lo) (hA:At w1 b f4.o):C5 (S5 w1 b f) b 0 f∧New w (S5 w1 b f) f X :=
 ⟨(hA.set5 f).ty,⟨((ho.keep fun i o hi h=>h.S5 (by omega) f).low (by omega)).toL,below_s5 hB hb f⟩⟩
theorem new_zero {w w1:World} {b:Nat} {f4:Fv} (hB:Below w.heap.size w w1) (hb:w.heap.size≤b) (hA:At w1 b f4.o):C5 (S5 w1 b zT) b 0 zT∧New w (S5 w1 b zT) zT (.leaf 0 0) :=
 ⟨(hA.set5 zT).ty,⟨.leaf 0 0 none 0,below_s5 hB hb zT⟩⟩
theorem owned_any (c:Ch) (f:Fv) (w:World) (hc:c.ok 32) (h:TyAt w f c.ty):Calls Tryz.prog 93 #[f.v] w fun e w'=>∃ f':Fv,e=.returned f'.v∧Own w' w.heap.size f' c∧Below w.heap.size w w':=by
 have CT:Hid (Calls Tryz.prog 116 #[f.v,fnZ 117] ((w.alloc f.o).alloc zT.o) fun e w'=>∃ f':Fv,e=.returned f'.v∧TurnP ((w.alloc f.o).alloc zT.o) (fun _ W=>Below w.heap.size w W) ([]++c.regs) c f' w'):=by
  have:=turned_any0 (turnO w c.regs.length) c f [] ((w.alloc f.o).alloc zT.o) hc (by simp) h (belA (belA bR))
  rw [turn_id] at this
  exact this
 have A4:Hid (At ((w.alloc f.o).alloc zT.o) (w.heap.size+1) zT.o):=at_snd _ _ _
 obtain ⟨k,m,r,s,a,n,cap⟩:=f
 show Calls Tryz.prog 93 #[tyV k m r s a n cap] w _
 clear h hc
 go_enter Tryz.func93,Tryz.ntmps93
 go_wp2_with (go_at_call 116;refine CT.out.mono ?_;rintro e w1 ⟨f2,rfl,hP⟩;have B4:=hP.keep _ _ A4.out;have g0:=B4.tyF 0;have g1:=B4.tyF 1;have g2:=B4.tyF 2;have g3:=B4.tyF 3;have g4:=B4.tyF 4;obtain ⟨hl4,q0,q1,q2,q3,q4⟩:=B4.ty;simp only [Nat.zero_add] at q0 q1 q2 q3 q4)
 obtain ⟨F1,F2⟩:=new_s5 hP.own hP.j (b:=w.heap.size+1) (by omega) (by simp) B4
 exact bodyPost_ret (results_c1 (g:=f2) Tryz.results93 rfl F1) rfl ⟨f2,rfl,(hP.own.keep fun i o hi h=>h.S5 (by simp at hi;omega) f2).low (by simp;omega),F2.bel⟩
theorem Own_yes (c:Ch) (f:Fv) (w:World) (hc:Ok c) (h:TyAt w f c.ty):Calls Tryz.prog 69 #[f.v] w fun e w'=>∃ f':Fv,e=.returned (.tuple #[f'.v,.int .i64 0])∧New w w' f' c:=by
 have CI:Hid (Calls Tryz.prog 48 #[f.v] ((w.alloc f.o).alloc zT.o) fun e w'=>e=.returned (.bool true)∧Below ((w.alloc f.o).alloc zT.o).heap.size ((w.alloc f.o).alloc zT.o) w'):=by
  have:=some_any c.ty f _ (h.bel (belB w f zT))
  rw [hc.is] at this
  exact this
 have CO:Hid (∀ W,Below w.heap.size w W→Calls Tryz.prog 93 #[f.v] W fun e w'=>∃ f':Fv,e=.returned f'.v∧Own w' W.heap.size f' c∧Below W.heap.size W w'):=fun W hW=>owned_any c f W hc.ok (h.bel hW)
 have A2:Hid (At ((w.alloc f.o).alloc zT.o) w.heap.size f.o):=(At.new _ _).alloc _
 have A4:Hid (At ((w.alloc f.o).alloc zT.o) (w.heap.size+1) zT.o):=at_snd _ _ _
 obtain ⟨k,m,r,s,a,n,cap⟩:=f
 show Calls Tryz.prog 69 #[tyV k m r s a n cap] w _
 clear h hc
 go_enter Tryz.func69,Tryz.ntmps69
 go_wp2_with (first
  | (go_at_call 48;refine CI.out.mono ?_;rintro e w1 ⟨rfl,hb1⟩;obtain ⟨-,p0,p1,p2,p3,p4⟩:=(A2.out.below hb1).ty)
  | (go_at_call 93;refine (CO.out _ (below2 hb1)).mono ?_;rintro e w2 ⟨f2,rfl,ho2,hb2⟩;have B4:=(A4.out.below hb1).below hb2;have g0:=B4.tyF 0;have g1:=B4.tyF 1;have g2:=B4.tyF 2;have g3:=B4.tyF 3;have g4:=B4.tyF 4;obtain ⟨hl4,q0,q1,q2,q3,q4⟩:=B4.ty;simp only [Nat.zero_add] at q0 q1 q2 q3 q4))
 obtain ⟨F1,F2⟩:=new_s5 ho2 (jB (below2 hb1) hb2) (b:=w.heap.size+1) (by omega) (by have:=hb1.size;simp only [World.size_alloc] at this;omega) B4
 exact bodyPost_ret (results_c2 (g:=f2) Tryz.results69 rfl rfl F1) rfl ⟨f2,rfl,F2⟩
theorem Own_no (t:Ty) (f:Fv) (w:World) (hn:isT t=false) (h:TyAt w f t):Calls Tryz.prog 69 #[f.v] w fun e w'=>∃ f':Fv,e=.returned (.tuple #[f'.v,.int .i64 2])∧New w w' f' (.leaf 0 0):=by
 have CI:Hid (Calls Tryz.prog 48 #[f.v] ((w.alloc f.o).alloc zT.o) fun e w'=>e=.returned (.bool false)∧Below ((w.alloc f.o).alloc zT.o).heap.size ((w.alloc f.o).alloc zT.o) w'):=by
  have:=some_any t f _ (h.bel (belB w f zT))
  rw [hn] at this
  exact this
 have A4:Hid (At ((w.alloc f.o).alloc zT.o) (w.heap.size+1) zT.o):=at_snd _ _ _
 obtain ⟨k,m,r,s,a,n,cap⟩:=f
 show Calls Tryz.prog 69 #[tyV k m r s a n cap] w _
 clear h hn
 go_enter Tryz.func69,Tryz.ntmps69
 go_wp2_with (go_at_call 48;refine CI.out.mono ?_;rintro e w1 ⟨rfl,hb1⟩;have B4:=(A4.out.below hb1);have g0:=B4.tyF 0;have g1:=B4.tyF 1;have g2:=B4.tyF 2;have g3:=B4.tyF 3;have g4:=B4.tyF 4;obtain ⟨hl4,q0,q1,q2,q3,q4⟩:=B4.ty;simp only [Nat.zero_add] at q0 q1 q2 q3 q4)
 obtain ⟨F1,F2⟩:=new_zero (below2 hb1) (b:=w.heap.size+1) (by omega) B4
 exact bodyPost_ret (results_c2 (g:=zT) Tryz.results69 rfl rfl F1) rfl ⟨zT,rfl,F2⟩
end Go.Proofs.YtmjenlogbkbgnaaGreatDoor
