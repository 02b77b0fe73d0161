import Derived.Test.YtdlggpcakaofoaaGreatB01
import Derived.OwnWalk
namespace Go.Proofs.YtdlggpcakaofoaaGreat
open Go.RowKit
set_option linter.unusedVariables false
set_option linter.unusedSimpArgs false
set_option maxRecDepth 100000
set_option maxHeartbeats 2000000
inductive Stg:Nat→Prop
 | mk (n:Nat):Stg n
structure Ok (c:Ch):Prop where
 ok:c.ok 32
 deep:c.depth≤48
theorem Ok.is {c:Ch} (h:Ok c):isT c.ty=true:=ch_mayB h.ok h.deep
theorem ok_of {t:Ty} (h:isT t=true):∃ c,t=c.ty∧Ok c:=by
 obtain ⟨c,h1,h2,h3⟩:=mayB_ch h
 exact ⟨c,h1,⟨h2,h3⟩⟩
theorem Alike_of (t u:Ty) (f f':Fv) (w:World) (h:TyAt w f t) (h':TyAt w f' u) (b1 b2 rr:Bool) (h1:isT t=b1) (h2:isT u=b2) (hr:b1=true→b2=true→∀ W,Below w.heap.size w W→Calls Tryz.prog 62 #[f.v,f'.v] W fun e w'=>e=.returned (.bool rr)∧Below W.heap.size W w') (hn:¬ (b1=true∧b2=true)→rr=false):Calls Tryz.prog 34 #[f.v,f'.v] w fun e w'=>e=.returned (.bool rr)∧Below w.heap.size w w':=by
 have I1:Hid (∀ W,Below w.heap.size w W→Calls Tryz.prog 59 #[f.v] W fun e w'=>e=.returned (.bool b1)∧Below W.heap.size W w'):=fun W hW=>by
  have:=some_any t f W (h.bel hW)
  rw [h1] at this
  exact this
 have I2:Hid (∀ W,Below w.heap.size w W→Calls Tryz.prog 59 #[f'.v] W fun e w'=>e=.returned (.bool b2)∧Below W.heap.size W w'):=fun W hW=>by
  have:=some_any u f' W (h'.bel hW)
  rw [h2] at this
  exact this
 have HR:Hid (b1=true→b2=true→∀ W,Below w.heap.size w W→Calls Tryz.prog 62 #[f.v,f'.v] W fun e w'=>e=.returned (.bool rr)∧Below W.heap.size W w'):=hr
 have HN:Hid (¬ (b1=true∧b2=true)→rr=false):=hn
 clear hr hn h h' h1 h2
 obtain ⟨k,m,r,s,a,n,cap⟩:=f
 obtain ⟨k',m',r',s',a',n',cap'⟩:=f'
 have N1:=two_new w ⟨k,m,r,s,a,n,cap⟩ ⟨k',m',r',s',a',n',cap'⟩
 have HB0:=belB w ⟨k,m,r,s,a,n,cap⟩ ⟨k',m',r',s',a',n',cap'⟩
 have HN1:Hid (C5 ((w.alloc (tyO k m r s a n cap)).alloc (tyO k' m' r' s' a' n' cap')) w.heap.size 0 ⟨k,m,r,s,a,n,cap⟩∧C5 ((w.alloc (tyO k m r s a n cap)).alloc (tyO k' m' r' s' a' n' cap')) (w.heap.size+1) 0 ⟨k',m',r',s',a',n',cap'⟩):=N1
 clear N1
 show Calls Tryz.prog 34 #[tyV k m r s a n cap,tyV k' m' r' s' a' n' cap'] w _
 cases b1 with
 | false =>
  obtain rfl:=HN.out (by simp)
  clear HR HN I2
  go_enter Tryz.func34,Tryz.ntmps34
  go_wp2_with (go_at_call 59;refine (I1.out _ (belA (belA bR))).mono ?_;rintro e w1 ⟨rfl,hb1⟩)
  go_ret
  exact ⟨rfl,below2 hb1⟩
 | true =>
  cases b2 with
  | false =>
   obtain rfl:=HN.out (by simp)
   clear HR HN
   have st1:Stg 1:=.mk 1
   go_enter Tryz.func34,Tryz.ntmps34
   go_wp2_with (first
    | (have _s:=st1;clear st1 _s;go_at_call 59;refine (I1.out _ (belA (belA bR))).mono ?_;rintro e w1 ⟨rfl,hb1⟩;have st2:Stg 2:=.mk 2;obtain ⟨-,p0,p1,p2,p3,p4⟩:=HN1.out.1.below hb1;obtain ⟨-,q0,q1,q2,q3,q4⟩:=HN1.out.2.below hb1)
    | (have _s:=st2;clear st2 _s;go_at_call 59;refine (I2.out _ (below2 hb1)).mono ?_;rintro e w2 ⟨rfl,hb2⟩))
   go_ret
   exact ⟨rfl,jB (below2 hb1) hb2⟩
  | true =>
   have R:=HR.out rfl rfl
   have HR':Hid (∀ W,Below w.heap.size w W→Calls Tryz.prog 62 #[tyV k m r s a n cap,tyV k' m' r' s' a' n' cap'] W fun e w'=>e=.returned (.bool rr)∧Below W.heap.size W w'):=R
   clear HR HN R
   have st1:Stg 1:=.mk 1
   go_enter Tryz.func34,Tryz.ntmps34
   go_wp2_with (first
    | (have _s:=st1;clear st1 _s;go_at_call 59;refine (I1.out _ (belA (belA bR))).mono ?_;rintro e w1 ⟨rfl,hb1⟩;have st2:Stg 2:=.mk 2;obtain ⟨-,p0,p1,p2,p3,p4⟩:=HN1.out.1.below hb1;obtain ⟨-,q0,q1,q2,q3,q4⟩:=HN1.out.2.below hb1)
    | (have _s:=st2;clear st2 _s;go_at_call 59;refine (I2.out _ (below2 hb1)).mono ?_;rintro e w2 ⟨rfl,hb2⟩;clear p0 p1 p2 p3 p4 q0 q1 q2 q3 q4;obtain ⟨-,p0,p1,p2,p3,p4⟩:=HN1.out.1.below (hb1.trans (hb2.mono hb1.size));obtain ⟨-,q0,q1,q2,q3,q4⟩:=HN1.out.2.below (hb1.trans (hb2.mono hb1.size)))
    | (go_at_call 62;refine (HR'.out _ (jB (below2 hb1) hb2)).mono ?_;rintro e w3 ⟨rfl,hb3⟩))
   go_ret
   exact ⟨rfl,jB (jB (below2 hb1) hb2) hb3⟩
theorem Alike_yes (c d:Ch) (f f':Fv) (w:World) (h:TyAt w f c.ty) (h':TyAt w f' d.ty) (hc:Ok c) (hd:Ok d):Calls Tryz.prog 34 #[f.v,f'.v] w fun e w'=>e=.returned (.bool (alikeB c d))∧Below w.heap.size w w' :=
 Alike_of c.ty d.ty f f' w h h' true true _ hc.is hd.is (fun _ _ W hW=>alike_any c d f f' W hc.ok hd.ok (h.bel hW) (h'.bel hW)) (fun hn=>absurd ⟨rfl,rfl⟩ hn)
theorem Alike_no (t u:Ty) (f f':Fv) (w:World) (h:TyAt w f t) (h':TyAt w f' u) (hn:isT t=false∨isT u=false):Calls Tryz.prog 34 #[f.v,f'.v] w fun e w'=>e=.returned (.bool false)∧Below w.heap.size w w' :=
 Alike_of t u f f' w h h' _ _ _ rfl rfl (fun h1 h2=>by rw [h1,h2] at hn;simp at hn) (fun _=>rfl)
abbrev fnB (fn b:Nat):Value:=.func (.func fn) #[] #[.pointer (some ⟨b,0,none⟩)]
def Enters (fn:Nat):Prop:=∀ (args:Array Value) (W:World),(callFunc fn args).run Tryz.prog W=.ok (.enter fn args) W
def KeepT (W W':World):Prop:=∀ i (f:Fv),At W i f.o→At W' i f.o
structure Tell (fn b:Nat) (w0:World) (J:List Int→World→Prop):Prop where
 enters:Enters fn
 alloc:∀ l W o,J l W→J l (W.alloc o)
 bel:∀ l W,J l W→Below w0.heap.size w0 W
 call:∀ l r W,l.length≤60→-9223372036854775808≤r→r≤9223372036854775807→J l W→Calls Tryz.prog fn #[.int .i64 r,.pointer (some ⟨b,0,none⟩)] W fun e w'=>e=.returned (.tuple #[])∧J (l++[r]) w'∧KeepT W w'
theorem each_any {fn b:Nat} {w0:World} {J:List Int→World→Prop} (hT:Tell fn b w0 J):∀ (c:Ch) (f:Fv) (l:List Int) (W:World),c.ok 32→l.length+c.depth≤61→TyAt w0 f c.ty→J l W →
  Calls Tryz.prog 60 #[f.v,fnB fn b] W fun e w'=>e=.returned (.tuple #[])∧J (l++c.regs) w':=by
 intro c
 induction c with
 | leaf k s =>
  intro f l W hc hl h hJ
  obtain ⟨a,cap,rfl,-⟩:=h.leaf
  have hk:¬ (k:Int)=3∧¬ (k:Int)=4:=by
   have:(k=1∨k=2)∧s=0∨k=5∧0≤s∧s<32:=hc
   omega
  obtain ⟨k3,k4⟩:=hk
  have HJ:Hid (∀ o,J (l++(Ch.leaf k s).regs) (W.alloc o)):=fun o=>by
   rw [Ch.regs,List.append_nil]
   exact hT.alloc _ _ _ hJ
  show Calls Tryz.prog 60 #[tyV k false 0 s a 0 cap,fnB fn b] W _
  clear hJ h hc hl hT
  go_enter Tryz.func60,Tryz.ntmps60
  go_wp2_with fail
  go_end0
  exact ⟨rfl,HJ.out _⟩
 | box c ih =>
  intro f l W hc hl h hJ
  obtain ⟨g,off,cap,f',rfl,hc5,ht⟩:=h.box
  have hJ1:=hT.alloc _ _ (tyO 3 false 0 0 (some ⟨g,off,none⟩) 1 cap) hJ
  have IH:Hid (Calls Tryz.prog 60 #[f'.v,fnB fn b] (W.alloc (tyO 3 false 0 0 (some ⟨g,off,none⟩) 1 cap)) fun e w'=>e=.returned (.tuple #[])∧J (l++(Ch.box c).regs) w'):=ih f' l _ hc (by simp [Ch.depth] at hl;omega) ht hJ1
  obtain ⟨hg,p0,p1,p2,p3,p4⟩:=hc5.below (hT.bel _ _ hJ)
  show Calls Tryz.prog 60 #[tyV 3 false 0 0 (some ⟨g,off,none⟩) 1 cap,fnB fn b] W _
  clear hJ1 hJ h hc hl hT ih ht hc5
  go_enter Tryz.func60,Tryz.ntmps60
  go_wp2_with (go_at_call 60;refine IH.out.mono ?_;rintro e w1 ⟨rfl,hj1⟩)
  go_end0
  exact ⟨rfl,hj1⟩
 | ref m r c ih =>
  intro f l W hc hl h hJ
  obtain ⟨g,off,cap,f',rfl,hc5,ht,r0,r1⟩:=h.ref
  have hJ1:=hT.alloc _ _ (tyO 4 m r 0 (some ⟨g,off,none⟩) 1 cap) hJ
  have A1:At (W.alloc (tyO 4 m r 0 (some ⟨g,off,none⟩) 1 cap)) W.heap.size (Fv.o ⟨4,m,r,0,some ⟨g,off,none⟩,1,cap⟩):=At.new _ _
  have CT:Hid (Calls Tryz.prog fn #[.int .i64 r,.pointer (some ⟨b,0,none⟩)] (W.alloc (tyO 4 m r 0 (some ⟨g,off,none⟩) 1 cap)) fun e w'=>e=.returned (.tuple #[])∧J (l++[r]) w'∧KeepT (W.alloc (tyO 4 m r 0 (some ⟨g,off,none⟩) 1 cap)) w'):=hT.call l r _ (by simp [Ch.depth] at hl;omega) r0 r1 hJ1
  have IH:Hid (∀ w1,J (l++[r]) w1→Calls Tryz.prog 60 #[f'.v,fnB fn b] w1 fun e w'=>e=.returned (.tuple #[])∧J (l++(Ch.ref m r c).regs) w'):=fun w1 h1=>by
   have:=ih f' (l++[r]) w1 hc.2 (by simp [Ch.depth] at hl ⊢;omega) ht h1
   rw [List.append_assoc] at this
   exact this
  have PC:Hid (∀ w1,J (l++[r]) w1→C5 w1 g off f'):=fun w1 h1=>hc5.below (hT.bel _ _ h1)
  have hen:=hT.enters
  unfold Enters at hen
  show Calls Tryz.prog 60 #[tyV 4 m r 0 (some ⟨g,off,none⟩) 1 cap,fnB fn b] W _
  clear hJ1 hJ h hc hl hT ih ht hc5 r0 r1
  go_enter Tryz.func60,Tryz.ntmps60
  go_wp2_with fail
  refine CT.out.mono ?_
  rintro e w1 ⟨rfl,hj1,hk1⟩
  obtain ⟨-,q0,q1,q2,q3,q4⟩:=(hk1 _ _ A1).ty
  obtain ⟨-,p0,p1,p2,p3,p4⟩:=PC.out w1 hj1
  go_wp2_with (go_at_call 60;refine (IH.out w1 hj1).mono ?_;rintro e w2 ⟨rfl,hj2⟩)
  go_end0
  exact ⟨rfl,hj2⟩
theorem Tryz.info3:(Tryz.prog.info? 3).map (fun i=>(i.zero,i.size,i.bytes))=some (some (.int .i64 0),1,8):=by kernel_rfl
theorem own_ne {W:World} {B e s n b t:Nat} {v:Value} {xs:List Value} {c:Array Value} {fz:Nat × Nat} (h:W.ownsRow B e s v n xs) (hb:At W b (.cells c t fz)) (ht:e≠t):some b≠v.ownBlock:=by
 rcases h.2 with ⟨rfl,_⟩|⟨g,cap,cur,rfl,_,hg,_⟩
 ·simp [Value.ownBlock]
 ·intro e'
  simp [Value.ownBlock] at e'
  subst e'
  unfold At at hb
  rw [hb] at hg
  cases hg
  exact ht rfl
theorem At.grown {w w':World} {row:Option Nat} {b:Nat} {o:Obj} (h:At w b o) (hg:w.grownBy w' row) (hne:some b≠row):At w' b o:=(hg.block b h.lt hne).trans h
theorem keepT_alloc (W:World) (o:Obj):KeepT W (W.alloc o):=fun i f h=>h.alloc o
theorem KeepT.trans {A B C:World} (h:KeepT A B) (k:KeepT B C):KeepT A C:=fun i f x=>k i f (h i f x)
theorem keepT_set {W:World} {b t:Nat} {v:Value} (h:At W b (One v t)) (u:Value):KeepT W (W.setCell ⟨b,0,none⟩ u):=fun i f x=>x.set (fun e=>by
 subst e
 unfold At at h x
 rw [h] at x
 simp [Fv.o] at x) u
theorem keepT_grown {W W':World} {B e s n:Nat} {v:Value} {xs:List Value} (h:W.ownsRow B e s v n xs) (hg:W.grownBy W' v.ownBlock) (he:e≠46):KeepT W W':=fun i f x=>x.grown hg (own_ne h x he)
theorem own_set {W:World} {B e s n b t:Nat} {v x:Value} {xs:List Value} (h:W.ownsRow B e s v n xs) (hb:At W b (One x t)) (ht:e≠t) (u:Value):(W.setCell ⟨b,0,none⟩ u).ownsRow B e s v n xs:=by
 refine ⟨h.1,?_⟩
 rcases h.2 with hn|⟨g,cap,cur,hv,h1,hg,rest⟩
 ·exact .inl hn
 ·refine .inr ⟨g,cap,cur,hv,h1,(Below.heap_setCell W ⟨b,0,none⟩ u g (fun e'=>?_)).trans hg,rest⟩
  have:=own_ne h hb ht
  rw [hv] at this
  simp only at e'
  subst e'
  exact this rfl
theorem own_is {W:World} {B e s n:Nat} {v:Value} {xs:List Value} (h:W.ownsRow B e s v n xs) (hn:0<n):∃ g cap,v=.slice (some ⟨g,0,none⟩) n cap:=by
 rcases h.2 with ⟨_,h0⟩|⟨g,cap,cur,rfl,_⟩
 ·omega
 ·exact ⟨g,cap,rfl⟩
theorem own_sl {W:World} {B e s n:Nat} {v:Value} {xs:List Value} (h:W.ownsRow B e s v n xs):∃ a cap,v=.slice a n cap:=by
 rcases h.2 with ⟨rfl,rfl⟩|⟨g,cap,cur,rfl,_⟩
 ·exact ⟨none,0,rfl⟩
 ·exact ⟨_,cap,rfl⟩
def iCells (l:List Int):List Value:=l.map (Value.int .i64)
def JR (w0:World) (b:Nat) (l:List Int) (W:World):Prop:=∃ v,At W b (One v 33)∧W.ownsRow w0.heap.size 3 1 v l.length (iCells l)∧Below w0.heap.size w0 W∧w0.heap.size≤b
def JF (w0:World) (b:Nat) (l:List Int) (W:World):Prop:=At W b (One (.bool (!l.isEmpty)) 4)∧Below w0.heap.size w0 W∧w0.heap.size≤b
theorem tellF (w0:World) (b:Nat):Tell 172 b w0 (JF w0 b) where
 enters:=fun args W=>by kernel_rfl
 alloc:=fun l W o ⟨h1,h3,h4⟩=>⟨h1.alloc o,h3.alloc h3.size o,h4⟩
 bel:=fun l W ⟨h1,h3,h4⟩=>h3
 call:=by
  rintro l r W hl r0 r1 ⟨hA,hB,hb⟩
  have FIN:Hid (JF w0 b (l++[r]) (W.setCell ⟨b,0,none⟩ (.bool true))∧KeepT W (W.setCell ⟨b,0,none⟩ (.bool true))):=⟨⟨by rw [show (!(l++[r]).isEmpty)=true by cases l <;> rfl];exact hA.setOne (.bool true),hB.setCell hb _,hb⟩,keepT_set hA _⟩
  obtain ⟨c0,f0⟩:=hA.one
  clear hA hB
  go_enter Tryz.func172,Tryz.ntmps172
  go_wp2_with fail
  go_end0
  exact ⟨rfl,FIN.out.1,FIN.out.2⟩
theorem regs_le:∀ c:Ch,c.regs.length+1≤c.depth
 | .leaf _ _=>Nat.le_refl _
 | .box c=>by have:=regs_le c;simp only [Ch.regs,Ch.depth];omega
 | .ref _ _ c=>by have:=regs_le c;simp only [Ch.regs,Ch.depth,List.length_cons];omega
theorem hasRef_any (c:Ch) (f:Fv) (w:World) (hc:Ok c) (h:TyAt w f c.ty):Calls Tryz.prog 157 #[f.v] w fun e w'=>e=.returned (.bool (!c.regs.isEmpty))∧Below w.heap.size w w':=by
 have CE:Hid (Calls Tryz.prog 60 #[f.v,fnB 172 (w.heap.size+1)] ((w.alloc f.o).alloc (One (.bool false) 4)) fun e w'=>e=.returned (.tuple #[])∧JF w (w.heap.size+1) c.regs w'):=by
  have:=each_any (tellF w (w.heap.size+1)) c f [] ((w.alloc f.o).alloc (One (.bool false) 4)) hc.ok (by have:=hc.deep;simp;omega) h ⟨at_snd _ _ _,belA (belA bR),by omega⟩
  exact this
 obtain ⟨rr,hrr⟩:∃ rr,rr=!c.regs.isEmpty:=⟨_,rfl⟩
 have HRR:Hid (rr=!c.regs.isEmpty):=hrr
 rw [← hrr]
 obtain ⟨k,m,r,s,a,n,cap⟩:=f
 show Calls Tryz.prog 157 #[tyV k m r s a n cap] w _
 clear h hrr
 go_enter Tryz.func157,Tryz.ntmps157
 go_wp2_with (go_at_call 60;refine CE.out.mono ?_;rintro e w1 ⟨rfl,hj1⟩;have hA1:=hj1.1;rw [← HRR.out] at hA1;obtain ⟨c1,f1⟩:=hA1.one)
 go_ret
 exact ⟨rfl,hj1.2.1⟩
abbrev Two (u v:Value) (t:Nat):Obj:=.cells #[u,v] t (0,0)
def str (l:List UInt8):ByteArray:=⟨l.toArray⟩
def ah (S:List UInt8) (p:Nat):Nat:=((S[p]?).map (·.toNat)).getD 0
abbrev Rd (b:Nat) (S:List UInt8) (p:Nat) (t:Nat) (W:World):Prop:=At W b (Two (.string (str S)) (.int .i64 (p:Int)) t)
theorem belN {B:Nat} {a w:World} (h:Below B a w) (n:Nat):Below B a (w.drewN n):=⟨h.os,h.tape,h.output,h.size,h.block⟩
abbrev But (b:Nat) (w w':World):Prop:=w.grownBy w' (some b)
theorem But.refl (b:Nat) (w:World):But b w w:=World.grownBy.refl w _
theorem But.trans {b:Nat} {x y z:World} (h:But b x y) (k:But b y z):But b x z:=⟨k.os.trans h.os,k.tape.trans h.tape,k.output.trans h.output,Nat.le_trans h.size k.size,fun i hi hn=>(k.block i (Nat.lt_of_lt_of_le hi h.size) hn).trans (h.block i hi hn)⟩
theorem But.below {b:Nat} {x y:World} (h:Below x.heap.size x y):But b x y:=⟨h.os,h.tape,h.output,h.size,fun i hi _=>h.block i hi⟩
theorem But.set {b:Nat} {x y:World} (h:But b x y) (o:Nat) (u:Value):But b x (y.setCell ⟨b,o,none⟩ u) :=
 have k:Below b y (y.setCell ⟨b,o,none⟩ u):=(Below.refl b y).setCell (p:=⟨b,o,none⟩) (Nat.le_refl _) u
 ⟨k.os.trans h.os,k.tape.trans h.tape,k.output.trans h.output,Nat.le_trans h.size k.size,fun i hi hn=>(Below.heap_setCell y ⟨b,o,none⟩ u i (fun e=>hn (congrArg some e))).trans (h.block i hi hn)⟩
theorem But.drew {b:Nat} {x y:World} (h:But b x y):But b x y.drew:=⟨h.os,h.tape,h.output,h.size,h.block⟩
theorem But.alloc {b:Nat} {x y:World} (h:But b x y) (o:Obj):But b x (y.alloc o):=h.trans (But.below (belA bR))
theorem At.but {b i:Nat} {x y:World} {o:Obj} (h:At x i o) (k:But b x y) (hn:i≠b):At y i o:=h.grown k (fun e=>hn (Option.some.inj e))
theorem Rd.go {b:Nat} {S:List UInt8} {p t:Nat} {W:World} (h:Rd b S p t W) (q:Nat):Rd b S q t (W.setCell ⟨b,1,none⟩ (.int .i64 (q:Int))):=by
 have:=heap_setCell_same W b 1 #[.string (str S),.int .i64 (p:Int)] t (.int .i64 (q:Int)) h
 unfold Rd At
 simpa using this
def tk (S:List UInt8):List UInt8→Nat→Nat × Bool
 | [],p=>(p,true)
 | c::r,p=>if ah S p=c.toNat then tk S r (p+1) else (p,false)
def nmG (S:List UInt8) (most:Int) (fr:Nat):Nat→Int→Nat→Int × Nat
 | 0,n,p=>(n,p)
 | fuel+1,n,p=>if (48≤ah S p∧ah S p≤57)∧¬ ((most - ((ah S p:Int) - 48)).tdiv 10<n∨(n=0∧fr<p)) then nmG S most fr fuel (n*10+((ah S p:Int) - 48)) (p+1) else (n,p)
def nm (S:List UInt8) (most:Int) (p:Nat):Int × Nat:=nmG S most p (S.length - p) 0 p
inductive Own (w:World) (lo:Nat):Fv→Ch→Prop
 | leaf (k:Nat) (s:Int):Own w lo ⟨k,false,0,s,none,0,0⟩ (.leaf k s)
 | box (g:Nat) (f:Fv) (c:Ch) (hg:lo≤g) (h:At w g f.o) (hc:Own w lo f c):Own w lo ⟨3,false,0,0,some ⟨g,0,none⟩,1,1⟩ (.box c)
 | ref (m:Bool) (r:Int) (g:Nat) (f:Fv) (c:Ch) (hg:lo≤g) (h:At w g f.o) (hc:Own w lo f c):Own w lo ⟨4,m,r,0,some ⟨g,0,none⟩,1,1⟩ (.ref m r c)
theorem Own.keep {w w':World} {lo:Nat} (hk:∀ g o,lo≤g→At w g o→At w' g o) {f:Fv} {c:Ch} (h:Own w lo f c):Own w' lo f c:=by
 induction h with
 | leaf k s=>exact .leaf k s
 | box g f c hg h hc ih=>exact .box g f c hg (hk g _ hg h) ih
 | ref m r g f c hg h hc ih=>exact .ref m r g f c hg (hk g _ hg h) ih
theorem Own.low {w:World} {lo lo':Nat} (hl:lo'≤lo) {f:Fv} {c:Ch} (h:Own w lo f c):Own w lo' f c:=by
 induction h with
 | leaf k s=>exact .leaf k s
 | box g f c hg h hc ih=>exact .box g f c (Nat.le_trans hl hg) h ih
 | ref m r g f c hg h hc ih=>exact .ref m r g f c (Nat.le_trans hl hg) h ih
theorem Own.but {w w':World} {b lo:Nat} {f:Fv} {c:Ch} (h:Own w lo f c) (k:But b w w') (hb:b<lo):Own w' lo f c:=h.keep fun g o hg hA=>hA.but k (by omega)
theorem Own.bel {w w':World} {lo:Nat} {f:Fv} {c:Ch} (h:Own w lo f c) (k:Below w.heap.size w w'):Own w' lo f c:=h.keep fun g o hg hA=>hA.below k
def Ch.rg:Ch→Prop
 | .leaf k s=>k≤255∧-9223372036854775808≤s∧s≤9223372036854775807
 | .box c=>c.rg
 | .ref _ r c=>(-9223372036854775808≤r∧r≤9223372036854775807)∧c.rg
theorem Own.ty {w:World} {lo:Nat} {f:Fv} {c:Ch} (h:Own w lo f c):c.rg→TyAt w f c.ty:=by
 induction h with
 | leaf k s=>exact fun hr=>TyAt.mkLeaf k s hr.1 hr.2.1 hr.2.2 none 0
 | box g f c hg h hc ih=>exact fun hr=>TyAt.mkOne 3 false 0 0 (by omega) (by omega) (by omega) (by omega) (by omega) g 0 1 f _ h.ty (ih hr)
 | ref m r g f c hg h hc ih=>exact fun hr=>TyAt.mkOne 4 m r 0 (by omega) hr.1.1 hr.1.2 (by omega) (by omega) g 0 1 f _ h.ty (ih hr.2)
abbrev zT:Fv:=⟨0,false,0,0,none,0,0⟩
theorem At.set5 {w:World} {b:Nat} {f:Fv} (h:At w b f.o) (g:Fv):At (((((w.setCell ⟨b,0,none⟩ (.int .u8 (g.k:Int))).setCell ⟨b,1,none⟩ (.bool g.m)).setCell ⟨b,2,none⟩ (.int .i64 g.r)).setCell ⟨b,3,none⟩ (.int .i64 g.s)).setCell ⟨b,4,none⟩ (.slice g.a g.n g.cap)) b g.o:=by
 have h1:=heap_setCell_same w b 0 _ 46 (.int .u8 (g.k:Int)) h
 have h2:=heap_setCell_same _ b 1 _ 46 (.bool g.m) h1
 have h3:=heap_setCell_same _ b 2 _ 46 (.int .i64 g.r) h2
 have h4:=heap_setCell_same _ b 3 _ 46 (.int .i64 g.s) h3
 have h5:=heap_setCell_same _ b 4 _ 46 (.slice g.a g.n g.cap) h4
 unfold At
 simpa using h5
theorem At.tyF {w:World} {b:Nat} {f:Fv} (h:At w b f.o) (o:Nat):w.frozen? ⟨b,o,none⟩=false:=frozen_of_row w b o _ 46 h
abbrev S5 (w:World) (b:Nat) (g:Fv):World:=((((w.setCell ⟨b,0,none⟩ (.int .u8 (g.k:Int))).setCell ⟨b,1,none⟩ (.bool g.m)).setCell ⟨b,2,none⟩ (.int .i64 g.r)).setCell ⟨b,3,none⟩ (.int .i64 g.s)).setCell ⟨b,4,none⟩ (.slice g.a g.n g.cap)
theorem At.S5 {w:World} {b i:Nat} {o:Obj} (h:At w i o) (hi:i≠b) (g:Fv):At (S5 w b g) i o:=((((h.set hi _).set hi _).set hi _).set hi _).set hi _
theorem size_S5 (w:World) (b:Nat) (g:Fv):(S5 w b g).heap.size=w.heap.size:=by simp [S5]
theorem C5.drew {w:World} {g o:Nat} {f:Fv} (h:C5 w g o f):C5 w.drew g o f:=h
theorem Own.drew {w:World} {lo:Nat} {f:Fv} {c:Ch} (h:Own w lo f c):Own w.drew lo f c:=Own.keep (w:=w) (w':=w.drew) (fun _ _ _ h=>h) h
inductive OwnL (w:World) (lo hi:Nat):Fv→Ch→Prop
 | leaf (k:Nat) (s:Int) (a:Option Addr) (cap:Nat):OwnL w lo hi ⟨k,false,0,s,a,0,cap⟩ (.leaf k s)
 | box (g:Nat) (f:Fv) (c:Ch) (hg:lo≤g) (hh:g<hi) (h:At w g f.o) (hc:OwnL w lo hi f c):OwnL w lo hi ⟨3,false,0,0,some ⟨g,0,none⟩,1,1⟩ (.box c)
 | ref (m:Bool) (r:Int) (g:Nat) (f:Fv) (c:Ch) (hg:lo≤g) (hh:g<hi) (h:At w g f.o) (hc:OwnL w lo hi f c):OwnL w lo hi ⟨4,m,r,0,some ⟨g,0,none⟩,1,1⟩ (.ref m r c)
theorem OwnL.keep {w w':World} {lo hi:Nat} (hk:∀ g o,lo≤g→g<hi→At w g o→At w' g o) {f:Fv} {c:Ch} (h:OwnL w lo hi f c):OwnL w' lo hi f c:=by
 induction h with
 | leaf k s a cap=>exact .leaf k s a cap
 | box g f c hg hh h hc ih=>exact .box g f c hg hh (hk g _ hg hh h) ih
 | ref m r g f c hg hh h hc ih=>exact .ref m r g f c hg hh (hk g _ hg hh h) ih
theorem OwnL.low {w:World} {lo lo' hi hi':Nat} (hl:lo'≤lo) (hh:hi≤hi') {f:Fv} {c:Ch} (h:OwnL w lo hi f c):OwnL w lo' hi' f c:=by
 induction h with
 | leaf k s a cap=>exact .leaf k s a cap
 | box g f c hg hh' h hc ih=>exact .box g f c (Nat.le_trans hl hg) (Nat.lt_of_lt_of_le hh' hh) h ih
 | ref m r g f c hg hh' h hc ih=>exact .ref m r g f c (Nat.le_trans hl hg) (Nat.lt_of_lt_of_le hh' hh) h ih
theorem OwnL.bel {w w':World} {lo hi:Nat} {f:Fv} {c:Ch} (h:OwnL w lo hi f c) (k:Below w.heap.size w w'):OwnL w' lo hi f c:=h.keep fun g o _ _ hA=>hA.below k
theorem OwnL.ty {w:World} {lo hi:Nat} {f:Fv} {c:Ch} (h:OwnL w lo hi f c):c.rg→TyAt w f c.ty:=by
 induction h with
 | leaf k s a cap=>exact fun hr=>TyAt.mkLeaf k s hr.1 hr.2.1 hr.2.2 a cap
 | box g f c hg hh h hc ih=>exact fun hr=>TyAt.mkOne 3 false 0 0 (by omega) (by omega) (by omega) (by omega) (by omega) g 0 1 f _ h.ty (ih hr)
 | ref m r g f c hg hh h hc ih=>exact fun hr=>TyAt.mkOne 4 m r 0 (by omega) hr.1.1 hr.1.2 (by omega) (by omega) g 0 1 f _ h.ty (ih hr.2)
theorem Own.toL {w:World} {lo:Nat} {f:Fv} {c:Ch} (h:Own w lo f c):OwnL w lo w.heap.size f c:=by
 induction h with
 | leaf k s=>exact .leaf k s none 0
 | box g f c hg h hc ih=>exact .box g f c hg h.lt h ih
 | ref m r g f c hg h hc ih=>exact .ref m r g f c hg h.lt h ih
structure Out (lo hi:Nat) (w w':World):Prop where
 bel:Below lo w w'
 hi:∀ i,hi≤i→i<w.heap.size→w'.heap[i]?=w.heap[i]?
 form:∀ i (f:Fv),At w i f.o→∃ f':Fv,At w' i f'.o
theorem Out.refl (lo hi:Nat) (w:World):Out lo hi w w:=⟨Below.refl _ _,fun _ _ _=>rfl,fun i f h=>⟨f,h⟩⟩
theorem Out.trans {lo hi:Nat} {a b c:World} (h:Out lo hi a b) (k:Out lo hi b c):Out lo hi a c :=
 ⟨h.bel.trans k.bel,fun i h1 h2=>(k.hi i h1 (Nat.lt_of_lt_of_le h2 h.bel.size)).trans (h.hi i h1 h2),fun i f hA=>by obtain ⟨f',h'⟩:=h.form i f hA;exact k.form i f' h'⟩
theorem Out.of {lo hi:Nat} {a b:World} (h:Below a.heap.size a b) (hl:lo≤a.heap.size):Out lo hi a b:=⟨h.mono hl,fun i _ hi=>h.block i hi,fun i f hA=>⟨f,hA.below h⟩⟩
theorem Out.at {lo hi:Nat} {a b:World} (h:Out lo hi a b) {i:Nat} {o:Obj} (hA:At a i o) (hi':i<lo∨hi≤i):At b i o:=by
 rcases hi' with h1|h1
 ·exact hA.belowB h.bel h1
 ·exact (h.hi i h1 hA.lt).trans hA
theorem Out.alloc {lo hi:Nat} {a b:World} (h:Out lo hi a b) (hl:lo≤a.heap.size) (o:Obj):Out lo hi a (b.alloc o):=h.trans (Out.of (belA bR) (Nat.le_trans hl h.bel.size))
theorem Out.S5 {lo hi:Nat} {a b:World} (h:Out lo hi a b) {g:Nat} (h1:lo≤g) (h2:g<hi) {f:Fv} (hA:At b g f.o) (f':Fv):Out lo hi a (S5 b g f'):=by
 refine h.trans ⟨(((bR.setCell (p:=⟨g,0,none⟩) h1 _).setCell (p:=⟨g,1,none⟩) h1 _ |>.setCell (p:=⟨g,2,none⟩) h1 _).setCell (p:=⟨g,3,none⟩) h1 _).setCell (p:=⟨g,4,none⟩) h1 _,fun i hi hlt=>?_,fun i f hi=>?_⟩
 ·obtain ⟨o,ho⟩:∃ o,b.heap[i]?=some o:=⟨_,Array.getElem?_eq_getElem hlt⟩
  exact (At.S5 (b:=g) (show At b i o from ho) (by omega) f').trans ho.symm
 ·by_cases e:i=g
  ·subst e
   exact ⟨f',hA.set5 f'⟩
  ·exact ⟨f,hi.S5 e f'⟩
theorem OwnL.out {w w':World} {lo hi lo' hi':Nat} {f:Fv} {c:Ch} (h:OwnL w lo hi f c) (k:Out lo' hi' w w') (hd:hi≤lo'∨hi'≤lo):OwnL w' lo hi f c:=h.keep fun g o h1 h2 hA=>k.at hA (by omega)
end Go.Proofs.YtdlggpcakaofoaaGreat
