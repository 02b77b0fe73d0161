import Derived.Test.YtmjenlogbkbgnaaGreatDoorRows
import Derived.WalkKit
import Derived.WalkSpells
import Derived.WalkSmall
import Derived.BigQuiet
import Derived.Deep.QuietTactic
import Derived.OneCell
import Derived.Below
import Derived.Deep.Light
import Derived.Deep.RegionHeld3
import Derived.OwnWalk
namespace Go.Proofs.YtmjenlogbkbgnaaGreatDoor
open Go.RowKit
set_option linter.unusedVariables false
set_option linter.unusedSimpArgs false
set_option maxRecDepth 100000
set_option maxHeartbeats 4000000
inductive Ty
 | mk (k:Nat) (m:Bool) (r s:Int) (of:List Ty)
inductive Ch
 | leaf (k:Nat) (s:Int)
 | box (c:Ch)
 | ref (m:Bool) (r:Int) (c:Ch)
def Ch.ty:Ch→Ty
 | .leaf k s=>.mk k false 0 s []
 | .box c=>.mk 3 false 0 0 [c.ty]
 | .ref m r c=>.mk 4 m r 0 [c.ty]
def Ch.depth:Ch→Nat
 | .leaf _ _=>1
 | .box c=>c.depth+1
 | .ref _ _ c=>c.depth+1
def Ch.ok (n:Int):Ch→Prop
 | .leaf k s=>(k=1∨k=2)∧s=0∨k=5∧0≤s∧s<n
 | .box c=>c.ok n
 | .ref _ r c=>-1≤r∧c.ok n
theorem Ch.depth_pos:∀ c:Ch,1≤c.depth
 | .leaf _ _=>Nat.le_refl _
 | .box c=>by simp [Ch.depth]
 | .ref _ _ c=>by simp [Ch.depth]
def mayB (n:Int):Nat→Ty→Bool
 | 0,_=>false
 | d+1,.mk k m r s of =>
  if k=1∨k=2 then !m && decide (r=0) && decide (s=0) && decide (of.length=0)
  else if k=3 then !m && decide (r=0) && decide (s=0) && (match of with|[x]=>mayB n d x|_=>false)
  else if k=4 then decide (-1≤r) && decide (s=0) && (match of with|[x]=>mayB n d x|_=>false)
  else if k=5 then !m && decide (r=0) && decide (0≤s) && decide (s<n) && decide (of.length=0)
  else false
theorem mayB_ch {n:Int}:∀ {d:Nat} {t:Ty},mayB n d t=true→∃ c:Ch,t=c.ty∧c.ok n∧c.depth≤d
 | 0,t,h=>by simp [mayB] at h
 | d+1,.mk k m r s of,h=>by
  unfold mayB at h
  split at h
  ·rename_i hk
   simp at h
   obtain ⟨⟨⟨rfl,rfl⟩,rfl⟩,h4⟩:=h
   have:of=[]:=by simpa using h4
   subst this
   exact ⟨.leaf k 0,rfl,.inl ⟨hk,rfl⟩,by simp [Ch.depth]⟩
  split at h
  ·rename_i hk
   subst hk
   match of,h with
   | [x],h =>
    simp at h
    obtain ⟨⟨⟨rfl,rfl⟩,rfl⟩,h4⟩:=h
    obtain ⟨c,rfl,h1,h2⟩:=mayB_ch h4
    exact ⟨.box c,rfl,h1,by simp [Ch.depth];omega⟩
   | [],h=>simp at h
   | _::_::_,h=>simp at h
  split at h
  ·rename_i hk
   subst hk
   match of,h with
   | [x],h =>
    simp at h
    obtain ⟨⟨h3,rfl⟩,h4⟩:=h
    obtain ⟨c,rfl,h1,h2⟩:=mayB_ch h4
    exact ⟨.ref m r c,rfl,⟨h3,h1⟩,by simp [Ch.depth];omega⟩
   | [],h=>simp at h
   | _::_::_,h=>simp at h
  split at h
  ·rename_i hk
   simp at h
   obtain ⟨⟨⟨⟨rfl,rfl⟩,h2⟩,h3⟩,h4⟩:=h
   have:of=[]:=by simpa using h4
   subst this
   exact ⟨.leaf k s,rfl,.inr ⟨hk,h2,h3⟩,by simp [Ch.depth]⟩
  ·cases h
theorem ch_mayB {n:Int}:∀ {d:Nat} {c:Ch},c.ok n→c.depth≤d→mayB n d c.ty=true
 | 0,c,_,h=>by have:=c.depth_pos;omega
 | d+1,.leaf k s,h,_=>by
  rcases h with ⟨h,rfl⟩|⟨rfl,h1,h2⟩
  ·simp [Ch.ty,mayB,h]
  ·simp [Ch.ty,mayB,h1,h2]
 | d+1,.box c,h,hd=>by
  simp [Ch.ty,mayB]
  exact ch_mayB h (by simp [Ch.depth] at hd;omega)
 | d+1,.ref m r c,h,hd=>by
  simp [Ch.ty,mayB]
  exact ⟨h.1,ch_mayB h.2 (by simp [Ch.depth] at hd;omega)⟩
theorem Ch.ty_inj:∀ {c d:Ch},c.ty=d.ty→c=d
 | .leaf k s,.leaf k' s',h=>by simp [Ch.ty] at h;rw [h.1,h.2]
 | .leaf k s,.box _,h=>by simp [Ch.ty] at h
 | .leaf k s,.ref _ _ _,h=>by simp [Ch.ty] at h
 | .box _,.leaf _ _,h=>by simp [Ch.ty] at h
 | .box c,.box d,h=>by simp [Ch.ty] at h;rw [Ch.ty_inj h]
 | .box _,.ref _ _ _,h=>by simp [Ch.ty] at h
 | .ref _ _ _,.leaf _ _,h=>by simp [Ch.ty] at h
 | .ref _ _ _,.box _,h=>by simp [Ch.ty] at h
 | .ref m r c,.ref m' r' d,h=>by simp [Ch.ty] at h;rw [h.1,h.2.1,Ch.ty_inj h.2.2]
theorem mayB_iff {n:Int} {d:Nat} {c:Ch}:mayB n d c.ty=true↔c.ok n∧c.depth≤d:=by
 constructor
 ·intro h
  obtain ⟨c',h1,h2,h3⟩:=mayB_ch h
  rw [Ch.ty_inj h1]
  exact ⟨h2,h3⟩
 ·rintro ⟨h1,h2⟩
  exact ch_mayB h1 h2
def Ch.regs:Ch→List Int
 | .leaf _ _=>[]
 | .box c=>c.regs
 | .ref _ r c=>r::c.regs
def alikeB:Ch→Ch→Bool
 | .leaf k s,.leaf k' s'=>decide (k=k') && decide (s=s')
 | .box c,.box d=>alikeB c d
 | .ref m _ c,.ref m' _ d=>decide (m=m') && alikeB c d
 | _,_=>false
theorem alike_self:∀ c:Ch,alikeB c c=true
 | .leaf k s=>by simp [alikeB]
 | .box c=>alike_self c
 | .ref m r c=>by simp [alikeB,alike_self c]
def asksL:Bool→Ch→Ch→List (Int × Int)
 | b,.box c,.box d=>asksL b c d
 | b,.ref m r c,.ref _ r' d=>(r,r')::((if b then [(r',r)] else [])++asksL (b || m) c d)
 | _,_,_=>[]
theorem ret_bool {a b:Bool} (h:a=b):Ending.returned (.bool a)=.returned (.bool b):=by rw [h]
def At (w:World) (b:Nat) (o:Obj):Prop:=w.heap[b]?=some o
theorem At.lt {w:World} {b:Nat} {o:Obj} (h:At w b o):b<w.heap.size:=lt_of_block h
theorem At.below {w w':World} {b:Nat} {o:Obj} (h:At w b o) (hb:Below w.heap.size w w'):At w' b o:=(hb.block b h.lt).trans h
theorem At.belowB {B:Nat} {w w':World} {b:Nat} {o:Obj} (h:At w b o) (hb:Below B w w') (hB:b<B):At w' b o:=(hb.block b hB).trans h
theorem At.new (w:World) (o:Obj):At (w.alloc o) w.heap.size o:=heap_alloc_new w o
theorem At.alloc {w:World} {b:Nat} {o:Obj} (h:At w b o) (o':Obj):At (w.alloc o') b o:=(Below.heap_alloc w o' b h.lt).trans h
theorem At.drewN {w:World} {b:Nat} {o:Obj} (h:At w b o) (n:Nat):At (w.drewN n) b o:=h
theorem At.drew {w:World} {b:Nat} {o:Obj} (h:At w b o):At w.drew b o:=h
theorem At.set {w:World} {b:Nat} {o:Obj} (h:At w b o) {a:Addr} (ha:b≠a.block) (u:Value):At (w.setCell a u) b o:=(Below.heap_setCell w a u b ha).trans h
abbrev One (v:Value) (t:Nat):Obj:=.cells #[v] t (0,0)
theorem At.one {w:World} {b t:Nat} {v:Value} (h:At w b (One v t)):w.cell? ⟨b,0,none⟩=some v∧w.frozen? ⟨b,0,none⟩=false:=⟨cell_of_one h,free_of_one h⟩
theorem At.setOne {w:World} {b t:Nat} {v:Value} (h:At w b (One v t)) (u:Value):At (w.setCell ⟨b,0,none⟩ u) b (One u t):=one_setCell h
theorem at_snd (W:World) (o1 o2:Obj):At ((W.alloc o1).alloc o2) (W.heap.size+1) o2:=by
 have:=At.new (W.alloc o1) o2
 simpa only [World.size_alloc] using this
theorem below1 {w w1:World} {o1:Obj} (hb:Below (w.alloc o1).heap.size (w.alloc o1) w1):Below w.heap.size w w1 :=
 ((Below.refl _ _).alloc (Nat.le_refl _) o1).trans (hb.mono (by simp))
theorem below2 {w w1:World} {o1 o2:Obj} (hb:Below ((w.alloc o1).alloc o2).heap.size ((w.alloc o1).alloc o2) w1):Below w.heap.size w w1 :=
 (((Below.refl _ _).alloc (Nat.le_refl _) o1).alloc (by simp) o2).trans (hb.mono (by simp;omega))
theorem jB {wb W W':World} (h:Below wb.heap.size wb W) (h':Below W.heap.size W W'):Below wb.heap.size wb W':=h.trans (h'.mono h.size)
theorem belA {wb W:World} (h:Below wb.heap.size wb W) {o:Obj}:Below wb.heap.size wb (W.alloc o):=h.alloc h.size o
structure Fv where
 k:Nat
 m:Bool
 r:Int
 s:Int
 a:Option Addr
 n:Nat
 cap:Nat
abbrev tyV (k:Nat) (m:Bool) (r s:Int) (a:Option Addr) (n cap:Nat):Value:=.agg #[.int .u8 (k:Int),.bool m,.int .i64 r,.int .i64 s,.slice a n cap]
abbrev tyO (k:Nat) (m:Bool) (r s:Int) (a:Option Addr) (n cap:Nat):Obj:=.cells #[.int .u8 (k:Int),.bool m,.int .i64 r,.int .i64 s,.slice a n cap] 43 (0,0)
abbrev Fv.v (f:Fv):Value:=tyV f.k f.m f.r f.s f.a f.n f.cap
abbrev Fv.o (f:Fv):Obj:=tyO f.k f.m f.r f.s f.a f.n f.cap
def C5 (w:World) (g o:Nat) (f:Fv):Prop:=g<w.heap.size∧w.cell? ⟨g,o,none⟩=some (.int .u8 (f.k:Int))∧w.cell? ⟨g,o+1,none⟩=some (.bool f.m)∧w.cell? ⟨g,o+2,none⟩=some (.int .i64 f.r)∧w.cell? ⟨g,o+3,none⟩=some (.int .i64 f.s)∧w.cell? ⟨g,o+4,none⟩=some (.slice f.a f.n f.cap)
theorem C5.belowB {B:Nat} {w w':World} {g o:Nat} {f:Fv} (h:C5 w g o f) (hb:Below B w w') (hg:g<B):C5 w' g o f:=by
 obtain ⟨h0,h1,h2,h3,h4,h5⟩:=h
 have hc:∀ o,w'.cell? ⟨g,o,none⟩=w.cell? ⟨g,o,none⟩:=fun o=>by
  unfold World.cell?
  simp only [hb.block g hg]
 exact ⟨Nat.lt_of_lt_of_le h0 hb.size,(hc _).trans h1,(hc _).trans h2,(hc _).trans h3,(hc _).trans h4,(hc _).trans h5⟩
theorem C5.below {w w':World} {g o:Nat} {f:Fv} (h:C5 w g o f) (hb:Below w.heap.size w w'):C5 w' g o f:=h.belowB hb h.1
theorem At.ty {w:World} {b:Nat} {f:Fv} (h:At w b f.o):C5 w b 0 f:=by
 unfold At at h
 exact ⟨lt_of_block h,by simp [World.cell?,h],by simp [World.cell?,h],by simp [World.cell?,h],by simp [World.cell?,h],by simp [World.cell?,h]⟩
inductive TyAt (w:World):Fv→Ty→Prop
 | mk (k:Nat) (m:Bool) (r s:Int) (a:Option Addr) (n cap:Nat) (of:List Ty) (V:Nat→Fv) (hn:n=of.length) (hl:n≤maxLen) (hk:k≤255)
   (r0:-9223372036854775808≤r) (r1:r≤9223372036854775807) (s0:-9223372036854775808≤s) (s1:s≤9223372036854775807)
   (h1:of≠[]→∃ g off,a=some ⟨g,off,none⟩∧∀ i,i<of.length→C5 w g (off+i*5) (V i)) (h2:∀ i t,of[i]?=some t→TyAt w (V i) t):TyAt w ⟨k,m,r,s,a,n,cap⟩ (.mk k m r s of)
theorem TyAt.bel {w w':World} (hb:Below w.heap.size w w') {f:Fv} {t:Ty} (h:TyAt w f t):TyAt w' f t:=by
 induction h with
 | mk k m r s a n cap of V hn hl hk r0 r1 s0 s1 h1 h2 ih =>
  refine .mk k m r s a n cap of V hn hl hk r0 r1 s0 s1 (fun hne=>?_) ih
  obtain ⟨g,off,rfl,h⟩:=h1 hne
  exact ⟨g,off,rfl,fun i hi=>(h i hi).below hb⟩
theorem TyAt.leaf {w:World} {f:Fv} {k:Nat} {s:Int} (h:TyAt w f (Ch.leaf k s).ty):∃ a cap,f=⟨k,false,0,s,a,0,cap⟩∧k≤255∧-9223372036854775808≤s∧s≤9223372036854775807:=by
 cases h with
 | mk k m r s a n cap of V hn hl hk r0 r1 s0 s1 h1 h2=>exact ⟨a,cap,by rw [hn];rfl,hk,s0,s1⟩
theorem TyAt.one {w:World} {f:Fv} {k:Nat} {m:Bool} {r s:Int} {t:Ty} (h:TyAt w f (.mk k m r s [t])):∃ g off cap f',f=⟨k,m,r,s,some ⟨g,off,none⟩,1,cap⟩∧C5 w g off f'∧TyAt w f' t∧k≤255∧(-9223372036854775808≤r∧r≤9223372036854775807)∧(-9223372036854775808≤s∧s≤9223372036854775807):=by
 cases h with
 | mk k m r s a n cap of V hn hl hk r0 r1 s0 s1 h1 h2 =>
  obtain ⟨g,off,rfl,h⟩:=h1 (by simp)
  have h0:=h 0 (by simp)
  rw [Nat.zero_mul,Nat.add_zero] at h0
  exact ⟨g,off,cap,V 0,by rw [hn];rfl,h0,h2 0 t rfl,hk,⟨r0,r1⟩,⟨s0,s1⟩⟩
theorem TyAt.box {w:World} {f:Fv} {c:Ch} (h:TyAt w f (Ch.box c).ty):∃ g off cap f',f=⟨3,false,0,0,some ⟨g,off,none⟩,1,cap⟩∧C5 w g off f'∧TyAt w f' c.ty:=by
 obtain ⟨g,off,cap,f',h1,h2,h3,_⟩:=h.one
 exact ⟨g,off,cap,f',h1,h2,h3⟩
theorem TyAt.ref {w:World} {f:Fv} {m:Bool} {r:Int} {c:Ch} (h:TyAt w f (Ch.ref m r c).ty):∃ g off cap f',f=⟨4,m,r,0,some ⟨g,off,none⟩,1,cap⟩∧C5 w g off f'∧TyAt w f' c.ty∧-9223372036854775808≤r∧r≤9223372036854775807:=by
 obtain ⟨g,off,cap,f',h1,h2,h3,_,h4,_⟩:=h.one
 exact ⟨g,off,cap,f',h1,h2,h3,h4.1,h4.2⟩
theorem TyAt.mkLeaf {w:World} (k:Nat) (s:Int) (hk:k≤255) (s0:-9223372036854775808≤s) (s1:s≤9223372036854775807) (a:Option Addr) (cap:Nat):TyAt w ⟨k,false,0,s,a,0,cap⟩ (Ch.leaf k s).ty :=
 .mk k false 0 s a 0 cap [] (fun _=>⟨0,false,0,0,none,0,0⟩) rfl (by simp) hk (by omega) (by omega) s0 s1 (fun h=>absurd rfl h) (fun i t h=>by simp at h)
theorem TyAt.mkOne {w:World} (k:Nat) (m:Bool) (r s:Int) (hk:k≤255) (r0:-9223372036854775808≤r) (r1:r≤9223372036854775807) (s0:-9223372036854775808≤s) (s1:s≤9223372036854775807) (g off cap:Nat) (f':Fv) (t:Ty) (hc:C5 w g off f') (ht:TyAt w f' t):TyAt w ⟨k,m,r,s,some ⟨g,off,none⟩,1,cap⟩ (.mk k m r s [t]):=by
 refine .mk k m r s _ 1 cap [t] (fun _=>f') rfl (by unfold maxLen;decide) hk r0 r1 s0 s1 (fun _=>⟨g,off,rfl,fun i hi=>?_⟩) (fun i u hu=>?_)
 ·have:i=0:=by simp at hi;exact hi
  subst this
  rw [Nat.zero_mul,Nat.add_zero]
  exact hc
 ·cases i with
  | zero=>simp at hu;subst hu;exact ht
  | succ i=>simp at hu
def inB (n:Int) (d:Nat) (of:List Ty):Bool:=match of with|[x]=>mayB n d x|_=>false
theorem mayB_succ (n:Int) (d k:Nat) (m:Bool) (r s:Int) (of:List Ty):mayB n (d+1) (.mk k m r s of)=if k=1∨k=2 then !m && decide (r=0) && decide (s=0) && decide ((of.length:Int)=0)
  else if k=3 then !m && decide (r=0) && decide (s=0) && inB n d of
  else if k=4 then decide (-1≤r) && decide (s=0) && inB n d of
  else if k=5 then !m && decide (r=0) && decide (0≤s) && decide (s<n) && decide ((of.length:Int)=0)
  else false:=by
 have e0:decide (of.length=0)=decide ((of.length:Int)=0):=by apply decide_eq_decide.2;omega
 rw [← e0]
 match of with
 | []=>simp only [mayB,inB]
 | [x]=>simp only [mayB,inB]
 | x::y::r=>simp only [mayB,inB]
theorem qz (q:Nat):((q:Int) == 0)=decide (q=0):=by
 rw [show ((q:Int) == 0)=decide ((q:Int)=0) from rfl]
 apply decide_eq_decide.2
 omega
def MayC (n:Int) (d:Nat):Prop:=∀ (t:Ty) (f:Fv) (w:World) (deep:Int),deep=49 - d→TyAt w f t→Calls Tryz.prog 98 #[.int .i64 deep,.int .i64 n,f.v] w fun e w'=>e=.returned (.bool (mayB n d t))∧Below w.heap.size w w'
theorem below_of (n:Int) (d:Nat) (hd:d≤48) (ih:1≤d→MayC n d) (k:Nat) (m:Bool) (r s:Int) (a:Option Addr) (cap:Nat) (of:List Ty) (w:World) (deep:Int) (hdeep:deep=48 - d) (h:TyAt w ⟨k,m,r,s,a,of.length,cap⟩ (.mk k m r s of)) :
  Calls Tryz.prog 129 #[.int .i64 deep,.int .i64 n,.slice a of.length cap] w fun e w'=>e=.returned (.bool (inB n d of))∧Below w.heap.size w w':=by
 match of,h with
 | [x],h =>
  obtain ⟨g,off,cap',f',e,hc,ht,_⟩:=h.one
  injection e with _ _ _ _ ea en ec
  subst ea ec
  rcases Nat.eq_zero_or_pos d with h0|h0
  ·subst h0
   have hdd:deep=48:=by omega
   subst hdd
   clear hdeep ih hd h ht en hc
   go_enter Tryz.func129,Tryz.ntmps129
   go_wp2_with fail
   go_ret
   exact ⟨rfl,Below.refl _ _⟩
  ·obtain ⟨rr,hrr⟩:∃ rr,rr=inB n d [x]:=⟨_,rfl⟩
   rw [← hrr]
   have IH:Hid (Calls Tryz.prog 98 #[.int .i64 (deep+1),.int .i64 n,f'.v] w fun e w'=>e=.returned (.bool rr)∧Below w.heap.size w w'):=by
    have:=ih h0 x f' w (deep+1) (by omega) ht
    rw [hrr]
    exact this
   have d1:deep<48:=by omega
   have d0:0≤deep:=by omega
   clear hrr ih hdeep hd h0 h ht en
   obtain ⟨hg,c0,c1,c2,c3,c4⟩:=hc
   go_enter Tryz.func129,Tryz.ntmps129
   go_wp2_with (go_at_call 98;refine IH.out.mono ?_;rintro e w' ⟨rfl,hb⟩)
   go_ret
   exact ⟨rfl,hb⟩
 | [],h =>
  clear hdeep ih hd h
  by_cases hl:deep<48
  ·go_enter Tryz.func129,Tryz.ntmps129
   go_wp2_with fail
   go_ret
   exact ⟨rfl,Below.refl _ _⟩
  ·go_enter Tryz.func129,Tryz.ntmps129
   go_wp2_with fail
   go_ret
   exact ⟨rfl,Below.refl _ _⟩
 | x::y::of,h =>
  have hn:¬ (((x::y::of).length:Nat):Int)=1:=by simp;omega
  obtain ⟨q,hq⟩:∃ q,q=(x::y::of).length:=⟨_,rfl⟩
  rw [← hq] at hn
  rw [← hq]
  have hi:inB n d (x::y::of)=false:=rfl
  rw [hi]
  clear hq h hdeep ih hd hi
  by_cases hl:deep<48
  ·go_enter Tryz.func129,Tryz.ntmps129
   go_wp2_with fail
   go_ret
   exact ⟨rfl,Below.refl _ _⟩
  ·go_enter Tryz.func129,Tryz.ntmps129
   go_wp2_with fail
   go_ret
   exact ⟨rfl,Below.refl _ _⟩
theorem TyAt.inv {w:World} {f:Fv} {k:Nat} {m:Bool} {r s:Int} {of:List Ty} (h:TyAt w f (.mk k m r s of)):∃ a cap,f=⟨k,m,r,s,a,of.length,cap⟩:=by
 cases h with
 | mk k m r s a n cap of V hn hl hk r0 r1 s0 s1 h1 h2=>exact ⟨a,cap,by rw [hn]⟩
theorem may_step (n:Int) (d:Nat) (hd:d+1≤48) (ih:1≤d→MayC n d):MayC n (d+1):=by
 rintro ⟨k,m,r,s,of⟩ f w deep hdeep h
 obtain ⟨a,cap,rfl⟩:=h.inv
 have B:Hid (∀ w',Below w.heap.size w w'→Calls Tryz.prog 129 #[.int .i64 deep,.int .i64 n,.slice a of.length cap] w' fun e w1=>e=.returned (.bool (inB n d of))∧Below w'.heap.size w' w1) :=
  fun w' hb=>below_of n d (by omega) ih k m r s a cap of w' deep (by omega) (h.bel hb)
 obtain ⟨q,hq⟩:∃ q,q=of.length:=⟨_,rfl⟩
 obtain ⟨ib,hib⟩:∃ ib,ib=inB n d of:=⟨_,rfl⟩
 rw [← hq,← hib] at B
 have hres:=mayB_succ n d k m r s of
 rw [← hq,← hib] at hres
 rw [hres]
 show Calls Tryz.prog 98 #[.int .i64 deep,.int .i64 n,tyV k m r s a of.length cap] w _
 rw [← hq]
 clear hres hib hq h hdeep hd ih
 by_cases k1:k=1
 ·subst k1
  simp only [true_or,if_true]
  go_enter Tryz.func98,Tryz.ntmps98
  go_wp2_with fail
  all_goals go_ret
  all_goals (refine ⟨ret_bool ?_,belA (Below.refl _ _)⟩)
  all_goals (clear B;go_light;simp_all [qz] <;> (intros;omega))
 have kk1:¬ ((k:Int)=1):=fun e=>k1 (by omega)
 by_cases k2:k=2
 ·subst k2
  simp only [or_true,if_true]
  go_enter Tryz.func98,Tryz.ntmps98
  go_wp2_with fail
  all_goals go_ret
  all_goals (refine ⟨ret_bool ?_,belA (Below.refl _ _)⟩)
  all_goals (clear B;go_light;simp_all [qz] <;> (intros;omega))
 have kk2:¬ ((k:Int)=2):=fun e=>k2 (by omega)
 by_cases k3:k=3
 ·subst k3
  simp only [show ¬ ((3:Nat)=1∨(3:Nat)=2) from by omega,if_false,if_true]
  go_enter Tryz.func98,Tryz.ntmps98
  go_wp2_with (go_at_call 129;refine (B.out _ (belA (Below.refl _ _))).mono ?_;rintro e w1 ⟨rfl,hb1⟩)
  all_goals go_ret
  all_goals (refine ⟨ret_bool ?_,by first|exact below1 hb1|exact belA (Below.refl _ _)⟩)
  all_goals (clear B;go_light;simp_all [qz] <;> (intros;omega))
 have kk3:¬ ((k:Int)=3):=fun e=>k3 (by omega)
 by_cases k4:k=4
 ·subst k4
  simp only [show ¬ ((4:Nat)=1∨(4:Nat)=2) from by omega,show ¬ ((4:Nat)=3) from by omega,if_false,if_true]
  go_enter Tryz.func98,Tryz.ntmps98
  go_wp2_with (go_at_call 129;refine (B.out _ (belA (Below.refl _ _))).mono ?_;rintro e w1 ⟨rfl,hb1⟩)
  all_goals go_ret
  all_goals (refine ⟨ret_bool ?_,by first|exact below1 hb1|exact belA (Below.refl _ _)⟩)
  all_goals (clear B;go_light;simp_all [qz] <;> (intros;omega))
 have kk4:¬ ((k:Int)=4):=fun e=>k4 (by omega)
 by_cases k5:k=5
 ·subst k5
  simp only [show ¬ ((5:Nat)=1∨(5:Nat)=2) from by omega,show ¬ ((5:Nat)=3) from by omega,show ¬ ((5:Nat)=4) from by omega,if_false,if_true]
  go_enter Tryz.func98,Tryz.ntmps98
  go_wp2_with fail
  all_goals go_ret
  all_goals (refine ⟨ret_bool ?_,belA (Below.refl _ _)⟩)
  all_goals (clear B;go_light;simp_all [qz] <;> (intros;omega))
 have kk5:¬ ((k:Int)=5):=fun e=>k5 (by omega)
 simp only [k1,k2,k3,k4,k5,or_self,if_false]
 clear k1 k2 k3 k4 k5
 go_enter Tryz.func98,Tryz.ntmps98
 go_wp2_with fail
 go_ret
 exact ⟨rfl,belA (Below.refl _ _)⟩
theorem may_all (n:Int):∀ d,1≤d→d≤48→MayC n d
 | 0,h,_=>by omega
 | d+1,_,h=>may_step n d h (fun h1=>may_all n d h1 (by omega))
theorem mayAmong_any (n:Int) (t:Ty) (f:Fv) (w:World) (h:TyAt w f t):Calls Tryz.prog 80 #[.int .i64 n,f.v] w fun e w'=>e=.returned (.bool (mayB n 48 t))∧Below w.heap.size w w':=by
 have C:Hid (∀ w',Below w.heap.size w w'→Calls Tryz.prog 98 #[.int .i64 1,.int .i64 n,f.v] w' fun e w1=>e=.returned (.bool (mayB n 48 t))∧Below w'.heap.size w' w1):=fun w' hb=>may_all n 48 (by omega) (by omega) t f w' 1 (by omega) (h.bel hb)
 obtain ⟨rr,hrr⟩:∃ rr,rr=mayB n 48 t:=⟨_,rfl⟩
 rw [← hrr] at C ⊢
 clear hrr h
 go_enter Tryz.func80,Tryz.ntmps80
 go_wp2_with (go_at_call 98;refine (C.out _ (belA (Below.refl _ _))).mono ?_;rintro e w1 ⟨rfl,hb1⟩)
 go_ret
 exact ⟨rfl,below1 hb1⟩
abbrev isT (t:Ty):Bool:=mayB 32 48 t
theorem some_any (t:Ty) (f:Fv) (w:World) (h:TyAt w f t):Calls Tryz.prog 48 #[f.v] w fun e w'=>e=.returned (.bool (isT t))∧Below w.heap.size w w':=by
 have C:Hid (∀ w',Below w.heap.size w w'→Calls Tryz.prog 80 #[.int .i64 32,f.v] w' fun e w1=>e=.returned (.bool (isT t))∧Below w'.heap.size w' w1):=fun w' hb=>mayAmong_any 32 t f w' (h.bel hb)
 obtain ⟨rr,hrr⟩:∃ rr,rr=isT t:=⟨_,rfl⟩
 rw [← hrr] at C ⊢
 clear hrr h
 go_enter Tryz.func48,Tryz.ntmps48
 go_wp2_with (go_at_call 80;refine (C.out _ (belA (Below.refl _ _))).mono ?_;rintro e w1 ⟨rfl,hb1⟩)
 go_ret
 exact ⟨rfl,below1 hb1⟩
def CalmP (Q:Exit→Act→World→Prop):Prop:=∀ c (a:Act) (d:Tmp) (v:Value) (w:World),Q (.panic c) (a.put (some d) v) w→Q (.panic c) a w
theorem beginH {P:Program} {ops:Array Oper} {Q:Exit→Act→World→Prop} {S:World→Prop} {id:Nat} {a:Act} {w:World} (hq:CalmP Q) (hm:P.follows .mixedOrders=true) (hS:S w.drew)
  (h:CalmP Q→S w.drew→wpAnyH P .any ops Q S ops.size (Array.replicate ops.size false) a w.drew):(Code.region id ops true).wp P Q a w :=
 wp_region_held_drew hm hS (h hq)
theorem takeH {P:Program} {ops:Array Oper} {Q:Exit→Act→World→Prop} {S:World→Prop} {md:Region.Mode} {i d:Nat} {oi:Oper} (v:Value) {fuel:Nat} {listed:Array Bool} {a:Act} {w:World} (hq:CalmP Q) (hi:ops[i]?=some oi) (hd:oi.dst=some d)
  (hs:Region.noSelect ops=true) (hf:Region.free md ops listed i=true) (hr:(Region.ready md ops listed).contains i=true)
  (hw:Region.wanted oi (yielded ops a.tmps)=true) (hy:∀ w,S w→(execOp a.eval oi).run P w=.ok (.value v) w) (hS:S w)
  (h:wpAnyH P md ops Q S fuel (listed.setIfInBounds i true) (a.put (some d) v) w):wpAnyH P md ops Q S (fuel+1) listed a w :=
 wpAnyH_take hi hs hf hr (fun c a w h=>hq c a d _ w (hd ▸ h)) (Or.inl ⟨hw,hy⟩) hS (hd ▸ h)
theorem skipH {P:Program} {ops:Array Oper} {Q:Exit→Act→World→Prop} {S:World→Prop} {md:Region.Mode} {i d:Nat} {oi:Oper} {fuel:Nat} {listed:Array Bool} {a:Act} {w:World} (hq:CalmP Q) (hi:ops[i]?=some oi) (hd:oi.dst=some d)
  (hs:Region.noSelect ops=true) (hf:Region.free md ops listed i=true) (hr:(Region.ready md ops listed).contains i=true)
  (hw:Region.wanted oi (yielded ops a.tmps)=false) (hS:S w)
  (h:wpAnyH P md ops Q S fuel (listed.setIfInBounds i true) (a.put (some d) undef) w):wpAnyH P md ops Q S (fuel+1) listed a w :=
 wpAnyH_take hi hs hf hr (fun c a w h=>hq c a d _ w (hd ▸ h)) (Or.inr ⟨hw,rfl⟩) hS (hd ▸ h)
theorem putL {l:List Value} {ds:List Deferred} (d:Nat) (v:Value):Act.put ⟨l.toArray,ds⟩ (some d) v=⟨(l.set d v).toArray,ds⟩:=by simp [Act.put]
theorem tq {P:Program} {ops:Array Oper} {Q:Exit→Act→World→Prop} {S:World→Prop} {md:Region.Mode} (i d:Nat) {oi:Oper} (v:Value) {fuel:Nat} {listed:Array Bool} {l:List Value} {ds:List Deferred} {w:World} (hq:CalmP Q) (hi:ops[i]?=some oi) (hd:oi.dst=some d) (hy:∀ w,S w→(execOp (Act.eval ⟨l.toArray,ds⟩) oi).run P w=.ok (.value v) w) (hS:S w)
    (h:wpAnyH P md ops Q S fuel (listed.setIfInBounds i true) ⟨(l.set d v).toArray,ds⟩ w) (hs:Region.noSelect ops=true:=by kernel_rfl) (hf:Region.free md ops listed i=true:=by kernel_rfl) (hr:(Region.ready md ops listed).contains i=true:=by kernel_rfl)
    (hw:Region.wanted oi (yielded ops l.toArray)=true:=by rfl):wpAnyH P md ops Q S (fuel+1) listed ⟨l.toArray,ds⟩ w:=takeH v hq hi hd hs hf hr hw hy hS (by rw [putL];exact h)
theorem sq {P:Program} {ops:Array Oper} {Q:Exit→Act→World→Prop} {S:World→Prop} {md:Region.Mode} (i d:Nat) {oi:Oper} {fuel:Nat} {listed:Array Bool} {l:List Value} {ds:List Deferred} {w:World} (hq:CalmP Q) (hi:ops[i]?=some oi) (hd:oi.dst=some d) (hS:S w)
    (h:wpAnyH P md ops Q S fuel (listed.setIfInBounds i true) ⟨(l.set d undef).toArray,ds⟩ w) (hs:Region.noSelect ops=true:=by kernel_rfl) (hf:Region.free md ops listed i=true:=by kernel_rfl) (hr:(Region.ready md ops listed).contains i=true:=by kernel_rfl)
    (hw:Region.wanted oi (yielded ops l.toArray)=false:=by rfl):wpAnyH P md ops Q S (fuel+1) listed ⟨l.toArray,ds⟩ w:=skipH hq hi hd hs hf hr hw hS (by rw [putL];exact h)
theorem tz {P:Program} {ops:Array Oper} {Q:Exit→Act→World→Prop} {S:World→Prop} {md:Region.Mode} (i d:Nat) {oi:Oper} (v:Value) {fuel:Nat} {listed:Array Bool} {l:List Value} {ds:List Deferred} {w:World} (hq:CalmP Q) (hi:ops[i]?=some oi) (hd:oi.dst=some d) (hS:S w)
    (h:wpAnyH P md ops Q S fuel (listed.setIfInBounds i true) ⟨(l.set d v).toArray,ds⟩ w) (hy:∀ w,S w→(execOp (Act.eval ⟨l.toArray,ds⟩) oi).run P w=.ok (.value v) w:=by intro W hSw;go_simp;try first|rfl|(rw [IntKind.wrap_i64];omega)|(intro hh;exfalso;omega)) (hs:Region.noSelect ops=true:=by kernel_rfl) (hf:Region.free md ops listed i=true:=by kernel_rfl) (hr:(Region.ready md ops listed).contains i=true:=by kernel_rfl)
    (hw:Region.wanted oi (yielded ops l.toArray)=true:=by rfl):wpAnyH P md ops Q S (fuel+1) listed ⟨l.toArray,ds⟩ w:=takeH v hq hi hd hs hf hr hw hy hS (by rw [putL];exact h)
theorem pb {α:Type} (x:α) (l:List α) (a:α):(x::l).set 0 a=a::l:=rfl
theorem pc {α:Type} (x:α) (l:List α) (n:Nat) (a:α):(x::l).set (n+1) a=x::l.set n a:=rfl
theorem aR1 {P:Program} {ops:Array Oper} {Q:Exit→Act→World→Prop} {S:World→Prop} {md:Region.Mode} (i:Nat) {o:Oper} {fuel:Nat} {listed:Array Bool} {a:Act} {w:World} (ho:ops[i]?=some o) (h:∀ K':Act→World→Prop,Shut (∀ a w,S w→(S w→wpAnyH P md ops Q S fuel (listed.setIfInBounds i true) a w)→K' a w)→if Region.wanted o (yielded ops a.tmps)=true then Oper.wp P o a w K' Q else K' (a.put o.dst undef) w) (hr:Region.ready md ops listed=[i]:=by kernel_rfl):wpAnyH P md ops Q S (fuel+1) listed a w:=wpAnyH_ready hr (by simp) (AllReadyH.cons ho h AllReadyH.nil)
theorem aRd {P:Program} {ops:Array Oper} {Q:Exit→Act→World→Prop} {S:World→Prop} {md:Region.Mode} (rs:List Nat) {fuel:Nat} {listed:Array Bool} {a:Act} {w:World} (h:AllReadyH P md ops Q S fuel listed a w rs) (hr:Region.ready md ops listed=rs:=by kernel_rfl) (hn:rs≠[]:=by simp):wpAnyH P md ops Q S (fuel+1) listed a w:=wpAnyH_ready hr hn h
theorem bR {B:Nat} {w:World}:Below B w w:=Below.refl _ _
theorem two_new (w:World) (f g:Fv):C5 ((w.alloc f.o).alloc g.o) w.heap.size 0 f∧C5 ((w.alloc f.o).alloc g.o) (w.heap.size+1) 0 g:=⟨((At.new w f.o).alloc g.o).ty,(at_snd w f.o g.o).ty⟩
theorem belB (w:World) (f g:Fv):Below w.heap.size w ((w.alloc f.o).alloc g.o):=belA (belA (Below.refl _ _))
theorem points_any (f:Fv) (w:World):Calls Tryz.prog 81 #[f.v] w fun e w'=>e=.returned (.bool (decide (f.k=3∨f.k=4)))∧Below w.heap.size w w':=by
 obtain ⟨k,m,r,s,a,n,cap⟩:=f
 show Calls Tryz.prog 81 #[tyV k m r s a n cap] w fun e w'=>e=.returned (.bool (decide (k=3∨k=4)))∧Below w.heap.size w w'
 go_enter Tryz.func81,Tryz.ntmps81
 go_wp2_with fail
 all_goals go_ret
 all_goals (refine ⟨ret_bool ?_,belA (Below.refl _ _)⟩)
 all_goals go_light
 ·rename_i h
  symm;apply decide_eq_true;left;omega
 ·rename_i h
  have h3:¬ k=3:=fun e=>h (by omega)
  rw [Bool.eq_iff_iff]
  simp
  omega
theorem alike_no (f g:Fv) (w:World) (hd:¬ f.k=g.k∨¬ f.m=g.m∨¬ f.s=g.s):Calls Tryz.prog 49 #[f.v,g.v] w fun e w'=>e=.returned (.bool false)∧Below w.heap.size w w':=by
 obtain ⟨k,m,r,s,a,n,cap⟩:=f
 obtain ⟨k',m',r',s',a',n',cap'⟩:=g
 simp only at hd
 show Calls Tryz.prog 49 #[tyV k m r s a n cap,tyV k' m' r' s' a' n' cap'] w _
 have HD:Hid (¬ k=k'∨¬ m=m'∨¬ s=s'):=hd
 clear hd
 by_cases e1:k=k'
 ·subst e1
  by_cases e2:m=m'
  ·subst e2
   by_cases e3:s=s'
   ·subst e3
    exfalso
    have h:=HD.out
    simp at h
   ·clear HD
    go_enter Tryz.func49,Tryz.ntmps49
    go_wp2_with fail
    go_ret
    exact ⟨rfl,belA (belA (Below.refl _ _))⟩
  ·clear HD
   have e2':(m != m')=true:=by simpa using e2
   have e2'':(m == m')=false:=by simpa using e2
   go_enter Tryz.func49,Tryz.ntmps49
   go_wp2_with fail
   go_ret
   exact ⟨rfl,belA (belA (Below.refl _ _))⟩
 ·clear HD
  have e1':¬ (k:Int)=(k':Int):=by omega
  clear e1
  go_enter Tryz.func49,Tryz.ntmps49
  go_wp2_with fail
  go_ret
  exact ⟨rfl,belA (belA (Below.refl _ _))⟩
theorem alike_leaf (k:Nat) (m:Bool) (r s r':Int) (a a':Option Addr) (n cap n' cap':Nat) (w:World) (h3:¬ k=3) (h4:¬ k=4):Calls Tryz.prog 49 #[tyV k m r s a n cap,tyV k m r' s a' n' cap'] w fun e w'=>e=.returned (.bool true)∧Below w.heap.size w w':=by
 obtain ⟨N1,N2⟩:=two_new w ⟨k,m,r,s,a,n,cap⟩ ⟨k,m,r',s,a',n',cap'⟩
 have PT:Hid (∀ W,Calls Tryz.prog 81 #[tyV k m r s a n cap] W fun e w'=>e=.returned (.bool false)∧Below W.heap.size W w'):=fun W=>by
  have:=points_any ⟨k,m,r,s,a,n,cap⟩ W
  rw [show decide (k=3∨k=4)=false from decide_eq_false (by omega)] at this
  exact this
 have HB0:=belB w ⟨k,m,r,s,a,n,cap⟩ ⟨k,m,r',s,a',n',cap'⟩
 clear h3 h4
 go_enter Tryz.func49,Tryz.ntmps49
 go_wp2_with fail
 refine beginH (S:=fun W=>Below ((w.alloc (tyO k m r s a n cap)).alloc (tyO k m r' s a' n' cap')).heap.size ((w.alloc (tyO k m r s a n cap)).alloc (tyO k m r' s a' n' cap')) W) (fun _ _ _ _ _ h=>h) (by kernel_rfl) (Below.refl _ _).drew (fun hq hH=>?_)
 refine tq 0 24 (tyV k m r s a n cap) hq rfl rfl (fun W hSw=>by (obtain ⟨-,p0,p1,p2,p3,p4⟩:=N1.below hSw;go_simp;try rfl)) hH ?_
 simp only [pb,pc]
 refine aR1 1 rfl (fun K hK=>?_)
 go_simp
 refine (PT.out _).mono ?_;rintro e w1 ⟨rfl,hb1⟩;have B1:=jB hH hb1
 go_wp2_with fail
 refine hK.out _ _ B1 (fun hH=>?_)
 clear hK K
 try simp only [Act.put,List.setIfInBounds_toArray,pb,pc]
 refine tz 2 26 _ hq rfl rfl hH ?_
 simp only [pb,pc]
 refine tz 3 27 _ hq rfl rfl hH ?_
 simp only [pb,pc]
 refine sq 4 28 hq rfl rfl hH ?_
 simp only [pb,pc]
 refine sq 5 29 hq rfl rfl hH ?_
 simp only [pb,pc]
 refine sq 6 30 hq rfl rfl hH ?_
 simp only [pb,pc]
 refine sq 7 31 hq rfl rfl hH ?_
 simp only [pb,pc]
 refine sq 8 32 hq rfl rfl hH ?_
 simp only [pb,pc]
 refine sq 9 33 hq rfl rfl hH ?_
 simp only [pb,pc]
 refine sq 10 34 hq rfl rfl hH ?_
 simp only [pb,pc]
 refine sq 11 35 hq rfl rfl hH ?_
 simp only [pb,pc]
 refine sq 12 36 hq rfl rfl hH ?_
 simp only [pb,pc]
 refine tz 13 37 _ hq rfl rfl hH ?_
 simp only [pb,pc]
 refine tz 14 4 _ hq rfl rfl hH ?_
 simp only [pb,pc]
 refine wpAnyH_done (by kernel_rfl) ?_ _
 have BB:=hH
 clear hH hq
 go_wp2_with fail
 go_ret
 exact ⟨rfl,below2 BB⟩
theorem alike_one (k:Nat) (m:Bool) (r s r':Int) (g off g' off' cap cap':Nat) (f f':Fv) (rr:Bool) (w:World) (h34:k=3∨k=4) (hc:C5 w g off f) (hc':C5 w g' off' f') (ih:∀ W,Below w.heap.size w W→Calls Tryz.prog 49 #[f.v,f'.v] W fun e w'=>e=.returned (.bool rr)∧Below W.heap.size W w'):Calls Tryz.prog 49 #[tyV k m r s (some ⟨g,off,none⟩) 1 cap,tyV k m r' s (some ⟨g',off',none⟩) 1 cap'] w fun e w'=>e=.returned (.bool rr)∧Below w.heap.size w w':=by
 obtain ⟨N1,N2⟩:=two_new w ⟨k,m,r,s,some ⟨g,off,none⟩,1,cap⟩ ⟨k,m,r',s,some ⟨g',off',none⟩,1,cap'⟩
 have HB0:=belB w ⟨k,m,r,s,some ⟨g,off,none⟩,1,cap⟩ ⟨k,m,r',s,some ⟨g',off',none⟩,1,cap'⟩
 have M1:=hc.below HB0
 have M2:=hc'.below HB0
 have IH:Hid (∀ W,Below w.heap.size w W→Calls Tryz.prog 49 #[f.v,f'.v] W fun e w'=>e=.returned (.bool rr)∧Below W.heap.size W w'):=ih
 have PT:Hid (∀ W,Calls Tryz.prog 81 #[tyV k m r s (some ⟨g,off,none⟩) 1 cap] W fun e w'=>e=.returned (.bool true)∧Below W.heap.size W w'):=fun W=>by
  have:=points_any ⟨k,m,r,s,some ⟨g,off,none⟩,1,cap⟩ W
  rw [show decide (k=3∨k=4)=true from decide_eq_true h34] at this
  exact this
 clear h34 ih hc hc'
 go_enter Tryz.func49,Tryz.ntmps49
 go_wp2_with fail
 refine beginH (S:=fun W=>Below ((w.alloc (tyO k m r s (some ⟨g,off,none⟩) 1 cap)).alloc (tyO k m r' s (some ⟨g',off',none⟩) 1 cap')).heap.size ((w.alloc (tyO k m r s (some ⟨g,off,none⟩) 1 cap)).alloc (tyO k m r' s (some ⟨g',off',none⟩) 1 cap')) W) (fun _ _ _ _ _ h=>h) (by kernel_rfl) (Below.refl _ _).drew (fun hq hH=>?_)
 refine tq 0 24 (tyV k m r s (some ⟨g,off,none⟩) 1 cap) hq rfl rfl (fun W hSw=>by (obtain ⟨-,p0,p1,p2,p3,p4⟩:=N1.below hSw;go_simp;try rfl)) hH ?_
 simp only [pb,pc]
 refine aR1 1 rfl (fun K hK=>?_)
 go_simp
 refine (PT.out _).mono ?_;rintro e w1 ⟨rfl,hb1⟩;have B1:=jB hH hb1
 go_wp2_with fail
 refine hK.out _ _ B1 (fun hH=>?_)
 clear hK K
 try simp only [Act.put,List.setIfInBounds_toArray,pb,pc]
 refine tz 2 26 _ hq rfl rfl hH ?_
 simp only [pb,pc]
 refine tz 3 27 _ hq rfl rfl hH ?_
 simp only [pb,pc]
 refine tz 4 28 _ hq rfl rfl hH ?_
 simp only [pb,pc]
 refine tq 5 29 (.slice (some ⟨g,off,none⟩) 1 cap) hq rfl rfl (fun W hSw=>by (obtain ⟨-,p0,p1,p2,p3,p4⟩:=N1.below hSw;go_simp;try rfl)) hH ?_
 simp only [pb,pc]
 refine tz 6 30 (.pointer (some ⟨g,off,none⟩)) hq rfl rfl hH ?_
 simp only [pb,pc]
 refine tq 7 31 f.v hq rfl rfl (fun W hSw=>by (obtain ⟨-,p0,p1,p2,p3,p4⟩:=M1.below hSw;go_simp;try rfl)) hH ?_
 simp only [pb,pc]
 refine tz 8 32 _ hq rfl rfl hH ?_
 simp only [pb,pc]
 refine tq 9 33 (.slice (some ⟨g',off',none⟩) 1 cap') hq rfl rfl (fun W hSw=>by (obtain ⟨-,p0,p1,p2,p3,p4⟩:=N2.below hSw;go_simp;try rfl)) hH ?_
 simp only [pb,pc]
 refine tz 10 34 (.pointer (some ⟨g',off',none⟩)) hq rfl rfl hH ?_
 simp only [pb,pc]
 refine tq 11 35 f'.v hq rfl rfl (fun W hSw=>by (obtain ⟨-,p0,p1,p2,p3,p4⟩:=M2.below hSw;go_simp;try rfl)) hH ?_
 simp only [pb,pc]
 refine aR1 12 rfl (fun K hK=>?_)
 go_simp
 refine (IH.out _ (below2 hH)).mono ?_;rintro e w2 ⟨rfl,hb2⟩;have B2:=jB hH hb2
 go_wp2_with fail
 refine hK.out _ _ B2 (fun hH=>?_)
 clear hK K
 try simp only [Act.put,List.setIfInBounds_toArray,pb,pc]
 refine tz 13 37 _ hq rfl rfl hH ?_
 simp only [pb,pc]
 refine tz 14 4 _ hq rfl rfl hH ?_
 simp only [pb,pc]
 refine wpAnyH_done (by kernel_rfl) ?_ _
 have BB:=hH
 clear hH hq
 go_wp2_with fail
 go_ret
 exact ⟨rfl,below2 BB⟩
theorem alike_any:∀ (c d:Ch) (f f':Fv) (w:World),c.ok 32→d.ok 32→TyAt w f c.ty→TyAt w f' d.ty→Calls Tryz.prog 49 #[f.v,f'.v] w fun e w'=>e=.returned (.bool (alikeB c d))∧Below w.heap.size w w':=by
 intro c
 induction c with
 | leaf k s =>
  intro d f f' w hc hd h h'
  obtain ⟨a,cap,rfl,-⟩:=h.leaf
  have hk:¬ k=3∧¬ k=4:=by
   have:(k=1∨k=2)∧s=0∨k=5∧0≤s∧s<32:=hc
   omega
  cases d with
  | leaf k' s' =>
   obtain ⟨a',cap',rfl,-⟩:=h'.leaf
   by_cases e1:k=k'
   ·subst e1
    by_cases e2:s=s'
    ·subst e2
     have e:alikeB (.leaf k s) (.leaf k s)=true:=by simp [alikeB]
     rw [e]
     exact alike_leaf k false 0 s 0 a a' 0 cap 0 cap' w hk.1 hk.2
    ·have e:alikeB (.leaf k s) (.leaf k s')=false:=by simp [alikeB,e2]
     rw [e]
     exact alike_no _ _ w (.inr (.inr e2))
   ·have e:alikeB (.leaf k s) (.leaf k' s')=false:=by simp [alikeB,e1]
    rw [e]
    exact alike_no _ _ w (.inl e1)
  | box d =>
   obtain ⟨g,off,cap',f',rfl,-⟩:=h'.box
   exact alike_no _ _ w (.inl hk.1)
  | ref m r d =>
   obtain ⟨g,off,cap',f',rfl,-⟩:=h'.ref
   exact alike_no _ _ w (.inl hk.2)
 | box c ih =>
  intro d f f' w hc hd h h'
  obtain ⟨g,off,cap,f1,rfl,hc1,ht1⟩:=h.box
  cases d with
  | leaf k' s' =>
   obtain ⟨a',cap',rfl,-⟩:=h'.leaf
   have hk:¬ 3=k':=by
    have:(k'=1∨k'=2)∧s'=0∨k'=5∧0≤s'∧s'<32:=hd
    omega
   exact alike_no _ _ w (.inl hk)
  | box d =>
   obtain ⟨g',off',cap',f2,rfl,hc2,ht2⟩:=h'.box
   have e:alikeB (.box c) (.box d)=alikeB c d:=rfl
   rw [e]
   exact alike_one 3 false 0 0 0 g off g' off' cap cap' f1 f2 _ w (.inl rfl) hc1 hc2 (fun W hW=>ih d f1 f2 W hc hd (ht1.bel hW) (ht2.bel hW))
  | ref m r d =>
   obtain ⟨g',off',cap',f',rfl,-⟩:=h'.ref
   exact alike_no _ _ w (.inl (by simp))
 | ref m r c ih =>
  intro d f f' w hc hd h h'
  obtain ⟨g,off,cap,f1,rfl,hc1,ht1,-⟩:=h.ref
  cases d with
  | leaf k' s' =>
   obtain ⟨a',cap',rfl,-⟩:=h'.leaf
   have hk:¬ 4=k':=by
    have:(k'=1∨k'=2)∧s'=0∨k'=5∧0≤s'∧s'<32:=hd
    omega
   exact alike_no _ _ w (.inl hk)
  | box d =>
   obtain ⟨g',off',cap',f2,rfl,hc2,ht2⟩:=h'.box
   exact alike_no _ _ w (.inl (by simp))
  | ref m' r' d =>
   obtain ⟨g',off',cap',f2,rfl,hc2,ht2,-⟩:=h'.ref
   by_cases e1:m=m'
   ·subst e1
    have e:alikeB (.ref m r c) (.ref m r' d)=alikeB c d:=by simp [alikeB]
    rw [e]
    exact alike_one 4 m r 0 r' g off g' off' cap cap' f1 f2 _ w (.inr rfl) hc1 hc2 (fun W hW=>ih d f1 f2 W hc.2 hd.2 (ht1.bel hW) (ht2.bel hW))
   ·have e:alikeB (.ref m r c) (.ref m' r' d)=false:=by simp [alikeB,e1]
    rw [e]
    exact alike_no _ _ w (.inr (.inl e1))
inductive Stg:Nat→Prop
 | mk (n:Nat):Stg n
structure Ok (c:Ch):Prop where
 ok:c.ok 32
 deep:c.depth≤48
theorem Ok.is {c:Ch} (h:Ok c):isT c.ty=true:=ch_mayB h.ok h.deep
theorem ok_of {t:Ty} (h:isT t=true):∃ c,t=c.ty∧Ok c:=by
 obtain ⟨c,h1,h2,h3⟩:=mayB_ch h
 exact ⟨c,h1,⟨h2,h3⟩⟩
theorem Alike_of (t u:Ty) (f f':Fv) (w:World) (h:TyAt w f t) (h':TyAt w f' u) (b1 b2 rr:Bool) (h1:isT t=b1) (h2:isT u=b2) (hr:b1=true→b2=true→∀ W,Below w.heap.size w W→Calls Tryz.prog 49 #[f.v,f'.v] W fun e w'=>e=.returned (.bool rr)∧Below W.heap.size W w') (hn:¬ (b1=true∧b2=true)→rr=false):Calls Tryz.prog 21 #[f.v,f'.v] w fun e w'=>e=.returned (.bool rr)∧Below w.heap.size w w':=by
 have I1:Hid (∀ W,Below w.heap.size w W→Calls Tryz.prog 48 #[f.v] W fun e w'=>e=.returned (.bool b1)∧Below W.heap.size W w'):=fun W hW=>by
  have:=some_any t f W (h.bel hW)
  rw [h1] at this
  exact this
 have I2:Hid (∀ W,Below w.heap.size w W→Calls Tryz.prog 48 #[f'.v] W fun e w'=>e=.returned (.bool b2)∧Below W.heap.size W w'):=fun W hW=>by
  have:=some_any u f' W (h'.bel hW)
  rw [h2] at this
  exact this
 have HR:Hid (b1=true→b2=true→∀ W,Below w.heap.size w W→Calls Tryz.prog 49 #[f.v,f'.v] W fun e w'=>e=.returned (.bool rr)∧Below W.heap.size W w'):=hr
 have HN:Hid (¬ (b1=true∧b2=true)→rr=false):=hn
 clear hr hn h h' h1 h2
 obtain ⟨k,m,r,s,a,n,cap⟩:=f
 obtain ⟨k',m',r',s',a',n',cap'⟩:=f'
 have N1:=two_new w ⟨k,m,r,s,a,n,cap⟩ ⟨k',m',r',s',a',n',cap'⟩
 have HB0:=belB w ⟨k,m,r,s,a,n,cap⟩ ⟨k',m',r',s',a',n',cap'⟩
 have HN1:Hid (C5 ((w.alloc (tyO k m r s a n cap)).alloc (tyO k' m' r' s' a' n' cap')) w.heap.size 0 ⟨k,m,r,s,a,n,cap⟩∧C5 ((w.alloc (tyO k m r s a n cap)).alloc (tyO k' m' r' s' a' n' cap')) (w.heap.size+1) 0 ⟨k',m',r',s',a',n',cap'⟩):=N1
 clear N1
 show Calls Tryz.prog 21 #[tyV k m r s a n cap,tyV k' m' r' s' a' n' cap'] w _
 cases b1 with
 | false =>
  obtain rfl:=HN.out (by simp)
  clear HR HN I2
  go_enter Tryz.func21,Tryz.ntmps21
  go_wp2_with (go_at_call 48;refine (I1.out _ (belA (belA bR))).mono ?_;rintro e w1 ⟨rfl,hb1⟩)
  go_ret
  exact ⟨rfl,below2 hb1⟩
 | true =>
  cases b2 with
  | false =>
   obtain rfl:=HN.out (by simp)
   clear HR HN
   have st1:Stg 1:=.mk 1
   go_enter Tryz.func21,Tryz.ntmps21
   go_wp2_with (first
    | (have _s:=st1;clear st1 _s;go_at_call 48;refine (I1.out _ (belA (belA bR))).mono ?_;rintro e w1 ⟨rfl,hb1⟩;have st2:Stg 2:=.mk 2;obtain ⟨-,p0,p1,p2,p3,p4⟩:=HN1.out.1.below hb1;obtain ⟨-,q0,q1,q2,q3,q4⟩:=HN1.out.2.below hb1)
    | (have _s:=st2;clear st2 _s;go_at_call 48;refine (I2.out _ (below2 hb1)).mono ?_;rintro e w2 ⟨rfl,hb2⟩))
   go_ret
   exact ⟨rfl,jB (below2 hb1) hb2⟩
  | true =>
   have R:=HR.out rfl rfl
   have HR':Hid (∀ W,Below w.heap.size w W→Calls Tryz.prog 49 #[tyV k m r s a n cap,tyV k' m' r' s' a' n' cap'] W fun e w'=>e=.returned (.bool rr)∧Below W.heap.size W w'):=R
   clear HR HN R
   have st1:Stg 1:=.mk 1
   go_enter Tryz.func21,Tryz.ntmps21
   go_wp2_with (first
    | (have _s:=st1;clear st1 _s;go_at_call 48;refine (I1.out _ (belA (belA bR))).mono ?_;rintro e w1 ⟨rfl,hb1⟩;have st2:Stg 2:=.mk 2;obtain ⟨-,p0,p1,p2,p3,p4⟩:=HN1.out.1.below hb1;obtain ⟨-,q0,q1,q2,q3,q4⟩:=HN1.out.2.below hb1)
    | (have _s:=st2;clear st2 _s;go_at_call 48;refine (I2.out _ (below2 hb1)).mono ?_;rintro e w2 ⟨rfl,hb2⟩;clear p0 p1 p2 p3 p4 q0 q1 q2 q3 q4;obtain ⟨-,p0,p1,p2,p3,p4⟩:=HN1.out.1.below (hb1.trans (hb2.mono hb1.size));obtain ⟨-,q0,q1,q2,q3,q4⟩:=HN1.out.2.below (hb1.trans (hb2.mono hb1.size)))
    | (go_at_call 49;refine (HR'.out _ (jB (below2 hb1) hb2)).mono ?_;rintro e w3 ⟨rfl,hb3⟩))
   go_ret
   exact ⟨rfl,jB (jB (below2 hb1) hb2) hb3⟩
theorem Alike_yes (c d:Ch) (f f':Fv) (w:World) (h:TyAt w f c.ty) (h':TyAt w f' d.ty) (hc:Ok c) (hd:Ok d):Calls Tryz.prog 21 #[f.v,f'.v] w fun e w'=>e=.returned (.bool (alikeB c d))∧Below w.heap.size w w' :=
 Alike_of c.ty d.ty f f' w h h' true true _ hc.is hd.is (fun _ _ W hW=>alike_any c d f f' W hc.ok hd.ok (h.bel hW) (h'.bel hW)) (fun hn=>absurd ⟨rfl,rfl⟩ hn)
theorem Alike_no (t u:Ty) (f f':Fv) (w:World) (h:TyAt w f t) (h':TyAt w f' u) (hn:isT t=false∨isT u=false):Calls Tryz.prog 21 #[f.v,f'.v] w fun e w'=>e=.returned (.bool false)∧Below w.heap.size w w' :=
 Alike_of t u f f' w h h' _ _ _ rfl rfl (fun h1 h2=>by rw [h1,h2] at hn;simp at hn) (fun _=>rfl)
abbrev fnB (fn b:Nat):Value:=.func (.func fn) #[] #[.pointer (some ⟨b,0,none⟩)]
def Enters (fn:Nat):Prop:=∀ (args:Array Value) (W:World),(callFunc fn args).run Tryz.prog W=.ok (.enter fn args) W
def KeepT (W W':World):Prop:=∀ i (f:Fv),At W i f.o→At W' i f.o
structure Tell (fn b:Nat) (w0:World) (J:List Int→World→Prop):Prop where
 enters:Enters fn
 alloc:∀ l W o,J l W→J l (W.alloc o)
 bel:∀ l W,J l W→Below w0.heap.size w0 W
 call:∀ l r W,l.length≤60→-9223372036854775808≤r→r≤9223372036854775807→J l W→Calls Tryz.prog fn #[.int .i64 r,.pointer (some ⟨b,0,none⟩)] W fun e w'=>e=.returned (.tuple #[])∧J (l++[r]) w'∧KeepT W w'
theorem each_any {fn b:Nat} {w0:World} {J:List Int→World→Prop} (hT:Tell fn b w0 J):∀ (c:Ch) (f:Fv) (l:List Int) (W:World),c.ok 32→l.length+c.depth≤61→TyAt w0 f c.ty→J l W →
  Calls Tryz.prog 50 #[f.v,fnB fn b] W fun e w'=>e=.returned (.tuple #[])∧J (l++c.regs) w':=by
 intro c
 induction c with
 | leaf k s =>
  intro f l W hc hl h hJ
  obtain ⟨a,cap,rfl,-⟩:=h.leaf
  have hk:¬ (k:Int)=3∧¬ (k:Int)=4:=by
   have:(k=1∨k=2)∧s=0∨k=5∧0≤s∧s<32:=hc
   omega
  obtain ⟨k3,k4⟩:=hk
  have HJ:Hid (∀ o,J (l++(Ch.leaf k s).regs) (W.alloc o)):=fun o=>by
   rw [Ch.regs,List.append_nil]
   exact hT.alloc _ _ _ hJ
  show Calls Tryz.prog 50 #[tyV k false 0 s a 0 cap,fnB fn b] W _
  clear hJ h hc hl hT
  go_enter Tryz.func50,Tryz.ntmps50
  go_wp2_with fail
  go_end0
  exact ⟨rfl,HJ.out _⟩
 | box c ih =>
  intro f l W hc hl h hJ
  obtain ⟨g,off,cap,f',rfl,hc5,ht⟩:=h.box
  have hJ1:=hT.alloc _ _ (tyO 3 false 0 0 (some ⟨g,off,none⟩) 1 cap) hJ
  have IH:Hid (Calls Tryz.prog 50 #[f'.v,fnB fn b] (W.alloc (tyO 3 false 0 0 (some ⟨g,off,none⟩) 1 cap)) fun e w'=>e=.returned (.tuple #[])∧J (l++(Ch.box c).regs) w'):=ih f' l _ hc (by simp [Ch.depth] at hl;omega) ht hJ1
  obtain ⟨hg,p0,p1,p2,p3,p4⟩:=hc5.below (hT.bel _ _ hJ)
  show Calls Tryz.prog 50 #[tyV 3 false 0 0 (some ⟨g,off,none⟩) 1 cap,fnB fn b] W _
  clear hJ1 hJ h hc hl hT ih ht hc5
  go_enter Tryz.func50,Tryz.ntmps50
  go_wp2_with (go_at_call 50;refine IH.out.mono ?_;rintro e w1 ⟨rfl,hj1⟩)
  go_end0
  exact ⟨rfl,hj1⟩
 | ref m r c ih =>
  intro f l W hc hl h hJ
  obtain ⟨g,off,cap,f',rfl,hc5,ht,r0,r1⟩:=h.ref
  have hJ1:=hT.alloc _ _ (tyO 4 m r 0 (some ⟨g,off,none⟩) 1 cap) hJ
  have A1:At (W.alloc (tyO 4 m r 0 (some ⟨g,off,none⟩) 1 cap)) W.heap.size (Fv.o ⟨4,m,r,0,some ⟨g,off,none⟩,1,cap⟩):=At.new _ _
  have CT:Hid (Calls Tryz.prog fn #[.int .i64 r,.pointer (some ⟨b,0,none⟩)] (W.alloc (tyO 4 m r 0 (some ⟨g,off,none⟩) 1 cap)) fun e w'=>e=.returned (.tuple #[])∧J (l++[r]) w'∧KeepT (W.alloc (tyO 4 m r 0 (some ⟨g,off,none⟩) 1 cap)) w'):=hT.call l r _ (by simp [Ch.depth] at hl;omega) r0 r1 hJ1
  have IH:Hid (∀ w1,J (l++[r]) w1→Calls Tryz.prog 50 #[f'.v,fnB fn b] w1 fun e w'=>e=.returned (.tuple #[])∧J (l++(Ch.ref m r c).regs) w'):=fun w1 h1=>by
   have:=ih f' (l++[r]) w1 hc.2 (by simp [Ch.depth] at hl ⊢;omega) ht h1
   rw [List.append_assoc] at this
   exact this
  have PC:Hid (∀ w1,J (l++[r]) w1→C5 w1 g off f'):=fun w1 h1=>hc5.below (hT.bel _ _ h1)
  have hen:=hT.enters
  unfold Enters at hen
  show Calls Tryz.prog 50 #[tyV 4 m r 0 (some ⟨g,off,none⟩) 1 cap,fnB fn b] W _
  clear hJ1 hJ h hc hl hT ih ht hc5 r0 r1
  go_enter Tryz.func50,Tryz.ntmps50
  go_wp2_with fail
  refine CT.out.mono ?_
  rintro e w1 ⟨rfl,hj1,hk1⟩
  obtain ⟨-,q0,q1,q2,q3,q4⟩:=(hk1 _ _ A1).ty
  obtain ⟨-,p0,p1,p2,p3,p4⟩:=PC.out w1 hj1
  go_wp2_with (go_at_call 50;refine (IH.out w1 hj1).mono ?_;rintro e w2 ⟨rfl,hj2⟩)
  go_end0
  exact ⟨rfl,hj2⟩
end Go.Proofs.YtmjenlogbkbgnaaGreatDoor
