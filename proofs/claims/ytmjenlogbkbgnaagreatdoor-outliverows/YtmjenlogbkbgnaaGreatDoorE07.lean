import Derived.Test.YtmjenlogbkbgnaaGreatDoorC01
import Derived.BigQuiet
namespace Go.Proofs.YtmjenlogbkbgnaaGreatDoor
open Go.RowKit Go.Shelf
set_option linter.unusedVariables false
set_option linter.unusedSimpArgs false
set_option maxRecDepth 100000
set_option maxHeartbeats 4000000
theorem append_rows {P:Program} {w:World} {o:Oper} {a:Act} {K:Act→World→Prop} {Q:Exit→Act→World→Prop} (s x:Operand) (t:TypeId)
  (ho:o.op=.call { callee:=.builtin .append,args:=#[s,x],argTypes:=#[t,t] })
  (base B2:Nat) (e:TypeId) (i:TypeInfo) (z:Value) (size bytes:Nat) (ht:P.underlying t=some (.slice e)) (hi:P.info? e=some i) (hz:i.zero=some z)
  (hsize:i.size=size) (hby:i.bytes=bytes) (hzs:z.cells.size=size) (hsz:0<size)
  (v:Value) (n:Nat) (xs:List Value) (hs:a.eval s=v) (hown:w.ownsRow base e size v n xs)
  (v2:Value) (m:Nat) (ys:List Value) (hx:a.eval x=v2) (hown2:w.ownsRow B2 e size v2 m ys) (h1:∀ u∈ys,u.oneCell'=true)
  (h63:n+m≤maxLen) (hbytes:(n+m)*bytes≤140737488355328) (hbase:base≤w.heap.size)
  (h:∀ v' w',w'.ownsRow base e size v' (n+m) (xs++ys)→w.grownBy w' v.ownBlock→K (a.put o.dst v') w'):o.wp P a w K Q:=by
 rcases hown2.2 with ⟨rfl,rfl⟩|⟨g,cap,cur,rfl,_,hg,_⟩
 ·have hrun:=run_append_owned_none (P:=P) (w:=w) base t o.type e i size ht hi v n xs hown
  unfold Oper.wp
  simp [execOp,ho,resolve,invoke,builtin,hs,hx,hrun,Result.andThen]
  have hy:ys=[]:=List.length_eq_zero_iff.1 (by have:=hown2.1;simpa using this)
  subst hy
  exact h v w (by simpa using hown) (World.grownBy.refl w _)
 ·exact wp_append_own w s x t ho base e i z size bytes ht hi hz hsize hby hzs hsz v n xs hs hown ⟨g,0,none⟩ m cap ys hx hown2.1 (hown2.cells (g:=g) rfl) h1 h63 hbytes hbase (fun v' w' h2 h3 _=>h v' w' h2 h3)
theorem cC_ones (l:List (Int × Int)):∀ u∈cC l,u.oneCell'=true:=fun u hu=>by
 simp [cC] at hu
 obtain ⟨a,b,_,h|h⟩:=hu <;> (subst h;rfl)
theorem cC_app (a b:List (Int × Int)):cC (a++b)=cC a++cC b:=by simp [cC,List.flatMap_append]
def RFl (c d:Ch) (bm:Bool):Prop:=∀ (f f':Fv) (W:World),TyAt W f c.ty→TyAt W f' d.ty→Calls Tryz.prog 40 #[f.v,f'.v,.bool bm] W fun e w'=>(∃ v,e=.returned v∧w'.ownsRow W.heap.size 36 2 v (asksL bm c d).length (cC (asksL bm c d)))∧Below W.heap.size W w'
theorem rfl_leaf (k:Nat) (s:Int) (hk:k≠4) (d:Ch) (bm:Bool):RFl (.leaf k s) d bm:=by
 intro f f' W h h'
 obtain ⟨a,cap,rfl,-⟩:=h.leaf
 obtain ⟨k',m',r',s',a',n',cap'⟩:=f'
 show Calls Tryz.prog 40 #[tyV k false 0 s a 0 cap,tyV k' m' r' s' a' n' cap',.bool bm] W _
 have e:asksL bm (.leaf k s) d=[]:=by simp [asksL]
 rw [e]
 have hk2:((k:Int) == 4)=false:=by simp;omega
 clear h h' e
 go_enter Tryz.func40,Tryz.ntmps40
 go_wp2_with fail
 go_ret
 exact ⟨⟨_,rfl,World.ownsRow_nil _ _ _ _⟩,belA (belA bR)⟩
theorem rfl_box (c d:Ch) (bm:Bool) (hdp:c.depth≤48) (ih:RFl c d bm):RFl (.box c) (.box d) bm:=by
 intro F F' W h h'
 obtain ⟨g,off,cap,f,rfl,hc,ht⟩:=h.box
 obtain ⟨g',off',cap',f',rfl,hc',ht'⟩:=h'.box
 obtain ⟨i0,hi,hz0,hz1,hz2⟩:=info_parts Tryz.info36
 have hlen:=asksL_len bm c d
 obtain ⟨L,hL⟩:∃ L,L=asksL bm c d:=⟨_,rfl⟩
 have HLN:Hid (L.length≤200):=jH (by rw [hL];omega)
 have HC:=jH (fun (V:World) (hV:Below W.heap.size W V)=>(⟨hc.below hV,hc'.below hV⟩:C5 V g off f∧C5 V g' off' f'))
 have IH:=jH (fun (V:World) (hV:Below W.heap.size W V)=>ih f f' V (ht.bel hV) (ht'.bel hV))
 rw [← hL] at IH
 obtain ⟨LL,hLL⟩:∃ LL,LL=asksL bm (.box c) (.box d):=⟨_,rfl⟩
 rw [← hLL]
 have HLL:Hid (LL=[]++L):=jH (by rw [hLL,hL];rfl)
 have A1:Hid (At ((W.alloc (Fv.o ⟨3,false,0,0,some ⟨g,off,none⟩,1,cap⟩)).alloc (Fv.o ⟨3,false,0,0,some ⟨g',off',none⟩,1,cap'⟩)) W.heap.size (Fv.o ⟨3,false,0,0,some ⟨g,off,none⟩,1,cap⟩)):=jH ((At.new _ _).alloc _)
 have A2:Hid (At ((W.alloc (Fv.o ⟨3,false,0,0,some ⟨g,off,none⟩,1,cap⟩)).alloc (Fv.o ⟨3,false,0,0,some ⟨g',off',none⟩,1,cap'⟩)) (W.heap.size+1) (Fv.o ⟨3,false,0,0,some ⟨g',off',none⟩,1,cap'⟩)):=jH (at_snd _ _ _)
 have B0:Hid (Below W.heap.size W ((W.alloc (Fv.o ⟨3,false,0,0,some ⟨g,off,none⟩,1,cap⟩)).alloc (Fv.o ⟨3,false,0,0,some ⟨g',off',none⟩,1,cap'⟩))):=jH (belA (belA bR))
 have O7:Hid (((W.alloc (Fv.o ⟨3,false,0,0,some ⟨g,off,none⟩,1,cap⟩)).alloc (Fv.o ⟨3,false,0,0,some ⟨g',off',none⟩,1,cap'⟩)).ownsRow W.heap.size 36 2 (.slice none 0 0) ([]:List (Int × Int)).length (cC [])):=jH (World.ownsRow_nil _ _ _ _)
 show Calls Tryz.prog 40 #[tyV 3 false 0 0 (some ⟨g,off,none⟩) 1 cap,tyV 3 false 0 0 (some ⟨g',off',none⟩) 1 cap',.bool bm] W _
 clear h h' hc hc' ht ht' ih hL hlen
 go_enter Tryz.func40,Tryz.ntmps40
 go_upto_region 8 with fail
 clear hLL
 generalize ((W.alloc (Fv.o ⟨3,false,0,0,some ⟨g,off,none⟩,1,cap⟩)).alloc (Fv.o ⟨3,false,0,0,some ⟨g',off',none⟩,1,cap'⟩))=V at A1 A2 B0 O7 ⊢
 have hl0:(([]:List (Int × Int))).length=0:=rfl
 refine beginH (S:=fun V=>At V W.heap.size (Fv.o ⟨3,false,0,0,some ⟨g,off,none⟩,1,cap⟩)∧At V (W.heap.size+1) (Fv.o ⟨3,false,0,0,some ⟨g',off',none⟩,1,cap'⟩)∧C5 V g off f∧C5 V g' off' f') (fun _ _ _ _ _ h=>h) (by kernel_rfl) ⟨A1.out.drew,A2.out.drew,(HC.out _ (B0.out.drew)).1,(HC.out _ (B0.out.drew)).2⟩ (fun hq hH=>?_)
 refine tz 0 37 (.slice none 0 0) hq rfl rfl hH ?_
 simp only [pb,pc]
 refine tz 1 38 (.pointer (some ⟨W.heap.size,4,none⟩)) hq rfl rfl hH ?_
 simp only [pb,pc]
 refine tq 2 39 (.slice (some ⟨g,off,none⟩) 1 cap) hq rfl rfl (fun W hSw=>by (obtain ⟨-,p0,p1,p2,p3,p4⟩:=hSw.1.ty;simp only [Nat.zero_add] at p0 p1 p2 p3 p4;go_simp;try rfl)) hH ?_
 simp only [pb,pc]
 refine tz 3 40 (.pointer (some ⟨g,off,none⟩)) hq rfl rfl hH ?_
 simp only [pb,pc]
 refine tq 4 41 (f.v) hq rfl rfl (fun W hSw=>by (obtain ⟨-,p0,p1,p2,p3,p4⟩:=hSw.2.2.1;go_simp;try rfl)) hH ?_
 simp only [pb,pc]
 refine tz 5 42 (.pointer (some ⟨W.heap.size+1,4,none⟩)) hq rfl rfl hH ?_
 simp only [pb,pc]
 refine tq 6 43 (.slice (some ⟨g',off',none⟩) 1 cap') hq rfl rfl (fun W hSw=>by (obtain ⟨-,p0,p1,p2,p3,p4⟩:=hSw.2.1.ty;simp only [Nat.zero_add] at p0 p1 p2 p3 p4;go_simp;try rfl)) hH ?_
 simp only [pb,pc]
 refine tz 7 44 (.pointer (some ⟨g',off',none⟩)) hq rfl rfl hH ?_
 simp only [pb,pc]
 refine tq 8 45 (f'.v) hq rfl rfl (fun W hSw=>by (obtain ⟨-,p0,p1,p2,p3,p4⟩:=hSw.2.2.2;go_simp;try rfl)) hH ?_
 simp only [pb,pc]
 refine tz 9 46 (.bool bm) hq rfl rfl hH ?_
 simp only [pb,pc]
 refine aR1 10 rfl (fun K hK=>?_)
 have C9:=jH (IH.out _ B0.out.drew)
 go_simp
 refine C9.out.mono ?_
 rintro e w2 ⟨⟨v,rfl,hv⟩,hb2⟩
 have B2:Below V.heap.size V w2:=⟨hb2.os,hb2.tape,hb2.output,hb2.size,hb2.block⟩
 have HB2:=jH B2
 have A1b:=jH (A1.out.below B2)
 have A2b:=jH (A2.out.below B2)
 have O7b:=jH (own_bel O7.out B2)
 have BW2:=jH (jB B0.out B2)
 obtain ⟨av,cv,hvv⟩:=own_sl hv
 subst hvv
 have HV:=jH hv
 clear hv hb2 B2 C9
 go_wp2_with fail
 refine hK.out _ _ ⟨A1b.out,A2b.out,(HC.out _ BW2.out).1,(HC.out _ BW2.out).2⟩ (fun hH=>?_)
 clear hK K
 try simp only [Act.put,List.setIfInBounds_toArray,pb,pc]
 refine aR1 11 rfl (fun K hK=>?_)
 rw [if_pos (by rfl)]
 refine append_rows (.tmp 37) (.tmp 47) 28 rfl W.heap.size _ 36 i0 (.agg #[.int .i64 0,.int .i64 0]) 2 16 Tryz.underlying28 hi hz0 hz1 hz2 rfl (by decide) _ ([]:List (Int × Int)).length _ rfl O7b.out _ L.length _ rfl HV.out (cC_ones L) (by have:=HLN.out;unfold maxLen;omega) (by have:=HLN.out;omega) BW2.out.size ?_
 intro v9 w3 ho9 hg9
 change K (Act.put _ (some 48) v9) w3
 have A1c:=A1b.out.grown hg9 (own_ne O7b.out A1b.out (by decide))
 have A2c:=A2b.out.grown hg9 (own_ne O7b.out A2b.out (by decide))
 have BW3:Below W.heap.size W w3:=BW2.out.grown hg9 BW2.out.size (fun k hk=>(O7b.out.lt k hk).1)
 refine hK.out _ _ ⟨A1c,A2c,(HC.out _ BW3).1,(HC.out _ BW3).2⟩ (fun hH=>?_)
 clear hK K
 try simp only [Act.put,List.setIfInBounds_toArray,pb,pc]
 refine tz 12 7 (v9) hq rfl rfl hH ?_
 simp only [pb,pc]
 refine wpAnyH_done (by kernel_rfl) ?_ _
 have HR9:Hid (w3.ownsRow W.heap.size 36 2 v9 LL.length (cC LL)):=jH (by
  rw [HLL.out,cC_app]
  have e:(([]:List (Int × Int))++L).length=([]:List (Int × Int)).length+L.length:=List.length_append
  rw [e]
  exact ho9)
 have HB9:Hid (Below W.heap.size W w3):=jH BW3
 clear hH hq ho9 hg9 A1c A2c BW3
 obtain ⟨a9,c9,hv9⟩:=own_sl HR9.out
 subst hv9
 go_wp2_with fail
 go_ret
 exact ⟨⟨_,rfl,HR9.out⟩,HB9.out⟩
theorem rfl_reff (m:Bool) (r r':Int) (c d:Ch) (hdp:c.depth≤48) (ih:RFl c d m):RFl (.ref m r c) (.ref m r' d) false:=by
 intro F F' W h h'
 obtain ⟨g,off,cap,f,rfl,hc,ht,-⟩:=h.ref
 obtain ⟨g',off',cap',f',rfl,hc',ht',-⟩:=h'.ref
 obtain ⟨i0,hi,hz0,hz1,hz2⟩:=info_parts Tryz.info36
 have hlen:=asksL_len m c d
 obtain ⟨L,hL⟩:∃ L,L=asksL m c d:=⟨_,rfl⟩
 have HLN:Hid (L.length≤200):=jH (by rw [hL];omega)
 have HC:=jH (fun (V:World) (hV:Below W.heap.size W V)=>(⟨hc.below hV,hc'.below hV⟩:C5 V g off f∧C5 V g' off' f'))
 have IH:=jH (fun (V:World) (hV:Below W.heap.size W V)=>ih f f' V (ht.bel hV) (ht'.bel hV))
 rw [← hL] at IH
 obtain ⟨LL,hLL⟩:∃ LL,LL=asksL false (.ref m r c) (.ref m r' d):=⟨_,rfl⟩
 rw [← hLL]
 have HLL:Hid (LL=[(r,r')]++L):=jH (by rw [hLL,hL];cases m <;> rfl)
 have A1:Hid (At ((W.alloc (Fv.o ⟨4,m,r,0,some ⟨g,off,none⟩,1,cap⟩)).alloc (Fv.o ⟨4,m,r',0,some ⟨g',off',none⟩,1,cap'⟩)) W.heap.size (Fv.o ⟨4,m,r,0,some ⟨g,off,none⟩,1,cap⟩)):=jH ((At.new _ _).alloc _)
 have A2:Hid (At ((W.alloc (Fv.o ⟨4,m,r,0,some ⟨g,off,none⟩,1,cap⟩)).alloc (Fv.o ⟨4,m,r',0,some ⟨g',off',none⟩,1,cap'⟩)) (W.heap.size+1) (Fv.o ⟨4,m,r',0,some ⟨g',off',none⟩,1,cap'⟩)):=jH (at_snd _ _ _)
 have B0:Hid (Below W.heap.size W ((W.alloc (Fv.o ⟨4,m,r,0,some ⟨g,off,none⟩,1,cap⟩)).alloc (Fv.o ⟨4,m,r',0,some ⟨g',off',none⟩,1,cap'⟩))):=jH (belA (belA bR))
 show Calls Tryz.prog 40 #[tyV 4 m r 0 (some ⟨g,off,none⟩) 1 cap,tyV 4 m r' 0 (some ⟨g',off',none⟩) 1 cap',.bool false] W _
 clear h h' hc hc' ht ht' ih hL hlen
 go_enter Tryz.func40,Tryz.ntmps40
 clear hLL
 have ON:Hid (((.slice none 0 0:Value))=.slice none 0 0):=jH rfl
 go_upto_region 8 with (at_builtin;have _on:=ON;clear _on ON;refine wpList_append_own _ rfl _ _ 28 rfl W.heap.size 36 i0 (.agg #[.int .i64 0,.int .i64 0]) 2 16 Tryz.underlying28 hi hz0 hz1 hz2 rfl (by decide) (.slice none 0 0) 0 [] rfl (World.ownsRow_nil _ _ _ _) ⟨W.heap.size+1+1,0,none⟩ 1 1 [.int .i64 r,.int .i64 r'] rfl rfl (fun j u hu=>by have hnn:=newsP (((W.alloc (Fv.o ⟨4,m,r,0,some ⟨g,off,none⟩,1,cap⟩)).alloc (Fv.o ⟨4,m,r',0,some ⟨g',off',none⟩,1,cap'⟩))) _ _ 36 j u hu;(try simp only [World.size_alloc] at hnn);exact hnn) (fun u hu=>by simp at hu;rcases hu with rfl|rfl <;> rfl) (by unfold maxLen;omega) (by omega) (by have:=B0.out.size;simp only [World.size_alloc] at *;omega) ?_;intro v1 w5 ho hg hn;obtain ⟨a6,c6,ev⟩:=own_sl ho;subst ev;have A1n:=jH (At.grown (A1.out.alloc (.cells #[.int .i64 r,.int .i64 r'] 36)) hg (own_ne (show (((W.alloc (Fv.o ⟨4,m,r,0,some ⟨g,off,none⟩,1,cap⟩)).alloc (Fv.o ⟨4,m,r',0,some ⟨g',off',none⟩,1,cap'⟩)).alloc (.cells #[.int .i64 r,.int .i64 r'] 36)).ownsRow W.heap.size 36 2 (.slice none 0 0) 0 [] from (World.ownsRow_nil _ _ _ _)) (A1.out.alloc _) (by decide)));have A2n:=jH (At.grown (A2.out.alloc (.cells #[.int .i64 r,.int .i64 r'] 36)) hg (own_ne (show (((W.alloc (Fv.o ⟨4,m,r,0,some ⟨g,off,none⟩,1,cap⟩)).alloc (Fv.o ⟨4,m,r',0,some ⟨g',off',none⟩,1,cap'⟩)).alloc (.cells #[.int .i64 r,.int .i64 r'] 36)).ownsRow W.heap.size 36 2 (.slice none 0 0) 0 [] from (World.ownsRow_nil _ _ _ _)) (A2.out.alloc _) (by decide)));have B0n:=jH ((belA B0.out (o:=.cells #[.int .i64 r,.int .i64 r'] 36)).grown hg (by have:=B0.out.size;simp only [World.size_alloc] at *;omega) (fun k hk=>by cases hk));clear A1 A2 B0;have A1:=A1n;have A2:=A2n;have B0:=B0n;clear A1n A2n B0n;have O71:=jH ho;clear ho hg hn;obtain ⟨-,p0,p1,p2,p3,p4⟩:=A1.out.ty;obtain ⟨-,q0,q1,q2,q3,q4⟩:=A2.out.ty;simp only [Nat.zero_add] at p0 p1 p2 p3 p4 q0 q1 q2 q3 q4)
 have O7:Hid (w5.ownsRow W.heap.size 36 2 (.slice a6 1 c6) ([(r,r')]:List (Int × Int)).length (cC [(r,r')])):=O71
 clear O71
 generalize w5=V at A1 A2 B0 O7 p0 p1 p2 p3 p4 q0 q1 q2 q3 q4 ⊢
 clear p0 p1 p2 p3 p4 q0 q1 q2 q3 q4
 have hl0:(([(r,r')]:List (Int × Int))).length=1:=rfl
 refine beginH (S:=fun V=>At V W.heap.size (Fv.o ⟨4,m,r,0,some ⟨g,off,none⟩,1,cap⟩)∧At V (W.heap.size+1) (Fv.o ⟨4,m,r',0,some ⟨g',off',none⟩,1,cap'⟩)∧C5 V g off f∧C5 V g' off' f') (fun _ _ _ _ _ h=>h) (by kernel_rfl) ⟨A1.out.drew,A2.out.drew,(HC.out _ (B0.out.drew)).1,(HC.out _ (B0.out.drew)).2⟩ (fun hq hH=>?_)
 refine tz 0 37 (.slice a6 1 c6) hq rfl rfl hH ?_
 simp only [pb,pc]
 refine tz 1 38 (.pointer (some ⟨W.heap.size,4,none⟩)) hq rfl rfl hH ?_
 simp only [pb,pc]
 refine tq 2 39 (.slice (some ⟨g,off,none⟩) 1 cap) hq rfl rfl (fun W hSw=>by (obtain ⟨-,p0,p1,p2,p3,p4⟩:=hSw.1.ty;simp only [Nat.zero_add] at p0 p1 p2 p3 p4;go_simp;try rfl)) hH ?_
 simp only [pb,pc]
 refine tz 3 40 (.pointer (some ⟨g,off,none⟩)) hq rfl rfl hH ?_
 simp only [pb,pc]
 refine tq 4 41 (f.v) hq rfl rfl (fun W hSw=>by (obtain ⟨-,p0,p1,p2,p3,p4⟩:=hSw.2.2.1;go_simp;try rfl)) hH ?_
 simp only [pb,pc]
 refine tz 5 42 (.pointer (some ⟨W.heap.size+1,4,none⟩)) hq rfl rfl hH ?_
 simp only [pb,pc]
 refine tq 6 43 (.slice (some ⟨g',off',none⟩) 1 cap') hq rfl rfl (fun W hSw=>by (obtain ⟨-,p0,p1,p2,p3,p4⟩:=hSw.2.1.ty;simp only [Nat.zero_add] at p0 p1 p2 p3 p4;go_simp;try rfl)) hH ?_
 simp only [pb,pc]
 refine tz 7 44 (.pointer (some ⟨g',off',none⟩)) hq rfl rfl hH ?_
 simp only [pb,pc]
 refine tq 8 45 (f'.v) hq rfl rfl (fun W hSw=>by (obtain ⟨-,p0,p1,p2,p3,p4⟩:=hSw.2.2.2;go_simp;try rfl)) hH ?_
 simp only [pb,pc]
 refine tz 9 46 (.bool m) hq rfl rfl hH ?_
 simp only [pb,pc]
 refine aR1 10 rfl (fun K hK=>?_)
 have C9:=jH (IH.out _ B0.out.drew)
 go_simp
 refine C9.out.mono ?_
 rintro e w2 ⟨⟨v,rfl,hv⟩,hb2⟩
 have B2:Below V.heap.size V w2:=⟨hb2.os,hb2.tape,hb2.output,hb2.size,hb2.block⟩
 have HB2:=jH B2
 have A1b:=jH (A1.out.below B2)
 have A2b:=jH (A2.out.below B2)
 have O7b:=jH (own_bel O7.out B2)
 have BW2:=jH (jB B0.out B2)
 obtain ⟨av,cv,hvv⟩:=own_sl hv
 subst hvv
 have HV:=jH hv
 clear hv hb2 B2 C9
 go_wp2_with fail
 refine hK.out _ _ ⟨A1b.out,A2b.out,(HC.out _ BW2.out).1,(HC.out _ BW2.out).2⟩ (fun hH=>?_)
 clear hK K
 try simp only [Act.put,List.setIfInBounds_toArray,pb,pc]
 refine aR1 11 rfl (fun K hK=>?_)
 rw [if_pos (by rfl)]
 refine append_rows (.tmp 37) (.tmp 47) 28 rfl W.heap.size _ 36 i0 (.agg #[.int .i64 0,.int .i64 0]) 2 16 Tryz.underlying28 hi hz0 hz1 hz2 rfl (by decide) _ ([(r,r')]:List (Int × Int)).length _ rfl O7b.out _ L.length _ rfl HV.out (cC_ones L) (by have:=HLN.out;unfold maxLen;omega) (by have:=HLN.out;omega) BW2.out.size ?_
 intro v9 w3 ho9 hg9
 change K (Act.put _ (some 48) v9) w3
 have A1c:=A1b.out.grown hg9 (own_ne O7b.out A1b.out (by decide))
 have A2c:=A2b.out.grown hg9 (own_ne O7b.out A2b.out (by decide))
 have BW3:Below W.heap.size W w3:=BW2.out.grown hg9 BW2.out.size (fun k hk=>(O7b.out.lt k hk).1)
 refine hK.out _ _ ⟨A1c,A2c,(HC.out _ BW3).1,(HC.out _ BW3).2⟩ (fun hH=>?_)
 clear hK K
 try simp only [Act.put,List.setIfInBounds_toArray,pb,pc]
 refine tz 12 7 (v9) hq rfl rfl hH ?_
 simp only [pb,pc]
 refine wpAnyH_done (by kernel_rfl) ?_ _
 have HR9:Hid (w3.ownsRow W.heap.size 36 2 v9 LL.length (cC LL)):=jH (by
  rw [HLL.out,cC_app]
  have e:(([(r,r')]:List (Int × Int))++L).length=([(r,r')]:List (Int × Int)).length+L.length:=List.length_append
  rw [e]
  exact ho9)
 have HB9:Hid (Below W.heap.size W w3):=jH BW3
 clear hH hq ho9 hg9 A1c A2c BW3
 obtain ⟨a9,c9,hv9⟩:=own_sl HR9.out
 subst hv9
 go_wp2_with fail
 go_ret
 exact ⟨⟨_,rfl,HR9.out⟩,HB9.out⟩
theorem rfl_reft (m:Bool) (r r':Int) (c d:Ch) (hdp:c.depth≤48) (ih:RFl c d true):RFl (.ref m r c) (.ref m r' d) true:=by
 intro F F' W h h'
 obtain ⟨g,off,cap,f,rfl,hc,ht,-⟩:=h.ref
 obtain ⟨g',off',cap',f',rfl,hc',ht',-⟩:=h'.ref
 obtain ⟨i0,hi,hz0,hz1,hz2⟩:=info_parts Tryz.info36
 have hlen:=asksL_len true c d
 obtain ⟨L,hL⟩:∃ L,L=asksL true c d:=⟨_,rfl⟩
 have HLN:Hid (L.length≤200):=jH (by rw [hL];omega)
 have HC:=jH (fun (V:World) (hV:Below W.heap.size W V)=>(⟨hc.below hV,hc'.below hV⟩:C5 V g off f∧C5 V g' off' f'))
 have IH:=jH (fun (V:World) (hV:Below W.heap.size W V)=>ih f f' V (ht.bel hV) (ht'.bel hV))
 rw [← hL] at IH
 obtain ⟨LL,hLL⟩:∃ LL,LL=asksL true (.ref m r c) (.ref m r' d):=⟨_,rfl⟩
 rw [← hLL]
 have HLL:Hid (LL=[(r,r'),(r',r)]++L):=jH (by rw [hLL,hL];cases m <;> rfl)
 have A1:Hid (At ((W.alloc (Fv.o ⟨4,m,r,0,some ⟨g,off,none⟩,1,cap⟩)).alloc (Fv.o ⟨4,m,r',0,some ⟨g',off',none⟩,1,cap'⟩)) W.heap.size (Fv.o ⟨4,m,r,0,some ⟨g,off,none⟩,1,cap⟩)):=jH ((At.new _ _).alloc _)
 have A2:Hid (At ((W.alloc (Fv.o ⟨4,m,r,0,some ⟨g,off,none⟩,1,cap⟩)).alloc (Fv.o ⟨4,m,r',0,some ⟨g',off',none⟩,1,cap'⟩)) (W.heap.size+1) (Fv.o ⟨4,m,r',0,some ⟨g',off',none⟩,1,cap'⟩)):=jH (at_snd _ _ _)
 have B0:Hid (Below W.heap.size W ((W.alloc (Fv.o ⟨4,m,r,0,some ⟨g,off,none⟩,1,cap⟩)).alloc (Fv.o ⟨4,m,r',0,some ⟨g',off',none⟩,1,cap'⟩))):=jH (belA (belA bR))
 show Calls Tryz.prog 40 #[tyV 4 m r 0 (some ⟨g,off,none⟩) 1 cap,tyV 4 m r' 0 (some ⟨g',off',none⟩) 1 cap',.bool true] W _
 clear h h' hc hc' ht ht' ih hL hlen
 go_enter Tryz.func40,Tryz.ntmps40
 clear hLL
 have ON:Hid (((.slice none 0 0:Value))=.slice none 0 0):=jH rfl
 go_upto_region 8 with (first
  | (at_builtin;have _on:=ON;clear _on ON;refine wpList_append_own _ rfl _ _ 28 rfl W.heap.size 36 i0 (.agg #[.int .i64 0,.int .i64 0]) 2 16 Tryz.underlying28 hi hz0 hz1 hz2 rfl (by decide) (.slice none 0 0) 0 [] rfl (World.ownsRow_nil _ _ _ _) ⟨W.heap.size+1+1,0,none⟩ 1 1 [.int .i64 r,.int .i64 r'] rfl rfl (fun j u hu=>by have hnn:=newsP (((W.alloc (Fv.o ⟨4,m,r,0,some ⟨g,off,none⟩,1,cap⟩)).alloc (Fv.o ⟨4,m,r',0,some ⟨g',off',none⟩,1,cap'⟩))) _ _ 36 j u hu;(try simp only [World.size_alloc] at hnn);exact hnn) (fun u hu=>by simp at hu;rcases hu with rfl|rfl <;> rfl) (by unfold maxLen;omega) (by omega) (by have:=B0.out.size;simp only [World.size_alloc] at *;omega) ?_;intro v1 w5 ho hg hn;obtain ⟨a6,c6,ev⟩:=own_sl ho;subst ev;have A1n:=jH (At.grown (A1.out.alloc (.cells #[.int .i64 r,.int .i64 r'] 36)) hg (own_ne (show (((W.alloc (Fv.o ⟨4,m,r,0,some ⟨g,off,none⟩,1,cap⟩)).alloc (Fv.o ⟨4,m,r',0,some ⟨g',off',none⟩,1,cap'⟩)).alloc (.cells #[.int .i64 r,.int .i64 r'] 36)).ownsRow W.heap.size 36 2 (.slice none 0 0) 0 [] from (World.ownsRow_nil _ _ _ _)) (A1.out.alloc _) (by decide)));have A2n:=jH (At.grown (A2.out.alloc (.cells #[.int .i64 r,.int .i64 r'] 36)) hg (own_ne (show (((W.alloc (Fv.o ⟨4,m,r,0,some ⟨g,off,none⟩,1,cap⟩)).alloc (Fv.o ⟨4,m,r',0,some ⟨g',off',none⟩,1,cap'⟩)).alloc (.cells #[.int .i64 r,.int .i64 r'] 36)).ownsRow W.heap.size 36 2 (.slice none 0 0) 0 [] from (World.ownsRow_nil _ _ _ _)) (A2.out.alloc _) (by decide)));have B0n:=jH ((belA B0.out (o:=.cells #[.int .i64 r,.int .i64 r'] 36)).grown hg (by have:=B0.out.size;simp only [World.size_alloc] at *;omega) (fun k hk=>by cases hk));clear A1 A2 B0;have A1:=A1n;have A2:=A2n;have B0:=B0n;clear A1n A2n B0n;have O71:=jH ho;clear ho hg hn;obtain ⟨-,p0,p1,p2,p3,p4⟩:=A1.out.ty;obtain ⟨-,q0,q1,q2,q3,q4⟩:=A2.out.ty;simp only [Nat.zero_add] at p0 p1 p2 p3 p4 q0 q1 q2 q3 q4)
  | (at_builtin;have _on:=O71;clear _on;refine wpList_append_own _ rfl _ _ 28 rfl W.heap.size 36 i0 (.agg #[.int .i64 0,.int .i64 0]) 2 16 Tryz.underlying28 hi hz0 hz1 hz2 rfl (by decide) (.slice a6 1 c6) 1 (cC [(r,r')]) rfl (own_bel O71.out (belA bR)) ⟨w5.heap.size,0,none⟩ 1 1 [.int .i64 r',.int .i64 r] rfl rfl (fun j u hu=>by have hnn:=newsP (w5) _ _ 36 j u hu;(try simp only [World.size_alloc] at hnn);exact hnn) (fun u hu=>by simp at hu;rcases hu with rfl|rfl <;> rfl) (by unfold maxLen;omega) (by omega) (by have:=B0.out.size;simp only [World.size_alloc] at *;omega) ?_;intro v2 w6 ho hg hn;obtain ⟨a7,c7,ev⟩:=own_sl ho;subst ev;have A1n:=jH (At.grown (A1.out.alloc (.cells #[.int .i64 r',.int .i64 r] 36)) hg (own_ne (show (w5.alloc (.cells #[.int .i64 r',.int .i64 r] 36)).ownsRow W.heap.size 36 2 (.slice a6 1 c6) 1 (cC [(r,r')]) from (own_bel O71.out (belA bR))) (A1.out.alloc _) (by decide)));have A2n:=jH (At.grown (A2.out.alloc (.cells #[.int .i64 r',.int .i64 r] 36)) hg (own_ne (show (w5.alloc (.cells #[.int .i64 r',.int .i64 r] 36)).ownsRow W.heap.size 36 2 (.slice a6 1 c6) 1 (cC [(r,r')]) from (own_bel O71.out (belA bR))) (A2.out.alloc _) (by decide)));have B0n:=jH ((belA B0.out (o:=.cells #[.int .i64 r',.int .i64 r] 36)).grown hg (by have:=B0.out.size;simp only [World.size_alloc] at *;omega) (fun k hk=>(O71.out.lt k hk).1));clear A1 A2 B0;have A1:=A1n;have A2:=A2n;have B0:=B0n;clear A1n A2n B0n;have O72:=jH ho;clear ho hg hn;clear p0 p1 p2 p3 p4 q0 q1 q2 q3 q4;obtain ⟨-,p0,p1,p2,p3,p4⟩:=A1.out.ty;obtain ⟨-,q0,q1,q2,q3,q4⟩:=A2.out.ty;simp only [Nat.zero_add] at p0 p1 p2 p3 p4 q0 q1 q2 q3 q4))
 have O7:Hid (w6.ownsRow W.heap.size 36 2 (.slice a7 2 c7) ([(r,r'),(r',r)]:List (Int × Int)).length (cC [(r,r'),(r',r)])):=O72
 clear O71 O72
 generalize w6=V at A1 A2 B0 O7 p0 p1 p2 p3 p4 q0 q1 q2 q3 q4 ⊢
 clear p0 p1 p2 p3 p4 q0 q1 q2 q3 q4
 have hl0:(([(r,r'),(r',r)]:List (Int × Int))).length=2:=rfl
 refine beginH (S:=fun V=>At V W.heap.size (Fv.o ⟨4,m,r,0,some ⟨g,off,none⟩,1,cap⟩)∧At V (W.heap.size+1) (Fv.o ⟨4,m,r',0,some ⟨g',off',none⟩,1,cap'⟩)∧C5 V g off f∧C5 V g' off' f') (fun _ _ _ _ _ h=>h) (by kernel_rfl) ⟨A1.out.drew,A2.out.drew,(HC.out _ (B0.out.drew)).1,(HC.out _ (B0.out.drew)).2⟩ (fun hq hH=>?_)
 refine tz 0 37 (.slice a7 2 c7) hq rfl rfl hH ?_
 simp only [pb,pc]
 refine tz 1 38 (.pointer (some ⟨W.heap.size,4,none⟩)) hq rfl rfl hH ?_
 simp only [pb,pc]
 refine tq 2 39 (.slice (some ⟨g,off,none⟩) 1 cap) hq rfl rfl (fun W hSw=>by (obtain ⟨-,p0,p1,p2,p3,p4⟩:=hSw.1.ty;simp only [Nat.zero_add] at p0 p1 p2 p3 p4;go_simp;try rfl)) hH ?_
 simp only [pb,pc]
 refine tz 3 40 (.pointer (some ⟨g,off,none⟩)) hq rfl rfl hH ?_
 simp only [pb,pc]
 refine tq 4 41 (f.v) hq rfl rfl (fun W hSw=>by (obtain ⟨-,p0,p1,p2,p3,p4⟩:=hSw.2.2.1;go_simp;try rfl)) hH ?_
 simp only [pb,pc]
 refine tz 5 42 (.pointer (some ⟨W.heap.size+1,4,none⟩)) hq rfl rfl hH ?_
 simp only [pb,pc]
 refine tq 6 43 (.slice (some ⟨g',off',none⟩) 1 cap') hq rfl rfl (fun W hSw=>by (obtain ⟨-,p0,p1,p2,p3,p4⟩:=hSw.2.1.ty;simp only [Nat.zero_add] at p0 p1 p2 p3 p4;go_simp;try rfl)) hH ?_
 simp only [pb,pc]
 refine tz 7 44 (.pointer (some ⟨g',off',none⟩)) hq rfl rfl hH ?_
 simp only [pb,pc]
 refine tq 8 45 (f'.v) hq rfl rfl (fun W hSw=>by (obtain ⟨-,p0,p1,p2,p3,p4⟩:=hSw.2.2.2;go_simp;try rfl)) hH ?_
 simp only [pb,pc]
 refine tz 9 46 (.bool true) hq rfl rfl hH ?_
 simp only [pb,pc]
 refine aR1 10 rfl (fun K hK=>?_)
 have C9:=jH (IH.out _ B0.out.drew)
 go_simp
 refine C9.out.mono ?_
 rintro e w2 ⟨⟨v,rfl,hv⟩,hb2⟩
 have B2:Below V.heap.size V w2:=⟨hb2.os,hb2.tape,hb2.output,hb2.size,hb2.block⟩
 have HB2:=jH B2
 have A1b:=jH (A1.out.below B2)
 have A2b:=jH (A2.out.below B2)
 have O7b:=jH (own_bel O7.out B2)
 have BW2:=jH (jB B0.out B2)
 obtain ⟨av,cv,hvv⟩:=own_sl hv
 subst hvv
 have HV:=jH hv
 clear hv hb2 B2 C9
 go_wp2_with fail
 refine hK.out _ _ ⟨A1b.out,A2b.out,(HC.out _ BW2.out).1,(HC.out _ BW2.out).2⟩ (fun hH=>?_)
 clear hK K
 try simp only [Act.put,List.setIfInBounds_toArray,pb,pc]
 refine aR1 11 rfl (fun K hK=>?_)
 rw [if_pos (by rfl)]
 refine append_rows (.tmp 37) (.tmp 47) 28 rfl W.heap.size _ 36 i0 (.agg #[.int .i64 0,.int .i64 0]) 2 16 Tryz.underlying28 hi hz0 hz1 hz2 rfl (by decide) _ ([(r,r'),(r',r)]:List (Int × Int)).length _ rfl O7b.out _ L.length _ rfl HV.out (cC_ones L) (by have:=HLN.out;unfold maxLen;omega) (by have:=HLN.out;omega) BW2.out.size ?_
 intro v9 w3 ho9 hg9
 change K (Act.put _ (some 48) v9) w3
 have A1c:=A1b.out.grown hg9 (own_ne O7b.out A1b.out (by decide))
 have A2c:=A2b.out.grown hg9 (own_ne O7b.out A2b.out (by decide))
 have BW3:Below W.heap.size W w3:=BW2.out.grown hg9 BW2.out.size (fun k hk=>(O7b.out.lt k hk).1)
 refine hK.out _ _ ⟨A1c,A2c,(HC.out _ BW3).1,(HC.out _ BW3).2⟩ (fun hH=>?_)
 clear hK K
 try simp only [Act.put,List.setIfInBounds_toArray,pb,pc]
 refine tz 12 7 (v9) hq rfl rfl hH ?_
 simp only [pb,pc]
 refine wpAnyH_done (by kernel_rfl) ?_ _
 have HR9:Hid (w3.ownsRow W.heap.size 36 2 v9 LL.length (cC LL)):=jH (by
  rw [HLL.out,cC_app]
  have e:(([(r,r'),(r',r)]:List (Int × Int))++L).length=([(r,r'),(r',r)]:List (Int × Int)).length+L.length:=List.length_append
  rw [e]
  exact ho9)
 have HB9:Hid (Below W.heap.size W w3):=jH BW3
 clear hH hq ho9 hg9 A1c A2c BW3
 obtain ⟨a9,c9,hv9⟩:=own_sl HR9.out
 subst hv9
 go_wp2_with fail
 go_ret
 exact ⟨⟨_,rfl,HR9.out⟩,HB9.out⟩
theorem rfl_any:∀ (c d:Ch) (bm:Bool),c.ok 32→c.depth≤48→alikeB c d=true→RFl c d bm:=by
 intro c
 induction c with
 | leaf k s =>
  intro d bm hok _ _
  have hk:k≠4:=by
   have:(k=1∨k=2)∧s=0∨k=5∧0≤s∧s<32:=hok
   omega
  exact rfl_leaf k s hk d bm
 | box c ih =>
  intro d bm hok hd ha
  have hd2:c.depth≤48:=by simp only [Ch.depth] at hd;omega
  cases d with
  | leaf k' s'=>simp [alikeB] at ha
  | box d=>exact rfl_box c d bm hd2 (ih d bm hok hd2 (by simpa [alikeB] using ha))
  | ref m r d=>simp [alikeB] at ha
 | ref m r c ih =>
  intro d bm hok hd ha
  have hd2:c.depth≤48:=by simp only [Ch.depth] at hd;omega
  cases d with
  | leaf k' s'=>simp [alikeB] at ha
  | box d=>simp [alikeB] at ha
  | ref m' r' d =>
   simp only [alikeB,Bool.and_eq_true,decide_eq_true_eq] at ha
   obtain ⟨e1,e2⟩:=ha
   subst e1
   cases bm with
   | false=>exact rfl_reff m r r' c d hd2 (ih d m hok.2 hd2 e2)
   | true=>exact rfl_reft m r r' c d hd2 (ih d true hok.2 hd2 e2)
end Go.Proofs.YtmjenlogbkbgnaaGreatDoor
