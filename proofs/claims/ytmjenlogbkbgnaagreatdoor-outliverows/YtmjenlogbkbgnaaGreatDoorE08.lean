import Derived.Test.YtmjenlogbkbgnaaGreatDoorC01
import Derived.BigQuiet
namespace Go.Proofs.YtmjenlogbkbgnaaGreatDoor
open Go.RowKit Go.Shelf
set_option linter.unusedVariables false
set_option linter.unusedSimpArgs false
set_option maxRecDepth 100000
set_option maxHeartbeats 4000000
def alikeR (rg:Bool):Ch→Ch→Bool
 | .leaf k s,.leaf k' s'=>decide (k=k') && decide (s=s')
 | .box c,.box d=>alikeR rg c d
 | .ref m r c,.ref m' r' d=>decide (m=m') && (!rg || decide (r=r')) && alikeR rg c d
 | _,_=>false
theorem alikeR_no:∀ c d:Ch,alikeR false c d=alikeB c d
 | .leaf _ _,.leaf _ _=>rfl
 | .leaf _ _,.box _=>rfl
 | .leaf _ _,.ref _ _ _=>rfl
 | .box _,.leaf _ _=>rfl
 | .box c,.box d=>by simp only [alikeR,alikeB];exact alikeR_no c d
 | .box _,.ref _ _ _=>rfl
 | .ref _ _ _,.leaf _ _=>rfl
 | .ref _ _ _,.box _=>rfl
 | .ref m r c,.ref m' r' d=>by simp only [alikeR,alikeB,alikeR_no c d,Bool.not_false,Bool.true_or,Bool.and_true]
def LookC (n:Int) (d:Nat):Prop:=∀ (t:Ty) (f:Fv) (w:World),TyAt w f t→Calls Tryz.prog 70 #[f.v,.int .i64 n,.int .i64 (d:Int)] w fun e w'=>e=.returned (.bool (mayB n d t))∧Below w.heap.size w w'
theorem look_zero (n:Int):LookC n 0:=by
 intro t f w h
 obtain ⟨k,m,r,s,of⟩:=t
 obtain ⟨a,cap,rfl⟩:=h.inv
 obtain ⟨q,hq⟩:∃ q,q=of.length:=⟨_,rfl⟩
 have hr:mayB n 0 (.mk k m r s of)=false:=rfl
 rw [hr]
 show Calls Tryz.prog 70 #[tyV k m r s a of.length cap,.int .i64 n,.int .i64 0] w _
 rw [← hq]
 clear hr hq h
 go_enter Tryz.func70,Tryz.ntmps70
 go_wp2_with fail
 go_ret
 exact ⟨rfl,belA bR⟩
theorem look_step (n:Int) (d:Nat) (hd:d+1≤48) (ih:LookC n d):LookC n (d+1):=by
 rintro ⟨k,m,r,s,of⟩ f w h
 obtain ⟨a,cap,rfl⟩:=h.inv
 have hres:=mayB_succ n d k m r s of
 obtain ⟨q,hq⟩:∃ q,q=of.length:=⟨_,rfl⟩
 obtain ⟨D,hD⟩:∃ D:Int,D=((d+1:Nat):Int):=⟨_,rfl⟩
 have D1:¬ D<1:=by omega
 have D2:1≤D:=by omega
 have D3:D≤48:=by omega
 rw [hres]
 show Calls Tryz.prog 70 #[tyV k m r s a of.length cap,.int .i64 n,.int .i64 ((d+1:Nat):Int)] w _
 rw [← hD]
 have one:(∃ g off f' rr,a=some ⟨g,off,none⟩∧q=1∧inB n d of=rr∧C5 w g off f'∧Hid (∀ w',Below w.heap.size w w'→Calls Tryz.prog 70 #[f'.v,.int .i64 n,.int .i64 (D - 1)] w' fun e w1=>e=.returned (.bool rr)∧Below w'.heap.size w' w1))∨(¬ (q:Int)=1∧inB n d of=false):=by
  match of,hq,h with
  | [x],hq,h =>
   left
   obtain ⟨g,off,cap',f',e,hc,ht,_⟩:=h.one
   injection e with _ _ _ _ ea en ec
   refine ⟨g,off,f',_,ea,hq,rfl,hc,fun w' hb=>?_⟩
   have:=ih x f' w' (ht.bel hb)
   rw [hD,show (((d+1:Nat):Int) - 1)=(d:Int) by omega]
   exact this
  | [],hq,h=>right;exact ⟨by simp at hq;omega,rfl⟩
  | x::y::r,hq,h=>right;exact ⟨by simp at hq;omega,rfl⟩
 rw [← hq]
 clear hres hq h hD hd ih
 by_cases k1:k=1
 ·subst k1
  simp only [true_or,if_true]
  clear one
  go_enter Tryz.func70,Tryz.ntmps70
  go_wp2_with fail
  all_goals go_ret
  all_goals (refine ⟨ret_bool ?_,belA bR⟩)
  all_goals (go_light;simp_all [qz] <;> (intros;omega))
 have kk1:¬ ((k:Int)=1):=fun e=>k1 (by omega)
 by_cases k2:k=2
 ·subst k2
  simp only [or_true,if_true]
  clear one
  go_enter Tryz.func70,Tryz.ntmps70
  go_wp2_with fail
  all_goals go_ret
  all_goals (refine ⟨ret_bool ?_,belA bR⟩)
  all_goals (go_light;simp_all [qz] <;> (intros;omega))
 have kk2:¬ ((k:Int)=2):=fun e=>k2 (by omega)
 by_cases k3:k=3
 ·subst k3
  simp only [show ¬ ((3:Nat)=1∨(3:Nat)=2) from by omega,if_false,if_true]
  rcases one with ⟨g,off,f',rr,rfl,rfl,hi,⟨hg,c0,c1,c2,c3,c4⟩,B⟩|⟨hq,hi⟩
  ·rw [hi]
   clear hi
   go_enter Tryz.func70,Tryz.ntmps70
   go_wp2_with (go_at_call 70;refine (B.out _ (belA bR)).mono ?_;rintro e w1 ⟨rfl,hb1⟩)
   all_goals go_ret
   all_goals (refine ⟨ret_bool ?_,by first|exact below1 hb1|exact belA bR⟩)
   all_goals (clear B;go_light;simp_all [qz] <;> (intros;omega))
  ·rw [hi]
   clear hi
   go_enter Tryz.func70,Tryz.ntmps70
   go_wp2_with fail
   all_goals go_ret
   all_goals (refine ⟨ret_bool ?_,belA bR⟩)
   all_goals (go_light;simp_all [qz] <;> (intros;omega))
 have kk3:¬ ((k:Int)=3):=fun e=>k3 (by omega)
 by_cases k4:k=4
 ·subst k4
  simp only [show ¬ ((4:Nat)=1∨(4:Nat)=2) from by omega,show ¬ ((4:Nat)=3) from by omega,if_false,if_true]
  rcases one with ⟨g,off,f',rr,rfl,rfl,hi,⟨hg,c0,c1,c2,c3,c4⟩,B⟩|⟨hq,hi⟩
  ·rw [hi]
   clear hi
   go_enter Tryz.func70,Tryz.ntmps70
   go_wp2_with (go_at_call 70;refine (B.out _ (belA bR)).mono ?_;rintro e w1 ⟨rfl,hb1⟩)
   all_goals go_ret
   all_goals (refine ⟨ret_bool ?_,by first|exact below1 hb1|exact belA bR⟩)
   all_goals (clear B;go_light;simp_all [qz] <;> (intros;omega))
  ·rw [hi]
   clear hi
   go_enter Tryz.func70,Tryz.ntmps70
   go_wp2_with fail
   all_goals go_ret
   all_goals (refine ⟨ret_bool ?_,belA bR⟩)
   all_goals (go_light;simp_all [qz] <;> (intros;omega))
 have kk4:¬ ((k:Int)=4):=fun e=>k4 (by omega)
 by_cases k5:k=5
 ·subst k5
  simp only [show ¬ ((5:Nat)=1∨(5:Nat)=2) from by omega,show ¬ ((5:Nat)=3) from by omega,show ¬ ((5:Nat)=4) from by omega,if_false,if_true]
  clear one
  go_enter Tryz.func70,Tryz.ntmps70
  go_wp2_with fail
  all_goals go_ret
  all_goals (refine ⟨ret_bool ?_,belA bR⟩)
  all_goals (go_light;simp_all [qz] <;> (intros;omega))
 have kk5:¬ ((k:Int)=5):=fun e=>k5 (by omega)
 simp only [k1,k2,k3,k4,k5,or_self,if_false]
 clear k1 k2 k3 k4 k5 one
 go_enter Tryz.func70,Tryz.ntmps70
 go_wp2_with fail
 go_ret
 exact ⟨rfl,belA bR⟩
theorem look_all (n:Int):∀ d,d≤48→LookC n d
 | 0,_=>look_zero n
 | d+1,h=>look_step n d h (look_all n d (by omega))
theorem is_any (t:Ty) (f:Fv) (w:World) (h:TyAt w f t):Calls Tryz.prog 38 #[f.v] w fun e w'=>e=.returned (.bool (isT t))∧Below w.heap.size w w':=by
 have C:Hid (∀ w',Below w.heap.size w w'→Calls Tryz.prog 70 #[f.v,.int .i64 32,.int .i64 48] w' fun e w1=>e=.returned (.bool (isT t))∧Below w'.heap.size w' w1):=fun w' hb=>look_all 32 48 (by omega) t f w' (h.bel hb)
 obtain ⟨rr,hrr⟩:∃ rr,rr=isT t:=⟨_,rfl⟩
 rw [← hrr] at C ⊢
 clear hrr h
 go_enter Tryz.func38,Tryz.ntmps38
 go_wp2_with (go_at_call 70;refine (C.out _ (belA bR)).mono ?_;rintro e w1 ⟨rfl,hb1⟩)
 go_ret
 exact ⟨rfl,below1 hb1⟩
theorem ralike_no (f g:Fv) (rg:Bool) (w:World) (hd:¬ f.k=g.k∨¬ f.m=g.m∨¬ f.s=g.s∨(rg=true∧¬ f.r=g.r)):Calls Tryz.prog 71 #[f.v,g.v,.bool rg] w fun e w'=>e=.returned (.bool false)∧Below w.heap.size w w':=by
 obtain ⟨k,m,r,s,a,n,cap⟩:=f
 obtain ⟨k',m',r',s',a',n',cap'⟩:=g
 simp only at hd
 show Calls Tryz.prog 71 #[tyV k m r s a n cap,tyV k' m' r' s' a' n' cap',.bool rg] w _
 have HD:Hid (¬ k=k'∨¬ m=m'∨¬ s=s'∨(rg=true∧¬ r=r')):=hd
 clear hd
 by_cases e1:k=k'
 ·subst e1
  by_cases e2:m=m'
  ·subst e2
   by_cases e3:s=s'
   ·subst e3
    have h:=HD.out
    simp only [not_true_eq_false,false_or] at h
    obtain ⟨rfl,hr⟩:=h
    clear HD
    go_enter Tryz.func71,Tryz.ntmps71
    go_wp2_with fail
    go_ret
    exact ⟨rfl,belA (belA bR)⟩
   ·clear HD
    go_enter Tryz.func71,Tryz.ntmps71
    go_wp2_with fail
    go_ret
    exact ⟨rfl,belA (belA bR)⟩
  ·clear HD
   have e2':(m != m')=true:=by simpa using e2
   have e2'':(m == m')=false:=by simpa using e2
   go_enter Tryz.func71,Tryz.ntmps71
   go_wp2_with fail
   go_ret
   exact ⟨rfl,belA (belA bR)⟩
 ·clear HD
  have e1':¬ (k:Int)=(k':Int):=by omega
  clear e1
  go_enter Tryz.func71,Tryz.ntmps71
  go_wp2_with fail
  go_ret
  exact ⟨rfl,belA (belA bR)⟩
theorem ralike_leaf (k:Nat) (m:Bool) (r s r':Int) (a a':Option Addr) (cap n' cap':Nat) (rg:Bool) (w:World) (hr:rg=true→r=r'):Calls Tryz.prog 71 #[tyV k m r s a 0 cap,tyV k m r' s a' n' cap',.bool rg] w fun e w'=>e=.returned (.bool true)∧Below w.heap.size w w':=by
 obtain ⟨N1,N2⟩:=two_new w ⟨k,m,r,s,a,0,cap⟩ ⟨k,m,r',s,a',n',cap'⟩
 have HB0:=belB w ⟨k,m,r,s,a,0,cap⟩ ⟨k,m,r',s,a',n',cap'⟩
 cases rg with
 | true =>
  obtain rfl:=hr rfl
  clear hr
  go_enter Tryz.func71,Tryz.ntmps71
  go_wp2_with fail
  refine beginH (S:=fun W=>Below ((w.alloc (tyO k m r s a 0 cap)).alloc (tyO k m r s a' n' cap')).heap.size ((w.alloc (tyO k m r s a 0 cap)).alloc (tyO k m r s a' n' cap')) W) (fun _ _ _ _ _ h=>h) (by kernel_rfl) bR.drew (fun hq hH=>?_)
  refine tz 0 36 _ hq rfl rfl hH ?_
  simp only [pb,pc]
  refine tq 1 37 (.slice a 0 cap) hq rfl rfl (fun W hSw=>by (obtain ⟨-,p0,p1,p2,p3,p4⟩:=N1.below hSw;go_simp;try rfl)) hH ?_
  simp only [pb,pc]
  refine tz 2 38 _ hq rfl rfl hH ?_
  simp only [pb,pc]
  refine tz 3 39 _ hq rfl rfl hH ?_
  simp only [pb,pc]
  refine tz 4 40 _ hq rfl rfl hH ?_
  simp only [pb,pc]
  refine sq 5 41 hq rfl rfl hH ?_
  simp only [pb,pc]
  refine sq 6 42 hq rfl rfl hH ?_
  simp only [pb,pc]
  refine sq 7 43 hq rfl rfl hH ?_
  simp only [pb,pc]
  refine sq 8 44 hq rfl rfl hH ?_
  simp only [pb,pc]
  refine sq 9 45 hq rfl rfl hH ?_
  simp only [pb,pc]
  refine sq 10 46 hq rfl rfl hH ?_
  simp only [pb,pc]
  refine sq 11 47 hq rfl rfl hH ?_
  simp only [pb,pc]
  refine sq 12 48 hq rfl rfl hH ?_
  simp only [pb,pc]
  refine sq 13 49 hq rfl rfl hH ?_
  simp only [pb,pc]
  refine sq 14 50 hq rfl rfl hH ?_
  simp only [pb,pc]
  refine tz 15 51 _ hq rfl rfl hH ?_
  simp only [pb,pc]
  refine tz 16 6 _ hq rfl rfl hH ?_
  simp only [pb,pc]
  refine wpAnyH_done (by kernel_rfl) ?_ _
  have BB:=hH
  clear hH hq
  go_wp2_with fail
  go_ret
  exact ⟨rfl,below2 BB⟩
 | false =>
  clear hr
  go_enter Tryz.func71,Tryz.ntmps71
  go_wp2_with fail
  refine beginH (S:=fun W=>Below ((w.alloc (tyO k m r s a 0 cap)).alloc (tyO k m r' s a' n' cap')).heap.size ((w.alloc (tyO k m r s a 0 cap)).alloc (tyO k m r' s a' n' cap')) W) (fun _ _ _ _ _ h=>h) (by kernel_rfl) bR.drew (fun hq hH=>?_)
  refine tz 0 36 _ hq rfl rfl hH ?_
  simp only [pb,pc]
  refine tq 1 37 (.slice a 0 cap) hq rfl rfl (fun W hSw=>by (obtain ⟨-,p0,p1,p2,p3,p4⟩:=N1.below hSw;go_simp;try rfl)) hH ?_
  simp only [pb,pc]
  refine tz 2 38 _ hq rfl rfl hH ?_
  simp only [pb,pc]
  refine tz 3 39 _ hq rfl rfl hH ?_
  simp only [pb,pc]
  refine tz 4 40 _ hq rfl rfl hH ?_
  simp only [pb,pc]
  refine sq 5 41 hq rfl rfl hH ?_
  simp only [pb,pc]
  refine sq 6 42 hq rfl rfl hH ?_
  simp only [pb,pc]
  refine sq 7 43 hq rfl rfl hH ?_
  simp only [pb,pc]
  refine sq 8 44 hq rfl rfl hH ?_
  simp only [pb,pc]
  refine sq 9 45 hq rfl rfl hH ?_
  simp only [pb,pc]
  refine sq 10 46 hq rfl rfl hH ?_
  simp only [pb,pc]
  refine sq 11 47 hq rfl rfl hH ?_
  simp only [pb,pc]
  refine sq 12 48 hq rfl rfl hH ?_
  simp only [pb,pc]
  refine sq 13 49 hq rfl rfl hH ?_
  simp only [pb,pc]
  refine sq 14 50 hq rfl rfl hH ?_
  simp only [pb,pc]
  refine tz 15 51 _ hq rfl rfl hH ?_
  simp only [pb,pc]
  refine tz 16 6 _ hq rfl rfl hH ?_
  simp only [pb,pc]
  refine wpAnyH_done (by kernel_rfl) ?_ _
  have BB:=hH
  clear hH hq
  go_wp2_with fail
  go_ret
  exact ⟨rfl,below2 BB⟩
theorem ralike_one (k:Nat) (m:Bool) (r s r':Int) (g off g' off' cap cap':Nat) (f f':Fv) (rr rg:Bool) (w:World) (hr:rg=true→r=r') (hc:C5 w g off f) (hc':C5 w g' off' f') (ih:∀ W,Below w.heap.size w W→Calls Tryz.prog 71 #[f.v,f'.v,.bool rg] W fun e w'=>e=.returned (.bool rr)∧Below W.heap.size W w'):Calls Tryz.prog 71 #[tyV k m r s (some ⟨g,off,none⟩) 1 cap,tyV k m r' s (some ⟨g',off',none⟩) 1 cap',.bool rg] w fun e w'=>e=.returned (.bool rr)∧Below w.heap.size w w':=by
 obtain ⟨N1,N2⟩:=two_new w ⟨k,m,r,s,some ⟨g,off,none⟩,1,cap⟩ ⟨k,m,r',s,some ⟨g',off',none⟩,1,cap'⟩
 have HB0:=belB w ⟨k,m,r,s,some ⟨g,off,none⟩,1,cap⟩ ⟨k,m,r',s,some ⟨g',off',none⟩,1,cap'⟩
 have M1:=hc.below HB0
 have M2:=hc'.below HB0
 have IH:Hid (∀ W,Below w.heap.size w W→Calls Tryz.prog 71 #[f.v,f'.v,.bool rg] W fun e w'=>e=.returned (.bool rr)∧Below W.heap.size W w'):=ih
 clear ih hc hc'
 cases rg with
 | true =>
  obtain rfl:=hr rfl
  clear hr
  go_enter Tryz.func71,Tryz.ntmps71
  go_wp2_with fail
  refine beginH (S:=fun W=>Below ((w.alloc (tyO k m r s (some ⟨g,off,none⟩) 1 cap)).alloc (tyO k m r s (some ⟨g',off',none⟩) 1 cap')).heap.size ((w.alloc (tyO k m r s (some ⟨g,off,none⟩) 1 cap)).alloc (tyO k m r s (some ⟨g',off',none⟩) 1 cap')) W) (fun _ _ _ _ _ h=>h) (by kernel_rfl) bR.drew (fun hq hH=>?_)
  refine tz 0 36 _ hq rfl rfl hH ?_
  simp only [pb,pc]
  refine tq 1 37 (.slice (some ⟨g,off,none⟩) 1 cap) hq rfl rfl (fun W hSw=>by (obtain ⟨-,p0,p1,p2,p3,p4⟩:=N1.below hSw;go_simp;try rfl)) hH ?_
  simp only [pb,pc]
  refine tz 2 38 _ hq rfl rfl hH ?_
  simp only [pb,pc]
  refine tz 3 39 _ hq rfl rfl hH ?_
  simp only [pb,pc]
  refine tz 4 40 _ hq rfl rfl hH ?_
  simp only [pb,pc]
  refine tz 5 41 _ hq rfl rfl hH ?_
  simp only [pb,pc]
  refine tq 6 42 (.slice (some ⟨g,off,none⟩) 1 cap) hq rfl rfl (fun W hSw=>by (obtain ⟨-,p0,p1,p2,p3,p4⟩:=N1.below hSw;go_simp;try rfl)) hH ?_
  simp only [pb,pc]
  refine tz 7 43 (.pointer (some ⟨g,off,none⟩)) hq rfl rfl hH ?_
  simp only [pb,pc]
  refine tq 8 44 f.v hq rfl rfl (fun W hSw=>by (obtain ⟨-,p0,p1,p2,p3,p4⟩:=M1.below hSw;go_simp;try rfl)) hH ?_
  simp only [pb,pc]
  refine tz 9 45 _ hq rfl rfl hH ?_
  simp only [pb,pc]
  refine tq 10 46 (.slice (some ⟨g',off',none⟩) 1 cap') hq rfl rfl (fun W hSw=>by (obtain ⟨-,p0,p1,p2,p3,p4⟩:=N2.below hSw;go_simp;try rfl)) hH ?_
  simp only [pb,pc]
  refine tz 11 47 (.pointer (some ⟨g',off',none⟩)) hq rfl rfl hH ?_
  simp only [pb,pc]
  refine tq 12 48 f'.v hq rfl rfl (fun W hSw=>by (obtain ⟨-,p0,p1,p2,p3,p4⟩:=M2.below hSw;go_simp;try rfl)) hH ?_
  simp only [pb,pc]
  refine tz 13 49 _ hq rfl rfl hH ?_
  simp only [pb,pc]
  refine aR1 14 rfl (fun K hK=>?_)
  go_simp
  refine (IH.out _ (below2 hH)).mono ?_;rintro e w2 ⟨rfl,hb2⟩;have B2:=jB hH hb2
  go_wp2_with fail
  refine hK.out _ _ B2 (fun hH=>?_)
  clear hK K
  try simp only [Act.put,List.setIfInBounds_toArray,pb,pc]
  refine tz 15 51 _ hq rfl rfl hH ?_
  simp only [pb,pc]
  refine tz 16 6 _ hq rfl rfl hH ?_
  simp only [pb,pc]
  refine wpAnyH_done (by kernel_rfl) ?_ _
  have BB:=hH
  clear hH hq
  go_wp2_with fail
  go_ret
  exact ⟨rfl,below2 BB⟩
 | false =>
  clear hr
  go_enter Tryz.func71,Tryz.ntmps71
  go_wp2_with fail
  refine beginH (S:=fun W=>Below ((w.alloc (tyO k m r s (some ⟨g,off,none⟩) 1 cap)).alloc (tyO k m r' s (some ⟨g',off',none⟩) 1 cap')).heap.size ((w.alloc (tyO k m r s (some ⟨g,off,none⟩) 1 cap)).alloc (tyO k m r' s (some ⟨g',off',none⟩) 1 cap')) W) (fun _ _ _ _ _ h=>h) (by kernel_rfl) bR.drew (fun hq hH=>?_)
  refine tz 0 36 _ hq rfl rfl hH ?_
  simp only [pb,pc]
  refine tq 1 37 (.slice (some ⟨g,off,none⟩) 1 cap) hq rfl rfl (fun W hSw=>by (obtain ⟨-,p0,p1,p2,p3,p4⟩:=N1.below hSw;go_simp;try rfl)) hH ?_
  simp only [pb,pc]
  refine tz 2 38 _ hq rfl rfl hH ?_
  simp only [pb,pc]
  refine tz 3 39 _ hq rfl rfl hH ?_
  simp only [pb,pc]
  refine tz 4 40 _ hq rfl rfl hH ?_
  simp only [pb,pc]
  refine tz 5 41 _ hq rfl rfl hH ?_
  simp only [pb,pc]
  refine tq 6 42 (.slice (some ⟨g,off,none⟩) 1 cap) hq rfl rfl (fun W hSw=>by (obtain ⟨-,p0,p1,p2,p3,p4⟩:=N1.below hSw;go_simp;try rfl)) hH ?_
  simp only [pb,pc]
  refine tz 7 43 (.pointer (some ⟨g,off,none⟩)) hq rfl rfl hH ?_
  simp only [pb,pc]
  refine tq 8 44 f.v hq rfl rfl (fun W hSw=>by (obtain ⟨-,p0,p1,p2,p3,p4⟩:=M1.below hSw;go_simp;try rfl)) hH ?_
  simp only [pb,pc]
  refine tz 9 45 _ hq rfl rfl hH ?_
  simp only [pb,pc]
  refine tq 10 46 (.slice (some ⟨g',off',none⟩) 1 cap') hq rfl rfl (fun W hSw=>by (obtain ⟨-,p0,p1,p2,p3,p4⟩:=N2.below hSw;go_simp;try rfl)) hH ?_
  simp only [pb,pc]
  refine tz 11 47 (.pointer (some ⟨g',off',none⟩)) hq rfl rfl hH ?_
  simp only [pb,pc]
  refine tq 12 48 f'.v hq rfl rfl (fun W hSw=>by (obtain ⟨-,p0,p1,p2,p3,p4⟩:=M2.below hSw;go_simp;try rfl)) hH ?_
  simp only [pb,pc]
  refine tz 13 49 _ hq rfl rfl hH ?_
  simp only [pb,pc]
  refine aR1 14 rfl (fun K hK=>?_)
  go_simp
  refine (IH.out _ (below2 hH)).mono ?_;rintro e w2 ⟨rfl,hb2⟩;have B2:=jB hH hb2
  go_wp2_with fail
  refine hK.out _ _ B2 (fun hH=>?_)
  clear hK K
  try simp only [Act.put,List.setIfInBounds_toArray,pb,pc]
  refine tz 15 51 _ hq rfl rfl hH ?_
  simp only [pb,pc]
  refine tz 16 6 _ hq rfl rfl hH ?_
  simp only [pb,pc]
  refine wpAnyH_done (by kernel_rfl) ?_ _
  have BB:=hH
  clear hH hq
  go_wp2_with fail
  go_ret
  exact ⟨rfl,below2 BB⟩
theorem ralike_any (rg:Bool):∀ (c d:Ch) (f f':Fv) (w:World),c.ok 32→d.ok 32→TyAt w f c.ty→TyAt w f' d.ty→Calls Tryz.prog 71 #[f.v,f'.v,.bool rg] w fun e w'=>e=.returned (.bool (alikeR rg c d))∧Below w.heap.size w w':=by
 intro c
 induction c with
 | leaf k s =>
  intro d f f' w hc hd h h'
  obtain ⟨a,cap,rfl,-⟩:=h.leaf
  have hk:¬ k=3∧¬ k=4:=by
   have:(k=1∨k=2)∧s=0∨k=5∧0≤s∧s<32:=hc
   omega
  cases d with
  | leaf k' s' =>
   obtain ⟨a',cap',rfl,-⟩:=h'.leaf
   by_cases e1:k=k'
   ·subst e1
    by_cases e2:s=s'
    ·subst e2
     have e:alikeR rg (.leaf k s) (.leaf k s)=true:=by simp [alikeR]
     rw [e]
     exact ralike_leaf k false 0 s 0 a a' cap 0 cap' rg w (fun _=>rfl)
    ·have e:alikeR rg (.leaf k s) (.leaf k s')=false:=by simp [alikeR,e2]
     rw [e]
     exact ralike_no _ _ rg w (.inr (.inr (.inl e2)))
   ·have e:alikeR rg (.leaf k s) (.leaf k' s')=false:=by simp [alikeR,e1]
    rw [e]
    exact ralike_no _ _ rg w (.inl e1)
  | box d =>
   obtain ⟨g,off,cap',f',rfl,-⟩:=h'.box
   exact ralike_no _ _ rg w (.inl hk.1)
  | ref m r d =>
   obtain ⟨g,off,cap',f',rfl,-⟩:=h'.ref
   exact ralike_no _ _ rg w (.inl hk.2)
 | box c ih =>
  intro d f f' w hc hd h h'
  obtain ⟨g,off,cap,f1,rfl,hc1,ht1⟩:=h.box
  cases d with
  | leaf k' s' =>
   obtain ⟨a',cap',rfl,-⟩:=h'.leaf
   have hk:¬ 3=k':=by
    have:(k'=1∨k'=2)∧s'=0∨k'=5∧0≤s'∧s'<32:=hd
    omega
   exact ralike_no _ _ rg w (.inl hk)
  | box d =>
   obtain ⟨g',off',cap',f2,rfl,hc2,ht2⟩:=h'.box
   have e:alikeR rg (.box c) (.box d)=alikeR rg c d:=rfl
   rw [e]
   exact ralike_one 3 false 0 0 0 g off g' off' cap cap' f1 f2 _ rg w (fun _=>rfl) hc1 hc2 (fun W hW=>ih d f1 f2 W hc hd (ht1.bel hW) (ht2.bel hW))
  | ref m r d =>
   obtain ⟨g',off',cap',f',rfl,-⟩:=h'.ref
   exact ralike_no _ _ rg w (.inl (by simp))
 | ref m r c ih =>
  intro d f f' w hc hd h h'
  obtain ⟨g,off,cap,f1,rfl,hc1,ht1,-⟩:=h.ref
  cases d with
  | leaf k' s' =>
   obtain ⟨a',cap',rfl,-⟩:=h'.leaf
   have hk:¬ 4=k':=by
    have:(k'=1∨k'=2)∧s'=0∨k'=5∧0≤s'∧s'<32:=hd
    omega
   exact ralike_no _ _ rg w (.inl hk)
  | box d =>
   obtain ⟨g',off',cap',f2,rfl,hc2,ht2⟩:=h'.box
   exact ralike_no _ _ rg w (.inl (by simp))
  | ref m' r' d =>
   obtain ⟨g',off',cap',f2,rfl,hc2,ht2,-⟩:=h'.ref
   by_cases e1:m=m'
   ·subst e1
    by_cases e2:rg=true→r=r'
    ·have e:alikeR rg (.ref m r c) (.ref m r' d)=alikeR rg c d:=by
      have:(!rg || decide (r=r'))=true:=by cases rg <;> simp_all
      simp [alikeR,this]
     rw [e]
     exact ralike_one 4 m r 0 r' g off g' off' cap cap' f1 f2 _ rg w e2 hc1 hc2 (fun W hW=>ih d f1 f2 W hc.2 hd.2 (ht1.bel hW) (ht2.bel hW))
    ·have e3:rg=true∧¬ r=r':=by cases rg <;> simp_all
     have e:alikeR rg (.ref m r c) (.ref m r' d)=false:=by simp [alikeR,e3.1,e3.2]
     rw [e]
     exact ralike_no _ _ rg w (.inr (.inr (.inr e3)))
   ·have e:alikeR rg (.ref m r c) (.ref m' r' d)=false:=by simp [alikeR,e1]
    rw [e]
    exact ralike_no _ _ rg w (.inr (.inl e1))
theorem rAlike_of (t u:Ty) (f f':Fv) (w:World) (h:TyAt w f t) (h':TyAt w f' u) (b1 b2 rr:Bool) (h1:isT t=b1) (h2:isT u=b2) (hr:b1=true→b2=true→∀ W,Below w.heap.size w W→Calls Tryz.prog 71 #[f.v,f'.v,.bool false] W fun e w'=>e=.returned (.bool rr)∧Below W.heap.size W w') (hn:¬ (b1=true∧b2=true)→rr=false):Calls Tryz.prog 39 #[f.v,f'.v] w fun e w'=>e=.returned (.bool rr)∧Below w.heap.size w w':=by
 have I1:Hid (∀ W,Below w.heap.size w W→Calls Tryz.prog 38 #[f.v] W fun e w'=>e=.returned (.bool b1)∧Below W.heap.size W w'):=fun W hW=>by
  have:=is_any t f W (h.bel hW)
  rw [h1] at this
  exact this
 have I2:Hid (∀ W,Below w.heap.size w W→Calls Tryz.prog 38 #[f'.v] W fun e w'=>e=.returned (.bool b2)∧Below W.heap.size W w'):=fun W hW=>by
  have:=is_any u f' W (h'.bel hW)
  rw [h2] at this
  exact this
 have HR:Hid (b1=true→b2=true→∀ W,Below w.heap.size w W→Calls Tryz.prog 71 #[f.v,f'.v,.bool false] W fun e w'=>e=.returned (.bool rr)∧Below W.heap.size W w'):=hr
 have HN:Hid (¬ (b1=true∧b2=true)→rr=false):=hn
 clear hr hn h h' h1 h2
 obtain ⟨k,m,r,s,a,n,cap⟩:=f
 obtain ⟨k',m',r',s',a',n',cap'⟩:=f'
 have N1:=two_new w ⟨k,m,r,s,a,n,cap⟩ ⟨k',m',r',s',a',n',cap'⟩
 have HB0:=belB w ⟨k,m,r,s,a,n,cap⟩ ⟨k',m',r',s',a',n',cap'⟩
 have HN1:Hid (C5 ((w.alloc (tyO k m r s a n cap)).alloc (tyO k' m' r' s' a' n' cap')) w.heap.size 0 ⟨k,m,r,s,a,n,cap⟩∧C5 ((w.alloc (tyO k m r s a n cap)).alloc (tyO k' m' r' s' a' n' cap')) (w.heap.size+1) 0 ⟨k',m',r',s',a',n',cap'⟩):=N1
 clear N1
 show Calls Tryz.prog 39 #[tyV k m r s a n cap,tyV k' m' r' s' a' n' cap'] w _
 cases b1 with
 | false =>
  obtain rfl:=HN.out (by simp)
  clear HR HN I2
  go_enter Tryz.func39,Tryz.ntmps39
  go_wp2_with (go_at_call 38;refine (I1.out _ (belA (belA bR))).mono ?_;rintro e w1 ⟨rfl,hb1⟩)
  go_ret
  exact ⟨rfl,below2 hb1⟩
 | true =>
  cases b2 with
  | false =>
   obtain rfl:=HN.out (by simp)
   clear HR HN
   have st1:Stg 1:=.mk 1
   go_enter Tryz.func39,Tryz.ntmps39
   go_wp2_with (first
    | (have _s:=st1;clear st1 _s;go_at_call 38;refine (I1.out _ (belA (belA bR))).mono ?_;rintro e w1 ⟨rfl,hb1⟩;have st2:Stg 2:=.mk 2;obtain ⟨-,p0,p1,p2,p3,p4⟩:=HN1.out.1.below hb1;obtain ⟨-,q0,q1,q2,q3,q4⟩:=HN1.out.2.below hb1)
    | (have _s:=st2;clear st2 _s;go_at_call 38;refine (I2.out _ (below2 hb1)).mono ?_;rintro e w2 ⟨rfl,hb2⟩))
   go_ret
   exact ⟨rfl,jB (below2 hb1) hb2⟩
  | true =>
   have R:=HR.out rfl rfl
   have HR':Hid (∀ W,Below w.heap.size w W→Calls Tryz.prog 71 #[tyV k m r s a n cap,tyV k' m' r' s' a' n' cap',.bool false] W fun e w'=>e=.returned (.bool rr)∧Below W.heap.size W w'):=R
   clear HR HN R
   have st1:Stg 1:=.mk 1
   go_enter Tryz.func39,Tryz.ntmps39
   go_wp2_with (first
    | (have _s:=st1;clear st1 _s;go_at_call 38;refine (I1.out _ (belA (belA bR))).mono ?_;rintro e w1 ⟨rfl,hb1⟩;have st2:Stg 2:=.mk 2;obtain ⟨-,p0,p1,p2,p3,p4⟩:=HN1.out.1.below hb1;obtain ⟨-,q0,q1,q2,q3,q4⟩:=HN1.out.2.below hb1)
    | (have _s:=st2;clear st2 _s;go_at_call 38;refine (I2.out _ (below2 hb1)).mono ?_;rintro e w2 ⟨rfl,hb2⟩;clear p0 p1 p2 p3 p4 q0 q1 q2 q3 q4;obtain ⟨-,p0,p1,p2,p3,p4⟩:=HN1.out.1.below (hb1.trans (hb2.mono hb1.size));obtain ⟨-,q0,q1,q2,q3,q4⟩:=HN1.out.2.below (hb1.trans (hb2.mono hb1.size)))
    | (go_at_call 71;refine (HR'.out _ (jB (below2 hb1) hb2)).mono ?_;rintro e w3 ⟨rfl,hb3⟩))
   go_ret
   exact ⟨rfl,jB (jB (below2 hb1) hb2) hb3⟩
theorem rAlike_yes (c d:Ch) (f f':Fv) (w:World) (h:TyAt w f c.ty) (h':TyAt w f' d.ty) (hc:Ok c) (hd:Ok d):Calls Tryz.prog 39 #[f.v,f'.v] w fun e w'=>e=.returned (.bool (alikeB c d))∧Below w.heap.size w w' :=
 rAlike_of c.ty d.ty f f' w h h' true true _ hc.is hd.is (fun _ _ W hW=>alikeR_no c d ▸ ralike_any false c d f f' W hc.ok hd.ok (h.bel hW) (h'.bel hW)) (fun hn=>absurd ⟨rfl,rfl⟩ hn)
end Go.Proofs.YtmjenlogbkbgnaaGreatDoor
