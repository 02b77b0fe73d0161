import Derived.Test.YtdlggpcakaofoaaGreatB32
namespace Go.Proofs.YtdlggpcakaofoaaGreat
open Go.RowKit Go.Shelf
set_option linter.unusedVariables false
set_option linter.unusedSimpArgs false
set_option maxRecDepth 100000
set_option maxHeartbeats 4000000
theorem out_one {w w1:World} {lo hi:Nat} {f:Fv} (h:Out lo hi (w.alloc f.o) w1) (hh:lo≤w.heap.size):Out lo hi w w1:=(Out.of (belA bR) hh).trans h
theorem Own_no (t:Ty) (f:Fv) (w:World) (hn:isT t=false) (h:TyAt w f t):Calls Tryz.prog 54 #[f.v] w fun e w'=>∃ f':Fv,e=.returned (.tuple #[f'.v,.int .i64 2])∧New w w' f' (.leaf 0 0):=by
 have CI:Hid (Calls Tryz.prog 59 #[f.v] ((w.alloc f.o).alloc zT.o) fun e w'=>e=.returned (.bool false)∧Below ((w.alloc f.o).alloc zT.o).heap.size ((w.alloc f.o).alloc zT.o) w'):=by
  have:=some_any t f _ (h.bel (belB w f zT))
  rw [hn] at this
  exact this
 have A4:Hid (At ((w.alloc f.o).alloc zT.o) (w.heap.size+1) zT.o):=at_snd _ _ _
 obtain ⟨k,m,r,s,a,n,cap⟩:=f
 show Calls Tryz.prog 54 #[tyV k m r s a n cap] w _
 clear h hn
 go_enter Tryz.func54,Tryz.ntmps54
 go_wp2_with (go_at_call 59;refine CI.out.mono ?_;rintro e w1 ⟨rfl,hb1⟩;have B4:=(A4.out.below hb1);have g0:=B4.tyF 0;have g1:=B4.tyF 1;have g2:=B4.tyF 2;have g3:=B4.tyF 3;have g4:=B4.tyF 4;obtain ⟨hl4,q0,q1,q2,q3,q4⟩:=B4.ty;simp only [Nat.zero_add] at q0 q1 q2 q3 q4)
 obtain ⟨F1,F2⟩:=new_zero (below2 hb1) (b:=w.heap.size+1) (by omega) B4
 exact bodyPost_ret (results_c2 (g:=zT) Tryz.results54 rfl rfl F1) rfl ⟨zT,rfl,F2⟩
def FitC (D:Int) (t:Ty) (b:Bool):Prop:=∀ (f:Fv) (w:World),TyAt w f t→Calls Tryz.prog 26 #[f.v,.int .i64 D] w fun e w'=>e=.returned (.bool b)∧Below w.heap.size w w'
theorem TyAt.parts {w:World} {k:Nat} {m:Bool} {r s:Int} {a:Option Addr} {n cap:Nat} {of:List Ty} (h:TyAt w ⟨k,m,r,s,a,n,cap⟩ (.mk k m r s of)) (hne:of≠[]):∃ g off,a=some ⟨g,off,none⟩∧∀ i t,of[i]?=some t→∃ f',C5 w g (off+i*5) f'∧TyAt w f' t:=by
 cases h with
 | mk k m r s a n cap of V hn hl hk r0 r1 s0 s1 h1 h2 =>
  obtain ⟨g,off,rfl,h⟩:=h1 hne
  exact ⟨g,off,rfl,fun i t ht=>⟨V i,h i (List.getElem?_eq_some_iff.1 ht).1,h2 i t ht⟩⟩
theorem TyAt.inv0 {w:World} {f:Fv} {k:Nat} {m:Bool} {r s:Int} {of:List Ty} (h:TyAt w f (.mk k m r s of)):∃ a cap,f=⟨k,m,r,s,a,of.length,cap⟩:=by
 cases h with
 | mk k m r s a n cap of V hn hl hk r0 r1 s0 s1 h1 h2=>exact ⟨a,cap,by rw [hn]⟩
def cd (D:Int) (i:Nat):Int:=if i=0 then D - 1 else if D≤4 then D - 1 else 3
theorem cd_lt (D:Int) (i:Nat):cd D i<D:=by unfold cd;repeat' split <;> omega
theorem cd_nn (D:Int) (i:Nat) (h:1≤D):0≤cd D i:=by unfold cd;repeat' split <;> omega
theorem fits_ex:∀ (d:Nat) (D:Int),D=d→D≤60→∀ t:Ty,∃ b,FitC D t b:=by
 intro d
 induction d using Nat.strongRecOn with
 | ind d ih =>
  rintro D hD hD60 ⟨k,m,r,s,of⟩
  by_cases h0:D=0
  ·subst h0
   refine ⟨false,fun f w h=>?_⟩
   obtain ⟨a,cap,rfl⟩:=h.inv0
   obtain ⟨q,hq⟩:∃ q,q=of.length:=⟨_,rfl⟩
   show Calls Tryz.prog 26 #[tyV k m r s a of.length cap,.int .i64 0] w _
   rw [← hq]
   clear hq h hD hD60 ih
   go_enter Tryz.func26,Tryz.ntmps26
   go_wp2_with fail
   go_ret
   exact ⟨rfl,belA bR⟩
  ·have D1:1≤D:=by omega
   by_cases h3:3<of.length
   ·refine ⟨false,fun f w h=>?_⟩
    obtain ⟨a,cap,rfl⟩:=h.inv0
    have q3:(3:Int)<(of.length:Int):=by omega
    obtain ⟨q,hq⟩:∃ q,q=of.length:=⟨_,rfl⟩
    show Calls Tryz.prog 26 #[tyV k m r s a of.length cap,.int .i64 D] w _
    rw [← hq] at q3 ⊢
    clear hq h hD hD60 ih h3 D1
    go_enter Tryz.func26,Tryz.ntmps26
    go_wp2_with fail
    go_ret
    exact ⟨rfl,belA bR⟩
   ·have hs:∀ i,∃ b,∀ t,of[i]?=some t→FitC (cd D i) t b:=fun i=>by
     cases hi:of[i]? with
     | none=>exact ⟨true,fun t ht=>by cases ht⟩
     | some t =>
      obtain ⟨b,hb⟩:=ih (cd D i).toNat (by have:=cd_lt D i;have:=cd_nn D i D1;omega) (cd D i) (by have:=cd_nn D i D1;omega) (by have:=cd_lt D i;omega) t
      exact ⟨b,fun u hu=>by cases hu;exact hb⟩
    obtain ⟨bs,hbs⟩:∃ bs:Nat→Bool,∀ i t,of[i]?=some t→FitC (cd D i) t (bs i):=⟨fun i=>Classical.choose (hs i),fun i=>Classical.choose_spec (hs i)⟩
    obtain ⟨b,hb⟩:∃ b:Bool,b=true↔∀ i,i<of.length→bs i=true:=by
     by_cases h:∀ i,i<of.length→bs i=true
     ·exact ⟨true,by simpa using h⟩
     ·exact ⟨false,by simpa using h⟩
    refine ⟨b,fun f w h=>?_⟩
    obtain ⟨a,cap,rfl⟩:=h.inv0
    have q3:¬ (3:Int)<(of.length:Int):=by omega
    show Calls Tryz.prog 26 #[tyV k m r s a of.length cap,.int .i64 D] w _
    have HS:Hid (∀ i t,of[i]?=some t→FitC (cd D i) t (bs i)):=hbs
    have HB:Hid (b=true↔∀ i,i<of.length→bs i=true):=hb
    have HT:Hid (TyAt w ⟨k,m,r,s,a,of.length,cap⟩ (.mk k m r s of)):=h
    have A1:At (w.alloc (tyO k m r s a of.length cap)) w.heap.size (tyO k m r s a of.length cap):=At.new _ _
    have hB1:Below w.heap.size w (w.alloc (tyO k m r s a of.length cap)):=belA bR
    clear hs hbs hb h ih hD
    go_enter Tryz.func26,Tryz.ntmps26
    go_wp2_with fail
    go_loopw [5] (fun i W=>∃ j:Nat,j≤of.length∧i=.int .i64 j∧(∀ l,l<j→bs l=true)∧At W w.heap.size (tyO k m r s a of.length cap)∧Below w.heap.size w W) (fun i _=>of.length - (intOf i).toNat)
    case atStart=>exact ⟨0,Nat.zero_le _,rfl,fun l h=>absurd h (Nat.not_lt_zero l),A1,hB1⟩
    case round =>
     obtain ⟨j,hj,rfl,hall,hA,hB⟩:=hrel
     obtain ⟨-,c0,c1,c2,c3,c4⟩:=(At.ty (f:=⟨k,m,r,s,a,of.length,cap⟩) hA)
     by_cases hlt:j<of.length
     ·obtain ⟨g,off,rfl,hp⟩:=(HT.out.bel hB).parts (by rintro rfl;simp at hlt)
      obtain ⟨x,hx⟩:∃ x,of[j]?=some x:=⟨_,List.getElem?_eq_getElem hlt⟩
      obtain ⟨f',⟨hg,q0,q1,q2,q4,q5⟩,hx'⟩:=hp j x hx
      have CC:Hid (Calls Tryz.prog 26 #[f'.v,.int .i64 (cd D j)] wr fun e w'=>e=.returned (.bool (bs j))∧Below wr.heap.size wr w'):=HS.out j x hx f' wr hx'
      have yes:bs j=true→∀ l,l<j+1→bs l=true:=fun h l hl=>by
       rcases Nat.lt_or_ge l j with h'|h'
       ·exact hall l h'
       ·obtain rfl:l=j:=by omega
        exact h
      have no:bs j=false→b=false:=fun h=>by
       cases hb:b with
       | false=>rfl
       | true=>rw [HB.out.1 hb j hlt] at h;cases h
      have YES:Hid (bs j=true→∀ l,l<j+1→bs l=true):=yes
      have NO:Hid (bs j=false→b=false):=no
      have w4:IntKind.i64.wrap (D - 1)=D - 1:=by rw [IntKind.wrap_i64];omega
      have w5:IntKind.i64.wrap (60 - 57*(j:Int))=60 - 57*(j:Int):=by rw [IntKind.wrap_i64];omega
      have w6:IntKind.i64.wrap (57*(j:Int))=57*(j:Int):=by rw [IntKind.wrap_i64];omega
      clear hp hx hx' hall A1 hB1 yes no HS HB
      obtain ⟨bj,hbj⟩:∃ bj,bj=bs j:=⟨_,rfl⟩
      rw [← hbj] at CC YES NO
      clear hbj
      have j2:j=0∨j=1∨j=2:=by omega
      rcases j2 with j2|j2|j2
      ·clear h3
       have e:cd D j=D - 1:=by rw [j2];simp [cd];try omega
       rw [e] at CC
       have ff0:(j:Int)≤1:=by omega
       have ff1:D - 1≤60 - 57*(j:Int):=by omega
       clear e j2
       cases bj with
       | true =>
        have Y:=YES.out rfl
        have HY:Hid (∀ l,l<j+1→bs l=true):=Y
        clear Y YES NO
        go_wp2_with (go_at_call 26;refine CC.out.mono ?_;rintro e w1 ⟨rfl,hb1⟩)
        exact ⟨⟨j+1,by omega,by go_num,HY.out,hA.below hb1,jB hB hb1⟩,by simp [intOf];omega⟩
       | false =>
        have Y:=NO.out rfl
        subst Y
        clear YES NO
        go_wp2_with (go_at_call 26;refine CC.out.mono ?_;rintro e w1 ⟨rfl,hb1⟩)
        go_ret
        exact ⟨rfl,jB hB hb1⟩
      ·by_cases d4:D≤4
       ·clear h3
        have e:cd D j=D - 1:=by rw [j2];simp [cd];try omega
        rw [e] at CC
        have ff0:(j:Int)≤1:=by omega
        have ff1:D - 1≤60 - 57*(j:Int):=by omega
        clear e j2
        cases bj with
        | true =>
         have Y:=YES.out rfl
         have HY:Hid (∀ l,l<j+1→bs l=true):=Y
         clear Y YES NO
         go_wp2_with (go_at_call 26;refine CC.out.mono ?_;rintro e w1 ⟨rfl,hb1⟩)
         exact ⟨⟨j+1,by omega,by go_num,HY.out,hA.below hb1,jB hB hb1⟩,by simp [intOf];omega⟩
        | false =>
         have Y:=NO.out rfl
         subst Y
         clear YES NO
         go_wp2_with (go_at_call 26;refine CC.out.mono ?_;rintro e w1 ⟨rfl,hb1⟩)
         go_ret
         exact ⟨rfl,jB hB hb1⟩
       ·clear h3
        have e:cd D j=60 - 57*(j:Int):=by rw [j2];simp [cd];try omega
        rw [e] at CC
        have ff0:(j:Int)≤1:=by omega
        have ff1:60 - 57*(j:Int)<D - 1:=by omega
        clear e j2
        cases bj with
        | true =>
         have Y:=YES.out rfl
         have HY:Hid (∀ l,l<j+1→bs l=true):=Y
         clear Y YES NO
         go_wp2_with (go_at_call 26;refine CC.out.mono ?_;rintro e w1 ⟨rfl,hb1⟩)
         exact ⟨⟨j+1,by omega,by go_num,HY.out,hA.below hb1,jB hB hb1⟩,by simp [intOf];omega⟩
        | false =>
         have Y:=NO.out rfl
         subst Y
         clear YES NO
         go_wp2_with (go_at_call 26;refine CC.out.mono ?_;rintro e w1 ⟨rfl,hb1⟩)
         go_ret
         exact ⟨rfl,jB hB hb1⟩
      ·by_cases d4:D≤4
       ·clear h3
        have e:cd D j=D - 1:=by rw [j2];simp [cd];try omega
        rw [e] at CC
        have ff0:1<(j:Int):=by omega
        have ff1:D - 1≤3:=by omega
        clear e j2
        cases bj with
        | true =>
         have Y:=YES.out rfl
         have HY:Hid (∀ l,l<j+1→bs l=true):=Y
         clear Y YES NO
         go_wp2_with (go_at_call 26;refine CC.out.mono ?_;rintro e w1 ⟨rfl,hb1⟩)
         exact ⟨⟨j+1,by omega,by go_num,HY.out,hA.below hb1,jB hB hb1⟩,by simp [intOf];omega⟩
        | false =>
         have Y:=NO.out rfl
         subst Y
         clear YES NO
         go_wp2_with (go_at_call 26;refine CC.out.mono ?_;rintro e w1 ⟨rfl,hb1⟩)
         go_ret
         exact ⟨rfl,jB hB hb1⟩
       ·clear h3
        have e:cd D j=3:=by rw [j2];simp [cd];try omega
        rw [e] at CC
        have ff0:1<(j:Int):=by omega
        have ff1:3<D - 1:=by omega
        clear e j2
        cases bj with
        | true =>
         have Y:=YES.out rfl
         have HY:Hid (∀ l,l<j+1→bs l=true):=Y
         clear Y YES NO
         go_wp2_with (go_at_call 26;refine CC.out.mono ?_;rintro e w1 ⟨rfl,hb1⟩)
         exact ⟨⟨j+1,by omega,by go_num,HY.out,hA.below hb1,jB hB hb1⟩,by simp [intOf];omega⟩
        | false =>
         have Y:=NO.out rfl
         subst Y
         clear YES NO
         go_wp2_with (go_at_call 26;refine CC.out.mono ?_;rintro e w1 ⟨rfl,hb1⟩)
         go_ret
         exact ⟨rfl,jB hB hb1⟩
     ·obtain rfl:j=of.length:=by omega
      have hb:b=true:=HB.out.2 hall
      subst hb
      clear hall A1 hB1 HS HB HT
      have lt:¬ (of.length:Int)<(of.length:Int):=by omega
      go_wp2_with fail
      go_ret
      exact ⟨rfl,hB⟩
theorem Erase_no (t:Ty) (f:Fv) (w:World) (hn:isT t=false) (h:TyAt w f t):Calls Tryz.prog 29 #[f.v] w fun e w'=>∃ f':Fv,e=.returned (.tuple #[f'.v,.int .i64 2])∧New w w' f' (.leaf 0 0):=by
 have CO:Hid (Calls Tryz.prog 54 #[f.v] ((w.alloc f.o).alloc zT.o) fun e w'=>∃ f':Fv,e=.returned (.tuple #[f'.v,.int .i64 2])∧Below ((w.alloc f.o).alloc zT.o).heap.size ((w.alloc f.o).alloc zT.o) w'):=jH ((Own_no t f _ hn (h.bel (belB w f zT))).mono fun e w' k=>by
  obtain ⟨f',h1,h2⟩:=k
  exact ⟨f',h1,h2.bel⟩)
 have A4:Hid (At ((w.alloc f.o).alloc zT.o) (w.heap.size+1) zT.o):=jH (at_snd _ _ _)
 obtain ⟨k,m,r,s,a,n,cap⟩:=f
 show Calls Tryz.prog 29 #[tyV k m r s a n cap] w _
 clear h hn
 go_enter Tryz.func29,Tryz.ntmps29
 go_upto_region 2 with (go_at_call 54;refine CO.out.mono ?_;rintro e w1 ⟨⟨k1,m1,r1,s1,a1,n1,cap1⟩,rfl,hb1⟩;have HB1:=jH hb1;clear hb1)
 have HB2:Hid (Below ((w.alloc (tyO k m r s a n cap)).alloc zT.o).heap.size ((w.alloc (tyO k m r s a n cap)).alloc zT.o) (w1.alloc (tyO k1 m1 r1 s1 a1 n1 cap1))):=jH (belA HB1.out)
 generalize (w1.alloc (tyO k1 m1 r1 s1 a1 n1 cap1))=w2 at HB2 ⊢
 have HC4:=jH (A4.out.below HB2.out)
 have HBB:=jH (below2 HB2.out)
 clear HB1 HB2 A4 CO
 have B4:=HC4.out
 have g0:=B4.tyF 0
 have g1:=B4.tyF 1
 have g2:=B4.tyF 2
 have g3:=B4.tyF 3
 have g4:=B4.tyF 4
 obtain ⟨hl4,q0,q1,q2,q3,q4⟩:=B4.ty
 simp only [Nat.zero_add] at q0 q1 q2 q3 q4
 go_wp2_with fail
 obtain ⟨F1,F2⟩:=new_zero HBB.out (b:=w.heap.size+1) (by omega) B4
 exact bodyPost_ret (results_c2 (g:=zT) Tryz.results29 rfl rfl F1) rfl ⟨zT,rfl,F2⟩
theorem Turn_no (t:Ty) (f:Fv) (a:Option Addr) (n cap:Nat) (w:World) (hn:isT t=false) (h:TyAt w f t):Calls Tryz.prog 27 #[f.v,.slice a n cap] w fun e w'=>∃ f':Fv,e=.returned (.tuple #[f'.v,.int .i64 2])∧New w w' f' (.leaf 0 0):=by
 have hB0:Below w.heap.size w (((w.alloc f.o).alloc (One (.slice a n cap) 33)).alloc zT.o):=belA (belA (belA bR))
 have CO:Hid (Calls Tryz.prog 54 #[f.v] (((w.alloc f.o).alloc (One (.slice a n cap) 33)).alloc zT.o) fun e w'=>∃ f':Fv,e=.returned (.tuple #[f'.v,.int .i64 2])∧Below w.heap.size w w'∧At w' (w.heap.size+1+1) zT.o):=jH ((Own_no t f _ hn (h.bel hB0)).mono fun e w' k=>by
  obtain ⟨f',h1,h2⟩:=k
  exact ⟨f',h1,jB hB0 h2.bel,(three_new w f.o (One (.slice a n cap) 33) zT.o).2.2.below h2.bel⟩)
 obtain ⟨k,m,r,s,a',n',cap'⟩:=f
 show Calls Tryz.prog 27 #[tyV k m r s a' n' cap',.slice a n cap] w _
 clear h hn hB0
 go_enter Tryz.func27,Tryz.ntmps27
 go_upto_region 2 with (go_at_call 54;refine CO.out.mono ?_;rintro e w1 ⟨⟨k1,m1,r1,s1,a1,n1,cap1⟩,rfl,hb1,ha1⟩;have HB1:=jH hb1;have HA1:=jH ha1;clear hb1 ha1)
 have HBB:Hid (Below w.heap.size w (w1.alloc (tyO k1 m1 r1 s1 a1 n1 cap1))):=jH (belA HB1.out)
 have HC4:Hid (At (w1.alloc (tyO k1 m1 r1 s1 a1 n1 cap1)) (w.heap.size+1+1) zT.o):=jH (HA1.out.alloc _)
 generalize (w1.alloc (tyO k1 m1 r1 s1 a1 n1 cap1))=w2 at HBB HC4 ⊢
 clear HB1 HA1 CO
 have B4:=HC4.out
 have g0:=B4.tyF 0
 have g1:=B4.tyF 1
 have g2:=B4.tyF 2
 have g3:=B4.tyF 3
 have g4:=B4.tyF 4
 obtain ⟨hl4,q0,q1,q2,q3,q4⟩:=B4.ty
 simp only [Nat.zero_add] at q0 q1 q2 q3 q4
 go_wp2_with fail
 obtain ⟨F1,F2⟩:=new_zero HBB.out (b:=w.heap.size+1+1) (by omega) B4
 exact bodyPost_ret (results_c2 (g:=zT) Tryz.results27 rfl rfl F1) rfl ⟨zT,rfl,F2⟩
theorem spoil_leaf (w:World) (k:Nat) (m:Bool) (r s:Int) (a:Option Addr) (cap lo hi:Nat) (hh:hi≤w.heap.size) (hl:lo≤hi):Calls Tryz.prog 15 #[tyV k m r s a 0 cap] w fun e w'=>e=.returned (.tuple #[])∧Out lo hi w w':=by
 go_enter Tryz.func15,Tryz.ntmps15
 go_wp2_with fail
 have A1:At (w.alloc (tyO k m r s a 0 cap)) w.heap.size (Fv.o ⟨k,m,r,s,a,0,cap⟩):=At.new _ _
 have HA:Hid (At (w.alloc (tyO k m r s a 0 cap)) w.heap.size (Fv.o ⟨k,m,r,s,a,0,cap⟩)):=A1
 clear A1
 go_loopw [2] (fun i W=>i=.int .i64 0∧W=w.alloc (tyO k m r s a 0 cap)) (fun i _=>1)
 case atStart=>exact ⟨rfl,rfl⟩
 case round =>
  obtain ⟨rfl,rfl⟩:=hrel
  obtain ⟨-,p0,p1,p2,p3,p4⟩:=HA.out.ty
  go_wp2_with fail
  go_end0
  exact ⟨rfl,Out.of (belA bR) (by omega)⟩
theorem spoil_one (w:World) (k:Nat) (m:Bool) (r s:Int) (g lo hi:Nat) (f:Fv) (hg:lo≤g) (hgh:g<hi) (hh:hi≤w.heap.size) (hA:At w g f.o)
  (IH0:∀ W,Below w.heap.size w W→Calls Tryz.prog 15 #[f.v] W fun e w'=>e=.returned (.tuple #[])∧Out lo hi W w'):Calls Tryz.prog 15 #[tyV k m r s (some ⟨g,0,none⟩) 1 1] w fun e w'=>e=.returned (.tuple #[])∧Out lo hi w w':=by
 have IH:Hid (∀ W,Below w.heap.size w W→Calls Tryz.prog 15 #[f.v] W fun e w'=>e=.returned (.tuple #[])∧Out lo hi W w'):=IH0
 have A1:Hid (At (w.alloc (tyO k m r s (some ⟨g,0,none⟩) 1 1)) w.heap.size (Fv.o ⟨k,m,r,s,some ⟨g,0,none⟩,1,1⟩)):=At.new _ _
 have A2:Hid (At (w.alloc (tyO k m r s (some ⟨g,0,none⟩) 1 1)) g f.o):=hA.alloc _
 have hlo:lo≤w.heap.size:=by omega
 clear IH0 hA
 go_enter Tryz.func15,Tryz.ntmps15
 go_wp2_with fail
 go_loopw [2] (fun i W=>∃ j:Nat,j≤1∧i=.int .i64 j∧Out lo hi (w.alloc (tyO k m r s (some ⟨g,0,none⟩) 1 1)) W∧(j=0→W=w.alloc (tyO k m r s (some ⟨g,0,none⟩) 1 1))) (fun i _=>1 - (intOf i).toNat)
 case atStart=>exact ⟨0,by omega,rfl,Out.refl _ _ _,fun _=>rfl⟩
 case round =>
  obtain ⟨j,hj,rfl,hO,h0⟩:=hrel
  rcases Nat.eq_zero_or_pos j with rfl|hp
  ·obtain rfl:=h0 rfl
   clear h0 hO
   obtain ⟨-,p0,p1,p2,p3,p4⟩:=A1.out.ty
   obtain ⟨hg2,q0,q1,q2,q3,q4⟩:=A2.out.ty
   go_wp2_with (go_at_call 15;refine (IH.out _ (belA bR)).mono ?_;rintro e w1 ⟨rfl,ho1⟩;clear p0 p1 p2 p3 p4 q0 q1 q2 q3 q4;obtain ⟨-,p0,p1,p2,p3,p4⟩:=(ho1.at A1.out (.inr hh)).ty;obtain ⟨f1,hA1⟩:=ho1.form g f A2.out;have g0:=hA1.tyF 0;have g1:=hA1.tyF 1;have g2:=hA1.tyF 2;have g3:=hA1.tyF 3;have g4:=hA1.tyF 4;obtain ⟨hg3,q0,q1,q2,q3,q4⟩:=hA1.ty;simp only [Nat.zero_add] at q0 q1 q2 q3 q4)
   refine ⟨⟨1,by omega,rfl,ho1.S5 hg hgh hA1 ⟨0,false,0,0,none,0,0⟩,fun h=>by omega⟩,?_⟩
   show 1 - ((1:Int)).toNat<1 - (0:Int).toNat
   decide
  ·obtain rfl:j=1:=by omega
   have hA1:=hO.at A1.out (.inr hh)
   obtain ⟨-,p0,p1,p2,p3,p4⟩:=hA1.ty
   go_wp2_with fail
   go_end0
   exact ⟨rfl,out_one (f:=⟨k,m,r,s,some ⟨g,0,none⟩,1,1⟩) hO hlo⟩
theorem spoil_any:∀ (c:Ch) (f:Fv) (w:World) (lo hi:Nat),OwnL w lo hi f c→lo≤hi→hi≤w.heap.size→Calls Tryz.prog 15 #[f.v] w fun e w'=>e=.returned (.tuple #[])∧Out lo hi w w':=by
 intro c
 induction c with
 | leaf k s =>
  intro f w lo hi h hl hh
  cases h with
  | leaf _ _ a cap=>exact spoil_leaf w k false 0 s a cap lo hi hh hl
 | box c ih =>
  intro f w lo hi h hl hh
  cases h with
  | box g f c hg hgh hA hc=>exact spoil_one w 3 false 0 0 g lo hi f hg hgh hh hA (fun W hW=>ih f W lo hi (hc.bel hW) hl (Nat.le_trans hh hW.size))
 | ref m r c ih =>
  intro f w lo hi h hl hh
  cases h with
  | ref _ _ g f c hg hgh hA hc=>exact spoil_one w 4 m r 0 g lo hi f hg hgh hh hA (fun W hW=>ih f W lo hi (hc.bel hW) hl (Nat.le_trans hh hW.size))
theorem equal_leaf (w:World) (k:Nat) (m:Bool) (r s:Int) (a:Option Addr) (cap:Nat) (a':Option Addr) (cap':Nat):Calls Tryz.prog 20 #[tyV k m r s a 0 cap,tyV k m r s a' 0 cap'] w fun e w'=>e=.returned (.bool true)∧Below w.heap.size w w':=by
 have N1:=two_new w ⟨k,m,r,s,a,0,cap⟩ ⟨k,m,r,s,a',0,cap'⟩
 have HN:Hid (C5 ((w.alloc (tyO k m r s a 0 cap)).alloc (tyO k m r s a' 0 cap')) w.heap.size 0 ⟨k,m,r,s,a,0,cap⟩):=N1.1
 clear N1
 go_enter Tryz.func20,Tryz.ntmps20
 go_wp2_with fail
 go_loopw [5] (fun i W=>i=.int .i64 0∧W=(w.alloc (tyO k m r s a 0 cap)).alloc (tyO k m r s a' 0 cap')) (fun i _=>1)
 case atStart=>exact ⟨rfl,rfl⟩
 case round =>
  obtain ⟨rfl,rfl⟩:=hrel
  obtain ⟨-,p0,p1,p2,p3,p4⟩:=HN.out
  go_wp2_with fail
  go_ret
  exact ⟨rfl,belA (belA bR)⟩
theorem equal_one (w:World) (k:Nat) (m:Bool) (r s:Int) (g off cap:Nat) (x:Fv) (g' off' cap':Nat) (x':Fv) (hx:C5 w g off x) (hx':C5 w g' off' x')
  (IH0:∀ W,Below w.heap.size w W→Calls Tryz.prog 20 #[x.v,x'.v] W fun e w'=>e=.returned (.bool true)∧Below W.heap.size W w'):Calls Tryz.prog 20 #[tyV k m r s (some ⟨g,off,none⟩) 1 cap,tyV k m r s (some ⟨g',off',none⟩) 1 cap'] w fun e w'=>e=.returned (.bool true)∧Below w.heap.size w w':=by
 have IH:Hid (∀ W,Below w.heap.size w W→Calls Tryz.prog 20 #[x.v,x'.v] W fun e w'=>e=.returned (.bool true)∧Below W.heap.size W w'):=IH0
 have NN:=two_new w ⟨k,m,r,s,some ⟨g,off,none⟩,1,cap⟩ ⟨k,m,r,s,some ⟨g',off',none⟩,1,cap'⟩
 have HB0:=belB w ⟨k,m,r,s,some ⟨g,off,none⟩,1,cap⟩ ⟨k,m,r,s,some ⟨g',off',none⟩,1,cap'⟩
 have HN1:Hid (C5 ((w.alloc (tyO k m r s (some ⟨g,off,none⟩) 1 cap)).alloc (tyO k m r s (some ⟨g',off',none⟩) 1 cap')) w.heap.size 0 ⟨k,m,r,s,some ⟨g,off,none⟩,1,cap⟩):=NN.1
 have HN2:Hid (C5 ((w.alloc (tyO k m r s (some ⟨g,off,none⟩) 1 cap)).alloc (tyO k m r s (some ⟨g',off',none⟩) 1 cap')) (w.heap.size+1) 0 ⟨k,m,r,s,some ⟨g',off',none⟩,1,cap'⟩):=NN.2
 have HM1:Hid (C5 ((w.alloc (tyO k m r s (some ⟨g,off,none⟩) 1 cap)).alloc (tyO k m r s (some ⟨g',off',none⟩) 1 cap')) g off x):=hx.below HB0
 have HM2:Hid (C5 ((w.alloc (tyO k m r s (some ⟨g,off,none⟩) 1 cap)).alloc (tyO k m r s (some ⟨g',off',none⟩) 1 cap')) g' off' x'):=hx'.below HB0
 clear NN HB0 hx hx' IH0
 go_enter Tryz.func20,Tryz.ntmps20
 go_wp2_with fail
 go_loopw [5] (fun i W=>∃ j:Nat,j≤1∧i=.int .i64 j∧Below ((w.alloc (tyO k m r s (some ⟨g,off,none⟩) 1 cap)).alloc (tyO k m r s (some ⟨g',off',none⟩) 1 cap')).heap.size ((w.alloc (tyO k m r s (some ⟨g,off,none⟩) 1 cap)).alloc (tyO k m r s (some ⟨g',off',none⟩) 1 cap')) W) (fun i _=>1 - (intOf i).toNat)
 case atStart=>exact ⟨0,by omega,rfl,Below.refl _ _⟩
 case round =>
  obtain ⟨j,hj,rfl,hB⟩:=hrel
  rcases Nat.eq_zero_or_pos j with rfl|hp
  ·obtain ⟨-,p0,p1,p2,p3,p4⟩:=HN1.out.below hB
   go_wp2_with fail
   clear p0 p1 p2 p3 p4
   refine beginH (S:=(fun W'=>Below ((w.alloc (tyO k m r s (some ⟨g,off,none⟩) 1 cap)).alloc (tyO k m r s (some ⟨g',off',none⟩) 1 cap')).heap.size ((w.alloc (tyO k m r s (some ⟨g,off,none⟩) 1 cap)).alloc (tyO k m r s (some ⟨g',off',none⟩) 1 cap')) W')) (fun _ _ _ _ _ h=>h) (by kernel_rfl) hB.drew (fun hq hH=>?_)
   refine tz 0 48 _ hq rfl rfl hH ?_
   simp only [pb,pc]
   refine tq 1 49 (.slice (some ⟨g,off,none⟩) 1 cap) hq rfl rfl (fun W hSw=>by (obtain ⟨-,p0,p1,p2,p3,p4⟩:=HN1.out.below hSw;go_simp;try rfl)) hH ?_
   simp only [pb,pc]
   refine tz 2 50 _ hq rfl rfl hH ?_
   simp only [pb,pc]
   refine tz 3 51 (.pointer (some ⟨g,off,none⟩)) hq rfl rfl hH ?_
   simp only [pb,pc]
   refine tq 4 52 x.v hq rfl rfl (fun W hSw=>by (obtain ⟨-,p0,p1,p2,p3,p4⟩:=HM1.out.below hSw;go_simp;try rfl)) hH ?_
   simp only [pb,pc]
   refine tz 5 53 _ hq rfl rfl hH ?_
   simp only [pb,pc]
   refine tq 6 54 (.slice (some ⟨g',off',none⟩) 1 cap') hq rfl rfl (fun W hSw=>by (obtain ⟨-,p0,p1,p2,p3,p4⟩:=HN2.out.below hSw;go_simp;try rfl)) hH ?_
   simp only [pb,pc]
   refine tz 7 55 _ hq rfl rfl hH ?_
   simp only [pb,pc]
   refine tz 8 56 (.pointer (some ⟨g',off',none⟩)) hq rfl rfl hH ?_
   simp only [pb,pc]
   refine tq 9 57 x'.v hq rfl rfl (fun W hSw=>by (obtain ⟨-,p0,p1,p2,p3,p4⟩:=HM2.out.below hSw;go_simp;try rfl)) hH ?_
   simp only [pb,pc]
   refine aR1 10 rfl (fun K hK=>?_)
   go_simp
   refine (IH.out _ (below2 hH)).mono ?_;rintro e w2 ⟨rfl,hb2⟩;have B2:=jB hH hb2
   go_wp2_with fail
   refine hK.out _ _ B2 (fun hH=>?_)
   clear hK K
   try simp only [Act.put,List.setIfInBounds_toArray,pb,pc]
   refine tz 11 59 _ hq rfl rfl hH ?_
   simp only [pb,pc]
   refine wpAnyH_done (by kernel_rfl) ?_ _
   have BB:=hH
   clear hH hq
   go_wp2_with fail
   refine ⟨⟨1,by omega,rfl,BB⟩,?_⟩
   show 1 - ((1:Int)).toNat<1 - (0:Int).toNat
   decide
  ·obtain rfl:j=1:=by omega
   obtain ⟨-,p0,p1,p2,p3,p4⟩:=HN1.out.below hB
   go_wp2_with fail
   go_ret
   exact ⟨rfl,below2 hB⟩
theorem equal_same:∀ (c:Ch) (f f':Fv) (w:World),TyAt w f c.ty→TyAt w f' c.ty→Calls Tryz.prog 20 #[f.v,f'.v] w fun e w'=>e=.returned (.bool true)∧Below w.heap.size w w':=by
 intro c
 induction c with
 | leaf k s =>
  intro f f' w h h'
  obtain ⟨a,cap,rfl,-⟩:=h.leaf
  obtain ⟨a',cap',rfl,-⟩:=h'.leaf
  exact equal_leaf w k false 0 s a cap a' cap'
 | box c ih =>
  intro f f' w h h'
  obtain ⟨g,off,cap,x,rfl,hx,ht⟩:=h.box
  obtain ⟨g',off',cap',x',rfl,hx',ht'⟩:=h'.box
  exact equal_one w 3 false 0 0 g off cap x g' off' cap' x' hx hx' (fun W hW=>ih x x' W (ht.bel hW) (ht'.bel hW))
 | ref m r c ih =>
  intro f f' w h h'
  obtain ⟨g,off,cap,x,rfl,hx,ht,-⟩:=h.ref
  obtain ⟨g',off',cap',x',rfl,hx',ht',-⟩:=h'.ref
  exact equal_one w 4 m r 0 g off cap x g' off' cap' x' hx hx' (fun W hW=>ih x x' W (ht.bel hW) (ht'.bel hW))
def LookC (n:Int) (d:Nat):Prop:=∀ (t:Ty) (f:Fv) (w:World),TyAt w f t→Calls Tryz.prog 57 #[f.v,.int .i64 n,.int .i64 (d:Int)] w fun e w'=>e=.returned (.bool (mayB n d t))∧Below w.heap.size w w'
theorem look_zero (n:Int):LookC n 0:=by
 intro t f w h
 obtain ⟨k,m,r,s,of⟩:=t
 obtain ⟨a,cap,rfl⟩:=h.inv
 obtain ⟨q,hq⟩:∃ q,q=of.length:=⟨_,rfl⟩
 have hr:mayB n 0 (.mk k m r s of)=false:=rfl
 rw [hr]
 show Calls Tryz.prog 57 #[tyV k m r s a of.length cap,.int .i64 n,.int .i64 0] w _
 rw [← hq]
 clear hr hq h
 go_enter Tryz.func57,Tryz.ntmps57
 go_wp2_with fail
 go_ret
 exact ⟨rfl,belA bR⟩
theorem look_step (n:Int) (d:Nat) (hd:d+1≤48) (ih:LookC n d):LookC n (d+1):=by
 rintro ⟨k,m,r,s,of⟩ f w h
 obtain ⟨a,cap,rfl⟩:=h.inv
 have hres:=mayB_succ n d k m r s of
 obtain ⟨q,hq⟩:∃ q,q=of.length:=⟨_,rfl⟩
 obtain ⟨D,hD⟩:∃ D:Int,D=((d+1:Nat):Int):=⟨_,rfl⟩
 have D1:¬ D<1:=by omega
 have D2:1≤D:=by omega
 have D3:D≤48:=by omega
 rw [hres]
 show Calls Tryz.prog 57 #[tyV k m r s a of.length cap,.int .i64 n,.int .i64 ((d+1:Nat):Int)] w _
 rw [← hD]
 have one:(∃ g off f' rr,a=some ⟨g,off,none⟩∧q=1∧inB n d of=rr∧C5 w g off f'∧Hid (∀ w',Below w.heap.size w w'→Calls Tryz.prog 57 #[f'.v,.int .i64 n,.int .i64 (D - 1)] w' fun e w1=>e=.returned (.bool rr)∧Below w'.heap.size w' w1))∨(¬ (q:Int)=1∧inB n d of=false):=by
  match of,hq,h with
  | [x],hq,h =>
   left
   obtain ⟨g,off,cap',f',e,hc,ht,_⟩:=h.one
   injection e with _ _ _ _ ea en ec
   refine ⟨g,off,f',_,ea,hq,rfl,hc,fun w' hb=>?_⟩
   have:=ih x f' w' (ht.bel hb)
   rw [hD,show (((d+1:Nat):Int) - 1)=(d:Int) by omega]
   exact this
  | [],hq,h=>right;exact ⟨by simp at hq;omega,rfl⟩
  | x::y::r,hq,h=>right;exact ⟨by simp at hq;omega,rfl⟩
 rw [← hq]
 clear hres hq h hD hd ih
 by_cases k1:k=1
 ·subst k1
  simp only [true_or,if_true]
  clear one
  go_enter Tryz.func57,Tryz.ntmps57
  go_wp2_with fail
  all_goals go_ret
  all_goals (refine ⟨ret_bool ?_,belA bR⟩)
  all_goals (go_light;simp_all [qz] <;> (intros;omega))
 have kk1:¬ ((k:Int)=1):=fun e=>k1 (by omega)
 by_cases k2:k=2
 ·subst k2
  simp only [or_true,if_true]
  clear one
  go_enter Tryz.func57,Tryz.ntmps57
  go_wp2_with fail
  all_goals go_ret
  all_goals (refine ⟨ret_bool ?_,belA bR⟩)
  all_goals (go_light;simp_all [qz] <;> (intros;omega))
 have kk2:¬ ((k:Int)=2):=fun e=>k2 (by omega)
 by_cases k3:k=3
 ·subst k3
  simp only [show ¬ ((3:Nat)=1∨(3:Nat)=2) from by omega,if_false,if_true]
  rcases one with ⟨g,off,f',rr,rfl,rfl,hi,⟨hg,c0,c1,c2,c3,c4⟩,B⟩|⟨hq,hi⟩
  ·rw [hi]
   clear hi
   go_enter Tryz.func57,Tryz.ntmps57
   go_wp2_with (go_at_call 57;refine (B.out _ (belA bR)).mono ?_;rintro e w1 ⟨rfl,hb1⟩)
   all_goals go_ret
   all_goals (refine ⟨ret_bool ?_,by first|exact below1 hb1|exact belA bR⟩)
   all_goals (clear B;go_light;simp_all [qz] <;> (intros;omega))
  ·rw [hi]
   clear hi
   go_enter Tryz.func57,Tryz.ntmps57
   go_wp2_with fail
   all_goals go_ret
   all_goals (refine ⟨ret_bool ?_,belA bR⟩)
   all_goals (go_light;simp_all [qz] <;> (intros;omega))
 have kk3:¬ ((k:Int)=3):=fun e=>k3 (by omega)
 by_cases k4:k=4
 ·subst k4
  simp only [show ¬ ((4:Nat)=1∨(4:Nat)=2) from by omega,show ¬ ((4:Nat)=3) from by omega,if_false,if_true]
  rcases one with ⟨g,off,f',rr,rfl,rfl,hi,⟨hg,c0,c1,c2,c3,c4⟩,B⟩|⟨hq,hi⟩
  ·rw [hi]
   clear hi
   go_enter Tryz.func57,Tryz.ntmps57
   go_wp2_with (go_at_call 57;refine (B.out _ (belA bR)).mono ?_;rintro e w1 ⟨rfl,hb1⟩)
   all_goals go_ret
   all_goals (refine ⟨ret_bool ?_,by first|exact below1 hb1|exact belA bR⟩)
   all_goals (clear B;go_light;simp_all [qz] <;> (intros;omega))
  ·rw [hi]
   clear hi
   go_enter Tryz.func57,Tryz.ntmps57
   go_wp2_with fail
   all_goals go_ret
   all_goals (refine ⟨ret_bool ?_,belA bR⟩)
   all_goals (go_light;simp_all [qz] <;> (intros;omega))
 have kk4:¬ ((k:Int)=4):=fun e=>k4 (by omega)
 by_cases k5:k=5
 ·subst k5
  simp only [show ¬ ((5:Nat)=1∨(5:Nat)=2) from by omega,show ¬ ((5:Nat)=3) from by omega,show ¬ ((5:Nat)=4) from by omega,if_false,if_true]
  clear one
  go_enter Tryz.func57,Tryz.ntmps57
  go_wp2_with fail
  all_goals go_ret
  all_goals (refine ⟨ret_bool ?_,belA bR⟩)
  all_goals (go_light;simp_all [qz] <;> (intros;omega))
 have kk5:¬ ((k:Int)=5):=fun e=>k5 (by omega)
 simp only [k1,k2,k3,k4,k5,or_self,if_false]
 clear k1 k2 k3 k4 k5 one
 go_enter Tryz.func57,Tryz.ntmps57
 go_wp2_with fail
 go_ret
 exact ⟨rfl,belA bR⟩
theorem look_all (n:Int):∀ d,d≤48→LookC n d
 | 0,_=>look_zero n
 | d+1,h=>look_step n d h (look_all n d (by omega))
theorem is_any (t:Ty) (f:Fv) (w:World) (h:TyAt w f t):Calls Tryz.prog 30 #[f.v] w fun e w'=>e=.returned (.bool (isT t))∧Below w.heap.size w w':=by
 have C:Hid (∀ w',Below w.heap.size w w'→Calls Tryz.prog 57 #[f.v,.int .i64 32,.int .i64 48] w' fun e w1=>e=.returned (.bool (isT t))∧Below w'.heap.size w' w1):=fun w' hb=>look_all 32 48 (by omega) t f w' (h.bel hb)
 obtain ⟨rr,hrr⟩:∃ rr,rr=isT t:=⟨_,rfl⟩
 rw [← hrr] at C ⊢
 clear hrr h
 go_enter Tryz.func30,Tryz.ntmps30
 go_wp2_with (go_at_call 57;refine (C.out _ (belA bR)).mono ?_;rintro e w1 ⟨rfl,hb1⟩)
 go_ret
 exact ⟨rfl,below1 hb1⟩
end Go.Proofs.YtdlggpcakaofoaaGreat
