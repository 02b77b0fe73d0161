import Derived.Test.YtmjenlogbkbgnaaGreatDoorB02
namespace Go.Proofs.YtmjenlogbkbgnaaGreatDoor
open Go.RowKit
set_option linter.unusedVariables false
set_option linter.unusedSimpArgs false
set_option maxRecDepth 100000
set_option maxHeartbeats 4000000
def FitC (D:Int) (t:Ty) (b:Bool):Prop:=∀ (f:Fv) (w:World),TyAt w f t→Calls Tryz.prog 14 #[f.v,.int .i64 D] w fun e w'=>e=.returned (.bool b)∧Below w.heap.size w w'
theorem TyAt.parts {w:World} {k:Nat} {m:Bool} {r s:Int} {a:Option Addr} {n cap:Nat} {of:List Ty} (h:TyAt w ⟨k,m,r,s,a,n,cap⟩ (.mk k m r s of)) (hne:of≠[]):∃ g off,a=some ⟨g,off,none⟩∧∀ i t,of[i]?=some t→∃ f',C5 w g (off+i*5) f'∧TyAt w f' t:=by
 cases h with
 | mk k m r s a n cap of V hn hl hk r0 r1 s0 s1 h1 h2 =>
  obtain ⟨g,off,rfl,h⟩:=h1 hne
  exact ⟨g,off,rfl,fun i t ht=>⟨V i,h i (List.getElem?_eq_some_iff.1 ht).1,h2 i t ht⟩⟩
theorem TyAt.inv0 {w:World} {f:Fv} {k:Nat} {m:Bool} {r s:Int} {of:List Ty} (h:TyAt w f (.mk k m r s of)):∃ a cap,f=⟨k,m,r,s,a,of.length,cap⟩:=by
 cases h with
 | mk k m r s a n cap of V hn hl hk r0 r1 s0 s1 h1 h2=>exact ⟨a,cap,by rw [hn]⟩
theorem TyAt.big {w:World} {f:Fv} {k:Nat} {m:Bool} {r s:Int} {of:List Ty} (h:TyAt w f (.mk k m r s of)):of.length≤maxLen:=by
 cases h with
 | mk k m r s a n cap of V hn hl hk r0 r1 s0 s1 h1 h2=>exact hn ▸ hl
def cd (D:Int) (i:Nat):Int:=if i=0 then D - 1 else if D≤4 then D - 1 else 3
theorem cd_lt (D:Int) (i:Nat):cd D i<D:=by unfold cd;repeat' split <;> omega
theorem cd_nn (D:Int) (i:Nat) (h:1≤D):0≤cd D i:=by unfold cd;repeat' split <;> omega
theorem fits_ex:∀ (d:Nat) (D:Int),D=d→D≤60→∀ t:Ty,∃ b,FitC D t b:=by
 intro d
 induction d using Nat.strongRecOn with
 | ind d ih =>
  rintro D hD hD60 ⟨k,m,r,s,of⟩
  by_cases h0:D=0
  ·subst h0
   refine ⟨false,fun f w h=>?_⟩
   obtain ⟨a,cap,rfl⟩:=h.inv0
   obtain ⟨q,hq⟩:∃ q,q=of.length:=⟨_,rfl⟩
   show Calls Tryz.prog 14 #[tyV k m r s a of.length cap,.int .i64 0] w _
   rw [← hq]
   clear hq h hD hD60 ih
   go_enter Tryz.func14,Tryz.ntmps14
   go_wp2_with fail
   go_ret
   exact ⟨rfl,belA bR⟩
  ·have D1:1≤D:=by omega
   by_cases h3:3<of.length
   ·refine ⟨false,fun f w h=>?_⟩
    obtain ⟨a,cap,rfl⟩:=h.inv0
    have q3:(3:Int)<(of.length:Int):=by omega
    obtain ⟨q,hq⟩:∃ q,q=of.length:=⟨_,rfl⟩
    show Calls Tryz.prog 14 #[tyV k m r s a of.length cap,.int .i64 D] w _
    rw [← hq] at q3 ⊢
    clear hq h hD hD60 ih h3 D1
    go_enter Tryz.func14,Tryz.ntmps14
    go_wp2_with fail
    go_ret
    exact ⟨rfl,belA bR⟩
   ·have hs:∀ i,∃ b,∀ t,of[i]?=some t→FitC (cd D i) t b:=fun i=>by
     cases hi:of[i]? with
     | none=>exact ⟨true,fun t ht=>by cases ht⟩
     | some t =>
      obtain ⟨b,hb⟩:=ih (cd D i).toNat (by have:=cd_lt D i;have:=cd_nn D i D1;omega) (cd D i) (by have:=cd_nn D i D1;omega) (by have:=cd_lt D i;omega) t
      exact ⟨b,fun u hu=>by cases hu;exact hb⟩
    obtain ⟨bs,hbs⟩:∃ bs:Nat→Bool,∀ i t,of[i]?=some t→FitC (cd D i) t (bs i):=⟨fun i=>Classical.choose (hs i),fun i=>Classical.choose_spec (hs i)⟩
    obtain ⟨b,hb⟩:∃ b:Bool,b=true↔∀ i,i<of.length→bs i=true:=by
     by_cases h:∀ i,i<of.length→bs i=true
     ·exact ⟨true,by simpa using h⟩
     ·exact ⟨false,by simpa using h⟩
    refine ⟨b,fun f w h=>?_⟩
    obtain ⟨a,cap,rfl⟩:=h.inv0
    have q3:¬ (3:Int)<(of.length:Int):=by omega
    show Calls Tryz.prog 14 #[tyV k m r s a of.length cap,.int .i64 D] w _
    have HS:Hid (∀ i t,of[i]?=some t→FitC (cd D i) t (bs i)):=hbs
    have HB:Hid (b=true↔∀ i,i<of.length→bs i=true):=hb
    have HT:Hid (TyAt w ⟨k,m,r,s,a,of.length,cap⟩ (.mk k m r s of)):=h
    have A1:At (w.alloc (tyO k m r s a of.length cap)) w.heap.size (tyO k m r s a of.length cap):=At.new _ _
    have hB1:Below w.heap.size w (w.alloc (tyO k m r s a of.length cap)):=belA bR
    clear hs hbs hb h ih hD
    go_enter Tryz.func14,Tryz.ntmps14
    go_wp2_with fail
    go_loopw [5] (fun i W=>∃ j:Nat,j≤of.length∧i=.int .i64 j∧(∀ l,l<j→bs l=true)∧At W w.heap.size (tyO k m r s a of.length cap)∧Below w.heap.size w W) (fun i _=>of.length - (intOf i).toNat)
    case atStart=>exact ⟨0,Nat.zero_le _,rfl,fun l h=>absurd h (Nat.not_lt_zero l),A1,hB1⟩
    case round =>
     obtain ⟨j,hj,rfl,hall,hA,hB⟩:=hrel
     obtain ⟨-,c0,c1,c2,c3,c4⟩:=(At.ty (f:=⟨k,m,r,s,a,of.length,cap⟩) hA)
     by_cases hlt:j<of.length
     ·obtain ⟨g,off,rfl,hp⟩:=(HT.out.bel hB).parts (by rintro rfl;simp at hlt)
      obtain ⟨x,hx⟩:∃ x,of[j]?=some x:=⟨_,List.getElem?_eq_getElem hlt⟩
      obtain ⟨f',⟨hg,q0,q1,q2,q4,q5⟩,hx'⟩:=hp j x hx
      have CC:Hid (Calls Tryz.prog 14 #[f'.v,.int .i64 (cd D j)] wr fun e w'=>e=.returned (.bool (bs j))∧Below wr.heap.size wr w'):=HS.out j x hx f' wr hx'
      have yes:bs j=true→∀ l,l<j+1→bs l=true:=fun h l hl=>by
       rcases Nat.lt_or_ge l j with h'|h'
       ·exact hall l h'
       ·obtain rfl:l=j:=by omega
        exact h
      have no:bs j=false→b=false:=fun h=>by
       cases hb:b with
       | false=>rfl
       | true=>rw [HB.out.1 hb j hlt] at h;cases h
      have YES:Hid (bs j=true→∀ l,l<j+1→bs l=true):=yes
      have NO:Hid (bs j=false→b=false):=no
      have w4:IntKind.i64.wrap (D - 1)=D - 1:=by rw [IntKind.wrap_i64];omega
      have w5:IntKind.i64.wrap (60 - 57*(j:Int))=60 - 57*(j:Int):=by rw [IntKind.wrap_i64];omega
      have w6:IntKind.i64.wrap (57*(j:Int))=57*(j:Int):=by rw [IntKind.wrap_i64];omega
      clear hp hx hx' hall A1 hB1 yes no HS HB
      obtain ⟨bj,hbj⟩:∃ bj,bj=bs j:=⟨_,rfl⟩
      rw [← hbj] at CC YES NO
      clear hbj
      have j2:j=0∨j=1∨j=2:=by omega
      rcases j2 with j2|j2|j2
      ·clear h3
       have e:cd D j=D - 1:=by rw [j2];simp [cd];try omega
       rw [e] at CC
       have ff0:(j:Int)≤1:=by omega
       have ff1:D - 1≤60 - 57*(j:Int):=by omega
       clear e j2
       cases bj with
       | true =>
        have Y:=YES.out rfl
        have HY:Hid (∀ l,l<j+1→bs l=true):=Y
        clear Y YES NO
        go_wp2_with (go_at_call 14;refine CC.out.mono ?_;rintro e w1 ⟨rfl,hb1⟩)
        exact ⟨⟨j+1,by omega,by go_num,HY.out,hA.below hb1,jB hB hb1⟩,by simp [intOf];omega⟩
       | false =>
        have Y:=NO.out rfl
        subst Y
        clear YES NO
        go_wp2_with (go_at_call 14;refine CC.out.mono ?_;rintro e w1 ⟨rfl,hb1⟩)
        go_ret
        exact ⟨rfl,jB hB hb1⟩
      ·by_cases d4:D≤4
       ·clear h3
        have e:cd D j=D - 1:=by rw [j2];simp [cd];try omega
        rw [e] at CC
        have ff0:(j:Int)≤1:=by omega
        have ff1:D - 1≤60 - 57*(j:Int):=by omega
        clear e j2
        cases bj with
        | true =>
         have Y:=YES.out rfl
         have HY:Hid (∀ l,l<j+1→bs l=true):=Y
         clear Y YES NO
         go_wp2_with (go_at_call 14;refine CC.out.mono ?_;rintro e w1 ⟨rfl,hb1⟩)
         exact ⟨⟨j+1,by omega,by go_num,HY.out,hA.below hb1,jB hB hb1⟩,by simp [intOf];omega⟩
        | false =>
         have Y:=NO.out rfl
         subst Y
         clear YES NO
         go_wp2_with (go_at_call 14;refine CC.out.mono ?_;rintro e w1 ⟨rfl,hb1⟩)
         go_ret
         exact ⟨rfl,jB hB hb1⟩
       ·clear h3
        have e:cd D j=60 - 57*(j:Int):=by rw [j2];simp [cd];try omega
        rw [e] at CC
        have ff0:(j:Int)≤1:=by omega
        have ff1:60 - 57*(j:Int)<D - 1:=by omega
        clear e j2
        cases bj with
        | true =>
         have Y:=YES.out rfl
         have HY:Hid (∀ l,l<j+1→bs l=true):=Y
         clear Y YES NO
         go_wp2_with (go_at_call 14;refine CC.out.mono ?_;rintro e w1 ⟨rfl,hb1⟩)
         exact ⟨⟨j+1,by omega,by go_num,HY.out,hA.below hb1,jB hB hb1⟩,by simp [intOf];omega⟩
        | false =>
         have Y:=NO.out rfl
         subst Y
         clear YES NO
         go_wp2_with (go_at_call 14;refine CC.out.mono ?_;rintro e w1 ⟨rfl,hb1⟩)
         go_ret
         exact ⟨rfl,jB hB hb1⟩
      ·by_cases d4:D≤4
       ·clear h3
        have e:cd D j=D - 1:=by rw [j2];simp [cd];try omega
        rw [e] at CC
        have ff0:1<(j:Int):=by omega
        have ff1:D - 1≤3:=by omega
        clear e j2
        cases bj with
        | true =>
         have Y:=YES.out rfl
         have HY:Hid (∀ l,l<j+1→bs l=true):=Y
         clear Y YES NO
         go_wp2_with (go_at_call 14;refine CC.out.mono ?_;rintro e w1 ⟨rfl,hb1⟩)
         exact ⟨⟨j+1,by omega,by go_num,HY.out,hA.below hb1,jB hB hb1⟩,by simp [intOf];omega⟩
        | false =>
         have Y:=NO.out rfl
         subst Y
         clear YES NO
         go_wp2_with (go_at_call 14;refine CC.out.mono ?_;rintro e w1 ⟨rfl,hb1⟩)
         go_ret
         exact ⟨rfl,jB hB hb1⟩
       ·clear h3
        have e:cd D j=3:=by rw [j2];simp [cd];try omega
        rw [e] at CC
        have ff0:1<(j:Int):=by omega
        have ff1:3<D - 1:=by omega
        clear e j2
        cases bj with
        | true =>
         have Y:=YES.out rfl
         have HY:Hid (∀ l,l<j+1→bs l=true):=Y
         clear Y YES NO
         go_wp2_with (go_at_call 14;refine CC.out.mono ?_;rintro e w1 ⟨rfl,hb1⟩)
         exact ⟨⟨j+1,by omega,by go_num,HY.out,hA.below hb1,jB hB hb1⟩,by simp [intOf];omega⟩
        | false =>
         have Y:=NO.out rfl
         subst Y
         clear YES NO
         go_wp2_with (go_at_call 14;refine CC.out.mono ?_;rintro e w1 ⟨rfl,hb1⟩)
         go_ret
         exact ⟨rfl,jB hB hb1⟩
     ·obtain rfl:j=of.length:=by omega
      have hb:b=true:=HB.out.2 hall
      subst hb
      clear hall A1 hB1 HS HB HT
      have lt:¬ (of.length:Int)<(of.length:Int):=by omega
      go_wp2_with fail
      go_ret
      exact ⟨rfl,hB⟩
theorem jH {p:Prop} (h:p):Hid p:=h
def FdAt (w:World) (fa:Option Addr) (fs:List Ty):Prop:=fs.length≤maxLen∧(fs≠[]→∃ g off,fa=some ⟨g,off,none⟩∧∀ k t,fs[k]?=some t→∃ (V:Fv) (nm:ByteArray),w.cell? ⟨g,off+k*6,none⟩=some (.string nm)∧C5 w g (off+k*6+1) V∧TyAt w V t)
theorem FdAt.bel {w w':World} {fa:Option Addr} {fs:List Ty} (h:FdAt w fa fs) (hb:Below w.heap.size w w'):FdAt w' fa fs :=
 ⟨h.1,fun hne=>by
  obtain ⟨g,off,e,hk⟩:=h.2 hne
  refine ⟨g,off,e,fun k t ht=>?_⟩
  obtain ⟨V,nm,h0,h1,h2⟩:=hk k t ht
  exact ⟨V,nm,(hb.cell (p:=⟨g,off+k*6,none⟩) h1.1).trans h0,h1.below hb,h2.bel hb⟩⟩
structure StAt (w:World) (a:Option Addr) (n cap:Nat) (ss:List (List Ty)):Prop where
 len:n=ss.length
 big:n≤maxLen
 cells:ss≠[]→∃ g off,a=some ⟨g,off,none⟩∧g<w.heap.size∧∀ i fs,ss[i]?=some fs→∃ fa fcap,w.cell? ⟨g,off+i*2+1,none⟩=some (.slice fa fs.length fcap)∧FdAt w fa fs
theorem StAt.bel {w w':World} {a:Option Addr} {n cap:Nat} {ss:List (List Ty)} (h:StAt w a n cap ss) (hb:Below w.heap.size w w'):StAt w' a n cap ss :=
 ⟨h.len,h.big,fun hne=>by
  obtain ⟨g,off,e,hg,hk⟩:=h.cells hne
  refine ⟨g,off,e,Nat.lt_of_lt_of_le hg hb.size,fun i fs hi=>?_⟩
  obtain ⟨fa,fcap,h1,h2⟩:=hk i fs hi
  exact ⟨fa,fcap,(hb.cell (p:=⟨g,off+i*2+1,none⟩) hg).trans h1,h2.bel hb⟩⟩
theorem StAt.one {w:World} {a:Option Addr} {n cap:Nat} {ss:List (List Ty)} (h:StAt w a n cap ss) {i:Nat} {fs:List Ty} (hi:ss[i]?=some fs):∃ g off fa fcap,a=some ⟨g,off,none⟩∧g<w.heap.size∧w.cell? ⟨g,off+i*2+1,none⟩=some (.slice fa fs.length fcap)∧FdAt w fa fs:=by
 obtain ⟨g,off,e,hg,hk⟩:=h.cells (fun e=>by subst e;simp at hi)
 obtain ⟨fa,fcap,h1,h2⟩:=hk i fs hi
 exact ⟨g,off,fa,fcap,e,hg,h1,h2⟩
def PlainT (n:Nat) (t:Ty):Prop:=∃ c:Ch,t=c.ty∧c.ok n∧c.depth≤48∧c.regs=[]
theorem Ch.ok_mono {n m:Int} (h:n≤m):∀ c:Ch,c.ok n→c.ok m
 | .leaf k s,hc=>by
  rcases hc with hc|⟨h1,h2,h3⟩
  ·exact .inl hc
  ·exact .inr ⟨h1,h2,by omega⟩
 | .box c,hc=>Ch.ok_mono h c hc
 | .ref _ _ c,hc=>⟨hc.1,Ch.ok_mono h c hc.2⟩
theorem wrong_any (a:Option Addr) (n cap:Nat) (ss:List (List Ty)) (w:World) (h:StAt w a n cap ss) (hn:n≤32) (i:Nat) (fs:List Ty) (hi:ss[i]?=some fs) (b:Bool) (hb:b=true↔¬ (1≤fs.length∧fs.length≤8∧∀ t∈fs,PlainT n t)) :
  Calls Tryz.prog 180 #[.slice a n cap,.int .i64 (i:Int)] w fun e w'=>e=.returned (.bool b)∧Below w.heap.size w w':=by
 obtain ⟨g,off,fa,fcap,hag,hg,hcell,hF⟩:=h.one hi
 have hil:i<n:=by have:=(List.getElem?_eq_some_iff.1 hi).1;have:=h.len;omega
 subst hag
 have j0:(0:Int)≤(i:Int):=by omega
 have j1:(i:Int)<(n:Int):=by omega
 have HF:=jH hF
 have HB:=jH hb
 obtain ⟨m,hm⟩:∃ m,m=fs.length:=⟨_,rfl⟩
 have HM:=jH hm
 rw [← hm] at hcell
 clear hF hb hm h hi
 by_cases m1:m<1
 ·have k1:(m:Int)<1:=by omega
  have hb1:b=true:=HB.out.2 (fun e=>by have:=HM.out;omega)
  subst hb1
  go_enter Tryz.func180,Tryz.ntmps180
  go_wp2_with fail
  go_ret
  exact ⟨rfl,Below.refl _ _⟩
 by_cases m8:8<m
 ·have k1:¬ (m:Int)<1:=by omega
  have k2:(8:Int)<(m:Int):=by omega
  have hb1:b=true:=HB.out.2 (fun e=>by have:=HM.out;omega)
  subst hb1
  go_enter Tryz.func180,Tryz.ntmps180
  go_wp2_with fail
  go_ret
  exact ⟨rfl,Below.refl _ _⟩
 have k1:¬ (m:Int)<1:=by omega
 have k2:¬ (8:Int)<(m:Int):=by omega
 go_enter Tryz.func180,Tryz.ntmps180
 go_wp2_with fail
 go_loopw [23] (fun v V=>∃ k:Nat,k≤m∧v=.int .i64 k∧(∀ k' t,k'<k→fs[k']?=some t→PlainT n t)∧Below w.heap.size w V) (fun v _=>m - (intOf v).toNat)
 case atStart=>exact ⟨0,Nat.zero_le _,rfl,fun k' t hk=>by omega,Below.refl _ _⟩
 case round =>
  obtain ⟨k,hk,rfl,hall,hBk⟩:=hrel
  have HAK:=jH hall
  have HBk:=jH hBk
  have HFk:=jH (HF.out.bel hBk)
  clear hall hBk
  by_cases hlk:k<m
  ·obtain ⟨t,ht⟩:∃ t,fs[k]?=some t:=⟨_,List.getElem?_eq_getElem (by have:=HM.out;omega)⟩
   obtain ⟨g',off',hfa,hkk⟩:=HFk.out.2 (fun e=>by subst e;simp at ht)
   obtain ⟨V,nm,hnm,hV5,hVt⟩:=hkk k t ht
   have HTT:=jH ht
   have HVT:=jH hVt
   obtain ⟨hl5,p0,p1,p2,p3,p4⟩:=hV5
   subst hfa
   have e0:(0:Int)≤(k:Int):=by omega
   have e1:(k:Int)<(m:Int):=by omega
   have e2:(k:Int)≤1000:=by omega
   clear hkk hVt ht
   have HNO:Hid (¬ PlainT n t→b=true):=fun hno=>HB.out.2 (fun e=>hno (e.2.2 t (List.mem_of_getElem? HTT.out)))
   have CM:Hid (∀ W,Below wr.heap.size wr W→Calls Tryz.prog 80 #[.int .i64 (n:Int),V.v] W fun e w'=>e=.returned (.bool (mayB n 48 t))∧Below W.heap.size W w'):=fun W hW=>mayAmong_any n t V W (HVT.out.bel hW)
   have AF:Hid (At (wr.alloc (.cells #[.string nm,.int .u8 (V.k:Int),.bool V.m,.int .i64 V.r,.int .i64 V.s,.slice V.a V.n V.cap] 181)) wr.heap.size (.cells #[.string nm,.int .u8 (V.k:Int),.bool V.m,.int .i64 V.r,.int .i64 V.s,.slice V.a V.n V.cap] 181)):=At.new _ _
   cases hmb:mayB n 48 t with
   | false =>
    rw [hmb] at CM
    have hb1:b=true:=HNO.out (fun ⟨c,e1,e2,e3,e4⟩=>by rw [e1,ch_mayB e2 e3] at hmb;cases hmb)
    go_wp2_with (go_at_call 80;refine (CM.out _ (belA bR)).mono ?_;rintro e w1 ⟨rfl,hbb⟩)
    go_ret
    rw [hb1]
    exact ⟨rfl,jB HBk.out (below1 hbb)⟩
   | true =>
    rw [hmb] at CM
    obtain ⟨c,rfl,hc1,hc2⟩:=mayB_ch hmb
    have hok:Ok c:=⟨Ch.ok_mono (by omega) c hc1,hc2⟩
    have CR:Hid (∀ W,Below wr.heap.size wr W→Calls Tryz.prog 204 #[V.v] W fun e w'=>e=.returned (.bool (!c.regs.isEmpty))∧Below W.heap.size W w'):=fun W hW=>hasRef_any c V W hok (HVT.out.bel hW)
    cases hre:c.regs.isEmpty with
    | false =>
     rw [hre] at CR
     have hbt:b=true:=HNO.out (fun ⟨c',e1,e2,e3,e4⟩=>by rw [Ch.ty_inj e1,e4] at hre;cases hre)
     go_wp2_with (first
      | (go_at_call 80;refine (CM.out _ (belA bR)).mono ?_;rintro e w1 ⟨rfl,hb1⟩;have A1:=AF.out.below hb1;unfold At at A1;have hlw:=lt_of_block A1;have r1:w1.cell? ⟨wr.heap.size,1,none⟩=some (.int .u8 (V.k:Int)):=(by simp [World.cell?,A1]);have r2:w1.cell? ⟨wr.heap.size,2,none⟩=some (.bool V.m):=(by simp [World.cell?,A1]);have r3:w1.cell? ⟨wr.heap.size,3,none⟩=some (.int .i64 V.r):=(by simp [World.cell?,A1]);have r4:w1.cell? ⟨wr.heap.size,4,none⟩=some (.int .i64 V.s):=(by simp [World.cell?,A1]);have r5:w1.cell? ⟨wr.heap.size,5,none⟩=some (.slice V.a V.n V.cap):=(by simp [World.cell?,A1]);have H1:=jH (below1 hb1);clear A1)
      | (go_at_call 204;refine (CR.out w1 H1.out).mono ?_;rintro e w2 ⟨rfl,hb2⟩))
     go_ret
     rw [hbt]
     exact ⟨rfl,jB (jB HBk.out H1.out) hb2⟩
    | true =>
     rw [hre] at CR
     go_wp2_with (first
      | (go_at_call 80;refine (CM.out _ (belA bR)).mono ?_;rintro e w1 ⟨rfl,hb1⟩;have A1:=AF.out.below hb1;unfold At at A1;have hlw:=lt_of_block A1;have r1:w1.cell? ⟨wr.heap.size,1,none⟩=some (.int .u8 (V.k:Int)):=(by simp [World.cell?,A1]);have r2:w1.cell? ⟨wr.heap.size,2,none⟩=some (.bool V.m):=(by simp [World.cell?,A1]);have r3:w1.cell? ⟨wr.heap.size,3,none⟩=some (.int .i64 V.r):=(by simp [World.cell?,A1]);have r4:w1.cell? ⟨wr.heap.size,4,none⟩=some (.int .i64 V.s):=(by simp [World.cell?,A1]);have r5:w1.cell? ⟨wr.heap.size,5,none⟩=some (.slice V.a V.n V.cap):=(by simp [World.cell?,A1]);have H1:=jH (below1 hb1);clear A1)
      | (go_at_call 204;refine (CR.out w1 H1.out).mono ?_;rintro e w2 ⟨rfl,hb2⟩))
     refine ⟨⟨k+1,hlk,rfl,fun k' t' hk' ht'=>?_,jB (jB HBk.out H1.out) hb2⟩,?_⟩
     ·by_cases e:k'=k
      ·subst e
       rw [HTT.out] at ht'
       cases ht'
       exact ⟨c,rfl,hc1,hc2,List.isEmpty_iff.1 hre⟩
      ·exact HAK.out k' t' (by omega) ht'
     ·show m - ((k:Int)+1).toNat<m - (k:Int).toNat
      omega
  ·obtain rfl:k=m:=by omega
   have z1:¬ ((k:Int)<(k:Int)):=by omega
   go_wp2_with fail
   go_ret
   have hb1:b=false:=by
    cases hb:b with
    | false=>rfl
    | true =>
     refine absurd ⟨by have:=HM.out;omega,by have:=HM.out;omega,fun t ht=>?_⟩ (HB.out.1 hb)
     obtain ⟨k',hk'⟩:=List.mem_iff_getElem?.1 ht
     exact HAK.out k' t (by have:=(List.getElem?_eq_some_iff.1 hk').1;have:=HM.out;omega) hk'
   rw [hb1]
   exact ⟨rfl,HBk.out⟩
end Go.Proofs.YtmjenlogbkbgnaaGreatDoor
