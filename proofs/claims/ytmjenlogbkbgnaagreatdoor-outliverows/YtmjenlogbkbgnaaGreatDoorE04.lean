import Derived.Test.YtmjenlogbkbgnaaGreatDoorE01
import Derived.Deep.AppendLies
namespace Go.Proofs.YtmjenlogbkbgnaaGreatDoor
open Go.RowKit Go.Shelf
set_option linter.unusedVariables false
set_option linter.unusedSimpArgs false
set_option maxRecDepth 100000
set_option maxHeartbeats 8000000
theorem From_no (w:World) (a:Option Addr) (m cap:Nat) (l:List (Int × Int)) (hP:PrR w a m cap l) (c r:Int) (hb:frB l c r=false) :
  Calls Tryz.prog 19 #[.slice a m cap,.int .i64 c,.int .i64 r] w fun e w'=>e=.returned (.tuple #[.slice none 0 0,.int .i64 2])∧Below w.heap.size w w':=by
 have C:=jH (isBelow_any c r)
 have C2:=jH (areBelow_any c a m cap l w hP)
 clear hP
 by_cases h1:c<0
 ·clear hb C C2
  go_enter Tryz.func19,Tryz.ntmps19
  go_wp2_with fail
  go_ret2
  exact ⟨rfl,Below.refl _ _⟩
 ·by_cases h2:512<c
  ·clear hb C C2
   go_enter Tryz.func19,Tryz.ntmps19
   go_wp2_with fail
   go_ret2
   exact ⟨rfl,Below.refl _ _⟩
  ·cases hx:blwB c r with
   | false =>
    rw [hx] at C
    clear hb C2 hx
    go_enter Tryz.func19,Tryz.ntmps19
    go_wp2_with (go_at_call 46;refine (C.out _).mono ?_;rintro e w1 ⟨rfl,hw⟩;subst hw)
    go_ret2
    exact ⟨rfl,Below.refl _ _⟩
   | true =>
    have hy:l.any (outB c)=true:=by
     have e1:decide (0≤c)=true:=by simp;omega
     have e2:decide (c≤512)=true:=by simp;omega
     unfold frB at hb
     rw [e1,e2,hx] at hb
     simpa using hb
    rw [hx] at C
    rw [hy] at C2
    clear hb hx hy
    go_enter Tryz.func19,Tryz.ntmps19
    go_wp2_with (go_at_call 46;refine (C.out _).mono ?_;rintro e w1 ⟨rfl,hw⟩;subst hw)
    go_wp2_with (go_at_call 42;refine C2.out.mono ?_;rintro e w1 ⟨rfl,hB⟩;have HB:=jH hB;clear hB)
    go_ret2
    exact ⟨rfl,HB.out⟩
theorem rFrom_no1 (w:World) (a:Option Addr) (m cap:Nat) (c r:Int) (hb:(decide (0≤c) && decide (c≤512) && blwB c r)=false) :
  Calls Tryz.prog 20 #[.slice a m cap,.int .i64 c,.int .i64 r] w fun e w'=>e=.returned (.tuple #[.slice none 0 0,.int .i64 2])∧Below w.heap.size w w':=by
 by_cases h1:c<0
 ·clear hb
  go_enter Tryz.func20,Tryz.ntmps20
  go_wp2_with fail
  go_ret2
  exact ⟨rfl,Below.refl _ _⟩
 by_cases h2:512<c
 ·clear hb
  go_enter Tryz.func20,Tryz.ntmps20
  go_wp2_with fail
  go_ret2
  exact ⟨rfl,Below.refl _ _⟩
 by_cases h3:r<0
 ·clear hb
  go_enter Tryz.func20,Tryz.ntmps20
  go_wp2_with fail
  go_ret2
  exact ⟨rfl,Below.refl _ _⟩
 have h4:c≤r:=by
  rcases Int.lt_or_le r c with h|h
  ·exfalso
   have e1:decide (0≤c)=true:=by simp;omega
   have e2:decide (c≤512)=true:=by simp;omega
   have e3:blwB c r=true:=by simp [blwB];omega
   rw [e1,e2,e3] at hb
   cases hb
  ·exact h
 clear hb
 go_enter Tryz.func20,Tryz.ntmps20
 go_wp2_with fail
 go_ret2
 exact ⟨rfl,Below.refl _ _⟩
theorem rFrom_no2 (w:World) (a:Option Addr) (m cap:Nat) (l:List (Int × Int)) (hP:PrR w a m cap l) (hm:m≤100000) (c r:Int) (h0:0≤c) (h1:c≤512) (h2:0≤r) (h3:r<c) (hb:l.any (outB c)=true) :
  Calls Tryz.prog 20 #[.slice a m cap,.int .i64 c,.int .i64 r] w fun e w'=>e=.returned (.tuple #[.slice none 0 0,.int .i64 2])∧Below w.heap.size w w':=by
 have HP:=jH hP
 have HM:=jH hP.len
 have HB:=jH hb
 have g0:¬ c<0:=by omega
 have g1:¬ 512<c:=by omega
 have g2:¬ r<0:=by omega
 have g3:¬ c≤r:=by omega
 clear hP hb h0 h1 h2 h3
 go_enter Tryz.func20,Tryz.ntmps20
 go_wp2_with fail
 go_loopw [8] (fun v V=>∃ i:Nat,i≤m∧v=.int .i64 (i:Int)∧(l.take i).any (outB c)=false∧V=w) (fun v _=>m - (intOf v).toNat)
 case atStart=>exact ⟨0,Nat.zero_le _,rfl,rfl,rfl⟩
 case round =>
  obtain ⟨i,hi,rfl,hn,hV⟩:=hrel
  replace hV:=hV.symm
  subst hV
  have HNO:=jH hn
  clear hn
  by_cases hlt:i<m
  ·obtain ⟨p,hp⟩:∃ p,l[i]?=some p:=⟨_,List.getElem?_eq_getElem (by have:=HM.out;omega)⟩
   obtain ⟨g,off,ea,hg,c0,c1⟩:=HP.out.nth hp
   subst ea
   have k0:(0:Int)≤(i:Int):=by omega
   have k1:(i:Int)<(m:Int):=by omega
   have HLT:=jH hlt
   have HPP:=jH hp
   clear hp hlt hi
   by_cases b0:p.1<0
   ·as_aux_lemma =>
    go_wp2_with fail
    go_ret2
    exact ⟨rfl,Below.refl _ _⟩
   by_cases b1:p.2<0
   ·as_aux_lemma =>
    go_wp2_with fail
    go_ret2
    exact ⟨rfl,Below.refl _ _⟩
   by_cases b2:c≤p.1
   ·as_aux_lemma =>
    go_wp2_with fail
    go_ret2
    exact ⟨rfl,Below.refl _ _⟩
   by_cases b3:c≤p.2
   ·as_aux_lemma =>
    go_wp2_with fail
    go_ret2
    exact ⟨rfl,Below.refl _ _⟩
   have HO:Hid ((l.take (i+1)).any (outB c)=false):=jH (by
    rw [take_on HPP.out,List.any_append,HNO.out]
    simp [outB,blwB]
    omega)
   go_wp2_with fail
   go_roundw
   case rel=>exact ⟨i+1,HLT.out,by go_num,HO.out,trivial⟩
   case measure=>have:=HLT.out;simp [intOf];omega
  ·exfalso
   obtain rfl:i=m:=by omega
   have h1:=HNO.out
   rw [HM.out,List.take_length] at h1
   rw [HB.out] at h1
   cases h1
def LL (n:Nat) (ms:List Nat):Nat:=((List.range n).filter fun x=>decide (x ∉ ms)).length
theorem LL_on {n q:Nat} {ms:List Nat} (h:q<n) (hq:q ∉ ms):LL n (ms++[q])<LL n ms:=by
 unfold LL
 have e:(List.range n).filter (fun x=>decide (x ∉ ms++[q]))=((List.range n).filter fun x=>decide (x ∉ ms)).filter fun x=>decide (x≠q):=by
  rw [List.filter_filter]
  apply List.filter_congr
  intro x _
  simp [Bool.and_comm]
 rw [e,List.length_filter_lt_length_iff_exists]
 exact ⟨q,by simp [h,hq],by simp⟩
def isF:Option Value→Bool
 | some (.bool false)=>true
 | _=>false
def lftW (V:World) (M n:Nat):Nat:=((List.range n).filter fun x=>isF (V.cell? ⟨M,x,none⟩)).length
theorem lftW_is {V:World} {M n:Nat} {ms:List Nat} (h:At V M (.cells (cmA n ms) 4)):lftW V M n=LL n ms:=by
 unfold lftW LL
 congr 1
 apply List.filter_congr
 intro x hx
 rw [cell_of_row _ _ _ _ _ _ h,cmA_get _ (List.mem_range.1 hx)]
 by_cases hm:x∈ms <;> simp [isF,hm]
structure Mks (l:List (Int × Int)) (n f:Nat) (ms:List Nat):Prop where
 lt:∀ x∈ms,x<n
 me:f∈ms
 r:∀ x∈ms,Rch l (f:Int) (x:Int)
def Clo (l:List (Int × Int)) (ms:List Nat):Prop:=∀ x y:Nat,((x:Int),(y:Int))∈l→y∈ms→x∈ms
theorem Mks.all {l:List (Int × Int)} {n f:Nat} {ms:List Nat} (h:Mks l n f ms) (hc:Clo l ms) (hl:∀ p∈l,(0≤p.1∧p.1<(n:Int))∧0≤p.2∧p.2<(n:Int)):RcF l n f ((List.range n).filter fun x=>decide (x∈ms)):=by
 refine ⟨?_,?_,?_⟩
 ·exact (List.pairwise_lt_range).filter _
 ·intro x hx
  simp at hx
  exact hx.1
 ·intro y
  constructor
  ·intro hr
   induction hr with
   | refl=>exact ⟨f,by simp [h.me,h.lt f h.me],rfl⟩
   | step hr hp ih =>
    obtain ⟨x,hx,rfl⟩:=ih
    rename_i y
    have hy:=hl _ hp
    simp only at hy
    obtain ⟨z,rfl⟩:∃ z:Nat,y=(z:Int):=⟨y.toNat,by omega⟩
    have hz:=hc z x hp (by simpa using (List.mem_filter.1 hx).2)
    exact ⟨z,by simp [hz,h.lt z hz],rfl⟩
  ·rintro ⟨x,hx,rfl⟩
   exact h.r x (by simpa using (List.mem_filter.1 hx).2)
theorem cm_set {W:World} {M n q:Nat} {ms:List Nat} (h:At W M (.cells (cmA n ms) 4)) (hq:q<n):At (W.setCell ⟨M,q,none⟩ (.bool true)) M (.cells (cmA n (ms++[q])) 4):=by
 unfold At at *
 have h1:=heap_setCell_same W M q _ 4 (.bool true) h
 rw [h1,cmA_set _ hq]
theorem cm_cell {W:World} {M n q:Nat} {ms:List Nat} (h:At W M (.cells (cmA n ms) 4)) (hq:q<n):W.cell? ⟨M,q,none⟩=some (.bool (decide (q∈ms))):=by
 rw [cell_of_row _ _ _ _ _ _ h,cmA_get _ hq]
theorem own_nat {W:World} {B:Nat} {v:Value} {ls:List Nat} (h:W.ownsRow B 3 1 v ls.length (iCells (ls.map Int.ofNat))) (hx:∀ x∈ls,x<1000):∃ a cap,v=.slice a ls.length cap∧IntR W a ls.length cap (ls.map Int.ofNat):=by
 have:=own_int (r:=ls.map Int.ofNat) (by rw [List.length_map];exact h) (fun x hx'=>by
  obtain ⟨y,hy,rfl⟩:=List.mem_map.1 hx'
  have:=hx y hy
  have e:Int.ofNat y=(y:Int):=rfl
  rw [e]
  omega)
 rw [List.length_map] at this
 exact this
theorem rFrom_yes (w:World) (a:Option Addr) (m cap:Nat) (l:List (Int × Int)) (hP:PrR w a m cap l) (hm:m≤100000) (n f:Nat) (hb:frB l (n:Int) (f:Int)=true) :
  Calls Tryz.prog 20 #[.slice a m cap,.int .i64 (n:Int),.int .i64 (f:Int)] w fun e w'=>∃ (ga:Option Addr) (c:Nat) (ls:List Nat),e=.returned (.tuple #[.slice ga ls.length c,.int .i64 0])∧IntR w' ga ls.length c (ls.map Int.ofNat)∧RcF l n f ls∧Below w.heap.size w w':=by
 unfold frB at hb
 simp only [Bool.and_eq_true,decide_eq_true_eq,Bool.not_eq_true'] at hb
 obtain ⟨⟨⟨-,h512⟩,hx⟩,hy⟩:=hb
 have hf:f<n:=by simp [blwB] at hx;omega
 have HL:=jH (frB_all hy)
 have HP:=jH hP
 have HM:=jH hP.len
 have HF:=jH hf
 have g0:¬ (n:Int)<0:=by omega
 have g1:¬ (512:Int)<(n:Int):=by omega
 have g2:¬ (f:Int)<0:=by omega
 have g3:¬ (n:Int)≤(f:Int):=by omega
 have m1:(m:Int)≤100000:=by omega
 clear hP hx hy hm
 go_enter Tryz.func20,Tryz.ntmps20
 go_wp2_with fail
 go_loopw [8] (fun v V=>∃ i:Nat,i≤m∧v=.int .i64 (i:Int)∧V=w) (fun v _=>m - (intOf v).toNat)
 case atStart=>exact ⟨0,Nat.zero_le _,rfl,rfl⟩
 case round =>
  obtain ⟨i,hi,rfl,hV⟩:=hrel
  replace hV:=hV.symm
  subst hV
  by_cases hlt:i<m
  ·obtain ⟨p,hp⟩:∃ p,l[i]?=some p:=⟨_,List.getElem?_eq_getElem (by have:=HM.out;omega)⟩
   obtain ⟨⟨a0,a1⟩,a2,a3⟩:=HL.out p (List.mem_of_getElem? hp)
   obtain ⟨g,off,ea,hg,c0,c1⟩:=HP.out.nth hp
   subst ea
   have k0:(0:Int)≤(i:Int):=by omega
   have k1:(i:Int)<(m:Int):=by omega
   have b0:¬ p.1<0:=by omega
   have b1:¬ (n:Int)≤p.1:=by omega
   have b2:¬ p.2<0:=by omega
   have b3:¬ (n:Int)≤p.2:=by omega
   have HLT:=jH hlt
   clear hp hlt hi a0 a1 a2 a3
   go_wp2_with fail
   go_roundw
   case rel=>exact ⟨i+1,HLT.out,by go_num,trivial⟩
   case measure=>have:=HLT.out;simp [intOf];omega
  ·obtain rfl:i=m:=by omega
   have lt:¬ (i:Int)<(i:Int):=by omega
   clear hlt hi
   obtain ⟨i4,hi4,hx0,hx1,hx2⟩:=info_parts Tryz.info4
   have hA0:At (w.alloc (.cells (madeCells #[.bool false] n) 4)) w.heap.size (.cells (cmA n []) 4):=by rw [← cmA_nil];exact At.new _ _
   have c0:=cm_cell hA0 hf
   have f0:(w.alloc (.cells (madeCells #[.bool false] n) 4)).frozen? ⟨w.heap.size,f,none⟩=false:=frozen_of_row _ _ _ _ _ hA0
   obtain ⟨U0,hU0⟩:∃ U0,U0=w.alloc (.cells (madeCells #[.bool false] n) 4):=⟨_,rfl⟩
   have HB0:Hid (Below w.heap.size w U0):=jH (by rw [hU0];exact belA bR)
   rw [← hU0] at hA0 c0 f0
   have HA0:=jH hA0
   have f1:(0:Int)≤(f:Int):=by omega
   have f2:(f:Int)<(n:Int):=by omega
   clear hA0
   go_upto_region 9 with (refine wpList_make_row _ rfl _ _ 101 rfl 4 i4 (.bool false) Tryz.underlying101 hi4 hx0 hx1 rfl .i64 .i64 n rfl rfl (by rw [hx2];omega) (by omega) ?_)
   rw [← hU0]
   clear hU0 hi4 hx0 hx1 hx2 i4
   simp only [List.not_mem_nil,decide_false] at c0
   go_wp2_with fail
   have HS0:=jH (cm_set HA0.out hf)
   have HB1:Hid (Below w.heap.size w (U0.setCell ⟨w.heap.size,f,none⟩ (.bool true))):=jH (HB0.out.setCell (Nat.le_refl _) _)
   clear c0 f0 f1 f2 hf
   go_loopw [10] (fun v V=>∃ (b:Bool) (ms:List Nat),v=.bool b∧At V w.heap.size (.cells (cmA n ms) 4)∧Below w.heap.size w V∧Mks l n f ms∧(b=false→Clo l ms)) (fun v V=>2*lftW V w.heap.size n+(match v with|.bool true=>1|_=>0))
   case atStart=>exact ⟨true,[f],rfl,HS0.out,HB1.out,⟨fun x hx=>by simp at hx;subst hx;exact HF.out,by simp,fun x hx=>by simp at hx;subst hx;exact .refl⟩,fun h=>by cases h⟩
   case round =>
    obtain ⟨b,ms,rfl,hA,hB,hK,hc⟩:=hrel
    have HA:=jH hA
    have HB:=jH hB
    have HK:=jH hK
    have HC:=jH hc
    have HLW:=jH (lftW_is hA)
    clear hA hB hK hc
    cases b with
    | true =>
     rename World=>U
     go_wp2_with fail
     go_loopw [10,11] (fun v10 v11 V=>∃ (j:Nat) (b:Bool) (ms':List Nat),j≤i∧v11=.int .i64 (j:Int)∧v10=.bool b∧At V w.heap.size (.cells (cmA n ms') 4)∧Below w.heap.size w V∧Mks l n f ms'∧(b=false→ms'=ms∧∀ x y:Nat,((x:Int),(y:Int))∈l.take j→y∈ms→x∈ms)∧(b=true→LL n ms'<LL n ms)) (fun _ v11 _=>i - (intOf v11).toNat)
     case atStart=>exact ⟨0,false,ms,Nat.zero_le _,rfl,rfl,HA.out,HB.out,HK.out,fun _=>⟨rfl,fun x y h=>by simp at h⟩,fun h=>by cases h⟩
     case round =>
      obtain ⟨j,b,mt,hj,rfl,rfl,hA,hB,hK,hq1,hq2⟩:=hrel
      have HA2:=jH hA
      have HB2:=jH hB
      have HK2:=jH hK
      have HQ1:=jH hq1
      have HQ2:=jH hq2
      clear hA hB hK hq1 hq2
      by_cases hlt:j<i
      ·obtain ⟨⟨p1,p2⟩,hp⟩:∃ p,l[j]?=some p:=⟨_,List.getElem?_eq_getElem (by have:=HM.out;omega)⟩
       obtain ⟨⟨a0,a1⟩,a2,a3⟩:=HL.out _ (List.mem_of_getElem? hp)
       obtain ⟨g,off,ea,hg,c0,c1⟩:=(HP.out.bel HB2.out).nth hp
       subst ea
       simp only at a0 a1 a2 a3 c0 c1
       obtain ⟨x,rfl⟩:∃ x:Nat,p1=(x:Int):=⟨p1.toNat,by omega⟩
       obtain ⟨y,rfl⟩:∃ y:Nat,p2=(y:Int):=⟨p2.toNat,by omega⟩
       have HXN:Hid (x<n):=jH (by omega)
       have dx:=cm_cell HA2.out HXN.out
       have dy:=cm_cell HA2.out (q:=y) (by omega)
       have fx:wr.frozen? ⟨w.heap.size,x,none⟩=false:=frozen_of_row _ _ _ _ _ HA2.out
       have k0:(0:Int)≤(j:Int):=by omega
       have k1:(j:Int)<(i:Int):=by omega
       have HLT:=jH hlt
       have HPJ:=jH hp
       clear hp hlt hj hg
       by_cases hy:y∈mt
       ·by_cases hx:x∈mt
        ·rw [decide_eq_true hx] at dx
         rw [decide_eq_true hy] at dy
         have HX:=jH hx
         clear hx hy
         as_aux_lemma =>
          go_wp2_with fail
          go_roundw
          case rel =>
           refine ⟨j+1,b,mt,HLT.out,by go_num,rfl,HA2.out,HB2.out,HK2.out,fun e=>?_,HQ2.out⟩
           obtain ⟨h1,h2⟩:=HQ1.out e
           refine ⟨h1,fun x' y' h hy'=>?_⟩
           rw [take_on HPJ.out,List.mem_append] at h
           rcases h with h|h
           ·exact h2 x' y' h hy'
           ·simp at h
            obtain ⟨e1,e2⟩:=h
            obtain rfl:x'=x:=by omega
            rw [← h1];exact HX.out
          case measure=>have:=HLT.out;simp [intOf];omega
        ·rw [decide_eq_false hx] at dx
         rw [decide_eq_true hy] at dy
         have HX:=jH hx
         have HY:=jH hy
         clear hx hy
         as_aux_lemma =>
          go_wp2_with fail
          go_roundw
          case rel =>
           refine ⟨j+1,true,mt++[x],HLT.out,by go_num,rfl,cm_set HA2.out HXN.out,HB2.out.setCell (Nat.le_refl _) _,⟨fun z hz=>?_,List.mem_append_left _ HK2.out.me,fun z hz=>?_⟩,(fun e=>by cases e),fun _=>?_⟩
           ·rcases List.mem_append.1 hz with h|h
            ·exact HK2.out.lt z h
            ·simp at h;subst h;exact HXN.out
           ·rcases List.mem_append.1 hz with h|h
            ·exact HK2.out.r z h
            ·simp at h;subst h;exact .step (HK2.out.r y HY.out) (List.mem_of_getElem? HPJ.out)
           ·have h1:=LL_on HXN.out HX.out
            cases b with
            | false=>rw [(HQ1.out rfl).1] at h1 ⊢;exact h1
            | true=>exact Nat.lt_trans h1 (HQ2.out rfl)
          case measure=>have:=HLT.out;simp [intOf];omega
       ·rw [decide_eq_false hy] at dy
        have HY:=jH hy
        clear hy dx
        as_aux_lemma =>
         go_wp2_with fail
         go_roundw
         case rel =>
          refine ⟨j+1,b,mt,HLT.out,by go_num,rfl,HA2.out,HB2.out,HK2.out,fun e=>?_,HQ2.out⟩
          obtain ⟨h1,h2⟩:=HQ1.out e
          refine ⟨h1,fun x' y' h hy'=>?_⟩
          rw [take_on HPJ.out,List.mem_append] at h
          rcases h with h|h
          ·exact h2 x' y' h hy'
          ·simp at h
           obtain ⟨e1,e2⟩:=h
           obtain rfl:y'=y:=by omega
           exact absurd (by rw [h1];exact hy') HY.out
         case measure=>have:=HLT.out;simp [intOf];omega
      ·obtain rfl:j=i:=by omega
       have lt2:¬ (j:Int)<(j:Int):=by omega
       have HLV:=jH (lftW_is HA2.out)
       clear hlt hj
       go_wp2_with fail
       refine ⟨⟨b,mt,rfl,HA2.out,HB2.out,HK2.out,fun e x y hx hy=>?_⟩,?_⟩
       ·obtain ⟨h1,h2⟩:=HQ1.out e
        subst h1
        refine h2 x y ?_ hy
        rw [HM.out,List.take_length]
        exact hx
       ·simp only [HLW.out,HLV.out]
        cases b with
        | false=>have:=(HQ1.out rfl).1;subst this;simp
        | true=>have:=HQ2.out rfl;simp;omega
    | false =>
     have HCL:=jH (HC.out rfl)
     clear HC HLW
     rename World=>U
     obtain ⟨i3,hi3,hy0,hy1,hy2⟩:=info_parts Tryz.info3
     go_wp2_with fail
     go_loopw [12,13] (fun v12 v13 V=>∃ (k:Nat) (ls:List Nat),k≤n∧v13=.int .i64 (k:Int)∧ls=(List.range k).filter (fun x=>decide (x∈ms))∧V.ownsRow U.heap.size 3 1 v12 ls.length (iCells (ls.map Int.ofNat))∧Below U.heap.size U V) (fun _ v13 _=>n - (intOf v13).toNat)
     case atStart=>exact ⟨0,[],Nat.zero_le _,rfl,rfl,World.ownsRow_nil _ _ _ _,Below.refl _ _⟩
     case round =>
      obtain ⟨k,ls,hk,rfl,hls,hrow,hB⟩:=hrel
      have HB2:=jH hB
      have HLS:=jH hls
      have HROW:=jH hrow
      have hll:ls.length≤k:=by rw [hls];have:=List.length_filter_le (fun x=>decide (x∈ms)) (List.range k);simpa using this
      clear hB hls hrow
      by_cases hlt:k<n
      ·have dk:=cm_cell (HA.out.below HB2.out) hlt
       have k0:(0:Int)≤(k:Int):=by omega
       have k1:(k:Int)<(n:Int):=by omega
       have HLT:=jH hlt
       by_cases hm:k∈ms
       ·rw [decide_eq_true hm] at dk
        have HON:Hid ((List.range (k+1)).filter (fun x=>decide (x∈ms))=ls++[k]):=jH (by rw [List.range_succ,List.filter_append,← HLS.out];simp [hm])
        obtain ⟨a2,c2,ev⟩:=own_sl HROW.out
        subst ev
        clear hm hlt hk
        go_wp2_with (at_builtin;refine wpList_append_own _ rfl _ _ 55 rfl U.heap.size 3 i3 (.int .i64 0) 1 8 Tryz.underlying55 hi3 hy0 hy1 hy2 rfl (by decide) (.slice a2 ls.length c2) ls.length _ rfl (own_bel HROW.out (belA bR)) ⟨wr.heap.size,0,none⟩ 1 1 [.int .i64 (k:Int)] rfl rfl (news1 wr _ _) (fun u hu=>by simp at hu;subst hu;rfl) (by unfold maxLen;omega) (by omega) (by have:=HB2.out.size;simp only [World.size_alloc];omega) ?_;intro v' w5 ho hg hn5;have HO:=jH ho;have HG:=jH hg;clear ho hg hn5)
        refine ⟨⟨k+1,ls++[k],HLT.out,by go_num,HON.out.symm,?_,?_⟩,?_⟩
        ·have:=HO.out
         simp only [iCells,List.map_append,List.map_cons,List.map_nil,List.length_append,List.length_cons,List.length_nil] at this ⊢
         exact this
        ·exact (belA HB2.out).grown HG.out (by have:=HB2.out.size;simp only [World.size_alloc];omega) (fun b e=>(HROW.out.lt b e).1)
        ·have:=HLT.out;simp [intOf];omega
       ·rw [decide_eq_false hm] at dk
        have HON:Hid ((List.range (k+1)).filter (fun x=>decide (x∈ms))=ls):=jH (by rw [List.range_succ,List.filter_append,← HLS.out];simp [hm])
        clear hm hlt hk
        as_aux_lemma =>
         go_wp2_with fail
         go_roundw
         case rel=>exact ⟨k+1,ls,HLT.out,by go_num,HON.out.symm,HROW.out,HB2.out⟩
         case measure=>have:=HLT.out;simp [intOf];omega
      ·obtain rfl:k=n:=by omega
       have lt:¬ (k:Int)<(k:Int):=by omega
       obtain ⟨ga,c2,ev,hI⟩:=own_nat HROW.out (fun x hx=>by rw [HLS.out] at hx;simp at hx;omega)
       subst ev
       have HI:=jH hI
       have HRC:=jH (HK.out.all HCL.out HL.out)
       clear hlt hk hI
       go_wp2_with fail
       go_ret2
       exact ⟨ga,c2,ls,rfl,HI.out,by rw [HLS.out];exact HRC.out,jB HB.out HB2.out⟩
end Go.Proofs.YtmjenlogbkbgnaaGreatDoor
