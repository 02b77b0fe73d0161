import Derived.Test.YtmjenlogbkbgnaaGreatDoorC00
import Derived.ChangeSame
import Derived.Deep.Strs
import Derived.Lib.SmallJoins
namespace Go.Proofs.YtmjenlogbkbgnaaGreatDoor
open Go.RowKit Go.Shelf Go.ChangeShapes Go.WideShapes Go.ChangeAt Go.Joins Go.WideElems Go.Maps
set_option linter.unusedVariables false
set_option linter.unusedSimpArgs false
set_option maxRecDepth 100000
theorem lt_of_cell0 {W:World} {b o:Nat} {v:Value} (h:W.cell? ⟨b,o,none⟩=some v):b<W.heap.size:=World.block_lt_of_cell? W _ h
theorem one32:∃ f0 f1 f2 f3 f4,Tryz.prog.underlying 43=some (.struct #[f0,f1,f2,f3,f4])∧f0.type=40∧f1.type=4∧f2.type=3∧f3.type=3∧f4.type=41∧f0.offset=0∧f1.offset=1∧f2.offset=2∧f3.offset=3∧f4.offset=4:=⟨_,_,_,_,_,Tryz.underlying43,rfl,rfl,rfl,rfl,rfl,rfl,rfl,rfl,rfl,rfl⟩
theorem ones32:Tryz.prog.cellsOf 40=1∧Tryz.prog.cellsOf 4=1∧Tryz.prog.cellsOf 3=1∧Tryz.prog.cellsOf 41=1∧Tryz.prog.cellsOf 43=5:=⟨by kernel_rfl,by kernel_rfl,by kernel_rfl,by kernel_rfl,by kernel_rfl⟩
theorem trod_struct5 {H:Type} {enc:TypeId × Value→H} {P:Program} {w:World} {base:Nat} {spare:Nat→Bool} {held:Bool} {t:TypeId} {f0 f1 f2 f3 f4:Field} {fuel:Nat} {cs:List Value} {x:DataW H × List MemPlace} (ht:P.underlying t=some (.struct #[f0,f1,f2,f3,f4])) (h:DataW.trod enc P w base spare held fuel t cs=some x) :
  ∃ y0 y1 y2 y3 y4 n,fuel=n+1∧cs.length=P.cellsOf t∧DataW.trod enc P w base spare held n f0.type ((cs.drop f0.offset).take (P.cellsOf f0.type))=some y0 ∧
   DataW.trod enc P w base spare held n f1.type ((cs.drop f1.offset).take (P.cellsOf f1.type))=some y1∧DataW.trod enc P w base spare held n f2.type ((cs.drop f2.offset).take (P.cellsOf f2.type))=some y2 ∧
   DataW.trod enc P w base spare held n f3.type ((cs.drop f3.offset).take (P.cellsOf f3.type))=some y3∧DataW.trod enc P w base spare held n f4.type ((cs.drop f4.offset).take (P.cellsOf f4.type))=some y4:=by
 obtain ⟨xs,n,hfu,rfl,hl,hlen,hf⟩:=DataW.trod_struct ht h
 match xs,hlen with
 | [y0,y1,y2,y3,y4],_=>exact ⟨y0,y1,y2,y3,y4,n,hfu,hl,by simpa using hf 0 f0 rfl,by simpa using hf 1 f1 rfl,by simpa using hf 2 f2 rfl,by simpa using hf 3 f3 rfl,by simpa using hf 4 f4 rfl⟩
theorem open_ty {H:Type} {enc:TypeId × Value→H} {W:World} {base:Nat} {sp:Nat→Bool} {held:Bool}:∀ (n:Nat) (cs:List Value) (x:DataW H × List MemPlace),DataW.trod enc Tryz.prog W base sp held n 43 cs=some x →
  ∃ (f:Fv) (t:Ty),cs=[.int .u8 (f.k:Int),.bool f.m,.int .i64 f.r,.int .i64 f.s,.slice f.a f.n f.cap]∧TyAt W f t:=by
 intro n
 induction n using Nat.strongRecOn with
 | ind n ih =>
  intro cs x h
  obtain ⟨f0,f1,f2,f3,f4,hu,e0,e1,e2,e3,e4,o0,o1,o2,o3,o4⟩:=one32
  obtain ⟨k0,k1,k2,k3,k4⟩:=ones32
  obtain ⟨y0,y1,y2,y3,y4,m,hm,hlen,h0,h1,h2,h3,h4⟩:=trod_struct5 hu h
  rw [k4] at hlen
  match cs,hlen with
  | [c0,c1,c2,c3,c4],_ =>
   rw [o0,e0,k0] at h0
   rw [o1,e1,k1] at h1
   rw [o2,e2,k2] at h2
   rw [o3,e3,k2] at h3
   rw [o4,e4,k3] at h4
   obtain ⟨k,q0,_,w0⟩:=DataW.trod_int Tryz.underlying40 h0
   obtain ⟨mb,q1,_⟩:=DataW.trod_bool Tryz.underlying4 h1
   obtain ⟨r,q2,_,w2⟩:=DataW.trod_int Tryz.underlying3 h2
   obtain ⟨s,q3,_,w3⟩:=DataW.trod_int Tryz.underlying3 h3
   simp at q0 q1 q2 q3
   subst q0 q1 q2 q3
   simp [Lit.wf,IntKind.min,IntKind.max,IntKind.signed,IntKind.bits] at w0 w2 w3
   have hk:((k.toNat:Nat):Int)=k:=by omega
   simp at h4
   rcases DataW.trod_slice Tryz.underlying41 h4 with ⟨hcs,_⟩|⟨a,len,cap,elems,rest,m2,hm2,hcs,_,hb,hl,hc,hel,hx,_,_⟩
   ·simp at hcs
    subst hcs
    exact ⟨⟨k.toNat,mb,r,s,none,0,0⟩,.mk k.toNat mb r s [],by simp only [hk],.mk _ _ _ _ none 0 0 [] (fun _=>⟨0,false,0,0,none,0,0⟩) rfl (by simp) (by omega) (by omega) (by omega) (by omega) (by omega) (fun hh=>absurd rfl hh) (fun i t ht=>by simp at ht)⟩
   ·simp at hcs
    subst hcs
    rw [k4] at hx
    have each:∀ i,i<len→∃ ft:Fv × Ty,TyAt W ft.1 ft.2∧W.cell? (a.add (i*5))=some (.int .u8 (ft.1.k:Int))∧W.cell? (a.add (i*5+1))=some (.bool ft.1.m)∧W.cell? (a.add (i*5+2))=some (.int .i64 ft.1.r)∧W.cell? (a.add (i*5+3))=some (.int .i64 ft.1.s)∧W.cell? (a.add (i*5+4))=some (.slice ft.1.a ft.1.n ft.1.cap):=fun i hi=>by
     have hxi:=hx i hi
     rw [List.getElem?_eq_getElem (by omega),Option.bind_eq_some_iff] at hxi
     obtain ⟨cs',hc1,hc2⟩:=hxi
     obtain ⟨f',t',hcs',ht'⟩:=ih m2 (by omega) cs' _ hc2
     subst hcs'
     obtain ⟨_,hln,hcell⟩:=World.cells?_some hc1
     have g0:=hcell 0 (by omega)
     have g1:=hcell 1 (by omega)
     have g2:=hcell 2 (by omega)
     have g3:=hcell 3 (by omega)
     have g4:=hcell 4 (by omega)
     rw [Deep.add_add] at g1 g2 g3 g4
     exact ⟨(f',t'),ht',by simpa [Addr.add] using g0,by simpa using g1,by simpa using g2,by simpa using g3,by simpa using g4⟩
    haveI:Inhabited (Fv × Ty):=⟨(⟨0,false,0,0,none,0,0⟩,.mk 0 false 0 0 [])⟩
    obtain ⟨q,hq⟩:=Deep.choose_lt each
    refine ⟨⟨k.toNat,mb,r,s,some a,len,cap⟩,.mk k.toNat mb r s ((List.range len).map fun i=>(q i).2),by simp only [hk],.mk _ _ _ _ (some a) len cap _ (fun i=>(q i).1) (by simp) (by omega) (by omega) (by omega) (by omega) (by omega) (by omega) (fun hne=>?_) (fun i t ht=>?_)⟩
    ·have hpos:0<len:=by
      rcases Nat.eq_zero_or_pos len with h|h
      ·subst h;exact absurd rfl hne
      ·exact h
     obtain ⟨b,off,spot⟩:=a
     have hc0:=(hq 0 hpos).2.1
     have hspot:spot=none:=by simpa [Addr.add] using World.cell?_spot hc0
     subst hspot
     refine ⟨b,off,rfl,fun i hi=>?_⟩
     simp at hi
     obtain ⟨_,g0,g1,g2,g3,g4⟩:=hq i hi
     rw [Addr.add_lit] at g0 g1 g2 g3 g4
     exact ⟨lt_of_cell0 g0,g0,g1,g2,g3,g4⟩
    ·rw [List.getElem?_map] at ht
     rcases Nat.lt_or_ge i len with hi|hi
     ·rw [List.getElem?_range hi] at ht
      cases ht
      exact (hq i hi).1
     ·rw [List.getElem?_eq_none (by simpa using hi)] at ht
      cases ht
end Go.Proofs.YtmjenlogbkbgnaaGreatDoor
