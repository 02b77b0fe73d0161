import Derived.Test.YtdlggpcakaofoaaGreatB40
import Derived.Test.YtdlggpcakaofoaaGreatT03
namespace Go.Proofs.YtdlggpcakaofoaaGreat
open Go.RowKit Go.Shelf
set_option linter.unusedVariables false
set_option linter.unusedSimpArgs false
set_option maxRecDepth 100000
set_option maxHeartbeats 1000000
theorem turns_big1 (t:Ty) (f:Fv) (v:Value) (w:World) (h:TyAt w f t) (hF:FitC 60 t false):Calls Tryz.prog 5 #[f.v,v] w fun e w'=>e=.returned (.bool true)∧Below w.heap.size w w':=by
 have CA:Hid (∀ W,Calls Tryz.prog 9 #[] W fun e w'=>e=.returned (.bool true)∧Below W.heap.size W w'):=awake_true
 have CF:Hid (Calls Tryz.prog 26 #[f.v,.int .i64 60] (w.alloc f.o) fun e w'=>e=.returned (.bool false)∧Below (w.alloc f.o).heap.size (w.alloc f.o) w'):=hF f _ (h.bel (belA bR))
 obtain ⟨k,m,r,s,a,n,cap⟩:=f
 show Calls Tryz.prog 5 #[tyV k m r s a n cap,v] w _
 clear h hF
 go_enter Tryz.func5,Tryz.ntmps5
 go_wp2_with (first
  | (go_at_call 26;refine CF.out.mono ?_;rintro e w1 ⟨rfl,hb1⟩;have HB1:=jH (below1 hb1);clear hb1)
  | (go_at_call 9;refine (CA.out _).mono ?_;rintro e w7 ⟨rfl,hb7⟩;have HB7:=jH hb7;clear hb7))
 go_ret
 exact ⟨rfl,jB HB1.out HB7.out⟩
theorem turns_big2 (t:Ty) (f:Fv) (xa:Option Addr) (xn xcap:Nat) (w:World) (h:TyAt w f t) (hF:FitC 60 t true) (hn:600<xn):Calls Tryz.prog 5 #[f.v,.slice xa xn xcap] w fun e w'=>e=.returned (.bool true)∧Below w.heap.size w w':=by
 have CA:Hid (∀ W,Calls Tryz.prog 9 #[] W fun e w'=>e=.returned (.bool true)∧Below W.heap.size W w'):=awake_true
 have CF:Hid (Calls Tryz.prog 26 #[f.v,.int .i64 60] (w.alloc f.o) fun e w'=>e=.returned (.bool true)∧Below (w.alloc f.o).heap.size (w.alloc f.o) w'):=hF f _ (h.bel (belA bR))
 obtain ⟨k,m,r,s,a,n,cap⟩:=f
 show Calls Tryz.prog 5 #[tyV k m r s a n cap,.slice xa xn xcap] w _
 have nb:(600:Int)<(xn:Int):=by omega
 clear h hF hn
 go_enter Tryz.func5,Tryz.ntmps5
 go_wp2_with (first
  | (go_at_call 26;refine CF.out.mono ?_;rintro e w1 ⟨rfl,hb1⟩;have HB1:=jH (below1 hb1);clear hb1)
  | (go_at_call 9;refine (CA.out _).mono ?_;rintro e w7 ⟨rfl,hb7⟩;have HB7:=jH hb7;clear hb7))
 go_ret
 exact ⟨rfl,jB HB1.out HB7.out⟩
theorem i_ones (l:List Int):∀ u∈iCells l,u.oneCell'=true:=fun u hu=>by
 simp [iCells] at hu
 obtain ⟨a,_,h⟩:=hu
 subst h
 rfl
theorem wpl_append_int {w:World} {ops:Array Oper} {rest:List Oper} {o:Oper} {a:Act} {Q:Exit→Act→World→Prop} (hgd:o.guard=none) (s x:Operand)
  (ho:o.op=.call { callee:=.builtin .append,args:=#[s,x],argTypes:=#[33,33] }) (base:Nat)
  (v:Value) (n:Nat) (xs:List Value) (hs:a.eval s=v) (hown:w.ownsRow base 3 1 v n xs)
  (ad:Option Addr) (m c:Nat) (L:List Int) (hx:a.eval x=.slice ad m c) (hI:IntR w ad m c L) (h63:n+m≤maxLen) (hbytes:(n+m)*8≤140737488355328) (hbase:base≤w.heap.size)
  (h:∀ v' w',w'.ownsRow base 3 1 v' (n+m) (xs++iCells L)→w.grownBy w' v.ownBlock→wpList Tryz.prog ops Q rest (a.put o.dst v') w'):wpList Tryz.prog ops Q (o::rest) a w:=by
 obtain ⟨i0,hi,hz0,hz1,hz2⟩:=info_parts Tryz.info3
 refine wpList_plain hgd fun K hK=>?_
 cases ad with
 | none =>
  have hL:L=[]:=Classical.byContradiction fun hne=>by obtain ⟨g,off,e,_⟩:=hI.cells hne;cases e
  subst hL
  obtain rfl:m=0:=hI.len
  obtain rfl:c=0:=hI.nil rfl
  have hrun:=run_append_owned_none (P:=Tryz.prog) (w:=w) base 33 o.type 3 i0 1 Tryz.underlying33 hi v n xs hown
  unfold Oper.wp
  simp [execOp,ho,resolve,invoke,builtin,hs,hx,hrun,Result.andThen]
  exact hK _ _ (h v w (by simpa [iCells] using hown) (World.grownBy.refl w _))
 | some ad =>
  refine wp_append_own w s x 33 ho base 3 i0 (.int .i64 0) 1 8 Tryz.underlying33 hi hz0 hz1 hz2 rfl (by decide) v n xs hs hown ad m c (iCells L) hx (by rw [hI.len];simp [iCells]) (fun j u hu=>?_) (i_ones L) h63 hbytes hbase (fun v' w' h2 h3 _=>hK _ _ (h v' w' h2 h3))
  have hne:L≠[]:=fun e=>by subst e;simp [iCells] at hu
  obtain ⟨g,off,e,_,hc⟩:=hI.cells hne
  cases e
  simp only [iCells,List.getElem?_map,Option.map_eq_some_iff] at hu
  obtain ⟨y,hy,rfl⟩:=hu
  rw [show (⟨g,off,none⟩:Addr).add j=⟨g,off+j,none⟩ by cases j <;> simp [Addr.add]]
  exact hc j y hy
theorem news77 (W:World):∀ j u,([Value.int .i64 77]:List Value)[j]?=some u→(W.alloc (.cells #[.int .i64 77] 3)).cell? ((⟨W.heap.size,0,none⟩:Addr).add j)=some u:=fun j u hu=>by
 cases j with
 | zero=>simp at hu;subst hu;simp [Addr.add,cell_of_one (At.new W (One (.int .i64 77) 3))]
 | succ j=>simp at hu
theorem rowOwn {W:World} {B go co n:Nat} {X:List Int} (h:W.ownsRow B 3 1 (.slice (some ⟨go,0,none⟩) (0+n+1) co) (0+n+1) ([]++iCells X++[.int .i64 77])) (hl:X.length=n):RowO W go co n X:=by
 refine ⟨(h.lt go rfl).2,fun i hi=>?_,hl,?_,?_⟩
 ·rw [h.cellAt i (by omega)]
  simp [iCells]
 ·rcases h.2 with ⟨e,h0⟩|⟨g,cap',cur,e,_,_,h1,h2,_⟩
  ·omega
  ·injection e with _ _ e3;omega
 ·rcases h.2 with ⟨e,h0⟩|⟨g,cap',cur,e,_,_,h1,h2,_⟩
  ·omega
  ·injection e with _ _ e3;subst e3;exact h2
theorem map_rg (g:Int→Int) (hg:∀ x,-9223372036854775808≤g x∧g x≤9223372036854775807):∀ c:Ch,c.rg→(mapC g c).rg
 | .leaf k s,h=>h
 | .box c,h=>map_rg g hg c h
 | .ref m r c,h=>⟨hg r,map_rg g hg c h.2⟩
theorem ty_rg:∀ (c:Ch) (w:World) (f:Fv),TyAt w f c.ty→c.rg
 | .leaf k s,w,f,h=>by obtain ⟨a,cap,-,h1,h2,h3⟩:=h.leaf;exact ⟨h1,h2,h3⟩
 | .box c,w,f,h=>by obtain ⟨g,off,cap,x,-,-,ht⟩:=h.box;exact ty_rg c w x ht
 | .ref m r c,w,f,h=>by obtain ⟨g,off,cap,x,-,-,ht,r0,r1⟩:=h.ref;exact ⟨⟨r0,r1⟩,ty_rg c w x ht⟩
theorem zero_rg:(Ch.leaf 0 0).rg:=⟨by omega,by omega,by omega⟩
structure TB (w:World) (f:Fv) (xa:Option Addr) (xn xcap:Nat) (X:List Int) (is:Bool) (no:Int) (C E:Ch):Prop where
 t27:∀ W a' cap',Below w.heap.size w W→IntR W a' xn cap' X→Calls Tryz.prog 27 #[f.v,.slice a' xn cap'] W fun e w'=>∃ f':Fv,e=.returned (.tuple #[f'.v,.int .i64 no])∧New W w' f' C
 t28:∀ W,Below w.heap.size w W→Calls Tryz.prog 28 #[f.v,.slice xa xn xcap] W fun e w'=>∃ f':Fv,e=.returned (.tuple #[f'.v,.int .i64 no])∧New W w' f' C
 t29:∀ W,Below w.heap.size w W→Calls Tryz.prog 29 #[f.v] W fun e w'=>∃ f':Fv,e=.returned (.tuple #[f'.v,.int .i64 (if is then 0 else 2)])∧New W w' f' E
 t30:∀ W,Below w.heap.size w W→Calls Tryz.prog 30 #[f.v] W fun e w'=>e=.returned (.bool is)∧Below W.heap.size W w'
 t31:is=true→∀ W,Below w.heap.size w W→Calls Tryz.prog 31 #[f.v] W fun e w'=>∃ f':Fv,e=.returned f'.v∧New W w' f' E
 zero:is=false→E=.leaf 0 0
 rgC:C.rg
 rgE:E.rg
theorem tb_ex (t:Ty) (f:Fv) (xa:Option Addr) (xn xcap:Nat) (X:List Int) (w:World) (h:TyAt w f t) (hI:IntR w xa xn xcap X) (hn:xn≤600):∃ is no C E,TB w f xa xn xcap X is no C E:=by
 have hX:X.length≤100000:=by have:=hI.len;omega
 cases hb:isT t with
 | false =>
  refine ⟨false,2,.leaf 0 0,.leaf 0 0,fun W a' cap' hW _=>Turn_no t f a' xn cap' W hb (h.bel hW),fun W hW=>rtu_no f _ W (fun V hV=>?_),fun W hW=>Erase_no t f W hb (h.bel hW),fun W hW=>?_,(fun e=>by cases e),fun _=>rfl,zero_rg,zero_rg⟩
  ·have:=is_any t f V (h.bel (jB hW hV));rw [hb] at this;exact this
  ·have:=is_any t f W (h.bel hW);rw [hb] at this;exact this
 | true =>
  obtain ⟨c,rfl,hc⟩:=ok_of hb
  have hrg:=ty_rg c w f h
  have e1:∀ n,tuN n c=if rIn n c then 0 else 2:=fun n=>rfl
  have e2:tuC xn X c=if rIn xn c then mapC (fun r=>X[r.toNat]?.getD 0) c else .leaf 0 0:=by
   unfold tuC rIn
   rw [show turnC (atX X) [] c=mapC (fun r=>X[r.toNat]?.getD 0) c from turn_map _ c []]
  have hgX:∀ x:Int,-9223372036854775808≤X[x.toNat]?.getD 0∧X[x.toNat]?.getD 0≤9223372036854775807:=fun x=>by
   cases hx:X[x.toNat]? with
   | none=>simp
   | some y=>exact hI.rng y (List.mem_of_getElem? hx)
  refine ⟨true,tuN xn c,tuC xn X c,mapC (fun _=>-1) c,fun W a' cap' hW hI'=>Turn_yes c f a' xn cap' X W hc (h.bel hW) hI' hX,fun W hW=>?_,fun W hW=>?_,fun W hW=>?_,fun _ W hW=>rErase_any c f W hc.ok (h.bel hW),fun e=>(by cases e),?_,map_rg _ (fun x=>⟨by omega,by omega⟩) c hrg⟩
  ·rw [e1,e2];exact rTurn_yes c f xa xn xcap X W hc (h.bel hW) (hI.bel hW) hX
  ·have:=Erase_yes c f W hc (h.bel hW)
   rw [show turnC (fun _ _=>(-1:Int)) [] c=mapC (fun _=>-1) c from turn_map _ c []] at this
   exact this
  ·have:=is_any c.ty f W (h.bel hW);rw [hb] at this;exact this
  ·rw [e2]
   split
   ·exact map_rg _ hgX c hrg
   ·exact zero_rg
end Go.Proofs.YtdlggpcakaofoaaGreat
