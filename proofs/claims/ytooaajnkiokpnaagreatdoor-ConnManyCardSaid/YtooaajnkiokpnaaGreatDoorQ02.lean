/-
  Part of a proof: The Huffman code as plain lists: how many bits each sign's code has, the codes, texts and their writings. No conditions but those that each theorem names; no program. Conditions: those that each theorem names.
-/
import Derived.Test.YtooaajnkiokpnaaGreatDoorProg
import Derived.Test.YtooaajnkiokpnaaGreatDoorQ01
import Derived.Deep.MidRow
import Derived.BigFrame
import Derived.IntWalk
import Derived.Deep.RegionHeld3
namespace Go.Proofs.YtooaajnkiokpnaaGreatDoor
open Go.RowKit Go.WideShapes
set_option maxHeartbeats 2000000
set_option maxRecDepth 100000
section
structure Fm where
 ty:Nat
 fl:Nat
 st:Nat
 dA:Option Addr
 dn:Nat
 dc:Nat
 pad:Int
 code:Nat
 oth:Nat
 wt:Nat
 al:Bool
 win:Nat
 sA:Option Addr
 sn:Nat
 sc:Nat
def Fm.c(x:Fm):Array Value:=#[.int .u8 x.ty,.int .u8 x.fl,.int .u32 x.st,.slice x.dA x.dn x.dc,.int .i64 x.pad,.int .u32 x.code,.int .u32 x.oth,.int .u8 x.wt,.bool x.al,.int .u32 x.win,.slice x.sA x.sn x.sc]
theorem zco:(Tryz.prog.info? 66).map (·.size)=some 11:=by kernel_rfl
theorem Fm.size(x:Fm):(Tryz.prog.info? 66).map (·.size)=some x.c.size:=zco
section
variable {w:World}{g:Nat}{x:Fm}
theorem zf(h:Row w g 66 x.c):w.cell? ⟨g,0,none⟩=some (.int .u8 x.ty)∧w.cell? ⟨g,1,none⟩=some (.int .u8 x.fl)∧w.cell? ⟨g,2,none⟩=some (.int .u32 x.st)∧w.cell? ⟨g,3,none⟩=some (.slice x.dA x.dn x.dc)∧
  w.cell? ⟨g,4,none⟩=some (.int .i64 x.pad)∧w.cell? ⟨g,5,none⟩=some (.int .u32 x.code)∧w.cell? ⟨g,6,none⟩=some (.int .u32 x.oth)∧w.cell? ⟨g,7,none⟩=some (.int .u8 x.wt)∧w.cell? ⟨g,8,none⟩=some (.bool x.al)∧
  w.cell? ⟨g,9,none⟩=some (.int .u32 x.win)∧w.cell? ⟨g,10,none⟩=some (.slice x.sA x.sn x.sc):=
 ⟨h.cell rfl,h.cell rfl,h.cell rfl,h.cell rfl,h.cell rfl,h.cell rfl,h.cell rfl,h.cell rfl,h.cell rfl,h.cell rfl,h.cell rfl⟩
end
theorem zg{ops:Array Oper}{rest:List Oper}{o:Oper}{a:Act}{w:World}{Q:Exit→Act→World→Prop}(hgd:o.guard=none)(y:Operand)(ho:o.op=.load 66 y){g:Nat}(hy:a.eval y=.pointer (some ⟨g,0,none⟩)){x:Fm}(h:Row w g 66 x.c)
  (hk:wpList Tryz.prog ops Q rest (a.put o.dst (.agg x.c)) w):wpList Tryz.prog ops Q (o :: rest) a w:=
 wpList_load_row hgd 66 y ho g hy 66 x.c (0,0) _ h Tryz.underlying66 rfl (Fm.size x) hk
theorem Z0{ops:Array Oper}{rest:List Oper}{o:Oper}{a:Act}{w:World}{Q:Exit→Act→World→Prop}(hw:Region.wanted o (yielded ops a.tmps)=true)(y:Operand)(ho:o.op=.load 66 y){g:Nat}(hy:a.eval y=.pointer (some ⟨g,0,none⟩)){x:Fm}(h:Row w g 66 x.c)
  (hk:wpList Tryz.prog ops Q rest (a.put o.dst (.agg x.c)) w):wpList Tryz.prog ops Q (o :: rest) a w:=
 BigFrame.wpList_want hw λ_ hK=>wp_load_row 66 y ho g hy 66 x.c (0,0) _ h Tryz.underlying66 rfl (Fm.size x) (hK _ _ hk)
theorem qm{ops:Array Oper}{S:World→Prop}{o:Oper}{a:Act}(hw:Region.wanted o (yielded ops a.tmps)=true)(y:Operand)(ho:o.op=.load 66 y){g:Nat}(hy:a.eval y=.pointer (some ⟨g,0,none⟩)){x:Fm}(hS:∀w,S w→Row w g 66 x.c):YieldsIf Tryz.prog ops S o (.agg x.c) a:=
 .inl ⟨hw,λw hw'=>by
  unfold execOp
  simp only[ho,hy,Instr.loadAt,Instr.sureAddr,Sem.run_bind,Sem.run_pure,Result.andThen_ok,run_loadVar_row w g 66 66 x.c (0,0) _ (hS w hw') Tryz.underlying66 rfl (Fm.size x)]⟩
attribute [local irreducible] Fm.c
end
section
theorem zo{a b:Nat}(h:a≠b):((a:Int) == (b:Int))=false:=by rw[beq_eq_false_iff_ne];omega
theorem kinds(n:Nat):n=0∨n=1∨n=2∨n=3∨n=4∨n=5∨n=6∨n=7∨n=8∨n=9∨9<n:=by omega
theorem Qd{n:Nat}(h:9<n):((n:Int) == 0)=false∧((n:Int) == 1)=false∧((n:Int) == 2)=false∧((n:Int) == 3)=false∧((n:Int) == 4)=false∧((n:Int) == 5)=false∧((n:Int) == 6)=false∧((n:Int) == 7)=false∧((n:Int) == 8)=false∧((n:Int) == 9)=false:=
 ⟨zo (b:=0) (by omega),zo (b:=1) (by omega),zo (b:=2) (by omega),zo (b:=3) (by omega),zo (b:=4) (by omega),zo (b:=5) (by omega),zo (b:=6) (by omega),zo (b:=7) (by omega),zo (b:=8) (by omega),zo (b:=9) (by omega)⟩
theorem z1h:∀b:Fin 256,(bits .and .u8 (b.val:Int) 8)=((b.val / 8%2*8:Nat):Int):=by decide +kernel
theorem zfw:∀b:Fin 256,(bits .and .u8 (b.val:Int) 32)=((b.val / 32%2*32:Nat):Int):=by decide +kernel
theorem z11:∀b:Fin 256,(bits .and .u8 (b.val:Int) 1)=((b.val%2:Nat):Int):=by decide +kernel
theorem zvr{ty fl:Nat}(h:ty=0∨ty=1∨ty=5)(hb:fl / 8%2=1):yq ty fl=true:=decide_eq_true ⟨h,hb⟩
theorem zpm{ty fl:Nat}(h:¬((ty=0∨ty=1∨ty=5)∧fl / 8%2=1)):yq ty fl=false:=decide_eq_false h
theorem Zt{ty fl:Nat}(h:ty=2∨ty=1∧fl / 32%2=1):ya ty fl=true:=decide_eq_true h
theorem qa{ty fl:Nat}(h:¬(ty=2∨ty=1∧fl / 32%2=1)):ya ty fl=false:=decide_eq_false h
theorem Vp(ty fl:Nat):jl ty fl≤8:=by
 unfold jl
 repeat' split
 all_goals omega
attribute [local irreducible] Fm.c
theorem Q8(x:Fm)(hf:x.fl<256)(w:World):Calls Tryz.prog 150 #[.agg x.c] w λe w'=>e=.returned (.bool (yq x.ty x.fl))∧Below w.heap.size w w':=by
 have h8:=z1h ⟨x.fl,hf⟩
 simp only at h8
 obtain⟨c0,c1,_⟩:=zf (Row.new w 66 x.c)
 have hB:Below w.heap.size w (w.alloc (.cells x.c 66)):=(Below.refl _ _).alloc (Nat.le_refl _) _
 have HB:=z2w hB
 clear hB
 by_cases ht:x.ty=0∨x.ty=1∨x.ty=5
 ·by_cases hb:x.fl / 8%2=1
  ·rw[zvr ht hb]
   rw[hb] at h8
   rcases ht with ht|ht|ht
   all_goals
    rw[ht] at c0
    go_enter Tryz.func150,Tryz.ntmps150
    go_wp2
    go_ret
    exact⟨rfl,HB.out⟩
  ·have hb0:x.fl / 8%2=0:=by omega
   rw[zpm λh=>hb h.2]
   rw[hb0] at h8
   rcases ht with ht|ht|ht
   all_goals
    rw[ht] at c0
    go_enter Tryz.func150,Tryz.ntmps150
    go_wp2
    go_ret
    exact⟨rfl,HB.out⟩
 ·rw[zpm λh=>ht h.1]
  have e0:((x.ty:Int) == 0)=false:=by rw[beq_eq_false_iff_ne];omega
  have e1:((x.ty:Int) == 1)=false:=by rw[beq_eq_false_iff_ne];omega
  have e5:((x.ty:Int) == 5)=false:=by rw[beq_eq_false_iff_ne];omega
  clear ht
  go_enter Tryz.func150,Tryz.ntmps150
  go_wp2
  go_ret
  exact⟨rfl,HB.out⟩
theorem Zy{ty fl:Nat}(h:ya ty fl=true):jl ty fl=5:=by unfold jl;rw[if_pos h]
theorem Z5{ty fl:Nat}(h:ty=3∨ty=5∨ty=8):jl ty fl=4:=by
 unfold jl;rw[if_neg (by rw[qa (by omega)];simp),if_pos h]
theorem zdy{ty fl:Nat}(h:ty=7):jl ty fl=8:=by
 unfold jl;rw[if_neg (by rw[qa (by omega)];simp),if_neg (by omega),if_pos h]
theorem j0{ty fl:Nat}(h:ya ty fl=false)(h':¬(ty=3∨ty=5∨ty=8∨ty=7)):jl ty fl=0:=by
 unfold jl;rw[if_neg (by rw[h];simp),if_neg (by omega),if_neg (by omega)]
theorem v6(x:Fm)(hf:x.fl<256)(w:World):Calls Tryz.prog 187 #[.agg x.c] w λe w'=>e=.returned (.int .i64 (jl x.ty x.fl:Nat))∧Below w.heap.size w w':=by
 have h8:=zfw ⟨x.fl,hf⟩
 simp only at h8
 obtain⟨c0,c1,_⟩:=zf (Row.new w 66 x.c)
 have hB:Below w.heap.size w (w.alloc (.cells x.c 66)):=(Below.refl _ _).alloc (Nat.le_refl _) _
 have HB:=z2w hB
 clear hB
 rcases kinds x.ty with h|h|h|h|h|h|h|h|h|h|h
 ·rw[j0 (qa (by omega)) (by omega)]
  rw[h] at c0
  clear h8
  go_enter Tryz.func187,Tryz.ntmps187
  go_wp2
  go_ret
  exact⟨rfl,HB.out⟩
 ·by_cases hb:x.fl / 32%2=1
  ·rw[Zy (Zt (.inr ⟨h,hb⟩))]
   rw[hb] at h8
   rw[h] at c0
   go_enter Tryz.func187,Tryz.ntmps187
   go_wp2
   go_ret
   exact⟨rfl,HB.out⟩
  ·have hb0:x.fl / 32%2=0:=by omega
   rw[j0 (qa (by omega)) (by omega)]
   rw[hb0] at h8
   rw[h] at c0
   go_enter Tryz.func187,Tryz.ntmps187
   go_wp2
   go_ret
   exact⟨rfl,HB.out⟩
 ·rw[Zy (Zt (.inl h))]
  rw[h] at c0
  clear h8
  go_enter Tryz.func187,Tryz.ntmps187
  go_wp2
  go_ret
  exact⟨rfl,HB.out⟩
 ·rw[Z5 (by omega)]
  rw[h] at c0
  clear h8
  go_enter Tryz.func187,Tryz.ntmps187
  go_wp2
  go_ret
  exact⟨rfl,HB.out⟩
 ·rw[j0 (qa (by omega)) (by omega)]
  rw[h] at c0
  clear h8
  go_enter Tryz.func187,Tryz.ntmps187
  go_wp2
  go_ret
  exact⟨rfl,HB.out⟩
 ·rw[Z5 (by omega)]
  rw[h] at c0
  clear h8
  go_enter Tryz.func187,Tryz.ntmps187
  go_wp2
  go_ret
  exact⟨rfl,HB.out⟩
 ·rw[j0 (qa (by omega)) (by omega)]
  rw[h] at c0
  clear h8
  go_enter Tryz.func187,Tryz.ntmps187
  go_wp2
  go_ret
  exact⟨rfl,HB.out⟩
 ·rw[zdy h]
  rw[h] at c0
  clear h8
  go_enter Tryz.func187,Tryz.ntmps187
  go_wp2
  go_ret
  exact⟨rfl,HB.out⟩
 ·rw[Z5 (by omega)]
  rw[h] at c0
  clear h8
  go_enter Tryz.func187,Tryz.ntmps187
  go_wp2
  go_ret
  exact⟨rfl,HB.out⟩
 ·rw[j0 (qa (by omega)) (by omega)]
  rw[h] at c0
  clear h8
  go_enter Tryz.func187,Tryz.ntmps187
  go_wp2
  go_ret
  exact⟨rfl,HB.out⟩
 ·rw[j0 (qa (by omega)) (by omega)]
  obtain⟨e0,e1,e2,e3,e4,e5,e6,e7,e8,e9⟩:=Qd h
  clear h8 h
  go_enter Tryz.func187,Tryz.ntmps187
  go_wp2
  go_ret
  exact⟨rfl,HB.out⟩
def xv(ty fl:Nat)(pad:Int):Bool:=decide (Qf ty fl pad)
theorem zk4(x:Fm)(hf:x.fl<256)(w:World):Calls Tryz.prog 185 #[.agg x.c] w λe w'=>e=.returned (.bool (xv x.ty x.fl x.pad))∧Below w.heap.size w w':=by
 have hR:=Row.new w 66 x.c
 have hp:=Q8 x hf
 have HR:=z2w hR
 have hB:Below w.heap.size w (w.alloc (.cells x.c 66)):=(Below.refl _ _).alloc (Nat.le_refl _) _
 have HB:=z2w hB
 have HF:=z2w hf
 clear hB hR hf
 cases hpd:yq x.ty x.fl with
 |false=>
  rw[hpd] at hp
  have hn:¬Q1 x.ty x.fl:=of_decide_eq_false hpd
  have hm:xv x.ty x.fl x.pad=decide (x.pad = -1):=by
   unfold xv Qf
   simp[hn]
  rw[hm]
  clear hm hn hpd
  go_enter Tryz.func185,Tryz.ntmps185
  go_wp2_with (refine zg rfl _ rfl rfl HR.out ?_)
  refine(hp _).mono ?_
  rintro e w1 ⟨rfl,hb⟩
  have hR1:=HR.out.below hb HR.out.lt
  obtain⟨_,_,_,_,c4,_⟩:=zf hR1
  have HB1:=z2w (HB.out.trans (hb.mono HB.out.size))
  clear hb hR1
  go_wp2
  go_ret
  exact⟨rfl,HB1.out⟩
 |true=>
  rw[hpd] at hp
  have hn:Q1 x.ty x.fl:=of_decide_eq_true hpd
  have hm:xv x.ty x.fl x.pad=decide (0≤x.pad∧x.pad≤255):=by
   unfold xv Qf
   simp[hn]
  have hcase:(xv x.ty x.fl x.pad=true∧decide (0≤x.pad)=true∧decide (x.pad≤255)=true)∨(xv x.ty x.fl x.pad=false∧decide (0≤x.pad)=true∧decide (x.pad≤255)=false)∨(xv x.ty x.fl x.pad=false∧decide (0≤x.pad)=false):=by
   rw[hm]
   by_cases h0:0≤x.pad<;>by_cases h1:x.pad≤255<;>simp[h0,h1]
  clear hm hn hpd
  rcases hcase with ⟨hm,h0,h1⟩|⟨hm,h0,h1⟩|⟨hm,h0⟩
  all_goals
   rw[hm]
   clear hm
   go_enter Tryz.func185,Tryz.ntmps185
   go_wp2_with (refine zg rfl _ rfl rfl HR.out ?_)
   refine(hp _).mono ?_
   rintro e w1 ⟨rfl,hb⟩
   have hR1:=HR.out.below hb HR.out.lt
   obtain⟨_,_,_,_,c4,_⟩:=zf hR1
   have HB1:=z2w (HB.out.trans (hb.mono HB.out.size))
   clear hb hR1
   go_wp2
   go_ret
   exact⟨rfl,HB1.out⟩
def xq(ty st:Nat):Bool:=!yu ty st
theorem ze9{ty st:Nat}(h:((ty=0∨ty=1∨ty=2∨ty=3∨ty=5∨ty=9)∧st=0)∨((ty=4∨ty=6∨ty=7)∧st≠0)):yu ty st=true:=decide_eq_true h
theorem zbo{ty st:Nat}(h:¬(((ty=0∨ty=1∨ty=2∨ty=3∨ty=5∨ty=9)∧st=0)∨((ty=4∨ty=6∨ty=7)∧st≠0))):yu ty st=false:=decide_eq_false h
theorem jc{ty st:Nat}(h:ty=0∨ty=1∨ty=2∨ty=3∨ty=5∨ty=9):xq ty st=!((st:Int) == 0):=by
 unfold xq
 by_cases h0:st=0
 ·rw[ze9 (by omega),h0];rfl
 ·rw[zbo (by omega),show ((st:Int) == 0)=false from zo (b:=0) h0]
theorem Zd{ty st:Nat}(h:ty=4∨ty=6∨ty=7):xq ty st=((st:Int) == 0):=by
 unfold xq
 by_cases h0:st=0
 ·rw[zbo (by omega),h0];rfl
 ·rw[ze9 (by omega),show ((st:Int) == 0)=false from zo (b:=0) h0];rfl
theorem Jr{ty st:Nat}(h:ty=8∨9<ty):xq ty st=true:=by
 unfold xq
 rw[zbo (by omega)];rfl
theorem zfo(x:Fm)(w:World):Calls Tryz.prog 190 #[.agg x.c] w λe w'=>e=.returned (.bool (xq x.ty x.st))∧Below w.heap.size w w':=by
 obtain⟨c0,c1,c2,_⟩:=zf (Row.new w 66 x.c)
 have hB:Below w.heap.size w (w.alloc (.cells x.c 66)):=(Below.refl _ _).alloc (Nat.le_refl _) _
 have HB:=z2w hB
 clear hB
 by_cases h0:x.st=0
 ·rw[h0] at c2 ⊢
  rcases kinds x.ty with h|h|h|h|h|h|h|h|h|h|h
  ·rw[jc (by omega)]
   rw[h] at c0
   go_enter Tryz.func190,Tryz.ntmps190
   go_wp2
   go_ret
   exact⟨rfl,HB.out⟩
  ·rw[jc (by omega)]
   rw[h] at c0
   go_enter Tryz.func190,Tryz.ntmps190
   go_wp2
   go_ret
   exact⟨rfl,HB.out⟩
  ·rw[jc (by omega)]
   rw[h] at c0
   go_enter Tryz.func190,Tryz.ntmps190
   go_wp2
   go_ret
   exact⟨rfl,HB.out⟩
  ·rw[jc (by omega)]
   rw[h] at c0
   go_enter Tryz.func190,Tryz.ntmps190
   go_wp2
   go_ret
   exact⟨rfl,HB.out⟩
  ·rw[Zd (by omega)]
   rw[h] at c0
   go_enter Tryz.func190,Tryz.ntmps190
   go_wp2
   go_ret
   exact⟨rfl,HB.out⟩
  ·rw[jc (by omega)]
   rw[h] at c0
   go_enter Tryz.func190,Tryz.ntmps190
   go_wp2
   go_ret
   exact⟨rfl,HB.out⟩
  ·rw[Zd (by omega)]
   rw[h] at c0
   go_enter Tryz.func190,Tryz.ntmps190
   go_wp2
   go_ret
   exact⟨rfl,HB.out⟩
  ·rw[Zd (by omega)]
   rw[h] at c0
   go_enter Tryz.func190,Tryz.ntmps190
   go_wp2
   go_ret
   exact⟨rfl,HB.out⟩
  ·rw[Jr (by omega)]
   rw[h] at c0
   go_enter Tryz.func190,Tryz.ntmps190
   go_wp2
   go_ret
   exact⟨rfl,HB.out⟩
  ·rw[jc (by omega)]
   rw[h] at c0
   go_enter Tryz.func190,Tryz.ntmps190
   go_wp2
   go_ret
   exact⟨rfl,HB.out⟩
  ·rw[Jr (by omega)]
   obtain⟨e0,e1,e2,e3,e4,e5,e6,e7,e8,e9⟩:=Qd h
   clear h
   go_enter Tryz.func190,Tryz.ntmps190
   go_wp2
   go_ret
   exact⟨rfl,HB.out⟩
 ·have z1:((x.st:Int) == 0)=false:=zo (b:=0) h0
  have z2:((x.st:Int) != 0)=true:=by rw[bne,z1];rfl
  rcases kinds x.ty with h|h|h|h|h|h|h|h|h|h|h
  ·rw[jc (by omega),z1]
   rw[h] at c0
   go_enter Tryz.func190,Tryz.ntmps190
   go_wp2
   go_ret
   exact⟨rfl,HB.out⟩
  ·rw[jc (by omega),z1]
   rw[h] at c0
   go_enter Tryz.func190,Tryz.ntmps190
   go_wp2
   go_ret
   exact⟨rfl,HB.out⟩
  ·rw[jc (by omega),z1]
   rw[h] at c0
   go_enter Tryz.func190,Tryz.ntmps190
   go_wp2
   go_ret
   exact⟨rfl,HB.out⟩
  ·rw[jc (by omega),z1]
   rw[h] at c0
   go_enter Tryz.func190,Tryz.ntmps190
   go_wp2
   go_ret
   exact⟨rfl,HB.out⟩
  ·rw[Zd (by omega),z1]
   rw[h] at c0
   go_enter Tryz.func190,Tryz.ntmps190
   go_wp2
   go_ret
   exact⟨rfl,HB.out⟩
  ·rw[jc (by omega),z1]
   rw[h] at c0
   go_enter Tryz.func190,Tryz.ntmps190
   go_wp2
   go_ret
   exact⟨rfl,HB.out⟩
  ·rw[Zd (by omega),z1]
   rw[h] at c0
   go_enter Tryz.func190,Tryz.ntmps190
   go_wp2
   go_ret
   exact⟨rfl,HB.out⟩
  ·rw[Zd (by omega),z1]
   rw[h] at c0
   go_enter Tryz.func190,Tryz.ntmps190
   go_wp2
   go_ret
   exact⟨rfl,HB.out⟩
  ·rw[Jr (by omega)]
   rw[h] at c0
   go_enter Tryz.func190,Tryz.ntmps190
   go_wp2
   go_ret
   exact⟨rfl,HB.out⟩
  ·rw[jc (by omega),z1]
   rw[h] at c0
   go_enter Tryz.func190,Tryz.ntmps190
   go_wp2
   go_ret
   exact⟨rfl,HB.out⟩
  ·rw[Jr (by omega)]
   obtain⟨e0,e1,e2,e3,e4,e5,e6,e7,e8,e9⟩:=Qd h
   clear h
   go_enter Tryz.func190,Tryz.ntmps190
   go_wp2
   go_ret
   exact⟨rfl,HB.out⟩
end
section
attribute [local irreducible] Fm.c
theorem zeu(x:Fm)(hf:x.fl<256)(hd:x.dn≤1000000)(hs:x.sn≤1000000)(hp0:-1000000≤x.pad)(hp1:x.pad≤1000000)(w:World):Calls Tryz.prog 148 #[.agg x.c] w λe w'=>e=.returned (.int .i64 (yo x.ty x.fl x.dn x.pad x.sn))∧Below w.heap.size w w':=by
 have HR:=z2w (Row.new w 66 x.c)
 have hah:=v6 x hf
 have hpd:=Q8 x hf
 have hal:=Vp x.ty x.fl
 have HB:Hid (Below w.heap.size w (w.alloc (.cells x.c 66))):=(Below.refl _ _).alloc (Nat.le_refl _) _
 have hz:yo x.ty x.fl x.dn x.pad x.sn=((jl x.ty x.fl+6*x.sn+x.dn:Nat):Int)+if yq x.ty x.fl=true then 1+x.pad else 0:=by unfold yo;omega
 rw[hz]
 obtain⟨N,hN⟩:∃N,N=jl x.ty x.fl:=⟨_,rfl⟩
 rw[←hN] at hah hal ⊢
 clear hN hz hf
 obtain⟨R,hR⟩:∃R:Int,R=((N+6*x.sn+x.dn:Nat):Int)+if yq x.ty x.fl=true then 1+x.pad else 0:=⟨_,rfl⟩
 rw[←hR]
 have HRv:=z2w hR
 clear hR
 have s1:IntKind.i64.wrap ((6:Int)*(x.sn:Int))=((6*x.sn:Nat):Int):=by rw[IntWalk.i64_in _ (by omega)];omega
 have s2:IntKind.i64.wrap ((N:Int)+((6*x.sn:Nat):Int))=((N+6*x.sn:Nat):Int):=by rw[IntWalk.i64_in _ (by omega)];omega
 have s3:IntKind.i64.wrap (((N+6*x.sn:Nat):Int)+(x.dn:Int))=((N+6*x.sn+x.dn:Nat):Int):=by rw[IntWalk.i64_in _ (by omega)];omega
 have hMl:N+6*x.sn+x.dn≤7000008:=by omega
 generalize hM:N+6*x.sn+x.dn=M at *
 have HM:=z2w hM
 clear hM
 go_enter Tryz.func148,Tryz.ntmps148
 go_wp2_with fail
 generalize w.alloc (.cells x.c 66)=w0 at *
 obtain⟨_,_,_,d3,_,_,_,_,_,_,d10⟩:=zf (HR.out:Row w0.drew _ _ _)
 refine wp_region_held_drew (S:=λw'=>Row w' w.heap.size 66 x.c∧w'.cell? ⟨w.heap.size,3,none⟩=some (.slice x.dA x.dn x.dc)∧w'.cell? ⟨w.heap.size,10,none⟩=some (.slice x.sA x.sn x.sc)) (by kernel_rfl) ⟨HR.out,d3,d10⟩ (λhHeld=>?_)
 refine tkY 0 rfl (qm (by rfl) _ rfl rfl (λ_ hSw=>hSw.1)) ?_
 refine tkH 2 ?_
 refine tkH 3 ?_
 refine tkH 4 ?_
 refine tkH 5 ?_
 refine tkH 7 ?_
 refine tkH 8 ?_
 refine tkH 9 ?_
 refine rdH 1 λK hK=>?_
 go_simp
 go_at_call 187
 refine(hah _).mono ?_
 rintro e w1 ⟨rfl,hb1⟩
 have HR1:=z2w (Row.below (show Row w0.drew w.heap.size 66 x.c from HR.out) hb1 HR.out.lt)
 have HB1:=z2w (HB.out.drew.trans (hb1.mono HB.out.size))
 obtain⟨_,_,_,e3,e4,_,_,_,_,_,e10⟩:=zf HR1.out
 refine hK.out _ _ ⟨HR1.out,e3,e10⟩ (λhHeld=>?_)
 clear hK K hb1
 try refine ptk ?_
 refine tkH 6 ?_
 refine tkH 10 ?_
 refine tkH 11 ?_
 refine dnH ?_
 clear hah s1 s2 s3 e3 e10 d3 d10 HR HB
 go_wp2_with (refine zg rfl _ rfl rfl HR1.out ?_)
 cases hpB:yq x.ty x.fl with
 |false=>
  rw[hpB] at hpd
  have hv:=HRv.out
  rw[hpB,if_neg (by simp),Int.add_zero] at hv
  have HV:=z2w hv
  clear hv hpB HRv
  refine(hpd _).mono ?_
  rintro e w2 ⟨rfl,hb2⟩
  have HB2:=z2w (HB1.out.trans (hb2.mono HB1.out.size))
  clear hb2 hpd
  go_wp2_with fail
  go_ret
  exact⟨zgs (by have h1:=HV.out;have h2:=HM.out;omega),HB2.out⟩
 |true=>
  rw[hpB] at hpd
  have hv:=HRv.out
  rw[hpB,if_pos rfl] at hv
  have HV:=z2w hv
  clear hv hpB HRv
  refine(hpd _).mono ?_
  rintro e w2 ⟨rfl,hb2⟩
  have HB2:=z2w (HB1.out.trans (hb2.mono HB1.out.size))
  have k4:=(hb2.cell (p:=⟨w.heap.size,4,none⟩) HR1.out.lt).trans e4
  clear hb2 hpd
  go_wp2_with fail
  go_ret
  exact⟨zgs (by have h1:=HV.out;have h2:=HM.out;omega),HB2.out⟩
end
section
structure Frm.Ok(f:Frm):Prop where
 ty:f.ty<256
 fl:f.fl<256
 code:f.code<4294967296
 wt:f.wt<256
 sets:∀s∈f.sets,s.1<65536∧s.2<4294967296
def Frm.May(f:Frm):Prop:=zmc f.ty f.fl f.st f.dat.length f.pad f.code f.oth f.wt f.al f.win f.sets.length
theorem jy(n ty fl st:Nat):(ym n ty fl st).length=9:=by simp[ym,zl]
theorem zbl{a b:List UInt8}{k:Nat}(h:a.length=k)(j:Nat):(a++b).getD (k+j) 0=b.getD j 0:=by
 subst h
 simp[List.getD_eq_getElem?_getD,List.getElem?_append_right]
theorem zoe(n ty fl st:Nat)(s:List UInt8)(hn:n<16777216)(hty:ty<256)(hfl:fl<256)(hst:st≤2147483647)(h:s.length=n):Zu (ym n ty fl st++s)=jt ty fl st s:=by
 unfold Zu
 have e3:(ym n ty fl st++s).take 3=be 3 n:=by
  unfold ym
  rw[List.append_assoc,List.append_assoc,xx (zl 3 n)]
 have e9:(ym n ty fl st++s).drop 9=s:=Qo (jy n ty fl st)
 have d3:(ym n ty fl st++s).getD 3 0=UInt8.ofNat ty:=by
  unfold ym
  rw[List.append_assoc,List.append_assoc]
  exact zbl (zl 3 n) 0
 have d4:(ym n ty fl st++s).getD 4 0=UInt8.ofNat fl:=by
  unfold ym
  rw[List.append_assoc,List.append_assoc]
  exact zbl (zl 3 n) 1
 have e5:((ym n ty fl st++s).drop 5).take 4=be 4 st:=by
  unfold ym
  rw[List.append_assoc,Qo (show (be 3 n++[UInt8.ofNat ty,UInt8.ofNat fl]).length=5 by simp[zl]),xx (zl 4 st)]
 rw[e3,e9,d3,d4,e5,yf 3 n (by omega),yf 4 st (by omega),jx,jx,Nat.mod_eq_of_lt hty,Nat.mod_eq_of_lt hfl,Nat.mod_eq_of_lt (by omega),if_neg]
 rw[List.length_append,jy]
 omega
theorem zpd(f:Frm)(h:Qf f.ty f.fl f.pad):Zk f.ty f.fl (j6 f)=.ok (f.pad,zw f++f.dat):=by
 unfold Zk j6
 by_cases hb:Q1 f.ty f.fl
 ·obtain⟨h0,h1⟩:=h.1 hb
  rw[if_pos (show yq f.ty f.fl=true from decide_eq_true hb),if_pos h0]
  obtain⟨p,hp⟩:=Int.eq_ofNat_of_zero_le h0
  rw[hp]
  have hm:(UInt8.ofNat p).toNat=p:=by rw[jx];omega
  simp only[Int.toNat_natCast,hm,List.length_append,List.length_replicate]
  rw[if_neg (by omega),List.append_assoc,←List.append_assoc,xx (by simp)]
 ·rw[if_neg (by simpa [yq] using hb),if_neg (by have:=h.2 hb;omega),h.2 hb]
theorem Frm.ext'{f g:Frm}(h1:f.ty=g.ty)(h2:f.fl=g.fl)(h3:f.st=g.st)(h4:f.dat=g.dat)(h5:f.pad=g.pad)(h6:f.code=g.code)(h7:f.oth=g.oth)(h8:f.wt=g.wt)(h9:f.al=g.al)(h10:f.win=g.win)(h11:f.sets=g.sets):f=g:=by
 cases f;cases g
 simp only at h1 h2 h3 h4 h5 h6 h7 h8 h9 h10 h11
 subst h1 h2 h3 h4 h5 h6 h7 h8 h9 h10 h11
 rfl
theorem zd4{α:Type}{l:List α}(h:¬l.length≠0):l=[]:=List.eq_nil_of_length_eq_zero (by omega)
theorem zid(f:Frm)(hk:f.Ok)(hm:f.May):q9 f.ty f.fl f.st f.pad (zw f++f.dat)=f:=by
 obtain⟨⟨m1,m2,m3⟩,m4,m5,⟨o1,o2,o3,o4,o5,o6,o7⟩,m6⟩:=hm
 unfold q9 zw
 have hl:ya f.ty f.fl=true↔zu f.ty f.fl:=by simp[ya]
 unfold zu at *
 by_cases h:ya f.ty f.fl=true
 ·rw[if_pos h,if_pos h]
  have h':=hl.1 h
  have hc:f.code=0:=by omega
  have hwn:f.win=0:=by omega
  have hs:f.sets=[]:=zd4 (by omega)
  have hv:f.oth+(if f.al=true then 2147483648 else 0)<256 ^ 4:=by split<;>omega
  have ht:=xx (a:=be 4 (f.oth+if f.al=true then 2147483648 else 0)) (b:=[UInt8.ofNat f.wt]++f.dat) (zl 4 _)
  have hd:=Qo (a:=be 4 (f.oth+if f.al=true then 2147483648 else 0)++[UInt8.ofNat f.wt]) (b:=f.dat) (k:=5) (by simp[zl])
  have hg:=zbl (a:=be 4 (f.oth+if f.al=true then 2147483648 else 0)) (b:=[UInt8.ofNat f.wt]++f.dat) (zl 4 _) 0
  rw[←List.append_assoc] at ht hg
  rw[ht,hd,hg,yf 4 _ hv]
  refine Frm.ext' rfl rfl rfl rfl rfl hc.symm ?_ ?_ ?_ hwn.symm hs.symm
  ·simp only
   split<;>omega
  ·show (UInt8.ofNat f.wt).toNat=f.wt
   rw[jx,Nat.mod_eq_of_lt hk.wt]
  ·simp only
   cases ha:f.al
   ·exact decide_eq_false (by rw[if_neg (by simp)];omega)
   ·exact decide_eq_true (by rw[if_pos rfl];omega)
 ·have hn:¬(f.ty=2∨f.ty=1∧f.fl / 32%2=1):=λe=>h (hl.2 e)
  have ha:f.al=false:=by
   cases ha:f.al
   ·rfl
   ·exact absurd (o2 ha) hn
  have hw:f.wt=0:=Classical.byContradiction λe=>hn (o1 e)
  rw[if_neg h,if_neg h]
  by_cases h3:f.ty=3
  ·rw[if_pos h3,if_pos h3]
   have hd:f.dat=[]:=zd4 (by omega)
   have hs:f.sets=[]:=zd4 (by omega)
   rw[xx (zl 4 _),yf 4 _ hk.code]
   exact Frm.ext' rfl rfl rfl hd.symm rfl rfl (show 0=f.oth by omega) hw.symm ha.symm (show 0=f.win by omega) hs.symm
  ·rw[if_neg h3,if_neg h3]
   have hc7:f.ty≠7→f.code=0:=by omega
   by_cases h4:f.ty=4
   ·rw[if_pos h4,if_pos h4]
    have hd:f.dat=[]:=zd4 (by omega)
    rw[hd,List.append_nil,zan _ hk.sets]
    exact Frm.ext' rfl rfl rfl hd.symm rfl (show 0=f.code by omega) (show 0=f.oth by omega) hw.symm ha.symm (show 0=f.win by omega) rfl
   ·rw[if_neg h4,if_neg h4]
    have hs:f.sets=[]:=zd4 (by omega)
    by_cases h5:f.ty=5
    ·rw[if_pos h5,if_pos h5]
     rw[xx (zl 4 _),Qo (zl 4 _),yf 4 _ (by omega),Nat.mod_eq_of_lt (by omega)]
     exact Frm.ext' rfl rfl rfl rfl rfl (show 0=f.code by omega) rfl hw.symm ha.symm (show 0=f.win by omega) hs.symm
    ·rw[if_neg h5,if_neg h5]
     by_cases h7:f.ty=7
     ·rw[if_pos h7,if_pos h7]
      rw[Qo (show (be 4 f.oth++be 4 f.code).length=8 by simp[zl])]
      rw[List.append_assoc,xx (zl 4 _),Qo (zl 4 _),xx (zl 4 _),yf 4 _ hk.code,yf 4 _ (by omega),Nat.mod_eq_of_lt (by omega)]
      exact Frm.ext' rfl rfl rfl rfl rfl rfl rfl hw.symm ha.symm (show 0=f.win by omega) hs.symm
     ·rw[if_neg h7,if_neg h7]
      by_cases h8:f.ty=8
      ·rw[if_pos h8,if_pos h8]
       have hd:f.dat=[]:=zd4 (by omega)
       rw[xx (zl 4 _),yf 4 _ (by omega),Nat.mod_eq_of_lt (by omega)]
       exact Frm.ext' rfl rfl rfl hd.symm rfl (show 0=f.code by omega) (show 0=f.oth by omega) hw.symm ha.symm rfl hs.symm
      ·rw[if_neg h8,if_neg h8,List.nil_append]
       exact Frm.ext' rfl rfl rfl rfl rfl (show 0=f.code by omega) (show 0=f.oth by omega) hw.symm ha.symm (show 0=f.win by omega) hs.symm
theorem J2(f:Frm)(hm:f.May):(j6 f).length≤16384:=by
 obtain⟨_,_,m5,⟨_,_,_,_,_,o6,_⟩,m6⟩:=hm
 have:=zao f (λh=>o6 h) m5
 omega
theorem z1l(a b c d:UInt8):zt [a,b,c,d]=a.toNat*16777216+b.toNat*65536+c.toNat*256+d.toNat:=by simp only[zt,List.foldl_cons,List.foldl_nil];omega
theorem z2f{l:List UInt8}(h:4≤l.length):∃a b c d r,l=a :: b :: c :: d :: r:=by
 match l,h with
 |a :: b :: c :: d :: r,_=>exact⟨a,b,c,d,r,rfl⟩
theorem zkt(ty fl st:Nat)(pad:Int)(r:List UInt8):(q9 ty fl st pad r).ty=ty∧(q9 ty fl st pad r).fl=fl∧(q9 ty fl st pad r).st=st∧(q9 ty fl st pad r).pad=pad:=by
 unfold q9
 repeat' split
 all_goals exact⟨rfl,rfl,rfl,rfl⟩
end
section
def qo:List UInt8:=[80,82,73,32,42,32,72,84,84,80,47,50,46,48,13,10,13,10,83,77,13,10,13,10]
theorem y8:qo.length=24:=rfl
abbrev Rd:=Frm × Nat × Nat
def ql(l:List UInt8):Nat:=9+zt (l.take 3)
def qz(l:List UInt8):Rd:=(hdN (l.getD 3 0).toNat (l.getD 4 0).toNat (zt ((l.drop 5).take 4)%2147483648),1,6)
def nfN(l:List UInt8):Option Rd × List UInt8:=
 if l.length<9 then (none,l)
 else if 16393<ql l then (some (qz l),l)
 else if l.length<ql l then (none,l)
 else (some (Zu (l.take (ql l))),l.drop (ql l))
def Jb(l:List UInt8):Prop:=l.take (min l.length 24)=qo.take (min l.length 24)
instance(l:List UInt8):Decidable (Jb l):=inferInstanceAs (Decidable (_=_))
def zjm:Rd:=(hdN 0 0 0,1,1)
def nxN(l:List UInt8)(w:Bool):Option Rd × List UInt8 × Bool:=
 if w=true then
  if ¬Jb l then (some zjm,l,true)
  else if l.length<24 then (none,l,true)
  else ((nfN (l.drop 24)).1,(nfN (l.drop 24)).2,false)
 else ((nfN l).1,(nfN l).2,false)
def nsN(l:List UInt8)(w bad:Bool):Option Rd × List UInt8 × Bool × Bool:=
 if bad=true then (none,[],false,true)
 else match nxN l w with
  |(some x,r,w')=>if x.2.1=1 then (some x,[],false,true) else (some x,r,w',false)
  |(none,r,w')=>(none,r,w',false)
theorem zh2{l r:List UInt8}{w w':Bool}(h:nxN l w=(none,r,w')):nsN l w false=(none,r,w',false):=by unfold nsN;rw[if_neg (by simp),h]
theorem zog{l r:List UInt8}{w w':Bool}{x:Rd}(h:nxN l w=(some x,r,w'))(hx:x.2.1=1):nsN l w false=(some x,[],false,true):=by unfold nsN;rw[if_neg (by simp),h];exact if_pos hx
theorem zho{l r:List UInt8}{w w':Bool}{x:Rd}(h:nxN l w=(some x,r,w'))(hx:x.2.1≠1):nsN l w false=(some x,r,w',false):=by unfold nsN;rw[if_neg (by simp),h];exact if_neg hx
theorem zps{l m:List UInt8}(h:9≤l.length):ql (l++m)=ql l:=by unfold ql;rw[List.take_append_of_le_length (by omega)]
theorem zm2{l:List UInt8}{k:Nat}{z:List UInt8}(h:9≤l.length)(hk:16384<k)(hz:z.length=k)(hv:zt (l.take 3)=k):Zu (l.take 9++z)=qz l:=by
 have h9:(l.take 9).length=9:=by simp;omega
 unfold Zu
 have e3:(l.take 9++z).take 3=l.take 3:=by rw[List.take_append_of_le_length (by omega),List.take_take];congr 1
 rw[if_neg (by rw[e3,hv,List.length_append,h9,hz];omega)]
 have ed:(l.take 9++z).drop 9=z:=by rw[List.drop_append_of_le_length (by omega),List.drop_of_length_le (by omega)];rfl
 have g:∀j,j<9→(l.take 9++z).getD j 0=l.getD j 0:=λj hj=>by
  simp only[List.getD_eq_getElem?_getD]
  rw[List.getElem?_append_left (by omega),List.getElem?_take_of_lt hj]
 have e5:((l.take 9++z).drop 5).take 4=(l.drop 5).take 4:=by
  rw[List.drop_append_of_le_length (by omega),List.take_append_of_le_length (by rw[List.length_drop];omega),List.drop_take,List.take_take];rfl
 rw[ed,e5,g 3 (by omega),g 4 (by omega)]
 unfold jt qz
 rw[if_pos (by omega)]
def zbs(l:List UInt8):List UInt8:=0 :: 64 :: 1 :: ((l.drop 3).take 6++List.replicate 16385 0)
theorem zvv{l:List UInt8}(h:9≤l.length):Zu (zbs l)=qz l:=by
 have h6:((l.drop 3).take 6).length=6:=by simp;omega
 have e:zbs l=(0 :: 64 :: 1 :: (l.drop 3).take 6).take 9++List.replicate 16385 0:=by
  have h7:(0 :: 64 :: 1 :: (l.drop 3).take 6).take 9=0 :: 64 :: 1 :: (l.drop 3).take 6:=List.take_of_length_le (by simp only[List.length_cons,h6];omega)
  rw[h7]
  rfl
 rw[e,zm2 (l:=0 :: 64 :: 1 :: (l.drop 3).take 6) (k:=16385) (by simp only[List.length_cons,h6];omega) (by omega) (List.length_replicate) (by rfl)]
 unfold qz
 obtain⟨a0,a1,a2,a3,a4,a5,a6,a7,a8,r,rfl⟩:∃a0 a1 a2 a3 a4 a5 a6 a7 a8 r,l=a0 :: a1 :: a2 :: a3 :: a4 :: a5 :: a6 :: a7 :: a8 :: r:=by
  match l,h with
  |a0 :: a1 :: a2 :: a3 :: a4 :: a5 :: a6 :: a7 :: a8 :: r,_=>exact⟨_,_,_,_,_,_,_,_,_,_,rfl⟩
 rfl
theorem ziy{l:List UInt8}(h:9≤l.length):(zbs l).length=16394:=by
 unfold zbs
 simp only[List.length_cons,List.length_append,List.length_replicate,List.length_take,List.length_drop]
 omega
theorem zpj{F:Frm}(hm:F.May)(hg:Zu (zh F)=(F,0,0))(m:List UInt8):nfN (zh F++m)=(some (F,0,0),m):=by
 have hs:=J2 F hm
 have h9:(ym (j6 F).length F.ty F.fl F.st).length=9:=jy ..
 have hlen:(zh F).length=9+(j6 F).length:=by unfold zh;rw[List.length_append,h9]
 have hw:ql (zh F++m)=9+(j6 F).length:=by
  rw[zps (by omega)]
  unfold ql zh
  rw[List.take_append_of_le_length (by omega)]
  unfold ym
  rw[List.append_assoc,xx (zl 3 _),yf 3 _ (by omega)]
 unfold nfN
 rw[if_neg (by rw[List.length_append];omega),hw,if_neg (by omega),if_neg (by rw[List.length_append];omega),←hlen,xx rfl,Qo rfl,hg]
end
section
def j3:List Nat:=
 [13,23,28,28,28,28,28,28,28,24]++[30,28,28,30,28,28,28,28,28,28]++[28,28,30,28,28,28,28,28,28,28]++[28,28,6,10,10,12,13,6,8,11] ++
 [10,10,8,11,8,6,6,6,5,5]++[5,6,6,6,6,6,6,6,7,8]++[15,6,12,10,13,6,7,7,7,7]++[7,7,7,7,7,7,7,7,7,7] ++
 [7,7,7,7,7,7,7,7,8,7]++[8,13,19,13,14,6,15,5,6,5]++[6,5,6,6,6,5,7,7,6,6]++[6,5,6,7,6,5,5,6,7,7] ++
 [7,7,7,15,11,14,13,28,20,22]++[20,20,22,22,22,23,22,23,23,23]++[23,23,24,23,24,24,22,23,24,23]++[23,23,23,21,22,23,22,23,23,24] ++
 [22,21,20,22,22,23,23,21,23,22]++[22,24,21,22,23,23,21,21,22,21]++[23,22,23,23,20,22,22,22,23,22]++[22,23,26,26,20,19,22,23,22,25] ++
 [26,26,26,27,27,26,24,25,19,21]++[26,27,27,26,27,24,21,21,26,26]++[28,27,27,27,20,24,20,21,22,21]++[21,23,22,22,25,25,24,24,26,23] ++
 [26,27,26,26,27,27,27,27,27,28]++[27,27,27,27,27,26,30]
theorem zbz:j3.length=257:=by decide +kernel
def ln(i:Nat):Nat:=j3.getD i 0
def fst:Nat→Nat
 |0=>0
 |n+1=>(fst n+j3.count n)*2
def cd(i:Nat):Nat:=fst (ln i)+(j3.take i).count (ln i)
theorem J1:∀i,i<257→5≤ln i∧ln i≤30:=by decide +kernel
theorem zvp:∀n,n<31→fst n≤1073741824:=by decide +kernel
theorem zwz:∀n,n<30→fst n+j3.count n≤536870912:=by decide +kernel
theorem zjr{k:Nat}(h:k<257):j3[k]?=some (ln k):=by
 unfold ln
 rw[List.getD_eq_getElem?_getD,List.getElem?_eq_getElem (by rw[zbz];exact h)]
 rfl
theorem zn2{k:Nat}(h:k<257):j3.take (k+1)=j3.take k++[ln k]:=by
 rw[List.take_add_one,zjr h]
 rfl
theorem za6{k:Nat}(h:k<257)(n:Nat):(j3.take (k+1)).count n=(j3.take k).count n+if n=ln k then 1 else 0:=by
 rw[zn2 h,List.count_append]
 congr 1
 by_cases e:n=ln k
 ·rw[if_pos e,e];simp
 ·rw[if_neg e];simp[Ne.symm e]
theorem zod(k n:Nat):(j3.take k).count n≤257:=by
 have:=List.count_le_length (a:=n) (l:=j3.take k)
 rw[List.length_take,zbz] at this
 omega
theorem zwp(n:Nat):(j3.take 257).count n=j3.count n:=by rw[List.take_of_length_le (by rw[zbz];omega)]
end
end Go.Proofs.YtooaajnkiokpnaaGreatDoor
