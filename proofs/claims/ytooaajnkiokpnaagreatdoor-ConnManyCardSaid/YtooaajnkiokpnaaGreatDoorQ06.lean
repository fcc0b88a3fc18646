/-
  Part of a proof: Slices of elements of several cells each, over whatever program: 's[m:]' and 's[:m]' of one that is read; an element of one that the call made, stored anew. No conditions but those that each theorem names. Conditions: those that each theorem names.
-/
import Derived.Test.YtooaajnkiokpnaaGreatDoorProg
import Derived.Test.YtooaajnkiokpnaaGreatDoorQ01
import Derived.WalkKit
import Derived.LaidEql
import Derived.Stop.Asserts
import Derived.RowKitTokens
import Derived.Defers
import Derived.Recover
import Derived.Laws.Pointers
import Derived.Below
import Derived.WalkSpells
import Derived.Lib.Hide
import Derived.Deep.LoopGhost
import Derived.Test.YtooaajnkiokpnaaGreatDoorQ04
import Derived.Deep.MidRow
import Derived.BigFrame
import Derived.Test.YtooaajnkiokpnaaGreatDoorQ05
namespace Go.Proofs.YtooaajnkiokpnaaGreatDoor
open Go.RowKit Go.WideShapes
set_option maxHeartbeats 4000000
section
open Go.RowKit Go.Extern.Stop Go.Stop Go.Extern
def sc(s:Int):Int:=if s≤3 then s else 0
theorem zt4{s:Int}(h:s≤3):sc s=s:=if_pos h
theorem z0y{s:Int}(h:¬s≤3):sc s=0:=if_neg h
theorem zec(s c:Int)(w:World) :
  Calls Tryz.prog 101 #[.agg #[.int .u8 s,.int .u32 c]] w λe w'=>e=.returned (.int .u8 (sc s))∧w.alloc (.cells #[.int .u8 s,.int .u32 c] 29)=w':=by
 by_cases h:s≤3
 ·rw[zt4 h]
  go_enter Tryz.func101,Tryz.ntmps101
  go_wp2
  go_ret
  exact⟨rfl,rfl⟩
 ·rw[z0y h]
  have h':3<s:=by omega
  go_enter Tryz.func101,Tryz.ntmps101
  go_wp2
  go_ret
  exact⟨rfl,rfl⟩
theorem zgg(s c:Int)(h:1≤s∧s≤3)(w:World) :
  Calls Tryz.prog 65 #[.agg #[.int .u8 s,.int .u32 c]] w λe w'=>e=.returned (.iface 172 (.pointer (some ⟨w.heap.size+2,0,none⟩)))∧
   ((w.alloc (.cells #[.int .u8 s,.int .u32 c] 29)).alloc (.cells #[.int .u8 s,.int .u32 c] 29)).alloc (.cells #[.int .u8 s,.int .u32 c] 174)=w':=by
 have hs:sc s=s:=zt4 h.2
 have hne:(s == 0)=false:=beq_eq_false_iff_ne.2 (by omega)
 have hc:=zec s c
 rw[hs] at hc
 have Hs:=z2w hs
 clear hs
 go_enter Tryz.func65,Tryz.ntmps65
 go_wp2_with (go_at_call 101;refine(hc _).mono ?_;rintro e w' ⟨rfl,rfl⟩)
 go_ret
 exact⟨rfl,rfl⟩
theorem rlm(z:Sem Value)(f:TypeId→Addr→Nat→Nat→Sem Value)(v:Value) :
  ReflectliteValue.method z f #[v]=(do match ←ReflectliteValue.parts v with|none=>z|some (t,a,fl)=>f t a fl (fl%32)):=rfl
theorem rls(v x:Value):ReflectliteValue.set #[v,x]=(do
  let (some (dst,a,fl),some (src,b,_)):=(←ReflectliteValue.parts v,←ReflectliteValue.parts x)
   | unsupported (.noEntry "extern/(internal/reflectlite.Value).Set.zeroValue")
  if fl / ReflectliteValue.flagAddr % 2 == 0 then unsupported (.noEntry "extern/(internal/reflectlite.Value).Set.unaddressable")
  let val ←loadVar src b
  if ←Rtype.directlyAssignable dst src then storeVar dst a val
  else if ←Rtype.implements dst src then
   if (←Rtype.kind src) == 20 then
    match val with
    | .nilIface => unsupported (.noEntry "extern/reflectlite: a nil value of one interface type handed on as a value of another")
    |_=>storeVar dst a val
   else storeVar dst a (.iface src val)
  else panicString ("reflectlite.Set: value of type " ++ (← Rtype.spelt src) ++ " is not assignable to type " ++ (← Rtype.spelt dst))
  pure (.tuple #[])):=rfl
theorem zk6(h : Value)(w : World) : (Go.method 454 285 (.agg #[h]) "Kind").run Tryz.prog w = .ok (271, h) w := by kernel_rfl
theorem zlq(h : Value)(w : World) : (Go.method 454 285 (.agg #[h]) "Elem").run Tryz.prog w = .ok (285, .agg #[h]) w := by kernel_rfl
theorem zbn(h : Value)(w : World) : (Go.method 454 285 (.agg #[h]) "Implements").run Tryz.prog w = .ok (286, .agg #[h]) w := by kernel_rfl
theorem Vl(h : Value)(w : World) : (Go.method 454 285 (.agg #[h]) "AssignableTo").run Tryz.prog w = .ok (283, .agg #[h]) w := by kernel_rfl
theorem zuo(v:Value)(w:World):(ReflectliteType.typeOf #[.iface 172 v]).run Tryz.prog w=.ok (.iface 285 (.agg #[.pointer (some ⟨1,172,none⟩)])) w:=by kernel_rfl
theorem zpc(t:Addr)(w:World):(ReflectliteValue.unpack (.iface 239 (.pointer (some t)))).run Tryz.prog w
  = .ok (.agg #[.pointer (some ⟨1,239,none⟩),.pointer (some ⟨w.heap.size,0,none⟩),.int .u64 150]) (w.alloc (.cells #[.pointer (some t)] 239)):=by kernel_rfl
theorem zyf(a : Addr)(w : World) : (ReflectliteValue.methodAny (ReflectliteValue.valueError "reflectlite.Value.Type" 0) (λt _ _ _ => ReflectliteType.toType t) #[.agg #[.pointer (some ⟨1, 239, none⟩), .pointer (some a), .int .u64 150]]).run Tryz.prog w
  = .ok (.iface 285 (.agg #[.pointer (some ⟨1,239,none⟩)])) w:=by kernel_rfl
theorem zyg(w:World):((ReflectliteType.abiMethod λt=>(λa:Nat=>Value.int IntKind.u8 (a:Int)) <$> Rtype.kind t) #[.pointer (some ⟨1,239,none⟩)]).run Tryz.prog w=.ok (.int .u8 22) w:=by kernel_rfl
theorem z0f(w:World):((ReflectliteType.abiMethod λt=>(λa:Nat=>Value.int IntKind.u8 (a:Int)) <$> Rtype.kind t) #[.pointer (some ⟨1,172,none⟩)]).run Tryz.prog w=.ok (.int .u8 22) w:=by kernel_rfl
theorem zj7(a:Addr)(w:World):(ReflectliteValue.parts (.agg #[.pointer (some ⟨1,239,none⟩),.pointer (some a),.int .u64 150])).run Tryz.prog w=.ok (some (239,a,150)) w:=by kernel_rfl
theorem zxg(a p:Addr)(W:World)(ha:W.cell? a=some (.pointer (some p))) :
  (ReflectliteValue.method (ReflectliteValue.valueError "reflectlite.Value.IsNil" 0) ReflectliteValue.isNil #[.agg #[.pointer (some ⟨1, 239, none⟩), .pointer (some a), .int .u64 150]]).run Tryz.prog W = .ok (.bool false) W := by
 rw[rlm]
 simp only[Sem.run_bind,zj7,Result.andThen]
 simp[ReflectliteValue.isNil,loadVar,isAgg,underlying,Tryz.underlying239,ha,Result.andThen]
theorem zy9(w:World):(ReflectliteType.method ReflectliteType.elem #[.agg #[.pointer (some ⟨1,239,none⟩)]]).run Tryz.prog w=.ok (.iface 285 (.agg #[.pointer (some ⟨1,172,none⟩)])) w:=by kernel_rfl
theorem zij(w : World) : (ReflectliteType.relation "Implements" ReflectliteType.implements_ #[.agg #[.pointer (some ⟨1, 172, none⟩)], .iface 285 (.agg #[.pointer (some ⟨1, 120, none⟩)])]).run Tryz.prog w = .ok (.bool true) w := by kernel_rfl
theorem zg1(w : World) : (ReflectliteType.relation "AssignableTo" ReflectliteType.assignableTo #[.agg #[.pointer (some ⟨1, 172, none⟩)], .iface 285 (.agg #[.pointer (some ⟨1, 172, none⟩)])]).run Tryz.prog w = .ok (.bool (decide (172 = 172))) w := by kernel_rfl
theorem zp4(e:Addr)(w:World):(ReflectliteValue.unpack (.iface 172 (.pointer (some e)))).run Tryz.prog w
  = .ok (.agg #[.pointer (some ⟨1,172,none⟩),.pointer (some ⟨w.heap.size,0,none⟩),.int .u64 150]) (w.alloc (.cells #[.pointer (some e)] 172)):=by kernel_rfl
theorem zri(w:World):(Rtype.elem? 239).run Tryz.prog w=.ok (some 172) w:=by kernel_rfl
theorem mkF(p:Addr)(w:World):(ReflectliteValue.mk 172 p ReflectliteValue.flagAddr).run Tryz.prog w=.ok (.agg #[.pointer (some ⟨1,172,none⟩),.pointer (some p),.int .u64 406]) w:=by kernel_rfl
theorem zua(a p:Addr)(W:World)(ha:W.cell? a=some (.pointer (some p))) :
  (ReflectliteValue.method (ReflectliteValue.valueError "reflectlite.Value.Elem" 0) ReflectliteValue.elem #[.agg #[.pointer (some ⟨1, 239, none⟩), .pointer (some a), .int .u64 150]]).run Tryz.prog W
   = .ok (.agg #[.pointer (some ⟨1,172,none⟩),.pointer (some p),.int .u64 406]) W:=by
 rw[rlm]
 simp only[Sem.run_bind,zj7,Result.andThen]
 simp[ReflectliteValue.elem,loadVar,isAgg,underlying,Tryz.underlying239,ha,Result.andThen,zri,mkF]
theorem zub(a:Addr)(w:World):(ReflectliteValue.parts (.agg #[.pointer (some ⟨1,172,none⟩),.pointer (some a),.int .u64 406])).run Tryz.prog w=.ok (some (172,a,406)) w:=by kernel_rfl
theorem zzi(a:Addr)(w:World):(ReflectliteValue.parts (.agg #[.pointer (some ⟨1,172,none⟩),.pointer (some a),.int .u64 150])).run Tryz.prog w=.ok (some (172,a,150)) w:=by kernel_rfl
theorem zu5(w:World):(Rtype.directlyAssignable 172 172).run Tryz.prog w=.ok true w:=by kernel_rfl
theorem z2l(ta b e:Addr)(old:Value)(W:World)(hb:W.cell? b=some (.pointer (some e)))(ht:W.cell? ta=some old)(hf:W.frozen? ta=false) :
  (ReflectliteValue.set #[.agg #[.pointer (some ⟨1,172,none⟩),.pointer (some ta),.int .u64 406],.agg #[.pointer (some ⟨1,172,none⟩),.pointer (some b),.int .u64 150]]).run Tryz.prog W
   = .ok (.tuple #[]) (W.setCell ta (.pointer (some e))):=by
 rw[rls]
 simp only[Sem.run_bind,zub,zzi,Result.andThen]
 simp[ReflectliteValue.flagAddr,loadVar,isAgg,underlying,Tryz.underlying172,hb,Result.andThen,zu5,storeVar,Value.cells,storeCells,Addr.add]
 rw[run_store Tryz.prog W ta _ _ (by rfl)]
 simp[ht,hf]
theorem zyj(t:Value)(w:World) :
  Calls Tryz.prog 175 #[.nilIface,t] w λe w'=>e=.returned (.bool false)∧w=w':=by
 go_enter Tryz.func175,Tryz.ntmps175
 go_wp2
 go_ret
 exact⟨rfl,rfl⟩
def zd3(w:World)(T:TypeId)(t:Addr):World:=(w.alloc (.cells #[.pointer (some t)] T)).alloc (.cells #[.pointer (some ⟨1,T,none⟩),.pointer (some ⟨w.heap.size,0,none⟩),.int .u64 150] 262)
theorem jf{w:World}{p:Addr}{v:Value}(h:w.cell? p=some v):p.block<w.heap.size:=by
 rcases Nat.lt_or_ge p.block w.heap.size with h1|h1
 ·exact h1
 ·simp[World.cell?,Array.getElem?_eq_none h1] at h
theorem asF(pf:Nat)(t a:Addr)(old:Value)(w:World)(ha:w.cell? a=some (.pointer (some t)))(ht0:w.cell? t=some old)(hf0:w.frozen? t=false) :
  Calls Tryz.prog 209 #[.iface 172 (.pointer (some ⟨pf,0,none⟩)),.iface 239 (.pointer (some t)),.agg #[.pointer (some ⟨1,239,none⟩),.pointer (some a),.int .u64 150],.iface 285 (.agg #[.pointer (some ⟨1,172,none⟩)])] w λe w'=>e=.returned (.bool true)∧
   (((w.alloc (.cells #[.pointer (some ⟨1,239,none⟩),.pointer (some a),.int .u64 150] 262)).alloc (.cells #[.pointer (some ⟨pf,0,none⟩)] 172)).setCell t (.pointer (some ⟨pf,0,none⟩)))=w':=by
 have h23:=@run_callFunc_extern Tryz.prog 206 _ (λargs=>ReflectliteValue.unpack (args.getD 0 (.tuple #[]))) Tryz.func206 (by kernel_rfl) (by kernel_rfl) (by kernel_rfl) (by kernel_rfl)
 have h28:=@run_callFunc_extern Tryz.prog 228 _ ReflectliteType.typeOf Tryz.func228 (by kernel_rfl) (by kernel_rfl) (by kernel_rfl) (by kernel_rfl)
 have h66 := @run_callFunc_extern Tryz.prog 283 _ (ReflectliteType.relation "AssignableTo" ReflectliteType.assignableTo) Tryz.func283 (by kernel_rfl) (by kernel_rfl) (by kernel_rfl) (by kernel_rfl)
 have h29 := @run_callFunc_extern Tryz.prog 229 _ (ReflectliteValue.method (ReflectliteValue.valueError "reflectlite.Value.Elem" 0) ReflectliteValue.elem) Tryz.func229 (by kernel_rfl) (by kernel_rfl) (by kernel_rfl) (by kernel_rfl)
 have h30:=@run_callFunc_extern Tryz.prog 230 _ ReflectliteValue.set Tryz.func230 (by kernel_rfl) (by kernel_rfl) (by kernel_rfl) (by kernel_rfl)
 have f2:=zuo
 have f3:=Vl
 have f5:=zg1
 have f6:=zp4
 have halt:a.block<w.heap.size:=jf ha
 have htl:t.block<w.heap.size:=jf ht0
 have el:=zua a t (w.alloc (.cells #[.pointer (some ⟨1,239,none⟩),.pointer (some a),.int .u64 150] 262)) (by rw[World.cell?_alloc_lt _ _ a halt];exact ha)
 have st:=z2l t ⟨w.heap.size+1,0,none⟩ ⟨pf,0,none⟩ old ((w.alloc (.cells #[.pointer (some ⟨1,239,none⟩),.pointer (some a),.int .u64 150] 262)).alloc (.cells #[.pointer (some ⟨pf,0,none⟩)] 172))
  (by rw[World.cell?_alloc_at _ _ _ _ (by simp)];rfl)
  (by rw[World.cell?_alloc_lt _ _ t (by simp;omega),World.cell?_alloc_lt _ _ t htl];exact ht0)
  (by rw[World.frozen?_alloc_old _ _ t (by simp;omega),World.frozen?_alloc_old _ _ t (Nat.ne_of_lt htl)];exact hf0)
 go_enter Tryz.func209,Tryz.ntmps209
 go_wp2
 refine wp_loop_rounds 1 ?_
 rw[rounds_succ]
 go_wp2
 go_ret
 exact⟨rfl,rfl⟩
theorem AsF(pf:Nat)(t:Addr)(old:Value)(w:World)(hg:w.cell? ⟨0,0,none⟩=some (.iface 285 (.agg #[.pointer (some ⟨1,120,none⟩)])))(ht0:w.cell? t=some old)(hf0:w.frozen? t=false) :
  Calls Tryz.prog 175 #[.iface 172 (.pointer (some ⟨pf,0,none⟩)),.iface 239 (.pointer (some t))] w λe w'=>e=.returned (.bool true)∧
   ((((zd3 w 239 t).alloc (.cells #[.pointer (some ⟨1,239,none⟩),.pointer (some ⟨w.heap.size,0,none⟩),.int .u64 150] 262)).alloc (.cells #[.pointer (some ⟨pf,0,none⟩)] 172)).setCell t (.pointer (some ⟨pf,0,none⟩)))=w':=by
 have h23:=@run_callFunc_extern Tryz.prog 206 _ (λargs=>ReflectliteValue.unpack (args.getD 0 (.tuple #[]))) Tryz.func206 (by kernel_rfl) (by kernel_rfl) (by kernel_rfl) (by kernel_rfl)
 have h24 := @run_callFunc_extern Tryz.prog 207 _ (ReflectliteValue.methodAny (ReflectliteValue.valueError "reflectlite.Value.Type" 0) (λt _ _ _ => ReflectliteType.toType t)) Tryz.func207 (by kernel_rfl) (by kernel_rfl) (by kernel_rfl) (by kernel_rfl)
 have h25 := @run_callFunc_extern Tryz.prog 208 _ (ReflectliteValue.method (ReflectliteValue.valueError "reflectlite.Value.IsNil" 0) ReflectliteValue.isNil) Tryz.func208 (by kernel_rfl) (by kernel_rfl) (by kernel_rfl) (by kernel_rfl)
 have h56:=@run_callFunc_extern Tryz.prog 271 _ (ReflectliteType.abiMethod λt=>do pure (.int .u8 (←Rtype.kind t))) Tryz.func271 (by kernel_rfl) (by kernel_rfl) (by kernel_rfl) (by kernel_rfl)
 have h68:=@run_callFunc_extern Tryz.prog 285 _ (ReflectliteType.method ReflectliteType.elem) Tryz.func285 (by kernel_rfl) (by kernel_rfl) (by kernel_rfl) (by kernel_rfl)
 have h69 := @run_callFunc_extern Tryz.prog 286 _ (ReflectliteType.relation "Implements" ReflectliteType.implements_) Tryz.func286 (by kernel_rfl) (by kernel_rfl) (by kernel_rfl) (by kernel_rfl)
 have f6:=zpc
 have f7:=zyf
 have mK:=zk6
 have mE:=zlq
 have mI:=zbn
 have k1:=zyg
 have k2:=z0f
 have e1:=zy9
 have i1:=zij
 have n8:=zxg ⟨w.heap.size,0,none⟩ t ((w.alloc (.cells #[.pointer (some t)] 239)).alloc (.cells #[.pointer (some ⟨1,239,none⟩),.pointer (some ⟨w.heap.size,0,none⟩),.int .u64 150] 262)) (by simp)
 have hlt:=jf hg
 have htl:=jf ht0
 have hg2:((w.alloc (.cells #[.pointer (some t)] 239)).alloc (.cells #[.pointer (some ⟨1,239,none⟩),.pointer (some ⟨w.heap.size,0,none⟩),.int .u64 150] 262)).cell? ⟨0,0,none⟩=some (.iface 285 (.agg #[.pointer (some ⟨1,120,none⟩)])):=by
  rw[World.cell?_alloc_lt _ _ ⟨0,0,none⟩ (by simp<;>omega),World.cell?_alloc_lt _ _ ⟨0,0,none⟩ hlt];exact hg
 have C:=asF pf t ⟨w.heap.size,0,none⟩ old (zd3 w 239 t) (by unfold zd3;rw[World.cell?_alloc_lt _ _ _ (by simp)];simp)
  (by unfold zd3;rw[World.cell?_alloc_lt _ _ t (by simp;omega),World.cell?_alloc_lt _ _ t htl];exact ht0)
  (by unfold zd3;rw[World.frozen?_alloc_old _ _ t (by simp;omega),World.frozen?_alloc_old _ _ t (Nat.ne_of_lt htl)];exact hf0)
 have HCt:=z2w C
 clear C
 clear ht0 hf0 hg
 go_enter Tryz.func175,Tryz.ntmps175
 go_wp2_with (go_at_call 209;refine(HCt.out).mono ?_;rintro e w' ⟨rfl,rfl⟩)
 go_ret
 exact⟨rfl,rfl⟩
theorem zjv(w:World) :
  CallsD Tryz.prog 174 #[] .returning w λe u' w'=>e=.returned (.tuple #[])∧u'=.returning∧w'=w:=by
 refine callsD_of_wpS Tryz.func174 rfl λc₀ cs hu=>?_
 apply wpS_region
 cases c₀
 simp_all [wpOpsS,go_sem,recoverD,Tryz.ntmps174,bodyPostS,results,Tryz.results174]
theorem zkz(w:World) :
  Calls Tryz.prog 141 #[.nilIface] w λe w'=>e=.returned (.pointer none)∧Below w.heap.size w w':=by
 have hmf:∀(fn:Fn) (first cap:Array Value) (w:World),(Instr.makeFunc fn first cap).run Tryz.prog w=.ok (.func fn first cap) w:=λ_ _ _ _=>rfl
 go_enter_defers Tryz.func141,Tryz.ntmps141
 go_wp2_with (go_at_call 175;refine(zyj _ _).mono ?_;rintro e w' ⟨rfl,rfl⟩)
 refine leaves_cons (f:=174) (args:=#[]) (by simp) (by simp[go_sem]) ?_
 refine(zjv _).mono ?_
 rintro e u' w'' ⟨rfl,rfl,rfl⟩
 simp[Leaves,settle,results,Tryz.results141,go_sem]
 exact(Below.refl _ _).alloc (Nat.le_refl _) _
theorem zip(pf:Nat)(w:World)(hg:w.cell? ⟨0,0,none⟩=some (.iface 285 (.agg #[.pointer (some ⟨1,120,none⟩)]))) :
  Calls Tryz.prog 141 #[.iface 172 (.pointer (some ⟨pf,0,none⟩))] w λe w'=>e=.returned (.pointer (some ⟨pf,0,none⟩))∧Below w.heap.size w w':=by
 have hmf:∀(fn:Fn) (first cap:Array Value) (w:World),(Instr.makeFunc fn first cap).run Tryz.prog w=.ok (.func fn first cap) w:=λ_ _ _ _=>rfl
 have hlt:=jf hg
 have hg2:(w.alloc (.cells #[.pointer none] 172)).cell? ⟨0,0,none⟩=some (.iface 285 (.agg #[.pointer (some ⟨1,120,none⟩)])):=by
  rw[World.cell?_alloc_lt _ _ ⟨0,0,none⟩ hlt];exact hg
 have HC:=z2w (AsF pf ⟨w.heap.size,0,none⟩ (.pointer none) (w.alloc (.cells #[.pointer none] 172)) hg2 (by simp) (by simp))
 clear hg hg2
 go_enter_defers Tryz.func141,Tryz.ntmps141
 go_wp2_with (go_at_call 175;refine(HC.out).mono ?_;rintro e w' ⟨rfl,rfl⟩;unfold zd3)
 refine leaves_cons (f:=174) (args:=#[]) (by simp) (by simp[go_sem]) ?_
 refine(zjv _).mono ?_
 rintro e u' w'' ⟨rfl,rfl,rfl⟩
 simp[Leaves,settle,results,Tryz.results141,go_sem]
 exact(((((Below.refl _ _).alloc (Nat.le_refl _) _).alloc (by simp) _).alloc (by simp<;>omega) _).alloc (by simp<;>omega) _).alloc (by simp<;>omega) _
theorem Js{w:World}{o:Obj}{w1:World}(hb:Below (w.alloc o).heap.size (w.alloc o) w1) :
  (∀b i,b<(w.alloc o).heap.size→w1.cell? ⟨b,i,none⟩=(w.alloc o).cell? ⟨b,i,none⟩)∧(∀b i,b<(w.alloc o).heap.size→w1.frozen? ⟨b,i,none⟩=(w.alloc o).frozen? ⟨b,i,none⟩):=
 ⟨λb i h=>hb.cell (p:=⟨b,i,none⟩) h,λb i h=>hb.frozen (p:=⟨b,i,none⟩) h⟩
theorem zhh(w:World) :
  Calls Tryz.prog 111 #[.nilIface] w λe w'=>e=.returned (.agg #[.int .u8 0,.int .u32 0])∧Below w.heap.size w w':=by
 go_enter Tryz.func111,Tryz.ntmps111
 go_wp2_with fail
 refine(zkz _).mono ?_
 rintro e w1 ⟨rfl,hb⟩
 have c0:w1.cell? ⟨w.heap.size,0,none⟩=some (.int .u8 0):=by rw[(Js hb).1 _ _ (by simp)];simp
 have c1:w1.cell? ⟨w.heap.size,1,none⟩=some (.int .u32 0):=by rw[(Js hb).1 _ _ (by simp)];simp
 have z0:w1.frozen? ⟨w.heap.size,0,none⟩=false:=by rw[(Js hb).2 _ _ (by simp)];simp
 have z1:w1.frozen? ⟨w.heap.size,1,none⟩=false:=by rw[(Js hb).2 _ _ (by simp)];simp
 go_wp2
 refine bodyPost_ret (v:=.agg #[.int .u8 0,.int .u32 0]) (by simp[results,Tryz.results111,go_sem,c0,c1]) rfl ⟨rfl,?_⟩
 exact((((Below.refl _ _).alloc (Nat.le_refl _) _).trans (hb.mono (by simp))).setCell (by simp) _).setCell (by simp) _
theorem zvs(pf:Nat)(s c:Int)(w:World)(hs:w.cell? ⟨pf,0,none⟩=some (.int .u8 s))(hc:w.cell? ⟨pf,1,none⟩=some (.int .u32 c))
  (hg:w.cell? ⟨0,0,none⟩=some (.iface 285 (.agg #[.pointer (some ⟨1,120,none⟩)]))) :
  Calls Tryz.prog 111 #[.iface 172 (.pointer (some ⟨pf,0,none⟩))] w λe w'=>e=.returned (.agg #[.int .u8 s,.int .u32 c])∧Below w.heap.size w w':=by
 have hlt:=jf hg
 have hpl:pf<w.heap.size:=jf hs
 have C:=zip pf (w.alloc (.cells #[.int .u8 0,.int .u32 0] 29)) (by rw[World.cell?_alloc_lt _ _ ⟨0,0,none⟩ hlt];exact hg)
 have HC:=z2w C
 clear C hg
 go_enter Tryz.func111,Tryz.ntmps111
 go_wp2_with fail
 refine(HC.out).mono ?_
 rintro e w1 ⟨rfl,hb⟩
 have c0:w1.cell? ⟨w.heap.size,0,none⟩=some (.int .u8 0):=by rw[(Js hb).1 _ _ (by simp)];simp
 have c1:w1.cell? ⟨w.heap.size,1,none⟩=some (.int .u32 0):=by rw[(Js hb).1 _ _ (by simp)];simp
 have z0:w1.frozen? ⟨w.heap.size,0,none⟩=false:=by rw[(Js hb).2 _ _ (by simp)];simp
 have z1:w1.frozen? ⟨w.heap.size,1,none⟩=false:=by rw[(Js hb).2 _ _ (by simp)];simp
 have d0:w1.cell? ⟨pf,0,none⟩=some (.int .u8 s):=by rw[(Js hb).1 _ _ (by simp;omega),World.cell?_alloc_lt _ _ ⟨pf,0,none⟩ hpl];exact hs
 have d1:w1.cell? ⟨pf,1,none⟩=some (.int .u32 c):=by rw[(Js hb).1 _ _ (by simp;omega),World.cell?_alloc_lt _ _ ⟨pf,1,none⟩ hpl];exact hc
 clear hs hc
 go_wp2
 refine bodyPost_ret (v:=.agg #[.int .u8 s,.int .u32 c]) (by simp[results,Tryz.results111,go_sem,c0,c1]) rfl ⟨rfl,?_⟩
 exact((((Below.refl _ _).alloc (Nat.le_refl _) _).trans (hb.mono (by simp))).setCell (by simp) _).setCell (by simp) _
def Err(s c:Int)(w:World)(e:Ending)(w':World):Prop:=∃g,e=.returned (.iface 172 (.pointer (some ⟨g,0,none⟩)))∧Row w' g 174 #[.int .u8 s,.int .u32 c]∧Below w.heap.size w w'
theorem qw(c:Int)(w:World):Calls Tryz.prog 102 #[.int .u32 c] w (Err 1 c w):=by
 have hn:=zgg 1 c (by omega)
 go_enter Tryz.func102,Tryz.ntmps102
 go_wp2_with fail
 refine(hn _).mono ?_
 rintro e w1 ⟨rfl,rfl⟩
 go_wp2_with fail
 go_ret
 exact⟨_,rfl,Row.made _ _ _ (by simp),(((Below.refl _ _).alloc (Nat.le_refl _) _).alloc (by simp) _).alloc (by simp<;>omega) _⟩
theorem Q9(c:Int)(w:World):Calls Tryz.prog 218 #[.int .u32 c] w (Err 2 c w):=by
 have hn:=zgg 2 c (by omega)
 go_enter Tryz.func218,Tryz.ntmps218
 go_wp2_with fail
 refine(hn _).mono ?_
 rintro e w1 ⟨rfl,rfl⟩
 go_wp2_with fail
 go_ret
 exact⟨_,rfl,Row.made _ _ _ (by simp),(((Below.refl _ _).alloc (Nat.le_refl _) _).alloc (by simp) _).alloc (by simp<;>omega) _⟩
def GlobE(w:World):Prop:=w.cell? ⟨0,0,none⟩=some (.iface 285 (.agg #[.pointer (some ⟨1,120,none⟩)]))
theorem GlobE.below{w w':World}(h:GlobE w)(hb:Below w.heap.size w w'):GlobE w':=(hb.cell (p:=⟨0,0,none⟩) (jf h)).trans h
theorem GlobE.alloc{w:World}(h:GlobE w)(o:Obj):GlobE (w.alloc o):=h.below ((Below.refl _ _).alloc (Nat.le_refl _) _)
theorem Xq{g:Nat}{s c:Int}{w:World}(hR:Row w g 174 #[.int .u8 s,.int .u32 c])(hG:GlobE w):Calls Tryz.prog 111 #[.iface 172 (.pointer (some ⟨g,0,none⟩))] w λe w'=>e=.returned (.agg #[.int .u8 s,.int .u32 c])∧Below w.heap.size w w':=
 zvs g s c w (hR.cell rfl) (hR.cell rfl) hG
end
section
structure AgOk(P:Program)(T:TypeId)(cs:Array Value):Prop where
 u:∃fs,P.underlying T=some (.struct fs)
 s:(P.info? T).map (·.size)=some cs.size
 o:cs.all (·.oneCell')=true
section
variable {P:Program}{w:World}{g:Nat}{T:TypeId}{cs old:Array Value}
theorem Q3(hk:AgOk P T cs)(h:Row w g T cs):(loadVar T ⟨g,0,none⟩).run P w=.ok (.agg cs) w:=by
 obtain⟨d,h1⟩:=hk.u
 exact run_loadVar_row w g T T cs (0,0) _ h h1 rfl hk.s
theorem zj{ops:Array Oper}{rest:List Oper}{o:Oper}{a:Act}{Q:Exit→Act→World→Prop}(hgd:o.guard=none)(y:Operand)(ho:o.op=.load T y)(hy:a.eval y=.pointer (some ⟨g,0,none⟩))(h:Row w g T cs)(hk:AgOk P T cs)
  (hq:wpList P ops Q rest (a.put o.dst (.agg cs)) w):wpList P ops Q (o :: rest) a w:=by
 obtain⟨d,h1⟩:=hk.u
 exact wpList_load_row hgd T y ho g hy T cs (0,0) _ h h1 rfl hk.s hq
theorem xn{ops:Array Oper}{rest:List Oper}{o:Oper}{a:Act}{Q:Exit→Act→World→Prop}(hgd:o.guard=none)(y:Operand)(ho:o.op=.load T y){b q:Nat}(hy:a.eval y=.pointer (some ⟨b,q,none⟩))(h:w.rangeAt b q cs.toList)(hk:AgOk P T cs)
  (hq:wpList P ops Q rest (a.put o.dst (.agg cs)) w):wpList P ops Q (o :: rest) a w:=by
 obtain⟨d,h1⟩:=hk.u
 refine wpList_load_mid hgd T y ho b q hy cs.toList _ h h1 rfl (by rw[hk.s];simp) (by simpa using hq)
theorem ze{ops:Array Oper}{rest:List Oper}{o:Oper}{a:Act}{Q:Exit→Act→World→Prop}(hgd:o.guard=none)(p q:Operand)(ho:o.op=.store T p q)(hp:a.eval p=.pointer (some ⟨g,0,none⟩))(hv:a.eval q=.agg cs)(h:Row w g T old)(hs:old.size=cs.size)(hk:AgOk P T cs)
  (hq:wpList P ops Q rest (a.put o.dst undef) (w.setRow g cs)):wpList P ops Q (o :: rest) a w:=
 wpList_store_row hgd T p q ho g cs hp hv T old h hk.s hs hk.o hq
theorem qq{ops:Array Oper}{o:Oper}{a:Act}{K:Act→World→Prop}{Q:Exit→Act→World→Prop}{E:Prop}(hgd:o.guard=none)(p q:Operand)(ho:o.op=.store T p q)(hp:a.eval p=.pointer (some ⟨g,0,none⟩))(hv:a.eval q=.agg cs)(h:Row w g T old)(hs:old.size=cs.size)(hk:AgOk P T cs)
  (hq:K (a.put o.dst undef) (w.setRow g cs)):if Region.wanted o (yielded ops a.tmps)=true then Oper.wp P o a w K Q else E:=by
 have hw:Region.wanted o (yielded ops a.tmps)=true:=by simp[Region.wanted,hgd]
 rw[if_pos hw]
 exact wp_store_row T p q ho g cs hp hv T old h hk.s hs hk.o hq
theorem Q0{ops:Array Oper}{S:World→Prop}{o:Oper}{a:Act}(hw:Region.wanted o (yielded ops a.tmps)=true)(y:Operand)(ho:o.op=.load T y)(hy:a.eval y=.pointer (some ⟨g,0,none⟩))(hk:AgOk P T cs)(hS:∀w,S w→Row w g T cs):YieldsIf P ops S o (.agg cs) a:=
 .inl ⟨hw,λw hw'=>by
  unfold execOp
  simp only[ho,hy,Instr.loadAt,Instr.sureAddr,Sem.run_bind,Sem.run_pure,Result.andThen_ok,Q3 hk (hS w hw')]⟩
theorem zcw{ops:Array Oper}{S:World→Prop}{o:Oper}{a:Act}(hw:Region.wanted o (yielded ops a.tmps)=true)(y:Operand)(ho:o.op=.load T y){b q:Nat}(hy:a.eval y=.pointer (some ⟨b,q,none⟩))(hk:AgOk P T cs)(hS:∀w,S w→w.rangeAt b q cs.toList):YieldsIf P ops S o (.agg cs) a:=by
 obtain⟨d,h1⟩:=hk.u
 have:=yieldsIf_load_mid (P:=P) hw T y ho b q hy cs.toList _ hS h1 rfl (by rw[hk.s];simp)
 simpa using this
theorem qn{fn:Func}{p:Tmp}(h:fn.results=#[.cell p T])(tmps:Array Value)(hp:tmps.getD p undef=.pointer (some ⟨g,0,none⟩))(hR:Row w g T cs)(hk:AgOk P T cs):(results fn tmps).run P w=.ok (.agg cs) w:=by
 have hl:=Q3 hk hR
 have hp':tmps[p]?.getD undef=.pointer (some ⟨g,0,none⟩):=by simpa using hp
 simp only[results,h]
 simp[hp',asAddr,hl]
theorem Yl{fn:Func}{p q:Tmp}{g':Nat}{T':TypeId}{cs':Array Value}(h:fn.results=#[.cell p T,.cell q T'])(tmps:Array Value)(hp:tmps.getD p undef=.pointer (some ⟨g,0,none⟩))(hR:Row w g T cs)(hk:AgOk P T cs)
  (hq:tmps.getD q undef=.pointer (some ⟨g',0,none⟩)) (hR':Row w g' T' cs') (hk':AgOk P T' cs'):(results fn tmps).run P w=.ok (.tuple #[.agg cs,.agg cs']) w:=by
 have hl:=Q3 hk hR
 have hl':=Q3 hk' hR'
 have hp':tmps[p]?.getD undef=.pointer (some ⟨g,0,none⟩):=by simpa using hp
 have hq':tmps[q]?.getD undef=.pointer (some ⟨g',0,none⟩):=by simpa using hq
 simp only[results,h]
 simp[hp',hq',asAddr,hl,hl']
theorem zag{fn:Func}{p q:Tmp}{v:Value}(h:fn.results=#[.cell p T,.tmp q])(tmps:Array Value)(hp:tmps.getD p undef=.pointer (some ⟨g,0,none⟩))(hR:Row w g T cs)(hk:AgOk P T cs)(hq:tmps.getD q undef=v) :
  (results fn tmps).run P w=.ok (.tuple #[.agg cs,v]) w:=by
 have hl:=Q3 hk hR
 have hp':tmps[p]?.getD undef=.pointer (some ⟨g,0,none⟩):=by simpa using hp
 have hq':tmps[q]?.getD undef=v:=by simpa using hq
 simp only[results,h]
 simp[hp',hq',asAddr,hl]
end
theorem Row.range{w:World}{g:Nat}{T:TypeId}{cs:Array Value}(h:Row w g T cs)(o:Nat)(l:List Value)(hl:∀(j:Nat) (v:Value),l[j]?=some v→cs[o+j]?=some v):w.rangeAt g o l:=λj v hv=>h.cell (hl j v hv)
end
section
section
variable {P:Program}
theorem Ji(w:World)(base:Nat)(t e:TypeId)(i:TypeInfo)(k:Nat)(ht:P.underlying t=some (.slice e))(hi:P.info? e=some i)(hsize:i.size=k)
  {A:Option Addr} {n c:Nat} {cs:List Value} (hown:OwS w base e k (.slice A n c) n cs) (m:Nat) (hmn:m≤n) :
  ∃A',(∀W,(Instr.slice t (.slice A n c) (some (.int .i64 (m:Int))) none none).run P W=.ok (.slice A' (n-m) (c-m)) W)∧
   OwS w base e k (.slice A' (n-m) (c-m)) (n-m) (cs.drop (m*k))∧(Value.slice A' (n-m) (c-m)).ownBlock=(Value.slice A n c).ownBlock:=by
 subst hsize
 have ht':P.underlying t=some (.slice (P.elem t)):=by simp[Program.elem,ht]
 have he:P.elem t=e:=by simp[Program.elem,ht]
 obtain⟨_,_,e0,hnc,_⟩:=hown.shape
 injection e0 with _ _ e0
 subst e0
 have hfrom:∀W,(Instr.slice t (.slice A n c) (some (.int .i64 (m:Int))) none none).run P W=.ok (.slice (if c=m then A else A.map (·.add (m*i.size))) (n-m) (c-m)) W:=λW=>by
  rw[run_slice_l W t A n c ht' .i64 m (by omega) (by omega),he]
  simp[sizeOf,typeInfo,hi,sliced,Result.andThen]
 rcases hown.2 with ⟨e1,rfl⟩|⟨g,o,c',cur,e1,hbg,hg,_,hcm,hfit,htake⟩
 ·injection e1 with e1 e2 e3
  subst e1 e3
  obtain rfl:m=0:=by omega
  have hx:cs=[]:=List.eq_nil_of_length_eq_zero (by simpa using hown.1)
  subst hx
  refine⟨none,λW=>?_,by simpa using OwS.nil,rfl⟩
  rw[hfrom];simp
 ·injection e1 with e1 e2 e3
  subst e1 e3
  have hle:m*i.size≤n*i.size:=Nat.mul_le_mul_right _ hmn
  have hle2:n*i.size≤c*i.size:=Nat.mul_le_mul_right _ hnc
  have hblk:(Value.slice (if c=m then some ⟨g,o,none⟩ else (some (⟨g,o,none⟩:Addr)).map (·.add (m*i.size))) (n-m) (c-m)).ownBlock=some g:=by
   split<;>simp[Value.ownBlock,add_plain]
  refine⟨_,hfrom,?_,hblk⟩
  have hm1:(c-m)*i.size=c*i.size-m*i.size:=Nat.sub_mul ..
  have hm2:(n-m)*i.size=n*i.size-m*i.size:=Nat.sub_mul ..
  refine⟨by rw[List.length_drop,hown.1,hm2],?_⟩
  by_cases hcm':c=m
  ·subst hcm'
   obtain rfl:n=c:=by omega
   rw[if_pos rfl]
   refine .inr ⟨g,o,n-n,cur,rfl,hbg,hg,by omega,by omega,by rw[hm1];omega,?_⟩
   rw[Nat.sub_self,Nat.zero_mul,List.take_zero,List.drop_of_length_le (by rw[hown.1];omega)]
  ·rw[if_neg hcm']
   refine .inr ⟨g,o+m*i.size,c-m,cur,by rw[Option.map_some,add_plain],hbg,hg,by omega,by omega,by rw[hm1];omega,?_⟩
   rw[←htake,List.drop_take,List.drop_drop,hm2]
end
theorem RdS.elem{α:Type}{enc:α→List Value}{k:Nat}(hk:∀x,(enc x).length=k){w:World}{S:Nat→Prop}{A:Option Addr}{L:List α}(h:RdS w S A (enl enc L)){i:Nat}(hi:i<L.length)(hk0:0<k) :
  ∃b q,A=some ⟨b,q,none⟩∧S b∧w.rangeAt b (q+i*k) (enc L[i]):=by
 have hne:enl enc L≠[]:=by
  intro e
  have h1:=yi hk L
  have h2:0<L.length*k:=Nat.mul_pos (by omega) hk0
  rw[e] at h1
  simp only[List.length_nil] at h1
  omega
 obtain⟨b,q,hA,hb,hc⟩:=h hne
 refine⟨b,q,hA,hb,λj u hj=>?_⟩
 have hjk:j<k:=by have:=(List.getElem?_eq_some_iff.1 hj).1;rwa [hk] at this
 rw[Nat.add_assoc]
 exact hc (i*k+j) u (by rw[Q7 hk hi hjk];exact hj)
theorem zk0{P:Program}{T E:TypeId}{cs:Array Value}(hrun:∀w,(Instr.buildSlice T 1 #[(0,.agg cs)]).run P w=.ok (.slice (some ⟨w.heap.size,0,none⟩) 1 1) (w.alloc (.cells cs E))){ops:Array Oper}{rest:List Oper}{o:Oper}{a:Act}{w:World}{Q:Exit→Act→World→Prop}(hg:o.guard=none)(y:Operand)(ho:o.op=.buildSlice T 1 #[(0,y)])(hy:a.eval y=.agg cs)
  (h:wpList P ops Q rest (a.put o.dst (.slice (some ⟨w.heap.size,0,none⟩) 1 1)) (w.alloc (.cells cs E))):wpList P ops Q (o :: rest) a w:=by
 refine wpList_plain hg λK' hK'=>?_
 unfold Oper.wp execOp
 simp only[ho,Sem.run_bind,List.map_toArray,List.map_cons,List.map_nil,hy,hrun,Result.andThen_ok]
 exact hK' _ _ h
theorem zgw{P:Program}{T E:TypeId}{cs:Array Value}(hrun:∀w,(Instr.buildSlice T 1 #[(0,.agg cs)]).run P w=.ok (.slice (some ⟨w.heap.size,0,none⟩) 1 1) (w.alloc (.cells cs E))){ops:Array Oper}{o:Oper}{a:Act}{w:World}{K:Act→World→Prop}{Q:Exit→Act→World→Prop}{F:Prop}(hgd:o.guard=none)(y:Operand)(ho:o.op=.buildSlice T 1 #[(0,y)])(hy:a.eval y=.agg cs)
  (h:K (a.put o.dst (.slice (some ⟨w.heap.size,0,none⟩) 1 1)) (w.alloc (.cells cs E))):if Region.wanted o (yielded ops a.tmps)=true then Oper.wp P o a w K Q else F:=by
 have hw:Region.wanted o (yielded ops a.tmps)=true:=by simp[Region.wanted,hgd]
 rw[if_pos hw]
 unfold Oper.wp execOp
 simp only[ho,Sem.run_bind,List.map_toArray,List.map_cons,List.map_nil,hy,hrun,Result.andThen_ok]
 exact h
theorem zsf{P:Program}{T E:TypeId}{n:Nat}{parts:Array (Nat × Operand)}{vs:Array (Nat × Value)}{cs:Array Value}(hrun:∀w,(Instr.buildSlice T n vs).run P w=.ok (.slice (some ⟨w.heap.size,0,none⟩) n n) (w.alloc (.cells cs E))){ops:Array Oper}{o:Oper}{a:Act}{w:World}{K:Act→World→Prop}{Q:Exit→Act→World→Prop}{F:Prop}(hgd:o.guard=none)(ho:o.op=.buildSlice T n parts)(hv:(parts.map λ(i,x)=>(i,a.eval x))=vs)
  (h:K (a.put o.dst (.slice (some ⟨w.heap.size,0,none⟩) n n)) (w.alloc (.cells cs E))):if Region.wanted o (yielded ops a.tmps)=true then Oper.wp P o a w K Q else F:=by
 have hw:Region.wanted o (yielded ops a.tmps)=true:=by simp[Region.wanted,hgd]
 rw[if_pos hw]
 unfold Oper.wp execOp
 simp only[ho,Sem.run_bind]
 rw[hv,hrun]
 simp only[Result.andThen_ok]
 exact h
end
section
section
variable {P:Program}{α:Type}{enc:α→List Value}{k:Nat}
theorem zqu(hk:∀x,(enc x).length=k)(L:List α)(n:Nat):(enl enc L).take (n*k)=enl enc (L.take n):=by
 by_cases hn:n≤L.length
 ·have e:enl enc L=enl enc (L.take n)++enl enc (L.drop n):=by rw[←jq,List.take_append_drop]
  have hl:(enl enc (L.take n)).length=n*k:=by rw[yi hk,List.length_take,Nat.min_eq_left hn]
  rw[e,←hl,List.take_left]
 ·rw[List.take_of_length_le,List.take_of_length_le (by omega)]
  rw[yi hk]
  exact Nat.mul_le_mul_right _ (by omega)
theorem zxv(hk:∀x,(enc x).length=k)(hk0:0<k){L:List α}(h:0<L.length):enl enc L≠[]:=λe=>by
 have h1:=yi hk L
 rw[e] at h1
 have:=Nat.mul_pos h hk0
 simp at h1
 omega
def zqa(cs:Array Value):Nat→List Value→Array Value
 |_,[]=>cs
 |o,v :: r=>zqa (cs.setIfInBounds o v) (o+1) r
theorem ze6{g:Nat}{t:TypeId}:∀(vs:List Value) (o:Nat) (w:World) (cs:Array Value),Row w g t cs→Row (w.setCells g o vs) g t (zqa cs o vs)
 |[],_,_,_,h=>h
 |v :: r,o,_,_,h=>ze6 r (o+1) _ _ (h.stored o v)
theorem zqb{S:Nat→Prop}{w w':World}(h:Fs S w w'){g:Nat}(hg:g<w.heap.size→S g):∀(x:List Value) (o:Nat),Fs S w (w'.setCells g o x):=by
 intro x
 induction x generalizing w' with
 |nil=>intro o;exact h
 |cons v r ih=>intro o;rw[World.setCells];exact ih (h.setCell hg o v) _
end
end
end Go.Proofs.YtooaajnkiokpnaaGreatDoor
