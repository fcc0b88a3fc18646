/-
  Part of a proof: The table in memory: its own block and its slice's; what a step on it leaves alone. No conditions but those that each theorem names. Conditions: those that each theorem names.
-/
import Derived.Test.YtooaajnkiokpnaaGreatDoorProg
import Derived.Test.YtooaajnkiokpnaaGreatDoorQ01
import Derived.Test.YtooaajnkiokpnaaGreatDoorQ02
import Derived.StillTailTactics
import Derived.Test.YtooaajnkiokpnaaGreatDoorQ14
import Derived.Test.YtooaajnkiokpnaaGreatDoorQ04
import Derived.Test.YtooaajnkiokpnaaGreatDoorQ11
namespace Go.Proofs.YtooaajnkiokpnaaGreatDoor
open Go.RowKit Go.WideShapes
set_option maxHeartbeats 2000000
set_option maxRecDepth 100000
section
def jv:Array Value:=(j3.map λn:Nat=>Value.int .i64 (n:Int)).toArray
def zfy:Array Value:=(List.replicate 257 (Value.int .i64 0)).toArray
theorem Qv:(Tryz.prog.info? 297).map (λi=>(i.zero,i.size))=some (some (.agg zfy),257):=by kernel_rfl
theorem X5:jv.size=257:=by kernel_rfl
theorem zbc:jv.all (·.oneCell')=true:=by kernel_rfl
theorem zat(w:World):Calls Tryz.prog 231 #[] w λe w'=>e=.returned (.agg jv)∧Below w.heap.size w w':=by
 obtain⟨hz,hsz⟩:=zero_of_info Qv
 have hsz':(Tryz.prog.info? 297).map (·.size)=some jv.size:=by rw[X5];exact hsz
 go_enter Tryz.func231,Tryz.ntmps231
 go_wp2_with (first
  |(refine zn rfl 297 _ rfl jv (by kernel_rfl) ?_)
  |(refine wpList_store_row rfl 297 (.tmp 0) (.tmp 1) rfl w.heap.size jv rfl rfl 297 zfy (heap_alloc_last w _) hsz' (by kernel_rfl) zbc ?_))
 refine bodyPost_ret (v:=.agg jv) (results_cell_row rfl _ _ w.heap.size 297 jv (0,0) _ rfl ((Row.new w _ _).setRow _) Tryz.underlying297 rfl hsz') rfl ⟨rfl,zd ((Below.refl _ _).alloc (Nat.le_refl _) _) _ _ (Nat.le_refl _)⟩
end
section
def zx(f:Nat→Nat):Array Value:=Ze 31 λj=>.int .u32 (f j:Int)
theorem Y7:(Tryz.prog.info? 316).map (λi=>(i.zero,i.size))=some (some (.agg (zx λ_=>0)),31):=by kernel_rfl
theorem Y8:(Tryz.prog.info? 3).map (λi=>(i.zero,i.size,i.bytes))=some (some (.int .i64 0),1,8):=by kernel_rfl
theorem Qz(f:Nat→Nat):(zx f).size=31:=Zm _ _
theorem zhc(f:Nat→Nat):(zx f).all (·.oneCell')=true:=zgk λ_ _=>rfl
theorem Yo(f:Nat→Nat){j:Nat}(h:j<31):(zx f)[j]?=some (.int .u32 (f j:Int)):=yh _ h
theorem zbb(f:Nat→Nat)(i v:Nat):(zx f).setIfInBounds i (.int .u32 (v:Int))=zx λj=>if j=i then v else f j:=by
 unfold zx
 rw[za8]
 apply Yw
 intro j _
 by_cases e:j=i<;>simp[e]
theorem Z4{f g:Nat→Nat}(h:∀j,j<31→f j=g j):zx f=zx g:=Yw λj hj=>by rw[h j hj]
theorem zj8{k:Nat}(h:k<257):jv[k]?=some (.int .i64 (ln k:Int)):=by
 unfold jv
 simp[zjr h]
theorem zeg{k:Nat}(h:k<257)(W:World):(Instr.index 297 (.agg jv) (.int .i64 (k:Int))).run Tryz.prog W=.ok (.int .i64 (ln k:Int)) W:=by
 cases hi:Tryz.prog.info? 3 with
 |none=>have:=Y8;rw[hi] at this;simp at this
 |some i=>
  have hs:i.size=1:=by have:=Y8;rw[hi] at this;simp at this;exact this.2.1
  exact zfj Tryz.underlying297 i hi hs _ Tryz.underlying3 rfl .i64 k h (zj8 h) W
theorem zmd(w:World):Calls Tryz.prog 248 #[.agg jv] w λe w'=>e=.returned (.agg (zx fst))∧Below w.heap.size w w':=by
 obtain⟨hz,hsz⟩:=zero_of_info Y7
 have hsz':(Tryz.prog.info? 297).map (·.size)=some jv.size:=by rw[X5];exact(zero_of_info Qv).2
 go_enter Tryz.func248,Tryz.ntmps248
 go_wp2_with (first
  |(refine wpList_load_row rfl 297 (.tmp 1) rfl w.heap.size rfl 297 jv (0,0) _ ((((Row.new w _ _).alloc _).alloc _).alloc _) Tryz.underlying297 rfl hsz' ?_))
 have R4:Row ((((w.alloc (.cells jv 297)).alloc (.cells (zx λ_=>0) 316)).alloc (.cells (zx λ_=>0) 316)).alloc (.cells (zx λ_=>0) 316)) (w.heap.size+1+1+1) 316 (zx λn=>(j3.take 0).count n):=by
  simp only[List.take_zero,List.count_nil]
  exact Row.made _ 316 (zx λ_=>0) (by simp)
 have R3:Row ((((w.alloc (.cells jv 297)).alloc (.cells (zx λ_=>0) 316)).alloc (.cells (zx λ_=>0) 316)).alloc (.cells (zx λ_=>0) 316)) (w.heap.size+1+1) 316 (zx λ_=>0):=
  (Row.made _ 316 (zx λ_=>0) (by simp)).alloc _
 have R2:Row ((((w.alloc (.cells jv 297)).alloc (.cells (zx λ_=>0) 316)).alloc (.cells (zx λ_=>0) 316)).alloc (.cells (zx λ_=>0) 316)) (w.heap.size+1) 316 (zx λ_=>0):=
  ((Row.made _ 316 (zx λ_=>0) (by simp)).alloc _).alloc _
 have HB:Below w.heap.size w ((((w.alloc (.cells jv 297)).alloc (.cells (zx λ_=>0) 316)).alloc (.cells (zx λ_=>0) 316)).alloc (.cells (zx λ_=>0) 316)):=
  ((((Below.refl _ _).alloc (Nat.le_refl _) _).alloc (by simp) _).alloc (by simp;omega) _).alloc (by simp;omega) _
 go_loopw [9] (λi wr=>∃k:Nat,k≤257∧i=.int .i64 k∧Row wr (w.heap.size+1+1+1) 316 (zx λn=>(j3.take k).count n)∧Row wr (w.heap.size+1+1) 316 (zx λ_=>0)∧Row wr (w.heap.size+1) 316 (zx λ_=>0)∧Below w.heap.size w wr)
  (λi _=>257-(intOf i).toNat)
 case atStart=>exact⟨0,by omega,rfl,R4,R3,R2,HB⟩
 case round=>
  obtain⟨k,hk,rfl,R4,R3,R2,HB⟩:=hrel
  by_cases hlt:k<257
  ·have hidx:=zeg hlt
   have hb:=J1 k hlt
   have hnext:=za6 hlt
   have hcl:=zod k (ln k)
   generalize ln k=n at hidx hb hnext hcl
   obtain⟨c,hc⟩:∃c,c=(j3.take k).count n:=⟨_,rfl⟩
   rw[←hc] at hcl
   have hcell:wr.cell? ⟨w.heap.size+1+1+1,n,none⟩=some (.int .u32 (c:Int)):=by rw[R4.cell (Yo _ (show n<31 by omega)),hc]
   have hfr:wr.frozen? ⟨w.heap.size+1+1+1,n,none⟩=false:=R4.thawed n
   obtain⟨hb5,hb30⟩:=hb
   have HN:=z2w hnext
   have HC:=z2w hc
   clear hnext hc
   have HR4:=z2w R4
   have HR3:=z2w R3
   have HR2:=z2w R2
   have HBB:=z2w HB
   clear R4 R3 R2 HB
   go_wp2_with fail
   go_roundw
   case rel=>
    refine⟨k+1,by omega,by go_num,?_,HR3.out.stored' (by simp) _,HR2.out.stored' (by simp) _,HBB.out.setCell (by simp;omega) _⟩
    have:=HR4.out.stored n (.int .u32 ((c+1:Nat):Int))
    rw[zbb] at this
    have e:zx (λj=>if j=n then c+1 else (j3.take k).count j)=zx λn=>(j3.take (k+1)).count n:=Z4 λj _=>by
     rw[HN.out j]
     by_cases e:j=n
     ·subst e;rw[if_pos rfl,if_pos rfl,HC.out]
     ·rw[if_neg e,if_neg e];rfl
    rw[e] at this
    exact this
   case measure=>simp[intOf];omega
  ·obtain rfl:k=257:=by omega
   have HR4:Row wr (w.heap.size+1+1+1) 316 (zx λn=>j3.count n):=by
    have:=R4
    simp only[zwp] at this
    exact this
   clear R4
   go_wp2_with fail
   have R3':Row wr (w.heap.size+1+1) 316 (zx λj=>if j≤0 then fst j else 0):=by
    have e:(zx λj=>if j≤0 then fst j else 0)=zx λ_=>0:=Z4 λj _=>by
     by_cases e:j=0
     ·subst e;rfl
     ·rw[if_neg (by omega)]
    rw[e]
    exact R3
   go_loopw [18] (λi wx=>∃n:Nat,n≤30∧i=.int .i64 n∧Row wx (w.heap.size+1+1+1) 316 (zx λn=>j3.count n)∧Row wx (w.heap.size+1+1) 316 (zx λj=>if j≤n then fst j else 0)∧Row wx (w.heap.size+1) 316 (zx λ_=>0)∧Below w.heap.size w wx)
    (λi _=>30-(intOf i).toNat)
   case atStart=>exact⟨0,by omega,rfl,HR4,R3',R2,HB⟩
   case round=>
    clear R3 R3' R2 HB HR4
    obtain⟨n,hn,rfl,R4,R3,R2,HB⟩:=hrel
    by_cases hlt:n<30
    ·have hx:=zwz n hlt
     obtain⟨x,hxe⟩:∃x,x=fst n:=⟨_,rfl⟩
     obtain⟨y,hye⟩:∃y,y=j3.count n:=⟨_,rfl⟩
     rw[←hxe,←hye] at hx
     have hc1:wr.cell? ⟨w.heap.size+1+1,n,none⟩=some (.int .u32 (x:Int)):=by rw[R3.cell (Yo _ (show n<31 by omega)),if_pos (Nat.le_refl _),hxe]
     have hc2:wr.cell? ⟨w.heap.size+1+1+1,n,none⟩=some (.int .u32 (y:Int)):=by rw[R4.cell (Yo _ (show n<31 by omega)),hye]
     have hc3:wr.cell? ⟨w.heap.size+1+1,n+1,none⟩=some (.int .u32 ((0:Nat):Int)):=by rw[R3.cell (Yo _ (show n+1<31 by omega)),if_neg (by omega)]
     have hfr:=R3.thawed (n+1)
     have hs1:IntKind.i64.wrap ((n:Int)+1)=(n:Int)+1:=IntWalk.i64_in _ (by omega)
     have hs2:((n:Int)+1).toNat=n+1:=by omega
     have hs3:0≤(n:Int)+1:=by omega
     have hs4:(n:Int)+1<31:=by omega
     have hs5:(n:Int)<31:=by omega
     have hs6:n<31:=by omega
     obtain⟨z,hze⟩:∃z,z=fst (n+1):=⟨_,rfl⟩
     have hs7:Hid (((x:Int)+y)*2=(z:Int)):=by
      have:z=(x+y)*2:=by rw[hze,hxe,hye];rfl
      show _=_
      omega
     have HZ:=z2w hze
     clear hze
     have HX:=z2w hxe
     have HY:=z2w hye
     clear hxe hye
     have HR4:=z2w R4
     have HR3:=z2w R3
     have HR2:=z2w R2
     have HBB:=z2w HB
     clear R4 R3 R2 HB
     go_wp2_with fail
     go_still_tail 11,(by kernel_rfl)
     change wpList _ _ _ _ _ wr.drew
     have hfr2:wr.drew.frozen? ⟨w.heap.size+1+1,n+1,none⟩=false:=hfr
     have hc4:wr.drew.cell? ⟨w.heap.size+1+1,n+1,none⟩=some (.int .u32 ((0:Nat):Int)):=hc3
     go_wp2_with fail
     go_roundw
     case rel=>
      refine⟨n+1,by omega,by go_num,?_,?_,?_,?_⟩
      ·exact Row.stored' (w:=wr.drew) HR4.out (by simp) _
      ·have:=Row.stored (w:=wr.drew) HR3.out (n+1) (.int .u32 (z:Int))
       rw[zbb] at this
       have e:zx (λj=>if j=n+1 then z else if j≤n then fst j else 0)=zx λj=>if j≤n+1 then fst j else 0:=Z4 λj _=>by
        by_cases e:j=n+1
        ·subst e;rw[if_pos rfl,if_pos (Nat.le_refl _),HZ.out]
        ·rw[if_neg e]
         by_cases e2:j≤n
         ·rw[if_pos e2,if_pos (by omega)]
         ·rw[if_neg e2,if_neg (by omega)]
       rw[e] at this
       rw[hs7.out]
       exact this
      ·exact Row.stored' (w:=wr.drew) HR2.out (by simp) _
      ·exact(HBB.out.drew).setCell (by simp;omega) _
     case measure=>simp[intOf];omega
    ·obtain rfl:n=30:=by omega
     have e:zx (λj=>if j≤30 then fst j else 0)=zx fst:=Z4 λj hj=>by rw[if_pos (by omega)]
     rw[e] at R3
     have HR3:=z2w R3
     have HR2:=z2w R2
     have HBB:=z2w HB
     have HSZ:Hid ((Tryz.prog.info? 316).map (·.size)=some (zx fst).size):=by show _=_;rw[Qz];exact hsz
     clear R4 R3 R2 HB e
     go_wp2_with (first
      |(refine wpList_load_row rfl 316 (.tmp 3) rfl (w.heap.size+1+1) rfl 316 (zx fst) (0,0) _ HR3.out Tryz.underlying316 rfl HSZ.out ?_)
      |(refine wpList_store_row rfl 316 (.tmp 2) (.tmp 33) rfl (w.heap.size+1) (zx fst) rfl rfl 316 _ HR2.out HSZ.out (by rw[Qz,Qz]) (zhc _) ?_))
     refine bodyPost_ret (v:=.agg (zx fst)) (results_cell_row rfl _ _ (w.heap.size+1) 316 (zx fst) (0,0) _ rfl (HR2.out.setRow _) Tryz.underlying316 rfl HSZ.out) rfl ⟨rfl,zd HBB.out _ _ (by omega)⟩
end
section
def fdc(f:Fd):List Value:=[tx f.nm,tx f.vl,.bool f.nv]
def fv(f:Fd):Value:=.agg #[tx f.nm,tx f.vl,.bool f.nv]
theorem J7(f:Fd):(fdc f).length=3:=rfl
theorem zj1(f:Fd):∀u∈fdc f,u.oneCell'=true:=by
 intro u hu
 simp only[fdc,List.mem_cons,List.not_mem_nil,or_false] at hu
 rcases hu with rfl|rfl|rfl<;>rfl
theorem zj2(l:List UInt8):(ByteArray.mk l.toArray).size=l.length:=by simp[ByteArray.size]
theorem zbj(f:Fd)(hf:sz f≤2147483648)(w:World):Calls Tryz.prog 182 #[fv f] w λe w'=>e=.returned (.int .i64 (sz f:Int))∧Below w.heap.size w w':=by
 have hs:Hid ((f.nm.length:Int)+f.vl.length+32=(sz f:Int)):=by show _=_;unfold sz;omega
 have h1:f.nm.length≤2147483648:=by unfold sz at hf;omega
 have h2:f.vl.length≤2147483648:=by unfold sz at hf;omega
 unfold fv tx
 clear hf
 have hz1:=zj2 f.nm
 have hz2:=zj2 f.vl
 go_enter Tryz.func182,Tryz.ntmps182
 go_wp2_with fail
 go_ret
 refine⟨?_,(Below.refl _ _).alloc (Nat.le_refl _) _⟩
 rw[hs.out]
 rfl
def TabR(w:World)(g:Nat)(v:Value)(size most:Nat):Prop:=Row w g 190 #[v,.int .i64 (size:Int),.int .i64 (most:Int)]
theorem TabR.c0{w:World}{g size most:Nat}{v:Value}(h:TabR w g v size most):w.cell? ⟨g,0,none⟩=some v:=Row.cell h (j:=0) rfl
theorem TabR.c1{w:World}{g size most:Nat}{v:Value}(h:TabR w g v size most):w.cell? ⟨g,1,none⟩=some (.int .i64 (size:Int)):=Row.cell h (j:=1) rfl
theorem TabR.c2{w:World}{g size most:Nat}{v:Value}(h:TabR w g v size most):w.cell? ⟨g,2,none⟩=some (.int .i64 (most:Int)):=Row.cell h (j:=2) rfl
def pt(g:Nat):Value:=.pointer (some ⟨g,0,none⟩)
theorem zok{g size most:Nat}{v:Value}{w:World}(h:TabR w g v size most):Calls Tryz.prog 142 #[pt g] w λe w'=>e=.returned (.int .i64 (most:Int))∧w'=w:=by
 have h1:=h.c2
 unfold pt
 clear h
 go_enter Tryz.func142,Tryz.ntmps142
 go_wp2_with fail
 go_ret
 exact⟨rfl,rfl⟩
theorem Yx{g size most n c:Nat}{A:Option Addr}{w:World}(h:TabR w g (.slice A n c) size most):Calls Tryz.prog 179 #[pt g] w λe w'=>e=.returned (.int .i64 (n:Int))∧w'=w:=by
 have h1:=h.c0
 unfold pt
 clear h
 go_enter Tryz.func179,Tryz.ntmps179
 go_wp2_with fail
 go_ret
 exact⟨rfl,rfl⟩
theorem zml{g n c:Nat}{A:Option Addr}{w:World}(h:w.cell? ⟨g,0,none⟩=some (.slice A n c)):Calls Tryz.prog 179 #[.pointer (some ⟨g,0,none⟩)] w λe w'=>e=.returned (.int .i64 (n:Int))∧w'=w:=by
 go_enter Tryz.func179,Tryz.ntmps179
 go_wp2_with fail
 go_ret
 exact⟨rfl,rfl⟩
theorem zgr(m:Nat)(hm:m<4294967296)(w:World):Calls Tryz.prog 87 #[.int .u32 (m:Int)] w λe w'=>e=.returned (pt w.heap.size)∧w'=w.alloc (.cells #[.slice none 0 0,.int .i64 0,.int .i64 (m:Int)] 190):=by
 unfold pt
 go_enter Tryz.func87,Tryz.ntmps87
 go_wp2_with fail
 go_ret
 exact⟨rfl,rfl⟩
end
section
def j8(l:List UInt8):Nat:=(l.map λb=>ln b.toNat).sum
theorem zg4(l m:List UInt8):j8 (l++m)=j8 l+j8 m:=by simp[j8]
theorem zc8(b:UInt8)(l:List UInt8):j8 (b :: l)=ln b.toNat+j8 l:=by simp[j8]
theorem za0(l:List UInt8):5*l.length≤j8 l∧j8 l≤30*l.length:=by
 induction l with
 |nil=>simp[j8]
 |cons b l ih=>
  have:=J1 b.toNat (by have:=b.toNat_lt;omega)
  rw[zc8,List.length_cons]
  omega
def val(l:List Bool):Nat:=l.foldl (λa b=>2*a+b.toNat) 0
theorem zrn(l:List Bool):∀a,l.foldl (λa b=>2*a+b.toNat) a=a*2 ^ l.length+val l:=by
 induction l with
 |nil=>intro a;simp[val]
 |cons b l ih=>
  intro a
  rw[List.foldl_cons,ih,show val (b :: l)=l.foldl (λa b=>2*a+b.toNat) (2*0+b.toNat) from rfl,ih,List.length_cons,Nat.pow_succ]
  simp only[Nat.add_mul,Nat.mul_zero,Nat.zero_add]
  rw[show 2*a*2 ^ l.length=a*(2 ^ l.length*2) by rw[Nat.mul_comm 2 a,Nat.mul_assoc,Nat.mul_comm 2]]
  omega
theorem y1(a b:List Bool):val (a++b)=val a*2 ^ b.length+val b:=by
 rw[val,List.foldl_append,zrn];rfl
theorem Xc(b:Bool)(l:List Bool):val (b :: l)=b.toNat*2 ^ l.length+val l:=by
 have:=y1 [b] l
 simpa [val] using this
theorem Q5(l:List Bool):val l<2 ^ l.length:=by
 induction l with
 |nil=>simp[val]
 |cons b l ih=>
  rw[Xc,List.length_cons,Nat.pow_succ]
  cases b<;>simp<;>omega
theorem zdp:∀{a b:List Bool},a.length=b.length→val a=val b→a=b:=by
 intro a
 induction a with
 |nil=>intro b h _;exact(List.eq_nil_of_length_eq_zero h.symm).symm
 |cons x a ih=>
  intro b h hv
  cases b with
  |nil=>simp at h
  |cons y b=>
   have hl:a.length=b.length:=by simpa using h
   rw[Xc,Xc,hl] at hv
   have ha:=Q5 a
   have hb:=Q5 b
   rw[hl] at ha
   have hxy:x=y:=by cases x<;>cases y<;>simp at hv ⊢<;>omega
   subst hxy
   rw[ih hl (by omega)]
theorem zbu(n:Nat):val (List.replicate n true)=2 ^ n-1:=by
 induction n with
 |zero=>rfl
 |succ n ih=>
  rw[List.replicate_succ,Xc,ih,List.length_replicate,Nat.pow_succ]
  have:0<2 ^ n:=Nat.two_pow_pos n
  simp
  omega
def Jz:Nat→Nat→List Bool
 |0,_=>[]
 |n+1,v=>Jz n (v / 2)++[v%2 == 1]
theorem zb2(n:Nat):∀v,(Jz n v).length=n:=by
 induction n with
 |zero=>intro v;rfl
 |succ n ih=>intro v;simp[Jz,ih]
theorem zch(n:Nat):∀v,val (Jz n v)=v%2 ^ n:=by
 induction n with
 |zero=>intro v;simp[Jz,val,Nat.mod_one]
 |succ n ih=>
  intro v
  rw[Jz,y1,ih,Nat.pow_succ]
  have h1:val [v%2 == 1]=v%2:=by
   rcases Nat.mod_two_eq_zero_or_one v with h|h<;>simp[h,val]
  rw[h1]
  simp only[List.length_cons,List.length_nil,Nat.zero_add,Nat.pow_one]
  rw[show 2 ^ n*2=2*2 ^ n by omega,Nat.mod_mul]
  omega
def J5(i:Nat):List Bool:=Jz (ln i) (cd i)
theorem zmn:∀i,i<257→cd i<2 ^ ln i:=by decide +kernel
theorem Xz(i:Nat):(J5 i).length=ln i:=zb2 _ _
theorem Vd{i:Nat}(h:i<257):val (J5 i)=cd i:=by
 unfold J5
 rw[zch,Nat.mod_eq_of_lt (zmn i h)]
def xh(l:List UInt8):List Bool:=l.flatMap λb=>J5 b.toNat
theorem zal(l m:List UInt8):xh (l++m)=xh l++xh m:=by simp[xh]
theorem zgj(l:List UInt8):(xh l).length=j8 l:=by
 induction l with
 |nil=>rfl
 |cons b l ih=>
  rw[zc8,←ih,←Xz]
  simp[xh]
def qr(b:UInt8):List Bool:=Jz 8 b.toNat
def qb(l:List UInt8):List Bool:=l.flatMap qr
theorem yz(b:UInt8):(qr b).length=8:=zb2 _ _
theorem Xv(b:UInt8):val (qr b)=b.toNat:=by
 unfold qr
 rw[zch]
 have:=b.toNat_lt
 exact Nat.mod_eq_of_lt (by omega)
theorem za7{l:List Bool}(h:l.length=8):qr (UInt8.ofNat (val l))=l:=by
 have h1:=Q5 l
 rw[h] at h1
 refine zdp (by rw[yz,h]) ?_
 rw[Xv]
 simp
 omega
theorem vm(l m:List UInt8):qb (l++m)=qb l++qb m:=by simp[qb]
theorem zcj(b:UInt8):qb [b]=qr b:=by simp[qb]
theorem xp(l:List UInt8):(qb l).length=8*l.length:=by
 induction l with
 |nil=>rfl
 |cons b l ih=>
  have:qb (b :: l)=qr b++qb l:=by simp[qb]
  rw[this,List.length_append,yz,ih,List.length_cons]
  omega
theorem zl2:∀{l m:List UInt8},qb l=qb m→l=m:=by
 intro l
 induction l with
 |nil=>
  intro m h
  have:=congrArg List.length h
  rw[xp,xp] at this
  simp at this
  exact(List.eq_nil_of_length_eq_zero (by omega)).symm
 |cons b l ih=>
  intro m h
  cases m with
  |nil=>
   have:=congrArg List.length h
   rw[xp,xp] at this
   simp at this
  |cons c m=>
   have h1:qr b++qb l=qr c++qb m:=by simpa [qb] using h
   obtain⟨h2,h3⟩:=List.append_inj h1 (by rw[yz,yz])
   have h4:b=c:=by
    have:=congrArg val h2
    rw[Xv,Xv] at this
    exact UInt8.toNat_inj.1 this
   rw[h4,ih h3]
def zgl:List Bool→List UInt8
 |a :: b :: c :: d :: e :: f :: g :: h :: t=>UInt8.ofNat (val [a,b,c,d,e,f,g,h]) :: zgl t
 |_=>[]
theorem zlw{p q:List Bool}(h:p.length=8):zgl (p++q)=UInt8.ofNat (val p) :: zgl q:=by
 match p,h with
 |[a,b,c,d,e,f,g,h],_=>rfl
theorem zap:∀(n:Nat) (l:List Bool),l.length=8*n→qb (zgl l)=l
 |0,l,h=>by
  have:l=[]:=List.eq_nil_of_length_eq_zero (by omega)
  subst this
  rfl
 |n+1,l,h=>by
  have h1:(l.take 8).length=8:=by rw[List.length_take];omega
  have h2:l=l.take 8++l.drop 8:=(List.take_append_drop 8 l).symm
  rw[h2,zlw h1]
  have h3:∀b m,qb (b :: m)=qr b++qb m:=λb m=>by simp[qb]
  rw[h3,za7 h1,zap n (l.drop 8) (by rw[List.length_drop];omega)]
def pad(l:List Bool):List Bool:=l++List.replicate ((8-l.length%8)%8) true
theorem zkc(l:List Bool):(pad l).length=8*((l.length+7) / 8):=by
 unfold pad
 rw[List.length_append,List.length_replicate]
 omega
def ve(l:List UInt8):List UInt8:=zgl (pad (xh l))
theorem zef(l:List UInt8):qb (ve l)=pad (xh l):=zap _ _ (zkc _)
theorem zd1{L l:List UInt8}(h:qb L=pad (xh l)):L=ve l:=zl2 (h.trans (zef l).symm)
theorem zbq(l:List UInt8):(ve l).length=(j8 l+7) / 8:=by
 have h1:=congrArg List.length (zef l)
 rw[xp,zkc,zgj] at h1
 omega
end
section
def q8(k:Nat):Array Value:=Ze 514 λj=>if j%2=0 then .int .u32 (if j / 2<k then (cd (j / 2):Int) else 0) else .int .i64 (if j / 2<k then (ln (j / 2):Int) else 0)
theorem vf:(Tryz.prog.info? 301).map (λi=>(i.zero,i.size))=some (some (.agg (q8 0)),514):=by kernel_rfl
theorem Qu(k:Nat):(q8 k).size=514:=Zm _ _
theorem zhz(k:Nat):(q8 k).all (·.oneCell')=true:=zgk λj _=>by split<;>rfl
theorem zm4(k:Nat):((q8 k).setIfInBounds (k*2) (.int .u32 (cd k:Int))).setIfInBounds (k*2+1) (.int .i64 (ln k:Int))=q8 (k+1):=by
 unfold q8
 rw[za8,za8]
 apply Yw
 intro j hj
 by_cases e1:j=k*2+1
 ·subst e1
  have h1:(k*2+1)%2=1:=by omega
  have h2:(k*2+1) / 2=k:=by omega
  simp[h1,h2]
 ·by_cases e2:j=k*2
  ·subst e2
   have h1:(k*2)%2=0:=by omega
   have h2:(k*2) / 2=k:=by omega
   simp[h2]
  ·have h3:(j / 2<k+1)=(j / 2<k):=by
    apply propext;omega
   simp[e1,e2,h3]
theorem zqq{k j:Nat}(h:j<k)(hj:j<257):(q8 k)[j*2]?=some (.int .u32 (cd j:Int)):=by
 unfold q8
 rw[yh _ (by omega)]
 have h1:(j*2)%2=0:=by omega
 have h2:(j*2) / 2=j:=by omega
 simp[h2,h]
theorem zs0{k j:Nat}(h:j<k)(hj:j<257):(q8 k)[j*2+1]?=some (.int .i64 (ln j:Int)):=by
 unfold q8
 rw[yh _ (by omega)]
 have h1:(j*2+1)%2=1:=by omega
 have h2:(j*2+1) / 2=j:=by omega
 simp[h1,h2,h]
theorem zsu{j:Nat}(hj:j<257):(q8 257).extract (j*2) (j*2+2)=#[.int .u32 (cd j:Int),.int .i64 (ln j:Int)]:=by
 unfold q8
 rw[zfq _ (by omega)]
 have h1:(j*2+1)%2=1:=by omega
 have h2:(j*2+1) / 2=j:=by omega
 have h3:(j*2)%2=0:=by omega
 have h4:(j*2) / 2=j:=by omega
 simp[h1,h2,h4,hj]
theorem zew:(Tryz.prog.info? 300).map (λi=>i.size)=some 2:=by kernel_rfl
theorem zkm{j:Nat}(h:j<257)(W:World):(Instr.index 301 (.agg (q8 257)) (.int .i64 (j:Int))).run Tryz.prog W=.ok (.agg #[.int .u32 (cd j:Int),.int .i64 (ln j:Int)]) W:=by
 cases hi:Tryz.prog.info? 300 with
 |none=>have:=zew;rw[hi] at this;simp at this
 |some i=>
  have hs:i.size=2:=by have:=zew;rw[hi] at this;simpa using this
  rw[vq Tryz.underlying301 i hi _ Tryz.underlying300 rfl .i64 j h W,hs,zsu h]
def nxt(k n:Nat):Nat:=fst n+(j3.take k).count n
theorem zqw:zx (nxt 0)=zx fst:=Z4 λj _=>by simp[nxt]
theorem zqv{k:Nat}(h:k<257)(v:Nat)(hv:v=cd k+1):(zx (nxt k)).setIfInBounds (ln k) (.int .u32 (v:Int))=zx (nxt (k+1)):=by
 subst hv
 rw[zbb]
 apply Z4
 intro j _
 unfold nxt
 rw[za6 h j]
 by_cases e:j=ln k
 ·subst e;rw[if_pos rfl,if_pos rfl];unfold cd;omega
 ·rw[if_neg e,if_neg e];omega
theorem zt0{k:Nat}(h:k<257):cd k≤1073742081:=by
 have h1:=J1 k h
 have h2:=zvp (ln k) (by omega)
 have h3:=zod k (ln k)
 unfold cd
 omega
theorem zem(w:World):Calls Tryz.prog 232 #[] w λe w'=>e=.returned (.agg (q8 257))∧Below w.heap.size w w':=by
 obtain⟨hz,hsz⟩:=zero_of_info vf
 have HSL:Hid ((Tryz.prog.info? 297).map (·.size)=some jv.size):=by show _=_;rw[X5];exact(zero_of_info Qv).2
 have HSF:Hid ((Tryz.prog.info? 316).map (·.size)=some (zx fst).size):=by show _=_;rw[Qz];exact(zero_of_info Y7).2
 have HSC:Hid ((Tryz.prog.info? 301).map (·.size)=some (q8 257).size):=by show _=_;rw[Qu];exact hsz
 obtain⟨hzl,_⟩:=zero_of_info Qv
 obtain⟨hzf,_⟩:=zero_of_info Y7
 go_enter Tryz.func232,Tryz.ntmps232
 go_wp2_with fail
 refine(zat _).mono ?_
 rintro e w1 ⟨rfl,hb1⟩
 have hs1:w.heap.size+1≤w1.heap.size:=by have:=hb1.size;simp at this;omega
 have R0:Row w1 w.heap.size 301 (q8 0):=(Row.new w 301 (q8 0)).below hb1 (by simp)
 have B1:Below w.heap.size w w1:=((Below.refl _ _).alloc (Nat.le_refl _) _).trans (hb1.mono (by simp))
 have HB1:=z2w B1
 have HR0:=z2w R0
 clear hb1 B1 R0
 go_wp2_with (first
  |(refine wpList_store_row rfl 297 (.tmp 1) (.tmp 6) rfl w1.heap.size jv rfl rfl 297 zfy (heap_alloc_last w1 _) HSL.out (by kernel_rfl) zbc ?_;rw[World.setRow_alloc_new])
  |(refine wpList_load_row rfl 297 (.tmp 1) rfl w1.heap.size rfl 297 jv (0,0) _ (Row.new w1 _ _) Tryz.underlying297 rfl HSL.out ?_))
 refine(zmd _).mono ?_
 rintro e w2 ⟨rfl,hb2⟩
 have hs2:w1.heap.size+1≤w2.heap.size:=by have:=hb2.size;simp at this;omega
 have R1:Row w2 w1.heap.size 297 jv:=(Row.new w1 297 jv).below hb2 (by simp)
 have R0:Row w2 w.heap.size 301 (q8 0):=(HR0.out.alloc _).below hb2 (by simp;omega)
 have B2:Below w.heap.size w w2:=(HB1.out.alloc (by omega) _).trans (hb2.mono (by simp;omega))
 have HB2:=z2w B2
 have HR1:=z2w R1
 have HR0':=z2w R0
 clear hb2 B2 R0 R1 HR0 HB1
 go_wp2_with (first
  |(refine wpList_store_row rfl 316 (.tmp 2) (.tmp 8) rfl w2.heap.size (zx fst) rfl rfl 316 _ (heap_alloc_last w2 _) HSF.out (by rw[Qz,Qz]) (zhc _) ?_;rw[World.setRow_alloc_new])
  |(refine wpList_load_row rfl 297 (.tmp 1) rfl w1.heap.size rfl 297 jv (0,0) _ ((HR1.out.alloc _).alloc _) Tryz.underlying297 rfl HSL.out ?_))
 have RN:Row ((w2.alloc (.cells (zx fst) 316)).alloc (.cells (q8 0) 301)) w2.heap.size 316 (zx (nxt 0)):=by rw[zqw];exact(Row.new w2 _ _).alloc _
 have RA:Row ((w2.alloc (.cells (zx fst) 316)).alloc (.cells (q8 0) 301)) (w2.heap.size+1) 301 (q8 0):=Row.made _ _ _ (by simp)
 have RR:Row ((w2.alloc (.cells (zx fst) 316)).alloc (.cells (q8 0) 301)) w.heap.size 301 (q8 0):=(HR0'.out.alloc _).alloc _
 have RB:Below w.heap.size w ((w2.alloc (.cells (zx fst) 316)).alloc (.cells (q8 0) 301)):=(HB2.out.alloc (by omega) _).alloc (by simp;omega) _
 clear HB2 HR0' HR1
 go_loopw [10] (λi wr=>∃k:Nat,k≤257∧i=.int .i64 k∧Row wr w2.heap.size 316 (zx (nxt k))∧Row wr (w2.heap.size+1) 301 (q8 k)∧Row wr w.heap.size 301 (q8 0)∧Below w.heap.size w wr)
  (λi _=>257-(intOf i).toNat)
 case atStart=>exact⟨0,by omega,rfl,RN,RA,RR,RB⟩
 case round=>
  clear RN RA RR RB
  obtain⟨k,hk,rfl,RN,RA,RR,RB⟩:=hrel
  by_cases hlt:k<257
  ·have hidx:=zeg hlt
   have hb:=J1 k hlt
   have hcd:=zt0 hlt
   have hnn:=zqv hlt (cd k+1) rfl
   have hcn:=zm4 k
   have hc1:wr.cell? ⟨w2.heap.size,ln k,none⟩=some (.int .u32 (cd k:Int)):=RN.cell (Yo _ (by omega))
   generalize ln k=n at hidx hb hnn hcn hc1
   generalize cd k=x at hcd hnn hcn hc1
   obtain⟨hb5,hb30⟩:=hb
   have hfr1:=RN.thawed n
   have hc2:∃v,wr.cell? ⟨w2.heap.size+1,k*2,none⟩=some v:=⟨_,RA.cell (yh _ (by omega))⟩
   have hc3:∃v,wr.cell? ⟨w2.heap.size+1,k*2+1,none⟩=some v:=⟨_,RA.cell (yh _ (by omega))⟩
   obtain⟨v2,hc2⟩:=hc2
   obtain⟨v3,hc3⟩:=hc3
   have hfr2:=RA.thawed (k*2)
   have hfr3:=RA.thawed (k*2+1)
   have HNN:=z2w hnn
   have HCN:=z2w hcn
   have HRN:=z2w RN
   have HRA:=z2w RA
   have HRR:=z2w RR
   have HRB:=z2w RB
   clear hnn hcn RN RA RR RB
   go_wp2_with fail
   go_roundw
   case rel=>
    refine⟨k+1,by omega,by go_num,?_,?_,?_,?_⟩
    ·have:=((HRN.out.stored' (a:=⟨w2.heap.size+1,k*2,none⟩) (by simp) (.int .u32 (x:Int))).stored' (a:=⟨w2.heap.size+1,k*2+1,none⟩) (by simp) (.int .i64 (n:Int))).stored n (.int .u32 ((x+1:Nat):Int))
     rw[HNN.out] at this
     exact this
    ·have:=((HRA.out.stored (k*2) (.int .u32 (x:Int))).stored (k*2+1) (.int .i64 (n:Int))).stored' (a:=⟨w2.heap.size,n,none⟩) (by simp) (.int .u32 ((x+1:Nat):Int))
     rw[HCN.out] at this
     exact this
    ·exact((HRR.out.stored' (by simp;omega) _).stored' (by simp;omega) _).stored' (by simp;omega) _
    ·exact((HRB.out.setCell (by simp;omega) _).setCell (by simp;omega) _).setCell (by simp;omega) _
   case measure=>simp[intOf];omega
  ·obtain rfl:k=257:=by omega
   have HRA:=z2w RA
   have HRR:=z2w RR
   have HRB:=z2w RB
   clear RN RA RR RB
   go_wp2_with (first
    |(refine wpList_load_row rfl 301 (.tmp 3) rfl (w2.heap.size+1) rfl 301 (q8 257) (0,0) _ HRA.out Tryz.underlying301 rfl HSC.out ?_)
    |(refine wpList_store_row rfl 301 (.tmp 0) (.tmp 27) rfl w.heap.size (q8 257) rfl rfl 301 _ HRR.out HSC.out (by rw[Qu,Qu]) (zhz _) ?_))
   refine bodyPost_ret (v:=.agg (q8 257)) (results_cell_row rfl _ _ w.heap.size 301 (q8 257) (0,0) _ rfl (HRR.out.setRow _) Tryz.underlying301 rfl HSC.out) rfl ⟨rfl,zd HRB.out _ _ (Nat.le_refl _)⟩
end
section
theorem RdS.field{w:World}{S:Nat→Prop}{A:Option Addr}{L:List Fd}(h:RdS w S A (enl fdc L)){i:Nat}(hi:i<L.length):∃b q,A=some ⟨b,q,none⟩∧S b∧
  w.cell? ⟨b,q+i*3,none⟩=some (tx L[i].nm)∧w.cell? ⟨b,q+i*3+1,none⟩=some (tx L[i].vl)∧w.cell? ⟨b,q+i*3+2,none⟩=some (.bool L[i].nv):=by
 have hne:enl fdc L≠[]:=by
  intro e
  have:=yi J7 L
  rw[e] at this
  simp at this
  omega
 obtain⟨b,q,hA,hb,hc⟩:=h hne
 refine⟨b,q,hA,hb,?_,?_,?_⟩
 ·have:=hc (i*3+0) _ (by rw[Q7 J7 hi (by omega)];rfl)
  simpa [Nat.add_assoc] using this
 ·have:=hc (i*3+1) _ (by rw[Q7 J7 hi (by omega)];rfl)
  simpa [Nat.add_assoc] using this
 ·have:=hc (i*3+2) _ (by rw[Q7 J7 hi (by omega)];rfl)
  simpa [Nat.add_assoc] using this
structure Fr(g:Nat)(o:Option Nat)(w w':World):Prop where
 os:w'.os=w.os
 tape:w'.tape=w.tape
 output:w'.output=w.output
 size:w.heap.size≤w'.heap.size
 block:∀k,k<w.heap.size→k≠g→some k≠o→w'.heap[k]?=w.heap[k]?
structure Tb(w:World)(base g:Nat)(v:Value)(L:List Fd)(most:Nat):Prop where
 own:TabR w g v (tot L) most
 row:OwS w base 57 3 v L.length (enl fdc L)
 ne:v.ownBlock≠some g
 low:base≤g
section
variable {g:Nat}{o:Option Nat}{w w' w'':World}{base:Nat}{v:Value}{L:List Fd}{most:Nat}
theorem Fr.refl(w:World):Fr g o w w:=⟨rfl,rfl,rfl,Nat.le_refl _,λ_ _ _ _=>rfl⟩
theorem Fr.of_below(h:Below w.heap.size w w'):Fr g o w w':=⟨h.os,h.tape,h.output,h.size,λk hk _ _=>h.block k hk⟩
theorem Fr.of_grown(h:w.grownBy w' o):Fr g o w w':=⟨h.os,h.tape,h.output,h.size,λk hk _ hne=>h.block k hk hne⟩
theorem Fr.wide(h:Fr g none w w'):Fr g o w w':=⟨h.os,h.tape,h.output,h.size,λk hk h1 _=>h.block k hk h1 (by simp)⟩
theorem Fr.trans{o':Option Nat}(h:Fr g o w w')(h2:Fr g o' w' w'')(ho:o'=o∨∀k,o'=some k→w.heap.size≤k):Fr g o w w'':=by
 refine⟨h2.os.trans h.os,h2.tape.trans h.tape,h2.output.trans h.output,Nat.le_trans h.size h2.size,λk hk h1 h3=>(h2.block k (Nat.lt_of_lt_of_le hk h.size) h1 ?_).trans (h.block k hk h1 h3)⟩
 rcases ho with rfl|ho
 ·exact h3
 ·intro e
  have:=ho k e.symm
  omega
theorem Fr.then_below(h:Fr g o w w')(h2:Below w'.heap.size w' w''):Fr g o w w'':=h.trans (o':=o) (Fr.of_below h2) (.inl rfl)
theorem Fr.setCell(h:Fr g o w w')(j:Nat)(x:Value):Fr g o w (w'.setCell ⟨g,j,none⟩ x):=
 h.trans (o':=o) ⟨rfl,rfl,rfl,by simp[World.setCell],λk _ h1 _=>Below.heap_setCell w' _ x k h1⟩ (.inl rfl)
theorem Fr.drewN(h:Fr g o w w')(n:Nat):Fr g o w (w'.drewN n):=⟨h.os,h.tape,h.output,h.size,h.block⟩
theorem Fr.cell(h:Fr g none w w'){b i:Nat}(hb:b≠g){x:Value}(hc:w.cell? ⟨b,i,none⟩=some x):w'.cell? ⟨b,i,none⟩=some x:=
 (World.cell?_of_block (a:=⟨b,i,none⟩) (h.block b (World.block_lt_of_cell? w _ hc) hb (by simp))).trans hc
theorem Fr.row(h:Fr g o w w'){b:Nat}(hb:b≠g)(ho:some b≠o){t:TypeId}{cs:Array Value}(hr:Row w b t cs):Row w' b t cs:=(h.block b hr.lt hb ho).trans hr
theorem Fr.alloc(h:Fr g o w w')(x:Obj):Fr g o w (w'.alloc x):=h.then_below ((Below.refl _ _).alloc (Nat.le_refl _) _)
theorem Tb.new(w:World)(m:Nat)(hb:base≤w.heap.size):Tb (w.alloc (.cells #[.slice none 0 0,.int .i64 0,.int .i64 (m:Int)] 190)) base w.heap.size (.slice none 0 0) [] m:=
 ⟨Row.new w 190 #[.slice none 0 0,.int .i64 0,.int .i64 (m:Int)],OwS.nil,by simp[Value.ownBlock],hb⟩
theorem Tb.lt(h:Tb w base g v L most):g<w.heap.size:=Row.lt h.own
theorem Tb.keep(h:Tb w base g v L most)(h1:w'.heap[g]?=w.heap[g]?)(h2:∀k,v.ownBlock=some k→w'.heap[k]?=w.heap[k]?):Tb w' base g v L most:=⟨h1.trans h.own,h.row.keep h2,h.ne,h.low⟩
theorem Tb.below(h:Tb w base g v L most)(hb:Below w.heap.size w w'):Tb w' base g v L most:=h.keep (hb.block _ h.lt) λk hk=>hb.block k (h.row.lt k hk).2
theorem Tb.alloc(h:Tb w base g v L most)(x:Obj):Tb (w.alloc x) base g v L most:=h.below ((Below.refl _ _).alloc (Nat.le_refl _) _)
theorem Tb.drewN(h:Tb w base g v L most)(n:Nat):Tb (w.drewN n) base g v L most:=h.keep rfl λ_ _=>rfl
theorem Tb.shape(h:Tb w base g v L most):∃A c,v=.slice A L.length c∧L.length≤c∧c≤maxLen:=h.row.shape
theorem Tb.field{A:Option Addr}{n c:Nat}(h:Tb w base g (.slice A n c) L most){i:Nat}(hi:i<L.length):∃b q,A=some ⟨b,q,none⟩∧b≠g∧
  w.cell? ⟨b,q+i*3,none⟩=some (tx L[i].nm)∧w.cell? ⟨b,q+i*3+1,none⟩=some (tx L[i].vl)∧w.cell? ⟨b,q+i*3+2,none⟩=some (.bool L[i].nv):=by
 obtain⟨b,q,hA,hb,h0,h1,h2⟩:=h.row.reads.field hi
 exact⟨b,q,hA,λe=>h.ne (by rw[hb,e]),h0,h1,h2⟩
end
end
end Go.Proofs.YtooaajnkiokpnaaGreatDoor
