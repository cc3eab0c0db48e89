import Derived.Test.YtdnindaohpdblaaGreatChecked
import Derived.WalkKit
import Derived.ProofKit
import Derived.OpenShut
import Derived.Deep.QuietTactic
import Derived.BigQuiet
import Derived.Laws.CopyOwn
import Derived.WalkSmall
import Derived.Deep.WholeRow
import Derived.Test.YtdnindaohpdblaaGreatRows
import Derived.SizedLaws
set_option linter.all false
namespace Go.Proofs.YtdnindaohpdblaaGreat
abbrev zha:=@Nat.le_refl
abbrev zhb:=@Nat.le_trans
abbrev zhc:=@List.getD_eq_getElem?_getD
abbrev zhd:=@Nat.mul_comm
abbrev zhe:=@Nat.lt_of_lt_of_le
abbrev zhf:=@Array.getElem?_eq_some_iff
abbrev zhg:=@List.take_of_length_le
abbrev zhh:=@List.getElem?_eq_some_iff
abbrev zhi:=@List.getElem?_map
abbrev zhj:=@List.getElem?_eq_getElem
abbrev zhk:=@Nat.mul_assoc
abbrev zhl:=@List.mem_of_getElem?
abbrev zhm:=@Nat.mul_le_mul_left
abbrev zhn:=@Nat.mul_le_mul_right
abbrev zho:=@Int.natCast_mul
abbrev zhp:=@Nat.pow_le_pow_right
abbrev zhq:=@List.getElem?_append_right
abbrev zhr:=@List.append_assoc
abbrev zhs:=@Nat.zero_le
abbrev zht:=@Nat.mul_add
abbrev zhu:=@Nat.pow_succ
abbrev zhv:=@Nat.add_mul
abbrev zhw:=@Nat.pos_of_ne_zero
abbrev zhx:=@List.length_append
abbrev zhy:=@Int.natAbs_natCast
abbrev zhz:=@List.append_nil
abbrev zh0:=@Bool.and_eq_true
abbrev zh1:=@List.getElem?_append_left
abbrev zh2:=@Nat.mul_ne_zero
abbrev zh3:=@Int.natAbs_mul
abbrev zh4:=@Array.getElem?_eq_getElem
abbrev zh5:=@List.getElem?_range
abbrev zh6:=@List.length_take
abbrev zh7:=@Int.sign_eq_one_of_pos
abbrev zh8:=@List.nil_append
abbrev zh9:=@Nat.div_add_mod
abbrev zia:=@Nat.div_le_self
abbrev zib:=@List.length_eq_zero_iff
abbrev zic:=@Nat.mod_lt
abbrev zid:=@List.contains_iff_mem
abbrev zie:=@List.length_cons
abbrev zif:=@Nat.add_zero
abbrev zig:=@Nat.zero_add
abbrev zih:=@Nat.two_pow_pos
abbrev zii:=@Int.sign_eq_neg_one_of_neg
abbrev zij:=@Nat.lt_of_le_of_lt
abbrev zik:=@Nat.div_lt_of_lt_mul
abbrev zil:=@List.getElem?_cons_zero
abbrev zim:=@List.getElem?_eq_none
abbrev zin:=@Nat.mul_zero
abbrev zio:=@Nat.sub_self
abbrev ziq:=@Nat.min_eq_left
abbrev zir:=@List.length_replicate
abbrev zis:=@List.singleton_append
abbrev zit:=@Nat.pow_add
abbrev ziu:=@List.drop_of_length_le
abbrev ziv:=@Nat.one_mul
abbrev ziw:=@Nat.add_sub_cancel
abbrev zix:=@List.take_append_drop
abbrev ziy:=@List.map_append
abbrev ziz:=@Nat.mul_le_mul
abbrev zi0:=@Nat.lt_or_ge
abbrev zi1:=@Nat.div_div_eq_div_mul
abbrev zi2:=@Nat.mul_one
abbrev zi3:=@Array.all_eq_true_iff_forall_mem
abbrev zi4:=@Nat.le_of_lt
abbrev zi5:=@List.getElem?_replicate
abbrev zi6:=@Array.getElem?_eq_none
abbrev zi7:=@Nat.mod_eq_of_lt
abbrev zi8:=@Nat.div_eq_of_lt
abbrev zi9:=@List.set_append_right
abbrev zja:=@Classical.choose_spec
abbrev zjb:=@Int.mul_comm
abbrev zjc:=@List.getElem?_take
abbrev zjd:=@List.getElem?_cons_succ
abbrev zje:=@List.map_cons
abbrev zjf:=@Nat.mul_lt_mul_of_pos_right
abbrev zjg:=@List.map_singleton
abbrev zjh:=@List.range_eq_range'
abbrev zji:=@List.replicate_succ'
abbrev zjj:=@List.take_succ_eq_append_getElem
abbrev zjk:=@List.replicate_zero
abbrev zjl:=@Nat.pow_mul
abbrev zjm:=@Nat.gcd_dvd_right
abbrev zjn:=@List.mem_append
abbrev zjo:=@List.all_eq_true
abbrev zjp:=@Nat.shiftLeft_add_eq_or_of_lt
abbrev zjq:=@Nat.dvd_mul_left
abbrev zjr:=@List.getElem?_zipWith_eq_some
abbrev zjs:=@List.sum_cons
abbrev zjt:=@Nat.add_comm
abbrev zju:=@Int.toNat_natCast
abbrev zjv:=@List.size_toArray
abbrev zjw:=@List.length_nil
abbrev zjx:=@Int.natCast_add
abbrev zjy:=@List.cons_append
abbrev zjz:=@List.ext_getElem
abbrev zj0:=@List.length_drop
abbrev zj1:=@Int.natCast_ediv
abbrev zj2:=@Nat.gcd_dvd_left
abbrev zj3:=@List.mem_cons
abbrev zj4:=@Nat.sub_zero
abbrev zj5:=@Bool.false_eq_true
abbrev zj6:=@List.length_singleton
abbrev zj7:=@Int.mul_assoc
abbrev zj8:=@Nat.gcd_comm
abbrev zj9:=@Nat.dvd_trans
abbrev zka:=@List.drop_zero
abbrev zkb:=@Int.sign_eq_zero_iff_zero
abbrev zkc:=@List.replicate_append_replicate
abbrev zkd:=@Array.getElem?_setIfInBounds_ne
abbrev zke:=@List.take_add_one
abbrev zkf:=@Nat.gcd_pos_of_pos_right
abbrev zkg:=@List.take_succ_cons
abbrev zkh:=@List.drop_succ_cons
abbrev zki:=@Nat.div_mul_le_self
abbrev zkj:=@Array.length_toList
abbrev zkk:=@Option.map_eq_some_iff
abbrev zkl:=@Array.getElem?_extract
abbrev zkm:=@List.mem_replicate
abbrev zkn:=@Int.emod_lt_of_pos
abbrev zko:=@List.mem_map
abbrev zkp:=@Nat.pow_pos
abbrev zkq:=@Nat.le_div_iff_mul_le
abbrev zkr:=@Array.getD_eq_getD_getElem?
abbrev zks:=@List.length_map
abbrev zkt:=@Int.mul_ediv_add_emod
abbrev zku:=@Nat.add_mul_mod_self_right
abbrev zkv:=@List.mem_of_mem_take
abbrev zkw:=@List.drop_eq_getElem_cons
abbrev zkx:=@List.take_zero
abbrev zky:=@List.replicate_succ
abbrev zkz:=@Bool.or_eq_true
abbrev zk0:=@Nat.le_mul_of_pos_right
abbrev zk1:=@Int.emod_nonneg
abbrev zk2:=@Nat.gcd_zero_right
abbrev zk3:=@Int.mul_neg
abbrev zk4:=@Int.lt_trichotomy
abbrev zk5:=@List.mem_range
abbrev zk6:=@Int.sign_mul
abbrev zk7:=@Nat.sub_le
abbrev zk8:=@Int.neg_mul
end Go.Proofs.YtdnindaohpdblaaGreat
namespace Go.Proofs.YtdnindaohpdblaaGreat.Nt
set_option maxHeartbeats 16000000
def val:List Nat->Nat
 | []=>0
 | x :: r=>x+4294967296*val r
def digsF:Nat->Nat->List Nat
 | 0,_=>[]
 | f+1,n=>if n=0 then [] else n % 4294967296 :: digsF f (n / 4294967296)
def digs (n:Nat):List Nat:=digsF n n
def Ok (xs:List Nat):Prop:=∀ x ∈ xs,x < 4294967296
theorem Ok.nil:Ok []:=fun x h=>by cases h
theorem Ok.cons {x:Nat}{r:List Nat}(h:x < 4294967296)(k:Ok r):Ok (x :: r):=fun y hy=>by
 rcases zj3.1 hy with rfl | h'
 ·exact h
 ·exact k y h'
theorem Ok.head {x:Nat}{r:List Nat}(h:Ok (x :: r)):x < 4294967296:=h x (by simp)
theorem Ok.tail {x:Nat}{r:List Nat}(h:Ok (x :: r)):Ok r:=fun y hy=>h y (by simp [hy])
theorem Ok.append {xs ys:List Nat}(h:Ok xs)(k:Ok ys):Ok (xs ++ ys):=fun x hx=>by
 rcases zjn.1 hx with h' | h'
 ·exact h x h'
 ·exact k x h'
theorem Ok.take {xs:List Nat}(h:Ok xs)(k:Nat):Ok (xs.take k):=fun x hx=>h x (zkv hx)
theorem Ok.drop {xs:List Nat}(h:Ok xs)(k:Nat):Ok (xs.drop k):=fun x hx=>h x (List.mem_of_mem_drop hx)
theorem Ok.getD {xs:List Nat}(h:Ok xs)(i:Nat):xs.getD i 0 < 4294967296:=by
 by_cases hi:i < xs.length
 ·rw [zhc,zhj hi]
  exact h _ (List.getElem_mem hi)
 ·rw [zhc,zim (by omega)]
  simp
theorem Ok.replicate (k:Nat):Ok (List.replicate k 0):=fun x hx=>by
 rw [(zkm.1 hx).2]; omega
theorem yb7 (xs ys:List Nat):val (xs ++ ys)=val xs+4294967296 ^ xs.length*val ys:=by
 induction xs with
 | nil=>simp [val]
 | cons x r ih =>
  simp only [zjy,val,ih,zie,zhu]
  rw [zht,zhd (4294967296 ^ r.length) 4294967296,zhk]
  omega
theorem yct (k:Nat):val (List.replicate k 0)=0:=by
 induction k with
 | zero=>rfl
 | succ k ih=>simp [zky,val,ih]
theorem ye9 (x:Nat):val [x]=x:=by simp [val]
theorem yc1 {xs:List Nat}(h:Ok xs):val xs < 4294967296 ^ xs.length:=by
 induction xs with
 | nil=>simp [val]
 | cons x r ih =>
  have h1:=h.head
  have h2:=ih h.tail
  simp only [val,zie,zhu]
  have h3:4294967296*(val r+1)<=4294967296*4294967296 ^ r.length:=zhm _ h2
  rw [zhd (4294967296 ^ r.length)]
  omega
theorem yau (xs:List Nat)(k:Nat)(h:k < xs.length):val (xs.take (k+1))=val (xs.take k)+4294967296 ^ k*xs.getD k 0:=by
 rw [zjj h,yb7,zh6,ziq (by omega)]
 simp [val,h]
theorem yck (xs:List Nat)(k:Nat)(h:k<=xs.length):val xs=val (xs.take k)+4294967296 ^ k*val (xs.drop k):=by
 have:=yb7 (xs.take k) (xs.drop k)
 rw [zix,zh6,ziq h] at this
 exact this
theorem yiy:∀ (f n:Nat),n<=f->val (digsF f n)=n
 | 0,n,h=>by simp [digsF,val]; omega
 | f+1,n,h=>by
  unfold digsF
  by_cases h0:n=0
  ·simp [h0,val]
  ·simp only [h0,if_false,val]
   rw [yiy f (n / 4294967296) (by omega)]
   omega
theorem yo8:∀ (f n:Nat),Ok (digsF f n)
 | 0,n=>Ok.nil
 | f+1,n=>by
  unfold digsF
  by_cases h0:n=0
  ·simp only [h0,if_true]; exact Ok.nil
  ·simp only [h0,if_false]; exact Ok.cons (zic _ (by omega)) (yo8 f _)
theorem yaf (n:Nat):val (digs n)=n:=yiy n n (zha _)
theorem ybo (n:Nat):Ok (digs n):=yo8 n n
theorem yc8:digs 0=[]:=rfl
def Top (xs:List Nat):Prop:=xs=[]\/xs.getD (xs.length-1) 0≠0
theorem Top.tail {x:Nat}{r:List Nat}(h:Top (x :: r)):Top r:=by
 rcases h with h | h
 ·cases h
 ·cases r with
  | nil=>exact Or.inl rfl
  | cons y s=>exact Or.inr (by simpa using h)
theorem yvc {xs:List Nat}(h:Top xs)(hne:xs ≠ []):0 < val xs:=by
 induction xs with
 | nil=>exact absurd rfl hne
 | cons x r ih =>
  simp only [val]
  cases r with
  | nil =>
   rcases h with h | h
   ·cases h
   ·simp at h; omega
  | cons y s=>have:=ih h.tail (by simp); omega
theorem yo7:∀ (f:Nat) (xs:List Nat),Ok xs->Top xs->val xs<=f->digsF f (val xs)=xs
 | 0,xs,_,ht,hf=>by
  cases xs with
  | nil=>rfl
  | cons x r=>have:=yvc ht (by simp); omega
 | f+1,xs,ho,ht,hf=>by
  cases xs with
  | nil=>rfl
  | cons x r =>
   have hp:=yvc ht (by simp)
   have hx:=ho.head
   unfold digsF
   rw [if_neg (by omega)]
   have e1:val (x :: r) % 4294967296=x:=by simp only [val]; omega
   have e2:val (x :: r) / 4294967296=val r:=by simp only [val]; omega
   rw [e1,e2,yo7 f r ho.tail ht.tail (by simp only [val] at hp hf; omega)]
theorem ysg {xs:List Nat}(ho:Ok xs)(ht:Top xs):digs (val xs)=xs:=yo7 _ _ ho ht (zha _)
theorem ysf {xs:List Nat}{n:Nat}(ho:Ok xs)(ht:Top xs)(h:val xs=n):xs=digs n:=by rw [← h,ysg ho ht]
theorem ymk:∀ (f n:Nat),n<=f->Top (digsF f n)
 | 0,n,h=>Or.inl rfl
 | f+1,n,h=>by
  unfold digsF
  by_cases h0:n=0
  ·simp only [h0,if_true]; exact Or.inl rfl
  ·simp only [h0,if_false]
   have ih:=ymk f (n / 4294967296) (by omega)
   cases hr:digsF f (n / 4294967296) with
   | nil =>
    right
    have hv:=yiy f (n / 4294967296) (by omega)
    rw [hr] at hv
    simp only [val] at hv
    simp
    omega
   | cons y s =>
    rw [hr] at ih
    rcases ih with ih | ih
    ·cases ih
    ·exact Or.inr (by simpa using ih)
theorem yhp (n:Nat):Top (digs n):=ymk n n (zha _)
theorem yfk {xs:List Nat}{k:Nat}(ho:Ok xs)(hk:k<=xs.length)(hz:∀ j,k<=j->j < xs.length->xs.getD j 0=0)(ht:k=0\/xs.getD (k-1) 0≠0):xs.take k=digs (val xs):=by
 have hd:xs.drop k=List.replicate (xs.length-k) 0:=by
  apply zjz (by simp)
  intro i h1 h2
  simp only [List.getElem_drop,List.getElem_replicate]
  have hi:k+i < xs.length:=by simp at h1; omega
  have:=hz (k+i) (by omega) hi
  simpa [hi] using this
 apply ysf (ho.take k)
 ·rcases ht with rfl | ht
  ·exact Or.inl (by simp)
  ·by_cases h0:k=0
   ·exact Or.inl (by simp [h0])
   right
   have:(xs.take k).length=k:=by simp [hk]
   rw [this]
   have hlt:k-1 < xs.length:=by omega
   have h2:k-1 < k:=by omega
   simpa [zhc,zjc,h2] using ht
 ·rw [yck xs k hk,hd,yct]; simp
theorem ya1 {n k:Nat}(h:n < 4294967296 ^ k):(digs n).length<=k:=by
 by_cases hc:(digs n).length<=k
 ·exact hc
 exfalso
 have ht:=yhp n
 have hv:=yaf n
 generalize digs n=xs at *
 rcases ht with rfl | ht
 ·simp at hc
 have h1:=yck xs (xs.length-1) (by omega)
 have h2:xs.drop (xs.length-1)=[xs.getD (xs.length-1) 0]:=by
  apply zjz
  ·simp; omega
  ·intro i h3 h4
   simp at h4
   subst h4
   have:xs.length-1 < xs.length:=by omega
   simp [this]
 rw [h2,ye9] at h1
 have h3:4294967296 ^ k<=4294967296 ^ (xs.length-1):=zhp (by omega) (by omega)
 have h4:4294967296 ^ (xs.length-1)*1<=4294967296 ^ (xs.length-1)*xs.getD (xs.length-1) 0:=zhm _ (by omega)
 omega
theorem ycn (n:Nat):n < 4294967296 ^ (digs n).length:=by
 have:=yc1 (ybo n)
 rwa [yaf] at this
theorem yag {n m:Nat}(h:n<=m):(digs n).length<=(digs m).length:=ya1 (zij h (ycn m))
theorem ycu {xs:List Nat}(ho:Ok xs):(digs (val xs)).length<=xs.length:=ya1 (yc1 ho)
theorem ya2 (n:Nat):(digs n).length=0 ↔ n=0:=by
 constructor
 ·intro h
  have:=ycn n
  rw [h] at this
  simpa using this
 ·intro h; subst h; rfl
theorem yv6 {n m:Nat}(h:digs n=digs m):n=m:=by rw [← yaf n,h,yaf]
theorem yjg {n:Nat}(h:n≠0):4294967296 ^ ((digs n).length-1)<=n:=by
 apply Classical.byContradiction
 intro hc
 have:=ya1 (Nat.lt_of_not_le hc)
 have h0:(digs n).length≠0:=fun e=>h ((ya2 n).1 e)
 omega
theorem yem {xs:List Nat}(ho:Ok xs):xs.take (digs (val xs)).length=digs (val xs):=by
 have hl:=ycu ho
 have e:=yck xs _ hl
 have hlt:=ycn (val xs)
 have hz:val (xs.drop (digs (val xs)).length)=0:=by
  apply Classical.byContradiction
  intro hne
  have:4294967296 ^ (digs (val xs)).length*1<=4294967296 ^ (digs (val xs)).length*val (xs.drop (digs (val xs)).length):=zhm _ (by omega)
  omega
 rw [hz] at e
 have hv:val (xs.take (digs (val xs)).length)=val xs:=by simp at e; exact e.symm
 have hok:=ho.take (digs (val xs)).length
 have hlen:(xs.take (digs (val xs)).length).length=(digs (val xs)).length:=by simp [hl]
 apply ysf hok _ hv
 by_cases h0:(digs (val xs)).length=0
 ·left
  rw [zib.1 h0]; simp
 right
 rw [hlen]
 intro htop
 -- with a nought at the top the value would be shorter
 have hk:=yck (xs.take (digs (val xs)).length) ((digs (val xs)).length-1) (by omega)
 have hdrop:(xs.take (digs (val xs)).length).drop ((digs (val xs)).length-1)=[0]:=by
  apply zjz
  ·simp only [zj0,hlen,zie,zjw]; omega
  ·intro i h3 h4
   simp at h4
   subst h4
   have hlt2:(digs (val xs)).length-1 < (xs.take (digs (val xs)).length).length:=by omega
   rw [List.getElem_drop,List.getElem_singleton]
   rw [zhc,zhj hlt2] at htop
   simpa using htop
 rw [hdrop] at hk
 have hshort:=yc1 (hok.take ((digs (val xs)).length-1))
 rw [zh6,hlen,ziq (by omega)] at hshort
 rw [hv] at hk
 simp only [val,zin,zif] at hk
 rw [← hk] at hshort
 have:=ya1 hshort
 omega
theorem yht {P VZ VA t z cy cy':Nat}(h:VZ+P*cy=VA)(hs:z+4294967296*cy'=cy+t):VZ+P*z+P*4294967296*cy'=VA+P*t:=by
 have h2:P*(z+4294967296*cy')=P*(cy+t):=by rw [hs]
 rw [zht,zht,← zhk] at h2
 omega
theorem yfp {P VZ VB VA x y z cy cy':Nat}(h:VZ+VB=VA+P*cy)(hs:z+(y+cy)=x+4294967296*cy'):VZ+P*z+(VB+P*y)=VA+P*x+P*4294967296*cy':=by
 have h2:P*(z+(y+cy))=P*(x+4294967296*cy'):=by rw [hs]
 rw [zht,zht,zht,← zhk] at h2
 omega
theorem ykv {P VZ VA VB f x y z cy cy':Nat}(h:VZ+P*cy=VA+VB*f)(hs:z+4294967296*cy'=cy+(x+y*f)):VZ+P*z+P*4294967296*cy'=VA+P*x+(VB+P*y)*f:=by
 have h2:P*(z+4294967296*cy')=P*(cy+(x+y*f)):=by rw [hs]
 rw [zht,zht,zht,← zhk,← zhk] at h2
 rw [zhv]
 omega
theorem yci (zs:List Nat)(z:Nat):val (zs ++ [z])=val zs+4294967296 ^ zs.length*z:=by
 rw [yb7,ye9]
theorem Ok.snoc {zs:List Nat}{z:Nat}(h:Ok zs)(hz:z < 4294967296):Ok (zs ++ [z]):=h.append (Ok.cons hz Ok.nil)
end Go.Proofs.YtdnindaohpdblaaGreat.Nt

namespace Go.Proofs.YtdnindaohpdblaaGreat
open Go.RowKit Nt
set_option maxRecDepth 20000
set_option maxHeartbeats 16000000
theorem hid {p:Prop}(h:p):Hid p:=h
def U (xs:List Nat):List Value:=xs.map fun (x:Nat)=>Value.int .u32 (x:Int)
theorem ydw (xs:List Nat):(U xs).length=xs.length:=by simp [U]
theorem ygl (xs ys:List Nat):U (xs ++ ys)=U xs ++ U ys:=by simp [U]
theorem ynx (xs:List Nat)(i:Nat)(h:i < xs.length):(U xs)[i]? = some (.int .u32 (xs.getD i 0)):=by
 simp [U,h]
def Limbs (w:World)(p:Option Addr)(xs:List Nat):Prop:=∀ i,i < xs.length->∃ b o,p=some ⟨b,o,none⟩/\w.cell? ⟨b,o+i,none⟩=some (.int .u32 (xs.getD i 0))
theorem Limbs.nil (w:World)(p:Option Addr):Limbs w p []:=fun i h=>by simp at h
theorem Limbs.take {w:World}{p:Option Addr}{xs:List Nat}(h:Limbs w p xs)(k:Nat):Limbs w p (xs.take k):=fun i hi=>by
 have h1:i < xs.length:=by simp at hi; omega
 have h2:i < k:=by simp at hi; omega
 obtain ⟨b,o,e,hc⟩:=h i h1
 refine ⟨b,o,e,?_⟩
 rw [hc]
 simp [h2]
theorem Limbs.digs {w:World}{p:Option Addr}{xs:List Nat}(h:Limbs w p xs)(ho:Ok xs):Limbs w p (digs (val xs)):=by
 have hd:=yem ho
 rw [← hd]
 exact h.take _
theorem yb3 {w:World}{a:Addr}{v:Value}(h:w.cell? a=some v):a.block < w.heap.size:=by
 apply Classical.byContradiction
 intro hc
 have:w.heap[a.block]? = none:=by simp; omega
 simp [World.cell?,this] at h
theorem Limbs.below {w w':World}{p:Option Addr}{xs:List Nat}(h:Limbs w p xs)(hb:Below w.heap.size w w'):Limbs w' p xs:=fun i hi=>by
 obtain ⟨b,o,e,hc⟩:=h i hi
 exact ⟨b,o,e,(hb.cell (p:=⟨b,o+i,none⟩) (yb3 hc)).trans hc⟩
theorem Limbs.of_block {w:World}{g:Nat}{t:TypeId}{fr:Nat × Nat}{pre xs post:List Nat}(h:w.heap[g]? = some (.cells (U (pre ++ xs ++ post)).toArray t fr)):Limbs w (some ⟨g,pre.length,none⟩) xs:=fun i hi=>by
 refine ⟨g,pre.length,rfl,?_⟩
 have e:=ynx (pre ++ xs ++ post) (pre.length+i) (by simp; omega)
 have e2:(pre ++ xs ++ post).getD (pre.length+i) 0=xs.getD i 0:=by
  rw [zhc,zhc,zhr,zhq (by omega),zh1 (by omega)]
  congr 2; omega
 rw [e2] at e
 simp only [World.cell?,h]
 simpa [zhr] using e
theorem qcall {P:Program}{f:FuncId}{args:Array Value}{w:World}{v:Value}{k x:Nat}
  (h:Calls P f args (w.drewN (k+x)) fun e w'=>e=.returned v/\w'=w.drewN (k+x)):Calls P f args (w.drewN (k+x)) fun e w''=>e=.returned v/\∃ n,w''=w.drewN (k+n):=
 h.mono fun _ _ ⟨he,hm⟩=>⟨he,x,hm⟩
theorem ybq {B:Nat}{W w:World}(h:Below B W w)(n:Nat):Below B W (w.drewN n):=⟨h.os,h.tape,h.output,h.size,h.block⟩
theorem dr0 (w:World):∃ n,w=w.drewN n:=⟨0,rfl⟩
theorem dr1 (w:World)(a:Nat):∃ n,w.drewN a=w.drewN n:=⟨a,rfl⟩
theorem dr2 (w:World)(a b:Nat):∃ n,(w.drewN a).drewN b=w.drewN n:=⟨a+b,by rw [World.drewN_drewN]⟩
theorem dr3 (w:World)(a b c:Nat):∃ n,((w.drewN a).drewN b).drewN c=w.drewN n:=⟨a+(b+c),by rw [World.drewN_drewN,World.drewN_drewN]⟩
theorem yc5 (b o j:Nat):(⟨b,o,none⟩:Addr).add j=⟨b,o+j,none⟩:=by
 unfold Addr.add
 split <;> simp_all
theorem yhn {p q:Option Addr}{k n c d:Nat}(h1:p=q)(h2:k=n)(h3:c=d):Ending.returned (.slice p k c)=.returned (.slice q n d):=by rw [h1,h2,h3]
theorem ydf {k:IntKind}{a b:Int}(h:a=b):Ending.returned (.int k a)=.returned (.int k b):=by rw [h]
theorem ze4 (w:World)(p:Option Addr)(n c:Nat)(xs:List Nat)(hn:xs.length=n)(hc:n<=c)(hm:c<=maxLen)(ho:Ok xs)(hx:Limbs w p xs):
  Calls Tryz.prog 101 #[.slice p n c] w fun e w'=>e=.returned (.slice p (digs (val xs)).length c)/\w'=w:=by
 unfold maxLen at hm
 have HX:Hid (Limbs w p xs):=hx
 have HN:Hid (xs.length=n):=hn
 have HO:Hid (Ok xs):=ho
 clear hx hn ho
 go_enter Tryz.func101,Tryz.ntmps101
 go_wp2
 go_loop [3] (fun i=>∃ k:Nat,k<=n/\i=.int .i64 k/\Hid (∀ j,k<=j->j < n->xs.getD j 0=0)) (fun i=>(intOf i).toNat)
 case atStart=>exact ⟨n,zha _,rfl,fun j h1 h2=>by omega⟩
 case round =>
  obtain ⟨k,hk,rfl,HZ⟩:=hrel
  by_cases hlt:0 < k
  ·obtain ⟨b,o,rfl,hcell⟩:=HX.out (k-1) (by have:=HN.out; omega)
   by_cases h0:xs.getD (k-1) 0=0
   ·have hcell':=hcell
    rw [h0] at hcell'
    have H0:Hid (xs.getD (k-1) 0=0):=h0
    clear h0 hcell
    go_wp2
    go_round
    case rel =>
     refine ⟨k-1,by omega,by go_num,?_⟩
     intro j h1 h2
     by_cases e:j=k-1
     ·rw [e]; exact H0.out
     ·exact HZ.out j (by omega) h2
    case measure=>simp [intOf]; omega
   ·obtain ⟨x,hx⟩:∃ x,x=xs.getD (k-1) 0:=⟨_,rfl⟩
    have H0:Hid (xs.getD (k-1) 0≠0):=h0
    rw [← hx] at hcell h0
    have hb:((x:Int) == 0)=false:=beq_eq_false_iff_ne.2 (by omega)
    clear h0 hx
    go_wp2
    go_ret
    have hl:k=(digs (val xs)).length:=by
     have:=yfk HO.out (k:=k) (by rw [HN.out]; exact hk) (by rw [HN.out]; exact HZ.out) (Or.inr H0.out)
     rw [← this]; simp [HN.out]; omega
    exact ⟨yhn (by simp [Addr.add]) hl rfl,rfl⟩
  ·go_wp2
   go_ret
   have hl:k=(digs (val xs)).length:=by
    have:=yfk HO.out (k:=k) (by rw [HN.out]; exact hk) (by rw [HN.out]; exact HZ.out) (Or.inl (by omega))
    rw [← this]; simp [HN.out]; omega
   exact ⟨yhn (by simp [Addr.add]) hl rfl,rfl⟩
theorem ynu (w:World)(p:Option Addr)(n c k:Nat)(xs:List Nat)(hk:(digs (val xs)).length=k)(hn:xs.length=n)(hc:n<=c)(hm:c<=maxLen)(ho:Ok xs)(hx:Limbs w p xs):
  Calls Tryz.prog 101 #[.slice p n c] w fun e w'=>e=.returned (.slice p k c)/\w'=w:=by
 subst hk
 exact ze4 w p n c xs hn hc hm ho hx
def cmpN (a b:Nat):Int:=if a < b then -1 else if a=b then 0 else 1
def ordB (b:Bool):Int:=if b then -1 else 1
theorem yi9 (w:World)(b:Bool):Calls Tryz.prog 123 #[.bool b] w fun e w'=>e=.returned (.int .i64 (ordB b))/\w'=w:=by
 cases b
 all_goals
  go_enter Tryz.func123,Tryz.ntmps123
  go_wp2
  go_ret
  exact ⟨rfl,rfl⟩
theorem ysb {xs ys:List Nat}(hl:xs.length=ys.length)(hx:Ok xs){k:Nat}(hk:k < xs.length)
  (he:∀ j,k < j->j < xs.length->xs.getD j 0=ys.getD j 0) (hlt:xs.getD k 0 < ys.getD k 0):val xs < val ys:=by
 have e1:=yck xs (k+1) (by omega)
 have e2:=yck ys (k+1) (by omega)
 have hd:xs.drop (k+1)=ys.drop (k+1):=by
  apply zjz (by simp [hl])
  intro i h1 h2
  have h3:k+1+i < xs.length:=by simp at h1; omega
  have h4:k+1+i < ys.length:=by omega
  have:=he (k+1+i) (by omega) h3
  simpa [h3,h4] using this
 rw [hd] at e1
 rw [yau xs k hk] at e1
 rw [yau ys k (by omega)] at e2
 have b1:=yc1 (hx.take k)
 rw [zh6,ziq (by omega)] at b1
 have b2:4294967296 ^ k*(xs.getD k 0+1)<=4294967296 ^ k*ys.getD k 0:=zhm _ hlt
 rw [zht] at b2
 omega
theorem ysc {a b:Nat}(h:(digs a).length < (digs b).length):a < b:=by
 apply Classical.byContradiction
 intro hc
 have:=yag (Nat.le_of_not_lt hc)
 omega
theorem zfq (w:World)(p q:Option Addr)(n c m d:Nat)(xs ys:List Nat)(hn:xs.length=n)(hc:n<=c)(hm:c<=maxLen)(ho:Ok xs)(hx:Limbs w p xs)
  (hn':ys.length=m) (hc':m<=d) (hm':d<=maxLen) (ho':Ok ys) (hx':Limbs w q ys):
  Calls Tryz.prog 100 #[.slice p n c,.slice q m d] w fun e w'=>e=.returned (.int .i64 (cmpN (val xs) (val ys)))/\∃ nq,w'=w.drewN nq:=by
 obtain ⟨la,hla⟩:∃ la,(digs (val xs)).length=la:=⟨_,rfl⟩
 obtain ⟨lb,hlb⟩:∃ lb,(digs (val ys)).length=lb:=⟨_,rfl⟩
 have hlan:la<=n:=by rw [← hla,← hn]; exact ycu ho
 have hlbm:lb<=m:=by rw [← hlb,← hn']; exact ycu ho'
 have t1:∀ w',Limbs w' p xs->Calls Tryz.prog 101 #[.slice p n c] w' fun e w''=>e=.returned (.slice p la c)/\w''=w':=fun w' h=>ynu w' p n c la xs hla hn hc hm ho h
 have t2:∀ w',Limbs w' q ys->Calls Tryz.prog 101 #[.slice q m d] w' fun e w''=>e=.returned (.slice q lb d)/\w''=w':=fun w' h=>ynu w' q m d lb ys hlb hn' hc' hm' ho' h
 have HX:Hid (Limbs w p (digs (val xs))):=hx.digs ho
 have HY:Hid (Limbs w q (digs (val ys))):=hx'.digs ho'
 have T1:=hid (t1 w hx)
 have T2:=hid (t2 w hx')
 have HA:Hid ((digs (val xs)).length=la):=hla
 have HB:Hid ((digs (val ys)).length=lb):=hlb
 unfold maxLen at hm hm'
 clear t1 t2 hla hlb hx hx' ho ho' hn hn'
 by_cases hl:la=lb
 ·subst hl
  go_enter Tryz.func100,Tryz.ntmps100
  go_wp2_with fail
  refine T1.out.mono ?_
  rintro e w' ⟨rfl,rfl⟩
  go_wp2_with fail
  refine T2.out.mono ?_
  rintro e w' ⟨rfl,rfl⟩
  go_wp2_with fail
  go_loopw [24] (fun i wr=>∃ k:Nat,k<=la/\i=.int .i64 k/\(∃ nq,wr=w'.drewN nq)/\Hid (∀ j,la-k<=j->j < la->(digs (val xs)).getD j 0=(digs (val ys)).getD j 0)) (fun i _=>la-(intOf i).toNat)
  case atStart=>exact ⟨0,zhs _,rfl,⟨0,rfl⟩,fun j h1 h2=>by omega⟩
  case round =>
   obtain ⟨k,hk,rfl,⟨nq,rfl⟩,HZ⟩:=hrel
   by_cases hlt:k < la
   ·obtain ⟨b,o,rfl,hcell⟩:=HX.out (la-1-k) (by have:=HA.out; omega)
    obtain ⟨b',o',rfl,hcell'⟩:=HY.out (la-1-k) (by have:=HB.out; omega)
    obtain ⟨x,hx⟩:∃ x,(digs (val xs)).getD (la-1-k) 0=x:=⟨_,rfl⟩
    obtain ⟨y,hy⟩:∃ y,(digs (val ys)).getD (la-1-k) 0=y:=⟨_,rfl⟩
    rw [hx] at hcell
    rw [hy] at hcell'
    have HXK:=hid hx
    have HYK:=hid hy
    clear hx hy
    by_cases hxy:x=y
    ·subst hxy
     go_wp2_with fail
     go_quiet (fail)
     go_wp2
     go_roundw
     case rel =>
      refine ⟨k+1,by omega,by go_num,⟨_,rfl⟩,?_⟩
      intro j h1 h2
      by_cases e:j=la-1-k
      ·rw [e,HXK.out,HYK.out]
      ·exact HZ.out j (by omega) h2
     case measure=>simp [intOf]; omega
    ·have hne:((x:Int) != (y:Int))=true:=by rw [bne_iff_ne]; omega
     go_wp2_with fail
     go_quiet (fail)
     go_wp2_with fail
     go_quiet ((go_at_call 123; exact qcall (yi9 _ _)))
     go_wp2
     go_ret
     refine ⟨ydf ?_,dr3 _ _ _ _⟩
     have he:∀ j,la-1-k < j->j < la->(digs (val xs)).getD j 0=(digs (val ys)).getD j 0:=fun j h1 h2=>HZ.out j (by omega) h2
     by_cases hxl:x < y
     ·have:=ysb (by rw [HA.out,HB.out]) (ybo (val xs)) (k:=la-1-k) (by rw [HA.out]; omega) (fun j h1 h2=>he j h1 (by rw [← HA.out]; exact h2)) (by rw [HXK.out,HYK.out]; exact hxl)
      rw [yaf,yaf] at this
      simp [cmpN,ordB,hxl,this]
     ·have:=ysb (by rw [HA.out,HB.out]) (ybo (val ys)) (k:=la-1-k) (by rw [HB.out]; omega) (fun j h1 h2=>(he j h1 (by rw [← HB.out]; exact h2)).symm) (by rw [HXK.out,HYK.out]; omega)
      rw [yaf,yaf] at this
      have h1:¬ val xs < val ys:=by omega
      have h2:¬ val xs=val ys:=by omega
      have h3:¬ (x:Int) < y:=by omega
      simp [cmpN,ordB,h1,h2,hxl]
   ·go_wp2
    go_ret
    refine ⟨ydf ?_,nq,rfl⟩
    have:digs (val xs)=digs (val ys):=by
     apply zjz (by rw [HA.out,HB.out])
     intro i h1 h2
     have:=HZ.out i (by omega) (by rw [← HA.out]; exact h1)
     simpa [h1,h2] using this
    simp [cmpN,yv6 this]
 ·have hne:((la:Int) != (lb:Int))=true:=by rw [bne_iff_ne]; omega
  by_cases hlt:la < lb
  ·go_enter Tryz.func100,Tryz.ntmps100
   go_wp2_with fail
   refine T1.out.mono ?_
   rintro e w' ⟨rfl,rfl⟩
   go_wp2_with fail
   refine T2.out.mono ?_
   rintro e w' ⟨rfl,rfl⟩
   go_wp2_with (go_at_call 123; refine (yi9 _ _).mono ?_; rintro e w' ⟨rfl,rfl⟩)
   go_ret
   refine ⟨ydf ?_,0,rfl⟩
   have:=ysc (a:=val xs) (b:=val ys) (by rw [HA.out,HB.out]; exact hlt)
   simp [cmpN,ordB,this]
  ·go_enter Tryz.func100,Tryz.ntmps100
   go_wp2_with fail
   refine T1.out.mono ?_
   rintro e w' ⟨rfl,rfl⟩
   go_wp2_with fail
   refine T2.out.mono ?_
   rintro e w' ⟨rfl,rfl⟩
   go_wp2_with (go_at_call 123; refine (yi9 _ _).mono ?_; rintro e w' ⟨rfl,rfl⟩)
   go_ret
   refine ⟨ydf ?_,0,rfl⟩
   have:=ysc (a:=val ys) (b:=val xs) (by rw [HA.out,HB.out]; omega)
   have h1:¬ val xs < val ys:=by omega
   have h2:¬ val xs=val ys:=by omega
   simp [cmpN,ordB,h1,h2]
theorem infoU32:(Tryz.prog.info? 64).map (fun i=>(i.zero,i.size,i.bytes))=some (some (.int .u32 0),1,4):=by kernel_rfl
def Blk (w:World)(g:Nat)(xs:List Nat):Prop:=w.heap[g]? = some (.cells (U xs).toArray 64 (0,0))
theorem Blk.limbs {w:World}{g:Nat}{xs:List Nat}(h:Blk w g xs):Limbs w (some ⟨g,0,none⟩) xs:=
 Limbs.of_block (pre:=[]) (xs:=xs) (post:=[]) (by simpa [Blk] using h)
theorem Blk.below {w w':World}{g:Nat}{xs:List Nat}(h:Blk w g xs)(hb:Below w.heap.size w w'):Blk w' g xs:=by
 have hg:g < w.heap.size:=(zhf.1 h).1
 exact (hb.block g hg).trans h
theorem Blk.size {w:World}{g:Nat}{xs:List Nat}(h:Blk w g xs):g < w.heap.size:=(zhf.1 h).1
theorem yld (n:Nat):madeCells (Value.cells (.int .u32 0)) (n*1)=(U (List.replicate n 0)).toArray:=by
 apply Array.ext
 ·simp [size_madeCells,U]
 ·intro i h1 h2
  simp [madeCells,U,Value.cells,Nat.mod_one]
theorem ydk (n:Nat)(hn:n<=70368744177664)(W:World):
  (Instr.makeSlice 22 (.int .i64 n) (.int .i64 n)).run Tryz.prog W=.ok (.slice (some ⟨W.heap.size,0,none⟩) n n) (W.alloc (.cells (U (List.replicate n 0)).toArray 64)):=by
 obtain ⟨i0,hi,hz0,hz1,hz2⟩:=info_parts infoU32
 have:=run_make (P:=Tryz.prog) W 22 64 i0 (.int .u32 0) Tryz.underlying22 hi hz0 .i64 .i64 n n (by omega) (by omega) (by rw [hz2]; omega) (by omega)
 rw [this,hz1]
 simp only [zju,yld]
theorem ygb (xs:List Nat):∀ v ∈ U xs,v.oneCell'=true:=by
 intro v hv
 simp [U] at hv
 obtain ⟨a,_,rfl⟩:=hv
 rfl
theorem yig (W:World)(ty:TypeId)(g n nd c:Nat)(p:Option Addr)(xs zs:List Nat)(hl:xs.length=n)(hz:zs.length=nd)(hn:n<=nd)(hx:Limbs W p xs)(hg:Blk W g zs)(hc:p=none->c=0):
  (Builtin.copy_ #[22,22] ty #[.slice (some ⟨g,0,none⟩) nd nd,.slice p n c]).run Tryz.prog W=.ok (goInt n) (W.setRow g (U (xs ++ zs.drop n)).toArray):=by
 obtain ⟨i0,hi,hz0,hz1,hz2⟩:=info_parts infoU32
 have hs:(Tryz.prog.info? 64).map (·.size)=some 1:=by rw [hi]; simp [hz1]
 cases p with
 | none =>
  have h0:n=0:=by
   apply Classical.byContradiction
   intro h
   obtain ⟨b,o,e,_⟩:=hx 0 (by omega)
   cases e
  subst h0
  have hxs:xs=[]:=zib.1 hl
  rw [hc rfl,run_copy_nil Tryz.prog W 22 22 ty 64 _ _ _ Tryz.underlying22 (by rw [hs]; rfl)]
  rw [hxs]
  simp only [zh8,zka]
  rw [setRow_self W g _ _ _ hg]
  rfl
 | some a =>
  have hsrc:∀ j v,(U xs)[j]? = some v->W.cell? (a.add j)=some v:=by
   intro j v hv
   have hj:j < xs.length:=by
    have:=(zhh.1 hv).1
    simpa [U] using this
   rw [ynx xs j hj] at hv
   obtain ⟨b,o,e,hcc⟩:=hx j hj
   obtain rfl:=Option.some.inj e
   rw [← hv,← hcc]
   rw [yc5]
  have h:=run_copy_row Tryz.prog W 22 22 ty 64 g 0 nd nd a n c (U zs).toArray 64 (U xs) Tryz.underlying22 hs hg (by simp only [ydw,hl]; exact (ziq hn).symm) hsrc (by simp [U,hl,hz]; omega) (ygb xs)
  rw [h]
  have e1:(U xs).length=n:=by simp [U,hl]
  have e3:(U zs).drop n=U (zs.drop n):=by simp [U,List.map_drop]
  simp [e1,e3,ygl]
structure Sl (w:World) (p:Option Addr) (n c:Nat) (xs:List Nat):Prop where
 len:xs.length=n
 cap:n<=c
 max:c<=maxLen
 nil:p=none->c=0
 ok:Ok xs
 lie:Limbs w p xs
theorem Sl.none (w:World):Sl w none 0 0 []:=⟨rfl,zha _,zhs _,fun _=>rfl,Ok.nil,Limbs.nil _ _⟩
theorem Sl.below {w w':World}{p:Option Addr}{n c:Nat}{xs:List Nat}(h:Sl w p n c xs)(hb:Below w.heap.size w w'):Sl w' p n c xs:=⟨h.len,h.cap,h.max,h.nil,h.ok,h.lie.below hb⟩
theorem Sl.digs {w:World}{p:Option Addr}{n c:Nat}{xs:List Nat}(h:Sl w p n c xs):Sl w p (digs (val xs)).length c (digs (val xs)):=
 ⟨rfl,zhb (by rw [← h.len]; exact ycu h.ok) h.cap,h.max,h.nil,ybo _,h.lie.digs h.ok⟩
theorem Sl.dl {w:World}{p:Option Addr}{n c:Nat}{xs:List Nat}(h:Sl w p n c xs):(Nt.digs (val xs)).length<=n:=by rw [← h.len]; exact ycu h.ok
def Apart (q:Option Addr)(ys:List Nat)(g:Nat):Prop:=∀ b o,q=some ⟨b,o,none⟩->ys ≠ []->b≠g
theorem Sl.apart {w:World}{p:Option Addr}{n c g:Nat}{xs:List Nat}(h:Sl w p n c xs)(hg:w.heap.size<=g):Apart p xs g:=by
 intro b o e hne hb
 have hp:0 < xs.length:=by cases xs with | nil=>exact absurd rfl hne | cons _ _=>simp
 obtain ⟨b',o',e',hc⟩:=h.lie 0 hp
 have:=yb3 hc
 rw [e] at e'
 simp at e'
 simp at this
 omega
theorem ycz (w:World)(p:Option Addr)(n c k:Nat)(xs:List Nat)(hk:(digs (val xs)).length=k)(h:Sl w p n c xs):
  Calls Tryz.prog 101 #[.slice p n c] w fun e w'=>e=.returned (.slice p k c)/\w'=w:=
 ynu w p n c k xs hk h.len h.cap h.max h.ok h.lie
theorem yqw (w:World)(p q:Option Addr)(n c m d:Nat)(xs ys:List Nat)(h:Sl w p n c xs)(h':Sl w q m d ys):
  Calls Tryz.prog 100 #[.slice p n c,.slice q m d] w fun e w'=>e=.returned (.int .i64 (cmpN (val xs) (val ys)))/\∃ nq,w'=w.drewN nq:=
 zfq w p q n c m d xs ys h.len h.cap h.max h.ok h.lie h'.len h'.cap h'.max h'.ok h'.lie
structure Res (w w':World) (p:Option Addr) (c n:Nat):Prop where
 below:Below w.heap.size w w'
 sl:Sl w' p (Nt.digs n).length c (Nt.digs n)
 own:∀ b o,p=some ⟨b,o,none⟩->o=0/\w.heap.size<=b/\∃ rest,Blk w' b (Nt.digs n ++ rest)/\Ok rest/\c=(Nt.digs n).length+rest.length
theorem Res.nil {w w':World}(h:Below w.heap.size w w'):Res w w' none 0 0:=⟨h,Sl.none _,fun _ _ e=>by cases e⟩
theorem Res.row {w w':World}{g c n:Nat}{xs:List Nat}(h:Below w.heap.size w w')(hg:Blk w' g xs)(ho:Ok xs)(hv:val xs=n)(hB:w.heap.size<=g)(hc:xs.length=c)(hm:c<=maxLen):Res w w' (some ⟨g,0,none⟩) c n:=by
 subst hv
 have hd:xs.take (Nt.digs (val xs)).length=Nt.digs (val xs):=yem ho
 refine ⟨h,⟨rfl,by rw [← hc]; exact ycu ho,hm,(fun e=>by cases e),ybo _,hg.limbs.digs ho⟩,fun b o e=>?_⟩
 simp only [Option.some.injEq,Addr.mk.injEq] at e
 obtain ⟨rfl,rfl,_⟩:=e
 refine ⟨rfl,hB,xs.drop (Nt.digs (val xs)).length,?_,ho.drop _,?_⟩
 ·have:Nt.digs (val xs) ++ xs.drop (Nt.digs (val xs)).length=xs:=by
   conv=>lhs; lhs; rw [← hd]
   exact zix _ _
  rw [this]; exact hg
 ·have:=ycu ho
  simp; omega
theorem Res.since {w W w':World}{p:Option Addr}{c n:Nat}(hb:Below w.heap.size w W)(r:Res W w' p c n):Res w w' p c n:=
 ⟨hb.trans (r.below.mono hb.size),r.sl,fun b o e=>by
  obtain ⟨h1,h2,h3⟩:=r.own b o e
  exact ⟨h1,zhb hb.size h2,h3⟩⟩
theorem Res.later {w w' w'':World}{p:Option Addr}{c n:Nat}(r:Res w w' p c n)(hb:Below w'.heap.size w' w''):Res w w'' p c n:=
 ⟨r.below.trans (hb.mono r.below.size),r.sl.below hb,fun b o e=>by
  obtain ⟨h1,h2,rest,h3,h4,h5⟩:=r.own b o e
  exact ⟨h1,h2,rest,h3.below hb,h4,h5⟩⟩
theorem ypp (w:World)(p:Option Addr)(n c:Nat)(xs:List Nat)(h:Sl w p n c xs)(hs:n<=70368744177664):
  Calls Tryz.prog 111 #[.slice p n c] w fun e w'=>e=.returned (.slice (some ⟨w.heap.size,0,none⟩) (digs (val xs)).length (digs (val xs)).length)/\w'=w.alloc (.cells (U (digs (val xs))).toArray 64):=by
 obtain ⟨k,hk⟩:∃ k,(digs (val xs)).length=k:=⟨_,rfl⟩
 have T:=hid (ycz w p n c k xs hk h)
 have hkn:k<=n:=by rw [← hk]; exact h.dl
 have M:=ydk k (by omega)
 have hcp:∀ ty,(Builtin.copy_ #[22,22] ty #[.slice (some ⟨w.heap.size,0,none⟩) k k,.slice p k c]).run Tryz.prog (w.alloc (.cells (U (List.replicate k 0)).toArray 64))=.ok (goInt k) (w.alloc (.cells (U (digs (val xs))).toArray 64)):=by
  intro ty
  rw [yig _ ty _ k k c p (digs (val xs)) (List.replicate k 0) hk (by simp) (zha _) (h.digs.lie.below ((Below.refl _ _).alloc (zha _) _)) (heap_alloc_last _ _) h.nil]
  rw [World.setRow_alloc_new]
  simp [List.drop_eq_nil_of_le]
 rw [hk]
 have hm:=h.max
 unfold maxLen at hm
 have hc:=h.cap
 clear hk h
 go_enter Tryz.func111,Tryz.ntmps111
 go_wp2_with fail
 refine T.out.mono ?_
 rintro e w' ⟨rfl,rfl⟩
 go_wp2
 go_ret
 exact ⟨rfl,rfl⟩
end Go.Proofs.YtdnindaohpdblaaGreat

namespace Go.Proofs.YtdnindaohpdblaaGreat
open Go.ChangeShapes Go.WideShapes Go.ChangeAt Go.RowKit Nt
set_option maxRecDepth 20000
set_option maxHeartbeats 16000000
theorem ygg {w:World}{x:Addr}{v:Value}(h:w.cell? x=some v):x.spot=none:=by
 unfold World.cell? at h
 split at h
 ·split at h
  ·cases h
  ·rename_i hs; simpa using hs
 ·cases h
def Reads {H:Type}(d:DataW H)(c:Nat):Prop:=(d=.nil/\c=0)\/∃ es sp:List (DataW H),d=.slice es sp/\c=es.length+sp.length
end Go.Proofs.YtdnindaohpdblaaGreat

namespace Go.Proofs.YtdnindaohpdblaaGreat
open Go.RowKit Nt
set_option maxRecDepth 20000
set_option maxHeartbeats 16000000
def Wr (w:World)(g:Nat)(xs:List Nat)(w':World):Prop:=∃ n,w'=(w.setRow g (U xs).toArray).drewN n
theorem Wr.refl {w:World}{g:Nat}{xs:List Nat}(h:Blk w g xs):Wr w g xs w:=⟨0,by rw [setRow_self w g _ _ _ h]; rfl⟩
theorem Wr.blk {w w':World}{g:Nat}{xs ys:List Nat}(h:Blk w g xs)(k:Wr w g ys w'):Blk w' g ys:=by
 obtain ⟨n,rfl⟩:=k
 exact setRow_heap w g _ _ _ _ h
theorem Wr.drewN {w w':World}{g:Nat}{xs:List Nat}(h:Wr w g xs w')(n:Nat):Wr w g xs (w'.drewN n):=by
 obtain ⟨m,rfl⟩:=h
 exact ⟨m+n,by rw [World.drewN_drewN]⟩
theorem Wr.other {w w':World}{g k:Nat}{xs:List Nat}(h:Wr w g xs w')(hk:k≠g):w'.heap[k]? = w.heap[k]?:=by
 obtain ⟨n,rfl⟩:=h
 exact setRow_other w g k _ hk
theorem Wr.below {w0 w w':World}{B g:Nat}{xs:List Nat}(h:Wr w g xs w')(hb:Below B w0 w)(hg:B<=g):Below B w0 w':=by
 obtain ⟨n,rfl⟩:=h
 exact ybq (below_setRow hb hg _) n
theorem Wr.trans {w w' w'':World}{g:Nat}{xs ys:List Nat}(h:Wr w g xs w')(k:Wr w' g ys w''):Wr w g ys w'':=by
 obtain ⟨n,rfl⟩:=h
 obtain ⟨m,rfl⟩:=k
 refine ⟨n+m,?_⟩
 rw [← setRow_setRow w g (U xs).toArray (U ys).toArray,← World.drewN_drewN]
 rfl
theorem Wr.limbs {w w':World}{g:Nat}{xs ys:List Nat}{q:Option Addr}(h:Wr w g xs w')(hl:Limbs w q ys)(hq:Apart q ys g):Limbs w' q ys:=fun i hi=>by
 obtain ⟨b,o,e,hc⟩:=hl i hi
 refine ⟨b,o,e,?_⟩
 rw [← hc]
 exact World.cell?_of_block (w:=w) (h.other (hq b o e (by intro e; rw [e] at hi; simp at hi)))
theorem Blk.cell {w:World}{g:Nat}{xs:List Nat}(h:Blk w g xs)(i:Nat)(hi:i < xs.length):w.cell? ⟨g,i,none⟩=some (.int .u32 (xs.getD i 0)):=by
 obtain ⟨b,o,e,hc⟩:=h.limbs i hi
 simp only [Option.some.injEq,Addr.mk.injEq] at e
 obtain ⟨rfl,rfl,_⟩:=e
 simpa using hc
theorem Blk.frozen {w:World}{g:Nat}{xs:List Nat}(h:Blk w g xs)(i:Nat):w.frozen? ⟨g,i,none⟩=false:=by
 unfold Blk at h
 simp [World.frozen?,h]
theorem Wr.set {w w':World}{g:Nat}{xs ys:List Nat}(h:Blk w g xs)(k:Wr w g ys w')(i z:Nat):Wr w g (ys.set i z) (w'.setCell ⟨g,i,none⟩ (.int .u32 z)):=by
 have hb:=Wr.blk h k
 have e:=setCell_eq_setRow w' g i (U ys).toArray _ _ (.int .u32 z) hb
 obtain ⟨n,rfl⟩:=k
 refine ⟨n,?_⟩
 rw [e]
 have e2:(U ys).toArray.setIfInBounds i (.int .u32 (z:Int))=(U (ys.set i z)).toArray:=by
  simp [U,List.map_set]
 rw [e2]
 show ((w.setRow g _).setRow g _).drewN n=_
 rw [setRow_setRow]
theorem yfy (pre zs rs post:List Nat)(k x z:Nat)(hz:zs.length=k):(pre ++ (zs ++ x :: rs) ++ post).set (pre.length+k) z=pre ++ ((zs ++ [z]) ++ rs) ++ post:=by
 subst hz
 rw [zhr,zi9 _ _ (by omega)]
 simp [List.set_append]
theorem yeu (xs:List Nat)(k:Nat)(h:k < xs.length):xs.drop k=xs.getD k 0 :: xs.drop (k+1):=by
 rw [zkw h]
 simp [h]
theorem Wr.next {w w':World}{g:Nat}{xs pre zs A post:List Nat}{k:Nat}(h:Blk w g xs)(hz:zs.length=k)(hk:k < A.length)(hw:Wr w g (pre ++ (zs ++ A.drop k) ++ post) w')(z:Nat):
  Wr w g (pre ++ ((zs ++ [z]) ++ A.drop (k+1)) ++ post) (w'.setCell ⟨g,pre.length+k,none⟩ (.int .u32 z)):=by
 have:=Wr.set h hw (pre.length+k) z
 rw [yeu A k hk,yfy pre zs (A.drop (k+1)) post k _ z hz] at this
 exact this
theorem Wr.next' {w w':World}{g i:Nat}{xs pre zs A post:List Nat}{k:Nat}{v:Int}{z:Nat}(h:Blk w g xs)(hz:zs.length=k)(hk:k < A.length)(hw:Wr w g (pre ++ (zs ++ A.drop k) ++ post) w')(hi:pre.length+k=i)(hv:v=(z:Int)):
  Wr w g (pre ++ ((zs ++ [z]) ++ A.drop (k+1)) ++ post) (w'.setCell ⟨g,i,none⟩ (.int .u32 v)):=by
 subst hi
 subst hv
 exact Wr.next h hz hk hw z
theorem yga (pre zs A post:List Nat)(k:Nat)(hz:zs.length=k)(hk:k < A.length):(pre ++ (zs ++ A.drop k) ++ post).getD (pre.length+k) 0=A.getD k 0:=by
 subst hz
 rw [yeu A _ hk]
 simp [zhc,zhr,zhq]
theorem yme {A Z:List Nat}{V k cy:Nat}(hz1:Z.length=k)(hk:k<=A.length)(h:cy=0\/k=A.length)(hz3:val Z+4294967296 ^ k*cy=val (A.take k)+V):
  val (Z ++ A.drop k)+4294967296 ^ A.length*cy=val A+V:=by
 rw [yb7,hz1]
 have:=yck A k hk
 rcases h with rfl | rfl
 ·omega
 ·simp [val] at *; omega
theorem yrv (w:World)(g:Nat)(pre A post:List Nat)(n c:Nat)(q:Option Addr)(m d:Nat)(B:List Nat)(hn:A.length=n)(hnc:n<=c)(hcm:c<=maxLen)
  (hg:Blk w g (pre ++ A ++ post)) (hA:Ok A) (hB:Sl w q m d B) (hq:Apart q B g) (hmn:m<=n):
  Calls Tryz.prog 110 #[.slice (some ⟨g,pre.length,none⟩) n c,.slice q m d] w fun e w' =>
   ∃ (Z:List Nat) (cy:Nat),Z.length=n/\Ok Z/\cy<=1/\val Z+4294967296 ^ n*cy=val A+val B/\e=.returned (.int .u32 cy)/\Wr w g (pre ++ Z ++ post) w':=by
 obtain ⟨o,ho⟩:∃ o,pre.length=o:=⟨_,rfl⟩
 rw [ho]
 have HN:=hid hn
 have HG:=hid hg
 have HA:=hid hA
 have HB:=hid hB
 have HQ:=hid hq
 have HO:=hid ho
 unfold maxLen at hcm
 have hdm:=hB.max
 unfold maxLen at hdm
 have hmd:=hB.cap
 clear hn hg hA hB hq ho
 go_enter Tryz.func110,Tryz.ntmps110
 go_wp2
 go_loopw [5,10] (fun cv i wr=>∃ (k cy:Nat),k<=m/\i=.int .i64 k/\cy<=1/\cv=.int .u64 cy/\∃ Z:List Nat,Hid (Z.length=k/\Ok Z/\val Z+4294967296 ^ k*cy=val (A.take k)+val (B.take k)/\Wr w g (pre ++ (Z ++ A.drop k) ++ post) wr)) (fun _ i _=>m-(intOf i).toNat)
 case atStart=>exact ⟨0,0,zhs _,rfl,by omega,rfl,[],rfl,Ok.nil,rfl,by simpa using Wr.refl HG.out⟩
 case round =>
  obtain ⟨k,cy,hk,rfl,hcy,rfl,Z,HZ⟩:=hrel
  by_cases hlt:k < m
  ·have hBl:=HB.out.lie
   obtain ⟨b,o',rfl,hcell'⟩:=(HZ.out.2.2.2.limbs hBl HQ.out) k (by have:=HB.out.len; omega)
   have hbg:b≠g:=HQ.out b o' rfl (by intro e; have:=HB.out.len; rw [e] at this; simp at this; omega)
   have hcell:=(Wr.blk HG.out HZ.out.2.2.2).cell (o+k) (by have:=HZ.out.1; have:=HN.out; have:=HO.out; simp; omega)
   have hfz:=(Wr.blk HG.out HZ.out.2.2.2).frozen (o+k)
   rw [← HO.out,yga pre Z A post k HZ.out.1 (by rw [HN.out]; omega),HO.out] at hcell
   obtain ⟨x,hx⟩:∃ x,A.getD k 0=x:=⟨_,rfl⟩
   obtain ⟨y,hy⟩:∃ y,B.getD k 0=y:=⟨_,rfl⟩
   rw [hx] at hcell
   rw [hy] at hcell'
   have hxb:x < 4294967296:=by rw [← hx]; exact HA.out.getD k
   have hyb:y < 4294967296:=by rw [← hy]; exact HB.out.ok.getD k
   have HX:=hid hx
   have HY:=hid hy
   clear hx hy hBl
   go_wp2_with fail
   go_quiet (fail)
   go_wp2
   go_roundw
   case rel =>
    obtain ⟨hz1,hz2,hz3,hz4⟩:=HZ.out
    refine ⟨k+1,(cy+(x+y)) / 4294967296,by omega,by go_num,by omega,by go_num,Z ++ [(cy+(x+y)) % 4294967296],by simp [hz1],hz2.snoc (by omega),?_,?_⟩
    ·rw [yci,hz1,yau A k (by rw [HN.out]; omega),yau B k (by rw [HB.out.len]; omega),zhu,HX.out,HY.out]
     have:=yht (t:=x+y) (z:=(cy+(x+y)) % 4294967296) (cy':=(cy+(x+y)) / 4294967296) hz3 (by omega)
     rw [this,zht]
     omega
    ·exact Wr.next' HG.out hz1 (by rw [HN.out]; omega) (hz4.drewN nq) (by rw [HO.out]) (by omega)
   case measure=>simp [intOf]; omega
  ·have hkm:k=m:=by omega
   have HM:=hid hkm
   go_wp2
   go_loopw [5,7] (fun cv i wr=>∃ (k cy:Nat),m<=k/\k<=n/\i=.int .i64 k/\cy<=1/\cv=.int .u64 cy/\∃ Z:List Nat,Hid (Z.length=k/\Ok Z/\val Z+4294967296 ^ k*cy=val (A.take k)+val B/\Wr w g (pre ++ (Z ++ A.drop k) ++ post) wr)) (fun _ i _=>n-(intOf i).toNat)
   case atStart =>
    obtain ⟨hz1,hz2,hz3,hz4⟩:=HZ.out
    refine ⟨m,cy,zha _,hmn,rfl,hcy,rfl,Z,?_,hz2,?_,?_⟩
    ·rw [hz1,HM.out]
    ·rw [HM.out,zhg (l:=B) (by rw [HB.out.len]; omega)] at hz3; exact hz3
    ·rw [HM.out] at hz4; exact hz4
   case round =>
    clear HZ
    obtain ⟨k,cy,hk1,hk2,rfl,hcy,rfl,Z,HZ⟩:=hrel
    by_cases hc0:cy=0
    ·subst hc0
     go_wp2
     go_ret
     obtain ⟨hz1,hz2,hz3,hz4⟩:=HZ.out
     refine ⟨Z ++ A.drop k,0,by simp [hz1,HN.out]; omega,hz2.append (HA.out.drop k),by omega,?_,rfl,hz4⟩
     have:=yme hz1 (by rw [HN.out]; exact hk2) (Or.inl rfl) hz3
     rwa [HN.out] at this
    ·have hc1:cy=1:=by omega
     subst hc1
     by_cases hlt:k < n
     ·have hcell:=(Wr.blk HG.out HZ.out.2.2.2).cell (o+k) (by have:=HZ.out.1; have:=HN.out; have:=HO.out; simp; omega)
      have hfz:=(Wr.blk HG.out HZ.out.2.2.2).frozen (o+k)
      rw [← HO.out,yga pre Z A post k HZ.out.1 (by rw [HN.out]; omega),HO.out] at hcell
      obtain ⟨x,hx⟩:∃ x,A.getD k 0=x:=⟨_,rfl⟩
      rw [hx] at hcell
      have hxb:x < 4294967296:=by rw [← hx]; exact HA.out.getD k
      have HX:=hid hx
      clear hx
      go_wp2
      go_roundw
      case rel =>
       obtain ⟨hz1,hz2,hz3,hz4⟩:=HZ.out
       refine ⟨k+1,(1+x) / 4294967296,by omega,by omega,by go_num,by omega,by go_num,Z ++ [(1+x) % 4294967296],by simp [hz1],hz2.snoc (by omega),?_,?_⟩
       ·rw [yci,hz1,yau A k (by rw [HN.out]; omega),zhu,HX.out]
        have:=yht (t:=x) (z:=(1+x) % 4294967296) (cy':=(1+x) / 4294967296) hz3 (by omega)
        rw [this]
        omega
       ·exact Wr.next' HG.out hz1 (by rw [HN.out]; omega) hz4 (by rw [HO.out]) (by omega)
      case measure=>simp [intOf]; omega
     ·go_wp2
      go_ret
      obtain ⟨hz1,hz2,hz3,hz4⟩:=HZ.out
      refine ⟨Z ++ A.drop k,1,by simp [hz1,HN.out]; omega,hz2.append (HA.out.drop k),by omega,?_,rfl,hz4⟩
      have:=yme hz1 (by rw [HN.out]; exact hk2) (Or.inr (by rw [HN.out]; omega)) hz3
      rwa [HN.out] at this
theorem yru (w:World)(g:Nat)(A:List Nat)(n c:Nat)(q:Option Addr)(m d:Nat)(B:List Nat)(hn:A.length=n)(hnc:n<=c)(hcm:c<=maxLen)
  (hg:Blk w g A) (hA:Ok A) (hB:Sl w q m d B) (hq:Apart q B g) (hmn:m<=n):
  Calls Tryz.prog 110 #[.slice (some ⟨g,0,none⟩) n c,.slice q m d] w fun e w' =>
   ∃ (Z:List Nat) (cy:Nat),Z.length=n/\Ok Z/\cy<=1/\val Z+4294967296 ^ n*cy=val A+val B/\e=.returned (.int .u32 cy)/\Wr w g Z w':=by
 refine (yrv w g [] A [] n c q m d B hn hnc hcm (by simpa using hg) hA hB hq hmn).mono ?_
 rintro e w' ⟨Z,cy,h1,h2,h3,h4,h5,h6⟩
 exact ⟨Z,cy,h1,h2,h3,h4,h5,by simpa using h6⟩
theorem ynz (P VZ VA VB cy:Nat)(h:VZ+P*4294967296*cy=VA+VB)(a1:VA < P)(a2:VB < P):VZ=VA+VB:=by
 have hc:cy=0:=by
  apply Classical.byContradiction
  intro hne
  have h2:P*2<=P*(4294967296*cy):=zhm _ (by omega)
  rw [← zhk] at h2
  omega
 rw [hc,zin] at h
 exact h
theorem yny {A B:List Nat}{k cy:Nat}{Z:List Nat}(hA:Ok A)(hB:Ok B)(hAk:A.length=k)(hBk:B.length<=k)(h:val Z+4294967296 ^ (k+1)*cy=val (A ++ [0])+val B):val Z=val A+val B:=by
 have e:val (A ++ [0])=val A:=by rw [yci,zin,zif]
 rw [e,zhu] at h
 have a1:=yc1 hA
 rw [hAk] at a1
 exact ynz _ _ _ _ _ h a1 (zhe (yc1 hB) (zhp (Nat.zero_lt_succ _) hBk))
theorem yrw {w w' w'':World}{A B Z:List Nat}{k cy n:Nat}(hA:Ok A)(hB:Ok B)(hAk:A.length=k)(hBk:B.length<=k)(hz:Ok Z)(hl:Z.length=k+1)(hk:k<=70368744177663)(hn:val A+val B=n)
  (h:val Z+4294967296 ^ (k+1)*cy=val (A ++ [0])+val B) (hw:w'=w.alloc (.cells (U (A ++ [0])).toArray 64)) (hwr:Wr w' w.heap.size Z w''):Res w w'' (some ⟨w.heap.size,0,none⟩) (k+1) n:=by
 have hb:Below w.heap.size w w':=by rw [hw]; exact (Below.refl _ _).alloc (zha _) _
 have hblk:Blk w' w.heap.size (A ++ [0]):=by rw [hw]; exact heap_alloc_last _ _
 exact Res.row (hwr.below hb (zha _)) (Wr.blk hblk hwr) hz ((yny hA hB hAk hBk h).trans hn) (zha _) hl (by unfold maxLen; omega)
theorem yvr (w:World)(p q:Option Addr)(n c m d:Nat)(xs ys:List Nat)(h:Sl w p n c xs)(h':Sl w q m d ys)(hs:n<=70368744177663)(hs':m<=70368744177663):
  Calls Tryz.prog 86 #[.slice p n c,.slice q m d] w fun e w'=>∃ r cr,e=.returned (.slice r (digs (val xs+val ys)).length cr)/\Res w w' r cr (val xs+val ys):=by
 obtain ⟨la,hla⟩:∃ la,(digs (val xs)).length=la:=⟨_,rfl⟩
 obtain ⟨lb,hlb⟩:∃ lb,(digs (val ys)).length=lb:=⟨_,rfl⟩
 have hlan:la<=n:=by rw [← hla]; exact h.dl
 have hlbm:lb<=m:=by rw [← hlb]; exact h'.dl
 have T1:=hid (ycz w p n c la xs hla h)
 have T2:=hid (ycz w q m d lb ys hlb h')
 have HX:=hid h.digs
 have HY:=hid h'.digs
 rw [hla] at HX
 rw [hlb] at HY
 have hc:=h.cap
 have hm:=h.max
 have hc':=h'.cap
 have hm':=h'.max
 unfold maxLen at hm hm'
 clear h h'
 by_cases hlt:la < lb
 ·have M:∀ W:World,(Instr.makeSlice 22 (.int .i64 ((lb:Int)+1)) (.int .i64 ((lb:Int)+1))).run Tryz.prog W=.ok (.slice (some ⟨W.heap.size,0,none⟩) (lb+1) (lb+1)) (W.alloc (.cells (U (List.replicate (lb+1) 0)).toArray 64)):=by
   have:=ydk (lb+1) (by omega)
   simpa using this
  have hcp:∀ ty,(Builtin.copy_ #[22,22] ty #[.slice (some ⟨w.heap.size,0,none⟩) (lb+1) (lb+1),.slice q lb d]).run Tryz.prog (w.alloc (.cells (U (List.replicate (lb+1) 0)).toArray 64))=.ok (goInt lb) (w.alloc (.cells (U (digs (val ys) ++ [0])).toArray 64)):=by
   intro ty
   rw [yig _ ty _ lb (lb+1) d q (digs (val ys)) (List.replicate (lb+1) 0) HY.out.len (by simp) (by omega) (HY.out.lie.below ((Below.refl _ _).alloc (zha _) _)) (heap_alloc_last _ _) HY.out.nil]
   rw [World.setRow_alloc_new]
   simp
  go_enter Tryz.func86,Tryz.ntmps86
  go_wp2_with fail
  refine T1.out.mono ?_
  rintro e w' ⟨rfl,rfl⟩
  go_wp2_with fail
  refine T2.out.mono ?_
  rintro e w' ⟨rfl,rfl⟩
  have hal:Below w'.heap.size w' (w'.alloc (.cells (U (digs (val ys) ++ [0])).toArray 64)):=(Below.refl _ _).alloc (zha _) _
  have A1:=hid (yru (w'.alloc (.cells (U (digs (val ys) ++ [0])).toArray 64)) w'.heap.size (digs (val ys) ++ [0]) (lb+1) (lb+1) p la c (digs (val xs)) (by simp [HY.out.len]) (zha _) (by unfold maxLen; omega)
   (heap_alloc_last _ _) ((ybo _).snoc (by omega)) (HX.out.below hal) (HX.out.apart (zha _)) (by omega))
  clear hal
  go_wp2_with fail
  refine A1.out.mono ?_
  rintro e w'' ⟨Z,cy,z1,z2,z3,z4,rfl,z5⟩
  have R:=hid (yrw (n:=val xs+val ys) (ybo (val ys)) (ybo (val xs)) HY.out.len (by rw [HX.out.len]; omega) z2 z1 (by omega) (by rw [yaf,yaf,zjt]) z4 rfl z5)
  have T3:=hid (ycz w'' (some ⟨w'.heap.size,0,none⟩) (lb+1) (lb+1) (digs (val Z)).length Z rfl ⟨z1,zha _,by unfold maxLen; omega,(fun e=>by cases e),z2,(Wr.blk (heap_alloc_last _ _) z5).limbs⟩)
  have hv:val Z=val xs+val ys:=by
   have:=yny (ybo (val ys)) (ybo (val xs)) HY.out.len (by rw [HX.out.len]; omega) z4
   rwa [yaf,yaf,zjt] at this
  rw [hv] at T3
  clear hv z1 z2 z3 z4 z5 A1 hcp M
  go_wp2_with fail
  refine T3.out.mono ?_
  rintro e w3 ⟨rfl,rfl⟩
  go_wp2
  go_ret
  exact ⟨_,_,rfl,R.out⟩
 ·have M:∀ W:World,(Instr.makeSlice 22 (.int .i64 ((la:Int)+1)) (.int .i64 ((la:Int)+1))).run Tryz.prog W=.ok (.slice (some ⟨W.heap.size,0,none⟩) (la+1) (la+1)) (W.alloc (.cells (U (List.replicate (la+1) 0)).toArray 64)):=by
   have:=ydk (la+1) (by omega)
   simpa using this
  have hcp:∀ ty,(Builtin.copy_ #[22,22] ty #[.slice (some ⟨w.heap.size,0,none⟩) (la+1) (la+1),.slice p la c]).run Tryz.prog (w.alloc (.cells (U (List.replicate (la+1) 0)).toArray 64))=.ok (goInt la) (w.alloc (.cells (U (digs (val xs) ++ [0])).toArray 64)):=by
   intro ty
   rw [yig _ ty _ la (la+1) c p (digs (val xs)) (List.replicate (la+1) 0) HX.out.len (by simp) (by omega) (HX.out.lie.below ((Below.refl _ _).alloc (zha _) _)) (heap_alloc_last _ _) HX.out.nil]
   rw [World.setRow_alloc_new]
   simp
  go_enter Tryz.func86,Tryz.ntmps86
  go_wp2_with fail
  refine T1.out.mono ?_
  rintro e w' ⟨rfl,rfl⟩
  go_wp2_with fail
  refine T2.out.mono ?_
  rintro e w' ⟨rfl,rfl⟩
  have hal:Below w'.heap.size w' (w'.alloc (.cells (U (digs (val xs) ++ [0])).toArray 64)):=(Below.refl _ _).alloc (zha _) _
  have A1:=hid (yru (w'.alloc (.cells (U (digs (val xs) ++ [0])).toArray 64)) w'.heap.size (digs (val xs) ++ [0]) (la+1) (la+1) q lb d (digs (val ys)) (by simp [HX.out.len]) (zha _) (by unfold maxLen; omega)
   (heap_alloc_last _ _) ((ybo _).snoc (by omega)) (HY.out.below hal) (HY.out.apart (zha _)) (by omega))
  clear hal
  go_wp2_with fail
  refine A1.out.mono ?_
  rintro e w'' ⟨Z,cy,z1,z2,z3,z4,rfl,z5⟩
  have R:=hid (yrw (n:=val xs+val ys) (ybo (val xs)) (ybo (val ys)) HX.out.len (by rw [HY.out.len]; omega) z2 z1 (by omega) (by rw [yaf,yaf]) z4 rfl z5)
  have T3:=hid (ycz w'' (some ⟨w'.heap.size,0,none⟩) (la+1) (la+1) (digs (val Z)).length Z rfl ⟨z1,zha _,by unfold maxLen; omega,(fun e=>by cases e),z2,(Wr.blk (heap_alloc_last _ _) z5).limbs⟩)
  have hv:val Z=val xs+val ys:=by
   have:=yny (ybo (val xs)) (ybo (val ys)) HX.out.len (by rw [HY.out.len]; omega) z4
   rwa [yaf,yaf] at this
  rw [hv] at T3
  clear hv z1 z2 z3 z4 z5 A1 hcp M
  go_wp2_with fail
  refine T3.out.mono ?_
  rintro e w3 ⟨rfl,rfl⟩
  go_wp2
  go_ret
  exact ⟨_,_,rfl,R.out⟩
theorem yis (x y cy:Nat)(hx:x < 4294967296)(hy:y < 4294967296)(hc:cy<=1):
  ∃ z cy':Nat,z < 4294967296/\cy'<=1/\IntKind.u64.wrap (IntKind.u64.wrap ((x:Int)-y)-cy) % 4294967296=z/\IntKind.u64.wrap (IntKind.u64.wrap ((x:Int)-y)-cy) / 9223372036854775808=cy'/\z+(y+cy)=x+4294967296*cy':=by
 simp only [IntKind.wrap_u64]
 by_cases h:x < y+cy
 ·exact ⟨x+4294967296-y-cy,1,by omega,by omega,by omega,by omega,by omega⟩
 ·exact ⟨x-y-cy,0,by omega,by omega,by omega,by omega,by omega⟩
theorem yu5 (x cy:Nat)(hx:x < 4294967296)(hc:cy<=1):
  ∃ z cy':Nat,z < 4294967296/\cy'<=1/\IntKind.u64.wrap ((x:Int)-cy) % 4294967296=z/\IntKind.u64.wrap ((x:Int)-cy) / 9223372036854775808=cy'/\z+(0+cy)=x+4294967296*cy':=by
 simp only [IntKind.wrap_u64]
 by_cases h:x < cy
 ·exact ⟨x+4294967296-cy,1,by omega,by omega,by omega,by omega,by omega⟩
 ·exact ⟨x-cy,0,by omega,by omega,by omega,by omega,by omega⟩
theorem yu4 {A Z:List Nat}{V k cy:Nat}(hA:Ok A)(hZ:Ok Z)(hz1:Z.length=k)(hk:k<=A.length)(hV:V<=val A)(h:cy=0\/k=A.length)(hz3:val Z+V=val (A.take k)+4294967296 ^ k*cy):
  val (Z ++ A.drop k)+V=val A:=by
 have hc:cy=0:=by
  rcases h with h | h
  ·exact h
  apply Classical.byContradiction
  intro hne
  have h1:=yc1 hZ
  rw [hz1] at h1
  have h2:4294967296 ^ k*1<=4294967296 ^ k*cy:=zhm _ (by omega)
  rw [h,List.take_length,← h] at hz3
  have h3:A.length=k:=h.symm
  omega
 rw [hc,zin] at hz3
 rw [yb7,hz1]
 have:=yck A k hk
 omega
theorem ynr (w:World)(g:Nat)(A:List Nat)(n c:Nat)(q:Option Addr)(m d:Nat)(B:List Nat)(hn:A.length=n)(hnc:n<=c)(hcm:c<=maxLen)(post:List Nat)
  (hg:Blk w g (A ++ post)) (hA:Ok A) (hB:Sl w q m d B) (hq:Apart q B g) (hmn:m<=n) (hle:val B<=val A):
  Calls Tryz.prog 112 #[.slice (some ⟨g,0,none⟩) n c,.slice q m d] w fun e w' =>
   ∃ (Z:List Nat),Z.length=n/\Ok Z/\val Z+val B=val A/\e=.returned (.tuple #[])/\Wr w g (Z ++ post) w':=by
 have HN:=hid hn
 have HG:=hid hg
 have HA:=hid hA
 have HB:=hid hB
 have HQ:=hid hq
 have HL:=hid hle
 unfold maxLen at hcm
 have hdm:=hB.max
 unfold maxLen at hdm
 have hmd:=hB.cap
 clear hn hg hA hB hq hle
 go_enter Tryz.func112,Tryz.ntmps112
 go_wp2
 go_loopw [4,11] (fun cv i wr=>∃ (k cy:Nat),k<=m/\i=.int .i64 k/\cy<=1/\cv=.int .u64 cy/\∃ Z:List Nat,Hid (Z.length=k/\Ok Z/\val Z+val (B.take k)=val (A.take k)+4294967296 ^ k*cy/\Wr w g ([] ++ (Z ++ A.drop k) ++ post) wr)) (fun _ i _=>m-(intOf i).toNat)
 case atStart=>exact ⟨0,0,zhs _,rfl,by omega,rfl,[],rfl,Ok.nil,rfl,by simpa using Wr.refl HG.out⟩
 case round =>
  obtain ⟨k,cy,hk,rfl,hcy,rfl,Z,HZ⟩:=hrel
  by_cases hlt:k < m
  ·have hBl:=HB.out.lie
   obtain ⟨b,o',rfl,hcell'⟩:=(HZ.out.2.2.2.limbs hBl HQ.out) k (by have:=HB.out.len; omega)
   have hcell:=(Wr.blk HG.out HZ.out.2.2.2).cell k (by have:=HZ.out.1; have:=HN.out; simp; omega)
   have hfz:=(Wr.blk HG.out HZ.out.2.2.2).frozen k
   have hmg:=yga [] Z A post k HZ.out.1 (by rw [HN.out]; omega)
   rw [zjw,zig] at hmg
   rw [hmg] at hcell
   clear hmg
   obtain ⟨x,hx⟩:∃ x,A.getD k 0=x:=⟨_,rfl⟩
   obtain ⟨y,hy⟩:∃ y,B.getD k 0=y:=⟨_,rfl⟩
   rw [hx] at hcell
   rw [hy] at hcell'
   have hxb:x < 4294967296:=by rw [← hx]; exact HA.out.getD k
   have hyb:y < 4294967296:=by rw [← hy]; exact HB.out.ok.getD k
   have HX:=hid hx
   have HY:=hid hy
   clear hx hy hBl
   go_wp2_with fail
   go_quiet (fail)
   go_wp2
   go_roundw
   case rel =>
    obtain ⟨hz1,hz2,hz3,hz4⟩:=HZ.out
    obtain ⟨z,cy',b1,b2,e1,e2,e3⟩:=yis x y cy hxb hyb hcy
    refine ⟨k+1,cy',by omega,by go_num,b2,by rw [e2],Z ++ [z],by simp [hz1],hz2.snoc b1,?_,?_⟩
    ·rw [yci,hz1,yau A k (by rw [HN.out]; omega),yau B k (by rw [HB.out.len]; omega),zhu,HX.out,HY.out]
     exact yfp hz3 e3
    ·exact Wr.next' HG.out hz1 (by rw [HN.out]; omega) (hz4.drewN nq) (by simp) e1
   case measure=>simp [intOf]; omega
  ·have hkm:k=m:=by omega
   have HM:=hid hkm
   go_wp2
   go_loopw [4,7] (fun cv i wr=>∃ (k cy:Nat),m<=k/\k<=n/\i=.int .i64 k/\cy<=1/\cv=.int .u64 cy/\∃ Z:List Nat,Hid (Z.length=k/\Ok Z/\val Z+val B=val (A.take k)+4294967296 ^ k*cy/\Wr w g ([] ++ (Z ++ A.drop k) ++ post) wr)) (fun _ i _=>n-(intOf i).toNat)
   case atStart =>
    obtain ⟨hz1,hz2,hz3,hz4⟩:=HZ.out
    refine ⟨m,cy,zha _,hmn,rfl,hcy,rfl,Z,?_,hz2,?_,?_⟩
    ·rw [hz1,HM.out]
    ·rw [HM.out,zhg (l:=B) (by rw [HB.out.len]; omega)] at hz3; exact hz3
    ·rw [HM.out] at hz4; exact hz4
   case round =>
    clear HZ
    obtain ⟨k,cy,hk1,hk2,rfl,hcy,rfl,Z,HZ⟩:=hrel
    by_cases hc0:cy=0
    ·subst hc0
     go_wp2
     go_end0
     obtain ⟨hz1,hz2,hz3,hz4⟩:=HZ.out
     exact ⟨Z ++ A.drop k,by simp [hz1,HN.out]; omega,hz2.append (HA.out.drop k),yu4 HA.out hz2 hz1 (by rw [HN.out]; exact hk2) HL.out (Or.inl rfl) hz3,rfl,hz4⟩
    ·have hc1:cy=1:=by omega
     subst hc1
     by_cases hlt:k < n
     ·have hcell:=(Wr.blk HG.out HZ.out.2.2.2).cell k (by have:=HZ.out.1; have:=HN.out; simp; omega)
      have hfz:=(Wr.blk HG.out HZ.out.2.2.2).frozen k
      have hmg:=yga [] Z A post k HZ.out.1 (by rw [HN.out]; omega)
      rw [zjw,zig] at hmg
      rw [hmg] at hcell
      clear hmg
      obtain ⟨x,hx⟩:∃ x,A.getD k 0=x:=⟨_,rfl⟩
      rw [hx] at hcell
      have hxb:x < 4294967296:=by rw [← hx]; exact HA.out.getD k
      have HX:=hid hx
      clear hx
      go_wp2
      go_roundw
      case rel =>
       obtain ⟨hz1,hz2,hz3,hz4⟩:=HZ.out
       obtain ⟨z,cy',b1,b2,e1,e2,e3⟩:=yu5 x 1 hxb hcy
       refine ⟨k+1,cy',by omega,by omega,by go_num,b2,by rw [← e2]; rfl,Z ++ [z],by simp [hz1],hz2.snoc b1,?_,?_⟩
       ·rw [yci,hz1,yau A k (by rw [HN.out]; omega),zhu,HX.out]
        have:=yfp hz3 e3
        rw [zin,zif] at this
        exact this
       ·exact Wr.next' HG.out hz1 (by rw [HN.out]; omega) hz4 (by simp) e1
      case measure=>simp [intOf]; omega
     ·go_wp2
      go_end0
      obtain ⟨hz1,hz2,hz3,hz4⟩:=HZ.out
      exact ⟨Z ++ A.drop k,by simp [hz1,HN.out]; omega,hz2.append (HA.out.drop k),yu4 HA.out hz2 hz1 (by rw [HN.out]; exact hk2) HL.out (Or.inr (by rw [HN.out]; omega)) hz3,rfl,hz4⟩
theorem zbk (w:World)(p q:Option Addr)(n c m d:Nat)(xs ys:List Nat)(h:Sl w p n c xs)(h':Sl w q m d ys)(hs:n<=70368744177664)(hle:val ys<=val xs):
  Calls Tryz.prog 87 #[.slice p n c,.slice q m d] w fun e w'=>∃ r cr,e=.returned (.tuple #[.slice r (digs (val xs-val ys)).length cr,.int .i64 0])/\Res w w' r cr (val xs-val ys):=by
 have C:=hid (yqw w p q n c m d xs ys h h')
 have hcmp:cmpN (val xs) (val ys)=0\/cmpN (val xs) (val ys)=1:=by
  unfold cmpN
  by_cases e:val xs=val ys
  ·simp [e]
  ·have h1:¬ val xs < val ys:=by omega
   simp [h1,e]
 obtain ⟨cv,hcv⟩:∃ cv,cmpN (val xs) (val ys)=cv:=⟨_,rfl⟩
 rw [hcv] at C hcmp
 have hcv0:0<=cv:=by omega
 obtain ⟨la,hla⟩:∃ la,(digs (val xs)).length=la:=⟨_,rfl⟩
 obtain ⟨lb,hlb⟩:∃ lb,(digs (val ys)).length=lb:=⟨_,rfl⟩
 have hll:lb<=la:=by rw [← hla,← hlb]; exact yag hle
 have hlan:la<=n:=by rw [← hla]; exact h.dl
 have HH:=hid h
 have HH':=hid h'
 have HLA:=hid hla
 have HLB:=hid hlb
 have HLE:=hid hle
 have hc:=h.cap
 have hm:=h.max
 have hc':=h'.cap
 have hm':=h'.max
 unfold maxLen at hm hm'
 clear h h' hla hlb hcv hcmp hle
 go_enter Tryz.func87,Tryz.ntmps87
 go_wp2_with fail
 refine C.out.mono ?_
 rintro e w' ⟨rfl,nq,rfl⟩
 have hb1:Below w.heap.size w (w.drewN nq):=ybq (Below.refl _ _) nq
 have N1:=hid (ypp (w.drewN nq) p n c xs (HH.out.below hb1) hs)
 rw [HLA.out] at N1
 generalize hW:w.drewN nq=W at *
 go_wp2_with fail
 refine N1.out.mono ?_
 rintro e w' ⟨rfl,rfl⟩
 have hal:Below W.heap.size W (W.alloc (.cells (U (digs (val xs))).toArray 64)):=(Below.refl _ _).alloc (zha _) _
 have HY1:=hid ((HH'.out.below hb1).below hal)
 have T:=hid (ycz (W.alloc (.cells (U (digs (val xs))).toArray 64)) q m d lb ys HLB.out HY1.out)
 have S1:=hid (ynr (W.alloc (.cells (U (digs (val xs))).toArray 64)) W.heap.size (digs (val xs)) la la q lb d (digs (val ys)) HLA.out (zha _) (by unfold maxLen; omega) []
  (by rw [zhz]; exact heap_alloc_last _ _) (ybo _) (by have:=HY1.out.digs; rw [HLB.out] at this; exact this) ((HH'.out.below hb1).digs.apart (zha _)) hll (by rw [yaf,yaf]; exact HLE.out))
 have HAL:=hid hal
 have HB1:=hid hb1
 have HWW:=hid hW
 clear hal hb1 hW
 go_wp2_with fail
 refine T.out.mono ?_
 rintro e w' ⟨rfl,rfl⟩
 go_wp2_with fail
 refine S1.out.mono ?_
 rintro e w2 ⟨Z,z1,z2,z3,rfl,z4⟩
 rw [yaf,yaf] at z3
 rw [zhz] at z4
 have hZ:val Z=val xs-val ys:=by omega
 have R:=hid (Res.row (w:=W) (w':=w2) (z4.below HAL.out (zha _)) (Wr.blk (heap_alloc_last _ _) z4) z2 hZ (zha _) z1 (by unfold maxLen; omega))
 have T3:=hid (ycz w2 (some ⟨W.heap.size,0,none⟩) la la (digs (val xs-val ys)).length Z (by rw [hZ]) ⟨z1,zha _,by unfold maxLen; omega,(fun e=>by cases e),z2,(Wr.blk (heap_alloc_last _ _) z4).limbs⟩)
 clear z1 z2 z3 z4 hZ
 go_wp2_with fail
 refine T3.out.mono ?_
 rintro e w3 ⟨rfl,rfl⟩
 go_wp2
 go_ret2
 refine ⟨_,_,rfl,?_⟩
 exact R.out.since HB1.out
theorem yqn (w:World)(g:Nat)(pre A post:List Nat)(n c:Nat)(q:Option Addr)(m d:Nat)(B:List Nat)(f:Nat)(hn:A.length=n)(hnc:n<=c)(hcm:c<=maxLen)
  (hg:Blk w g (pre ++ A ++ post)) (hA:Ok A) (hB:Sl w q m d B) (hq:Apart q B g) (hmn:m=n) (hf:f < 4294967296):
  Calls Tryz.prog 118 #[.slice (some ⟨g,pre.length,none⟩) n c,.slice q m d,.int .u32 f] w fun e w' =>
   ∃ (Z:List Nat) (cy:Nat),Z.length=n/\Ok Z/\cy < 4294967296/\val Z+4294967296 ^ n*cy=val A+val B*f/\e=.returned (.int .u32 cy)/\Wr w g (pre ++ Z ++ post) w':=by
 subst hmn
 obtain ⟨o,ho⟩:∃ o,pre.length=o:=⟨_,rfl⟩
 rw [ho]
 have HN:=hid hn
 have HG:=hid hg
 have HA:=hid hA
 have HB:=hid hB
 have HQ:=hid hq
 have HO:=hid ho
 unfold maxLen at hcm
 have hdm:=hB.max
 unfold maxLen at hdm
 have hmd:=hB.cap
 clear hn hg hA hB hq ho
 go_enter Tryz.func118,Tryz.ntmps118
 go_wp2
 go_loopw [7,11] (fun cv i wr=>∃ (k cy:Nat),k<=m/\i=.int .i64 k/\cy < 4294967296/\cv=.int .u64 cy/\∃ Z:List Nat,Hid (Z.length=k/\Ok Z/\val Z+4294967296 ^ k*cy=val (A.take k)+val (B.take k)*f/\Wr w g (pre ++ (Z ++ A.drop k) ++ post) wr)) (fun _ i _=>m-(intOf i).toNat)
 case atStart=>exact ⟨0,0,zhs _,rfl,by omega,rfl,[],rfl,Ok.nil,by simp [val],by simpa using Wr.refl HG.out⟩
 case round =>
  obtain ⟨k,cy,hk,rfl,hcy,rfl,Z,HZ⟩:=hrel
  by_cases hlt:k < m
  ·have hBl:=HB.out.lie
   obtain ⟨b,o',rfl,hcell'⟩:=(HZ.out.2.2.2.limbs hBl HQ.out) k (by have:=HB.out.len; omega)
   have hcell:=(Wr.blk HG.out HZ.out.2.2.2).cell (o+k) (by have:=HZ.out.1; have:=HN.out; have:=HO.out; simp; omega)
   have hfz:=(Wr.blk HG.out HZ.out.2.2.2).frozen (o+k)
   rw [← HO.out,yga pre Z A post k HZ.out.1 (by rw [HN.out]; omega),HO.out] at hcell
   obtain ⟨x,hx⟩:∃ x,A.getD k 0=x:=⟨_,rfl⟩
   obtain ⟨y,hy⟩:∃ y,B.getD k 0=y:=⟨_,rfl⟩
   rw [hx] at hcell
   rw [hy] at hcell'
   have hxb:x < 4294967296:=by rw [← hx]; exact HA.out.getD k
   have hyb:y < 4294967296:=by rw [← hy]; exact HB.out.ok.getD k
   have hyf:y*f<=18446744065119617025:=by
    have h1:y*f<=4294967295*4294967295:=ziz (by omega) (by omega)
    omega
   have hyf':(y:Int)*(f:Int)<=18446744065119617025:=by rw [← zho]; omega
   have hyf0:0<=(y:Int)*(f:Int):=by rw [← zho]; omega
   have HYF:=hid hyf
   have HX:=hid hx
   have HY:=hid hy
   clear hx hy hBl hyf
   go_wp2_with fail
   go_quiet (fail)
   go_wp2
   go_roundw
   case rel =>
    obtain ⟨hz1,hz2,hz3,hz4⟩:=HZ.out
    have hyf:=HYF.out
    have e0:(cy:Int)+((x:Int)+(y:Int)*(f:Int))=((cy+(x+y*f):Nat):Int):=by simp
    rw [e0]
    refine ⟨k+1,(cy+(x+y*f)) / 4294967296,by omega,by go_num,by omega,by rw [zj1]; rfl,Z ++ [(cy+(x+y*f)) % 4294967296],by simp [hz1],hz2.snoc (by omega),?_,?_⟩
    ·rw [yci,hz1,yau A k (by rw [HN.out]; omega),yau B k (by rw [HB.out.len]; omega),zhu,HX.out,HY.out]
     exact ykv hz3 (by omega)
    ·exact Wr.next' HG.out hz1 (by rw [HN.out]; omega) (hz4.drewN nq) (by rw [HO.out]) (by rw [Int.natCast_emod]; rfl)
   case measure=>simp [intOf]; omega
  ·go_wp2
   go_ret
   obtain ⟨hz1,hz2,hz3,hz4⟩:=HZ.out
   have hkm:k=m:=by omega
   subst hkm
   rw [zhg (l:=B) (by rw [HB.out.len]; omega),zhg (l:=A) (by rw [HN.out]; omega)] at hz3
   rw [ziu (by rw [HN.out]; omega),zhz] at hz4
   exact ⟨Z,cy,hz1,hz2,hcy,hz3,rfl,hz4⟩
theorem ytf (w:World)(p q:Option Addr)(n c m d:Nat)(xs ys:List Nat)(h:Sl w p n c xs)(h':Sl w q m d ys)(h0:val xs=0\/val ys=0):
  Calls Tryz.prog 95 #[.slice p n c,.slice q m d] w fun e w'=>e=.returned (.slice none 0 0)/\w'=w:=by
 obtain ⟨la,hla⟩:∃ la,(digs (val xs)).length=la:=⟨_,rfl⟩
 obtain ⟨lb,hlb⟩:∃ lb,(digs (val ys)).length=lb:=⟨_,rfl⟩
 have T1:=hid (ycz w p n c la xs hla h)
 have T2:=hid (ycz w q m d lb ys hlb h')
 have hl0:la=0\/lb=0:=by
  rcases h0 with h0 | h0
  ·left; rw [← hla,h0]; rfl
  ·right; rw [← hlb,h0]; rfl
 clear h h' h0 hla hlb
 by_cases ha:la=0
 ·subst ha
  go_enter Tryz.func95,Tryz.ntmps95
  go_wp2_with fail
  refine T1.out.mono ?_
  rintro e w' ⟨rfl,rfl⟩
  go_wp2_with fail
  refine T2.out.mono ?_
  rintro e w' ⟨rfl,rfl⟩
  go_wp2
  go_ret
  exact ⟨rfl,rfl⟩
 ·have hb:lb=0:=by omega
  subst hb
  have ha':((la:Int) == 0)=false:=beq_eq_false_iff_ne.2 (by omega)
  go_enter Tryz.func95,Tryz.ntmps95
  go_wp2_with fail
  refine T1.out.mono ?_
  rintro e w' ⟨rfl,rfl⟩
  go_wp2_with fail
  refine T2.out.mono ?_
  rintro e w' ⟨rfl,rfl⟩
  go_wp2
  go_ret
  exact ⟨rfl,rfl⟩
theorem ywn {A B R mid':List Nat}{k lb cy a:Nat}(hk:k < A.length)(hR:R.length=k+lb)(ha:A.getD k 0=a)(hm:mid'.length=lb)
  (hv:val R=val (A.take k)*val B) (hz:val mid'+4294967296 ^ lb*cy=val (R.drop k)+val B*a):val (R.take k ++ mid' ++ [cy])=val (A.take (k+1))*val B:=by
 have e1:=yck R k (by omega)
 have e2:(R.take k).length=k:=by simp; omega
 rw [yau A k hk,ha,zhv,← hv,e1,yb7,yb7,ye9,zhx,e2,hm,zit]
 have h2:4294967296 ^ k*(val mid'+4294967296 ^ lb*cy)=4294967296 ^ k*(val (R.drop k)+val B*a):=by rw [hz]
 rw [zht,zht,← zhk] at h2
 have h3:4294967296 ^ k*a*val B=4294967296 ^ k*(val B*a):=by rw [zhk,zhd a]
 rw [h3]
 omega
theorem mul_pos (w:World)(p q:Option Addr)(n c m d:Nat)(xs ys:List Nat)(h:Sl w p n c xs)(h':Sl w q m d ys)(hs:n+m<=70368744177664)(h0:val xs≠0)(h0':val ys≠0):
  Calls Tryz.prog 95 #[.slice p n c,.slice q m d] w fun e w'=>∃ r cr,e=.returned (.slice r (digs (val xs*val ys)).length cr)/\Res w w' r cr (val xs*val ys):=by
 obtain ⟨la,hla⟩:∃ la,(digs (val xs)).length=la:=⟨_,rfl⟩
 obtain ⟨lb,hlb⟩:∃ lb,(digs (val ys)).length=lb:=⟨_,rfl⟩
 have hlan:la<=n:=by rw [← hla]; exact h.dl
 have hlbm:lb<=m:=by rw [← hlb]; exact h'.dl
 have hla0:0 < la:=by
  apply zhw; intro e; exact h0 ((ya2 _).1 (hla.trans e))
 have hlb0:0 < lb:=by
  apply zhw; intro e; exact h0' ((ya2 _).1 (hlb.trans e))
 have T1:=hid (ycz w p n c la xs hla h)
 have T2:=hid (ycz w q m d lb ys hlb h')
 have HX:=hid h.digs
 have HY:=hid h'.digs
 rw [hla] at HX
 rw [hlb] at HY
 have hc:=h.cap
 have hm:=h.max
 have hc':=h'.cap
 have hm':=h'.max
 unfold maxLen at hm hm'
 have M:∀ W:World,(Instr.makeSlice 22 (.int .i64 ((la:Int)+lb)) (.int .i64 ((la:Int)+lb))).run Tryz.prog W=.ok (.slice (some ⟨W.heap.size,0,none⟩) (la+lb) (la+lb)) (W.alloc (.cells (U (List.replicate (la+lb) 0)).toArray 64)):=by
  have:=ydk (la+lb) (by omega)
  rw [zjx] at this
  exact this
 have ha':((la:Int) == 0)=false:=beq_eq_false_iff_ne.2 (by omega)
 have hb':((lb:Int) == 0)=false:=beq_eq_false_iff_ne.2 (by omega)
 clear h h' h0 h0' hla hlb
 go_enter Tryz.func95,Tryz.ntmps95
 go_wp2_with fail
 refine T1.out.mono ?_
 rintro e w' ⟨rfl,rfl⟩
 go_wp2_with fail
 refine T2.out.mono ?_
 rintro e w' ⟨rfl,rfl⟩
 go_wp2_with fail
 obtain ⟨W,hW⟩:∃ W,W=w'.alloc (.cells (U (List.replicate (la+lb) 0)).toArray 64):=⟨_,rfl⟩
 have HB:=hid (show Below w'.heap.size w' W from by rw [hW]; exact (Below.refl _ _).alloc (zha _) _)
 have HG:=hid (show Blk W w'.heap.size (List.replicate (la+lb) 0) from by rw [hW]; exact heap_alloc_last _ _)
 rw [← hW]
 clear hW M T1 T2
 obtain ⟨g,hg⟩:∃ g,g=w'.heap.size:=⟨_,rfl⟩
 rw [← hg] at HG ⊢
 have HGE:=hid hg
 clear hg
 go_loopw [28] (fun i wr=>∃ k:Nat,k<=la/\i=.int .i64 k/\∃ R:List Nat,Hid (R.length=k+lb/\Ok R/\val R=val ((digs (val xs)).take k)*val (digs (val ys))/\Wr W g (R ++ List.replicate (la-k) 0) wr)) (fun i _=>la-(intOf i).toNat)
 case atStart =>
  refine ⟨0,zhs _,rfl,List.replicate lb 0,by simp,Ok.replicate _,by simp [val,yct],?_⟩
  have:=Wr.refl HG.out
  rw [zkc,zj4,zjt lb la]
  exact this
 case round =>
  obtain ⟨k,hk,rfl,R,HR⟩:=hrel
  by_cases hlt:k < la
  ·obtain ⟨b,o,rfl,hcell⟩:=HR.out.2.2.2.limbs (HX.out.below HB.out).lie (by have:=HX.out.apart (g:=g) (by rw [HGE.out]; exact zha _); exact this) k (by have:=HX.out.len; omega)
   obtain ⟨x,hx⟩:∃ x,(digs (val xs)).getD k 0=x:=⟨_,rfl⟩
   rw [hx] at hcell
   have hxb:x < 4294967296:=by rw [← hx]; exact (ybo _).getD k
   have HXK:=hid hx
   clear hx
   obtain ⟨r1,r2,r3,r4⟩:=HR.out
   have hblk0:=Wr.blk HG.out r4
   have e0:R.take k ++ R.drop k ++ List.replicate (la-k) 0=R ++ List.replicate (la-k) 0:=by rw [zix]
   have etk:(R.take k).length=k:=by simp; omega
   have A1:=yqn wr g (R.take k) (R.drop k) (List.replicate (la-k) 0) lb (la+lb-k) q lb d (digs (val ys)) x (by simp; omega) (by omega) (by unfold maxLen; omega) (by rw [e0]; exact hblk0) (r2.drop k)
    ⟨HY.out.len,HY.out.cap,HY.out.max,HY.out.nil,HY.out.ok,r4.limbs (HY.out.below HB.out).lie (HY.out.apart (by rw [HGE.out]; exact zha _))⟩ (HY.out.apart (by rw [HGE.out]; exact zha _)) rfl hxb
   rw [etk] at A1
   have HA1:=hid A1
   have HBK:=hid hblk0
   clear A1 r1 r2 r3 r4 hblk0 e0 etk
   go_wp2_with fail
   refine HA1.out.mono ?_
   rintro e w2 ⟨Z,cy,z1,z2,z3,z4,rfl,z5⟩
   have hbk2:Blk w2 g (R.take k ++ Z ++ List.replicate (la-k) 0):=Wr.blk HBK.out z5
   have hlen:(R.take k ++ Z ++ List.replicate (la-k) 0).length=la+lb:=by have:=HR.out.1; simp [z1]; omega
   have hc2:=hbk2.cell (k+lb) (by rw [hlen]; omega)
   have hf2:=hbk2.frozen (k+lb)
   have HZ:=hid (And.intro z1 (And.intro z2 (And.intro z3 (And.intro z4 z5))))
   obtain ⟨v0,hv0⟩:∃ v0,(R.take k ++ Z ++ List.replicate (la-k) 0).getD (k+lb) 0=v0:=⟨_,rfl⟩
   rw [hv0] at hc2
   clear z1 z2 z4 z5 hbk2 hlen hv0 HA1
   go_wp2
   go_roundw
   case rel =>
    obtain ⟨z1,z2,z3,z4,z5⟩:=HZ.out
    obtain ⟨r1,r2,r3,r4⟩:=HR.out
    refine ⟨k+1,by omega,by go_num,R.take k ++ Z ++ [cy],?_,?_,?_,?_⟩
    ·simp [z1]; omega
    ·exact ((r2.take k).append z2).snoc z3
    ·exact ywn (by rw [HX.out.len]; exact hlt) r1 HXK.out z1 r3 z4
    ·have hw:Wr W g (R.take k ++ Z ++ List.replicate (la-k) 0) w2:=r4.trans z5
     have:=Wr.next' (pre:=R.take k ++ Z) (zs:=[]) (A:=List.replicate (la-k) 0) (post:=[]) (k:=0) (i:=k+lb) (v:=(cy:Int)) (z:=cy) HG.out rfl (by simp; omega) (by simpa using hw) (by simp [z1]; omega) rfl
     simp only [zh8,zhz,List.drop_replicate,zig] at this
     rw [show la-(k+1)=la-k-1 from by omega]
     simpa [zhr] using this
   case measure=>simp [intOf]; omega
  ·obtain ⟨r1,r2,r3,r4⟩:=HR.out
   have hkl:k=la:=by omega
   subst hkl
   rw [zio,zjk,zhz] at r4
   rw [zhg (by rw [HX.out.len]; exact zha _),yaf,yaf] at r3
   have hblk:=Wr.blk HG.out r4
   have T3:=hid (ycz wr (some ⟨g,0,none⟩) (k+lb) (k+lb) (digs (val xs*val ys)).length R (by rw [r3]) ⟨r1,zha _,by unfold maxLen; omega,(fun e=>by cases e),r2,hblk.limbs⟩)
   have RR:=hid (Res.row (w:=w') (w':=wr) (r4.below HB.out (by rw [HGE.out]; exact zha _)) hblk r2 r3 (by rw [HGE.out]; exact zha _) r1 (by unfold maxLen; omega))
   clear r1 r2 r3 r4 hblk
   go_wp2_with fail
   refine T3.out.mono ?_
   rintro e w3 ⟨rfl,rfl⟩
   go_wp2
   go_ret
   exact ⟨_,_,rfl,RR.out⟩
theorem zdo (w:World)(p q:Option Addr)(n c m d:Nat)(xs ys:List Nat)(h:Sl w p n c xs)(h':Sl w q m d ys)(hs:n+m<=70368744177664):
  Calls Tryz.prog 95 #[.slice p n c,.slice q m d] w fun e w'=>∃ r cr,e=.returned (.slice r (digs (val xs*val ys)).length cr)/\Res w w' r cr (val xs*val ys):=by
 by_cases h0:val xs=0
 ·refine (ytf w p q n c m d xs ys h h' (Or.inl h0)).mono ?_
  rintro e w' ⟨rfl,rfl⟩
  rw [h0,Nat.zero_mul]
  exact ⟨none,0,rfl,Res.nil (Below.refl _ _)⟩
 by_cases h1:val ys=0
 ·refine (ytf w p q n c m d xs ys h h' (Or.inr h1)).mono ?_
  rintro e w' ⟨rfl,rfl⟩
  rw [h1,zin]
  exact ⟨none,0,rfl,Res.nil (Below.refl _ _)⟩
 exact mul_pos w p q n c m d xs ys h h' hs h0 h1
end Go.Proofs.YtdnindaohpdblaaGreat
