"""The calls on references.

A reference is a number of 64 bits. From the lowest bit on: address (32 bits), upper mark (8), lower mark (8),
power (4), seal (3), rights (9).
"""

ADDRESS_BITS = 4294967295
MARK_BITS = 255
POWER_BITS = 15
SEAL_BITS = 7
RIGHTS_BITS = 511
ALL_BITS = 18446744073709551615

ADDRESS_PLACE = 0
UPPER_PLACE = 32
LOWER_PLACE = 40
POWER_PLACE = 48
SEAL_PLACE = 52
RIGHTS_PLACE = 55

WINDOW_GRAINS = 256
MOST_GRAINS = 255
WIDEST_POWER = 15
WIDEST_GRAIN_POWER = 24

LAST_SEAL = 7
RIGHT_TO_SEAL = 256

WRAP = 18446744073709551616


def address_of(v):
    return v & ADDRESS_BITS


def upper_of(v):
    return (v >> UPPER_PLACE) & MARK_BITS


def lower_of(v):
    return (v >> LOWER_PLACE) & MARK_BITS


def power_of(v):
    return (v >> POWER_PLACE) & POWER_BITS


def seal_of(v):
    return (v >> SEAL_PLACE) & SEAL_BITS


def rights_of(v):
    return (v >> RIGHTS_PLACE) & RIGHTS_BITS


def grain_power(power):
    # The last power leaps to 24, so that 256 grains are the whole memory.
    if power == WIDEST_POWER:
        return WIDEST_GRAIN_POWER
    return power


def grain_of(power):
    return 1 << grain_power(power)


def begin_of(v):
    """Where v begins; below 0 if its address lies below the lower mark's place in the first window."""
    grain = grain_of(power_of(v))
    window = WINDOW_GRAINS * grain
    mark = lower_of(v) * grain
    # Floor division rounds downwards below 0 too: the beginning is never above the address.
    return (address_of(v) - mark) // window * window + mark


def length_of(v):
    return (upper_of(v) - lower_of(v)) % WINDOW_GRAINS * grain_of(power_of(v))


def end_of(v):
    return begin_of(v) + length_of(v)


def covers(v, begin, end):
    return begin_of(v) <= begin and end <= end_of(v)


def has_rights(v, rights):
    asked = rights & RIGHTS_BITS
    return (rights_of(v) & asked) == asked


def may_change(v, good):
    return good == 1 and seal_of(v) == 0


def may_seal(y, ygood):
    """Whether y may put on, or take off, the seal that its address is."""
    address = address_of(y)
    return may_change(y, ygood) and has_rights(y, RIGHT_TO_SEAL) and covers(y, address, address + 1)


def with_part(v, bits, place, part):
    return (v & (ALL_BITS ^ (bits << place))) | (part << place)


def with_stretch(v, power, first, behind):
    """v with that power and the marks of the grains from first up to, and not with, behind."""
    powered = with_part(v, POWER_BITS, POWER_PLACE, power)
    lowered = with_part(powered, MARK_BITS, LOWER_PLACE, first % WINDOW_GRAINS)
    return with_part(lowered, MARK_BITS, UPPER_PLACE, behind % WINDOW_GRAINS)


def grains_up_to(end, grain):
    return (end + grain - 1) // grain


def least_power(begin, end):
    """The least power by which that stretch, rounded outwards, is not too many grains; None if there is none."""
    for power in range(WIDEST_POWER + 1):
        grain = grain_of(power)
        # Counted from both rounded ends: the length alone may miss one grain.
        if grains_up_to(end, grain) - begin // grain <= MOST_GRAINS:
            return power
    return None


def look(v):
    begin = begin_of(v) % WRAP
    return [0, begin, length_of(v), address_of(v), seal_of(v), rights_of(v), grain_power(power_of(v))]


def root(rights):
    upper = MARK_BITS << UPPER_PLACE
    power = WIDEST_POWER << POWER_PLACE
    kept = (rights & RIGHTS_BITS) << RIGHTS_PLACE
    return [1, upper | power | kept]


def move(v, good, to):
    moved = with_part(v, ADDRESS_BITS, ADDRESS_PLACE, to)
    # The marks count within the address's window, so another address may tell another stretch.
    stays = may_change(v, good) and begin_of(moved) == begin_of(v)
    return [1 if stays else 0, moved]


def bound(v, good, n, just):
    begin = address_of(v)
    end = begin + n
    power = least_power(begin, end)
    if n == 0 or power is None:
        return [0, v]
    grain = grain_of(power)
    first = begin // grain
    behind = grains_up_to(end, grain)
    exact = first * grain == begin and behind * grain == end
    stays = may_change(v, good) and covers(v, begin, end) and (just == 0 or exact)
    return [1 if stays else 0, with_stretch(v, power, first, behind)]


def less(v, good, rights):
    lessened = with_part(v, RIGHTS_BITS, RIGHTS_PLACE, rights_of(v) & rights)
    return [1 if may_change(v, good) else 0, lessened]


def seal(v, good, y, ygood):
    mark = address_of(y)
    if may_change(v, good) and may_seal(y, ygood) and 1 <= mark <= LAST_SEAL:
        return [1, with_part(v, SEAL_BITS, SEAL_PLACE, mark)]
    return [0, v]


def open_seal(v, good, y, ygood):
    sealed = seal_of(v) != 0
    if good == 1 and sealed and may_seal(y, ygood) and address_of(y) == seal_of(v):
        return [1, with_part(v, SEAL_BITS, SEAL_PLACE, 0)]
    return [0, v]


def is_in(v, w):
    lies_in = covers(w, begin_of(v), end_of(v))
    rights_in = has_rights(w, rights_of(v))
    return [1 if lies_in and rights_in and seal_of(v) == seal_of(w) else 0]


def may(v, good, at, n, rights):
    if good == 0:
        return [-1]
    if seal_of(v) != 0:
        return [-2]
    if not has_rights(v, rights):
        return [-3]
    # Where n is 0, this lets at be where the stretch ends, too.
    if not covers(v, at, at + n):
        return [-4]
    return [0]


def room(n):
    power = least_power(0, n)
    if n == 0 or power is None:
        return [-22]
    grain = grain_of(power)
    return [0, grains_up_to(n, grain) * grain, grain]
